/-
  DERIVED. GIVEN WITH THE SEED: THE CARDS: each row of YtpcaiechaakhnabGreatDoorRows.lean that lists a variable, with what it lists TIED to the program's text (the seventh form; the later family's looks); each row that meets fmt, with fmt's text TOLD by the authors' own Lean function (tested against real Go, not proved from fmt's source: count such statements apart). THE CARD IS WHAT COUNTS. Prove the row's statement (the work); the ties are given (YtpcaiechaakhnabGreatDoorTie.lean); close each card by the builder's one call (the guide's Derived/Test/ToyasCard.lean, 'card_holds'). Laid BY PROGRAM, IN A SANDBOX (cutbox-door.mjs). By AI agents, Wed Nov 11 2026. No macro, syntax, notation, axiom, sorry.
-/
import Derived.Test.YtpcaiechaakhnabGreatDoorRows
import GoSem.ClaimSeven
namespace Go.Proofs.YtpcaiechaakhnabGreatDoor
namespace Rows

/-- THE TIED CARD OF 'manyhandslaw.TokenSays'. -/
def tokenSaysCard : Claim7 := { stood := { row := tokenSaysRow, standIns := [], harness := (true, "a0aa9e31b2a4d5f320e01a36e410776cb97a7deca3065e1ce471e6158d1092bf"), looks := true }, kinds := [], alts := [], laidByText := true, laidKinds := [.data], laidTests := true, laidLooks := .later }
def TokenSaysCardSaid : Prop := Claim7.holds Tryz.pinned (.plain (OpenSpec.ofChange tokenSaysSpec)) tokenSaysCard

/-- THE TIED CARD OF 'manyhandslaw.SanitizeSays'. -/
def sanitizeSaysCard : Claim7 := { stood := { row := sanitizeSaysRow, standIns := [], harness := (true, "a0aa9e31b2a4d5f320e01a36e410776cb97a7deca3065e1ce471e6158d1092bf"), looks := true }, kinds := [], alts := [], laidByText := true, laidKinds := [.data, .listed, .data, .data, .data, .data, .data, .data, .data, .pinned], laidTests := true, laidLooks := .later }
def SanitizeSaysCardSaid : Prop := Claim7.holds Tryz.pinned (.plain (OpenSpec.ofChange sanitizeSaysSpec)) sanitizeSaysCard

/-- THE TIED CARD OF 'manyhandslaw.SanitizeBack'. -/
def sanitizeBackCard : Claim7 := { stood := { row := sanitizeBackRow, standIns := [], harness := (true, "a0aa9e31b2a4d5f320e01a36e410776cb97a7deca3065e1ce471e6158d1092bf"), looks := true }, kinds := [], alts := [], laidByText := true, laidKinds := [.data, .data, .data, .data, .data, .data, .data, .pinned], laidTests := true, laidLooks := .later }
def SanitizeBackCardSaid : Prop := Claim7.holds Tryz.pinned (.plain (OpenSpec.ofChange sanitizeBackSpec)) sanitizeBackCard

/-- THE TIED CARD OF 'manyhandslaw.SanitizeHides'. -/
def sanitizeHidesCard : Claim7 := { stood := { row := sanitizeHidesRow, standIns := [], harness := (true, "a0aa9e31b2a4d5f320e01a36e410776cb97a7deca3065e1ce471e6158d1092bf"), looks := true }, kinds := [], alts := [], laidByText := true, laidKinds := [.data, .data, .data, .data, .data, .data, .data, .pinned], laidTests := true, laidLooks := .later }
def SanitizeHidesCardSaid : Prop := Claim7.holds Tryz.pinned (.plain (OpenSpec.ofChange sanitizeHidesSpec)) sanitizeHidesCard

/-- THE TIED CARD OF 'manyhandslaw.SanitizeText'. -/
def sanitizeTextCard : Claim7 := { stood := { row := sanitizeTextRow, standIns := [], harness := (true, "a0aa9e31b2a4d5f320e01a36e410776cb97a7deca3065e1ce471e6158d1092bf"), looks := true }, kinds := [], alts := [], laidByText := true, laidKinds := [.data, .data, .data, .data, .data, .data, .data, .pinned], laidTests := true, laidLooks := .later }
def SanitizeTextCardSaid : Prop := Claim7.holds Tryz.pinned (.plain (OpenSpec.ofChange sanitizeTextSpec)) sanitizeTextCard

/-- THE SECOND FORM's CARD OF 'manyhandslaw.TokenSays'. -/
def tokenSaysUptoCard : Claim7 := { stood := { row := tokenSaysUptoRow, standIns := [], harness := (true, "a0aa9e31b2a4d5f320e01a36e410776cb97a7deca3065e1ce471e6158d1092bf"), looks := true }, kinds := [], alts := [], laidByText := true, laidKinds := [.data], laidTests := true, laidLooks := .later }
def TokenSaysUptoCardSaid : Prop := Claim7.holds Tryz.pinned (.plain (OpenSpec.upto tokenSaysSpec)) tokenSaysUptoCard

/-- THE SECOND FORM's CARD OF 'manyhandslaw.SanitizeSays'. -/
def sanitizeSaysUptoCard : Claim7 := { stood := { row := sanitizeSaysUptoRow, standIns := [], harness := (true, "a0aa9e31b2a4d5f320e01a36e410776cb97a7deca3065e1ce471e6158d1092bf"), looks := true }, kinds := [], alts := [], laidByText := true, laidKinds := [.data, .listed, .data, .data, .data, .data, .data, .data, .data, .pinned], laidTests := true, laidLooks := .later }
def SanitizeSaysUptoCardSaid : Prop := Claim7.holds Tryz.pinned (.plain (OpenSpec.upto sanitizeSaysSpec)) sanitizeSaysUptoCard

/-- THE SECOND FORM's CARD OF 'manyhandslaw.SanitizeBack'. -/
def sanitizeBackUptoCard : Claim7 := { stood := { row := sanitizeBackUptoRow, standIns := [], harness := (true, "a0aa9e31b2a4d5f320e01a36e410776cb97a7deca3065e1ce471e6158d1092bf"), looks := true }, kinds := [], alts := [], laidByText := true, laidKinds := [.data, .data, .data, .data, .data, .data, .data, .pinned], laidTests := true, laidLooks := .later }
def SanitizeBackUptoCardSaid : Prop := Claim7.holds Tryz.pinned (.plain (OpenSpec.upto sanitizeBackSpec)) sanitizeBackUptoCard

/-- THE SECOND FORM's CARD OF 'manyhandslaw.SanitizeHides'. -/
def sanitizeHidesUptoCard : Claim7 := { stood := { row := sanitizeHidesUptoRow, standIns := [], harness := (true, "a0aa9e31b2a4d5f320e01a36e410776cb97a7deca3065e1ce471e6158d1092bf"), looks := true }, kinds := [], alts := [], laidByText := true, laidKinds := [.data, .data, .data, .data, .data, .data, .data, .pinned], laidTests := true, laidLooks := .later }
def SanitizeHidesUptoCardSaid : Prop := Claim7.holds Tryz.pinned (.plain (OpenSpec.upto sanitizeHidesSpec)) sanitizeHidesUptoCard

/-- THE SECOND FORM's CARD OF 'manyhandslaw.SanitizeText'. -/
def sanitizeTextUptoCard : Claim7 := { stood := { row := sanitizeTextUptoRow, standIns := [], harness := (true, "a0aa9e31b2a4d5f320e01a36e410776cb97a7deca3065e1ce471e6158d1092bf"), looks := true }, kinds := [], alts := [], laidByText := true, laidKinds := [.data, .data, .data, .data, .data, .data, .data, .pinned], laidTests := true, laidLooks := .later }
def SanitizeTextUptoCardSaid : Prop := Claim7.holds Tryz.pinned (.plain (OpenSpec.upto sanitizeTextSpec)) sanitizeTextUptoCard
end Rows
end Go.Proofs.YtpcaiechaakhnabGreatDoor
