/-
  DERIVED. GIVEN WITH THE SEED: THE CARDS: each row of YtckahmaocpfckaaDoorRows.lean that lists a variable, with what it lists TIED to the program's text (the seventh form; the later family's looks); each row that meets fmt, with fmt's text TOLD by the authors' own Lean function (tested against real Go, not proved from fmt's source: count such statements apart). THE CARD IS WHAT COUNTS. Prove the row's statement (the work); the ties are given (YtckahmaocpfckaaDoorTie.lean); close each card by the builder's one call (the guide's Derived/Test/ToyasCard.lean, 'card_holds'). Laid BY PROGRAM, IN A SANDBOX (cutbox-door.mjs). By AI agents, Wed Nov 11 2026. No macro, syntax, notation, axiom, sorry.
-/
import Derived.Test.YtckahmaocpfckaaDoorRows
import GoSem.ClaimSeven
namespace Go.Proofs.YtckahmaocpfckaaDoor
namespace Rows

/-- THE TIED CARD OF 'manyhandslaw.OpSays'. -/
def opSaysCard : Claim7 := { stood := { row := opSaysRow, standIns := [], harness := (true, "54e38ade74400e17effadbe6ba9de9d1b5d9cf412023c974a6b13f952eb3a685"), looks := false }, kinds := [], alts := [], laidByText := true, laidKinds := [.data], laidTests := true, laidLooks := .later }
def OpSaysCardSaid : Prop := Claim7.holds Tryd.pinned (.plain (OpenSpec.ofChange opSaysSpec)) opSaysCard

/-- THE TIED CARD OF 'manyhandslaw.OpKeeps'. -/
def opKeepsCard : Claim7 := { stood := { row := opKeepsRow, standIns := [], harness := (true, "54e38ade74400e17effadbe6ba9de9d1b5d9cf412023c974a6b13f952eb3a685"), looks := false }, kinds := [], alts := [], laidByText := true, laidKinds := [.data], laidTests := true, laidLooks := .later }
def OpKeepsCardSaid : Prop := Claim7.holds Tryd.pinned (.plain (OpenSpec.ofChange opKeepsSpec)) opKeepsCard

/-- THE TIED CARD OF 'manyhandslaw.OpNothing'. -/
def opNothingCard : Claim7 := { stood := { row := opNothingRow, standIns := [], harness := (true, "54e38ade74400e17effadbe6ba9de9d1b5d9cf412023c974a6b13f952eb3a685"), looks := false }, kinds := [], alts := [], laidByText := true, laidKinds := [.data], laidTests := true, laidLooks := .later }
def OpNothingCardSaid : Prop := Claim7.holds Tryd.pinned (.plain (OpenSpec.ofChange opNothingSpec)) opNothingCard

/-- THE SECOND FORM's CARD OF 'manyhandslaw.OpSays'. -/
def opSaysUptoCard : Claim7 := { stood := { row := opSaysUptoRow, standIns := [], harness := (true, "54e38ade74400e17effadbe6ba9de9d1b5d9cf412023c974a6b13f952eb3a685"), looks := false }, kinds := [], alts := [], laidByText := true, laidKinds := [.data], laidTests := true, laidLooks := .later }
def OpSaysUptoCardSaid : Prop := Claim7.holds Tryd.pinned (.plain (OpenSpec.upto opSaysSpec)) opSaysUptoCard

/-- THE SECOND FORM's CARD OF 'manyhandslaw.OpKeeps'. -/
def opKeepsUptoCard : Claim7 := { stood := { row := opKeepsUptoRow, standIns := [], harness := (true, "54e38ade74400e17effadbe6ba9de9d1b5d9cf412023c974a6b13f952eb3a685"), looks := false }, kinds := [], alts := [], laidByText := true, laidKinds := [.data], laidTests := true, laidLooks := .later }
def OpKeepsUptoCardSaid : Prop := Claim7.holds Tryd.pinned (.plain (OpenSpec.upto opKeepsSpec)) opKeepsUptoCard

/-- THE SECOND FORM's CARD OF 'manyhandslaw.OpNothing'. -/
def opNothingUptoCard : Claim7 := { stood := { row := opNothingUptoRow, standIns := [], harness := (true, "54e38ade74400e17effadbe6ba9de9d1b5d9cf412023c974a6b13f952eb3a685"), looks := false }, kinds := [], alts := [], laidByText := true, laidKinds := [.data], laidTests := true, laidLooks := .later }
def OpNothingUptoCardSaid : Prop := Claim7.holds Tryd.pinned (.plain (OpenSpec.upto opNothingSpec)) opNothingUptoCard
end Rows
end Go.Proofs.YtckahmaocpfckaaDoor
