/-
  DERIVED. GIVEN WITH THE SEED: THE CARDS: each row of YtdlacdoakkklaabDoorRows.lean that lists a variable, with what it lists TIED to the program's text (the seventh form; the later family's looks); each row that meets fmt, with fmt's text TOLD by the authors' own Lean function (tested against real Go, not proved from fmt's source: count such statements apart). THE CARD IS WHAT COUNTS. Prove the row's statement (the work); the ties are given (YtdlacdoakkklaabDoorTie.lean); close each card by the builder's one call (the guide's Derived/Test/ToyasCard.lean, 'card_holds'). Laid BY PROGRAM, IN A SANDBOX (cutbox-door.mjs). By AI agents, Wed Nov 11 2026. No macro, syntax, notation, axiom, sorry.
-/
import Derived.Test.YtdlacdoakkklaabDoorRows
import GoSem.ClaimSeven
namespace Go.Proofs.YtdlacdoakkklaabDoor
namespace Rows

/-- THE TIED CARD OF 'manyhandslaw.TokenSafe'. -/
def tokenSafeCard : Claim7 := { stood := { row := tokenSafeRow, standIns := [], harness := (true, "d1082068973a1716174f5b3f4e206b378946e059352f5d98fc0c548ea29fc802"), looks := false }, kinds := [], alts := [], laidByText := true, laidKinds := [.data, .data, .data, .data, .data, .pinned], laidTests := true, laidLooks := .later }
def TokenSafeCardSaid : Prop := Claim7.holds Tryd.pinned (.plain (OpenSpec.ofChange tokenSafeSpec)) tokenSafeCard

/-- THE TIED CARD OF 'manyhandslaw.TokenParts'. -/
def tokenPartsCard : Claim7 := { stood := { row := tokenPartsRow, standIns := [], harness := (true, "d1082068973a1716174f5b3f4e206b378946e059352f5d98fc0c548ea29fc802"), looks := false }, kinds := [], alts := [], laidByText := true, laidKinds := [.data], laidTests := true, laidLooks := .later }
def TokenPartsCardSaid : Prop := Claim7.holds Tryd.pinned (.plain (OpenSpec.ofChange tokenPartsSpec)) tokenPartsCard

/-- THE SECOND FORM's CARD OF 'manyhandslaw.TokenSafe'. -/
def tokenSafeUptoCard : Claim7 := { stood := { row := tokenSafeUptoRow, standIns := [], harness := (true, "d1082068973a1716174f5b3f4e206b378946e059352f5d98fc0c548ea29fc802"), looks := false }, kinds := [], alts := [], laidByText := true, laidKinds := [.data, .data, .data, .data, .data, .pinned], laidTests := true, laidLooks := .later }
def TokenSafeUptoCardSaid : Prop := Claim7.holds Tryd.pinned (.plain (OpenSpec.upto tokenSafeSpec)) tokenSafeUptoCard

/-- THE SECOND FORM's CARD OF 'manyhandslaw.TokenParts'. -/
def tokenPartsUptoCard : Claim7 := { stood := { row := tokenPartsUptoRow, standIns := [], harness := (true, "d1082068973a1716174f5b3f4e206b378946e059352f5d98fc0c548ea29fc802"), looks := false }, kinds := [], alts := [], laidByText := true, laidKinds := [.data], laidTests := true, laidLooks := .later }
def TokenPartsUptoCardSaid : Prop := Claim7.holds Tryd.pinned (.plain (OpenSpec.upto tokenPartsSpec)) tokenPartsUptoCard
end Rows
end Go.Proofs.YtdlacdoakkklaabDoor
