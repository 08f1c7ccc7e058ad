/-
  DERIVED. GIVEN WITH THE SEED: THE CARDS: each row of YthddphjghgdalaaGreatDoorRows.lean that lists a variable, with what it lists TIED to the program's text (the seventh form; the later family's looks); each row that meets fmt, with fmt's text TOLD by the authors' own Lean function (tested against real Go, not proved from fmt's source: count such statements apart). THE CARD IS WHAT COUNTS. Prove the row's statement (the work); the ties are given (YthddphjghgdalaaGreatDoorTie.lean); close each card by the builder's one call (the guide's Derived/Test/ToyasCard.lean, 'card_holds'). Laid BY PROGRAM, IN A SANDBOX (cutbox-door.mjs). By AI agents, Wed Nov 11 2026. No macro, syntax, notation, axiom, sorry.
-/
import Derived.Test.YthddphjghgdalaaGreatDoorRows
import GoSem.ClaimSeven
namespace Go.Proofs.YthddphjghgdalaaGreatDoor
namespace Rows

/-- THE TIED CARD OF 'manyhandslaw.WorldApart'. -/
def worldApartCard : Claim7 := { stood := { row := worldApartRow, standIns := [], harness := (true, "c98cc06c3afee6af8be172c0f36aeef9a006c53ee95c49d329b53689307d84ca"), looks := false }, kinds := [], alts := [], laidByText := true, laidKinds := [.data, .data, .data, .data, .data, .pinned], laidTests := true, laidLooks := .later }
def WorldApartCardSaid : Prop := Claim7.holds Tryz.pinned (.plain (OpenSpec.ofChange worldApartSpec)) worldApartCard

/-- THE TIED CARD OF 'manyhandslaw.WorldMeets'. -/
def worldMeetsCard : Claim7 := { stood := { row := worldMeetsRow, standIns := [], harness := (true, "c98cc06c3afee6af8be172c0f36aeef9a006c53ee95c49d329b53689307d84ca"), looks := false }, kinds := [], alts := [], laidByText := true, laidKinds := [.data, .data, .data, .data, .data, .pinned], laidTests := true, laidLooks := .later }
def WorldMeetsCardSaid : Prop := Claim7.holds Tryz.pinned (.plain (OpenSpec.ofChange worldMeetsSpec)) worldMeetsCard

/-- THE TIED CARD OF 'manyhandslaw.WorldHolds'. -/
def worldHoldsCard : Claim7 := { stood := { row := worldHoldsRow, standIns := [], harness := (true, "c98cc06c3afee6af8be172c0f36aeef9a006c53ee95c49d329b53689307d84ca"), looks := false }, kinds := [], alts := [], laidByText := true, laidKinds := [.data, .data, .data, .data, .data, .pinned], laidTests := true, laidLooks := .later }
def WorldHoldsCardSaid : Prop := Claim7.holds Tryz.pinned (.plain (OpenSpec.ofChange worldHoldsSpec)) worldHoldsCard

/-- THE SECOND FORM's CARD OF 'manyhandslaw.WorldApart'. -/
def worldApartUptoCard : Claim7 := { stood := { row := worldApartUptoRow, standIns := [], harness := (true, "c98cc06c3afee6af8be172c0f36aeef9a006c53ee95c49d329b53689307d84ca"), looks := false }, kinds := [], alts := [], laidByText := true, laidKinds := [.data, .data, .data, .data, .data, .pinned], laidTests := true, laidLooks := .later }
def WorldApartUptoCardSaid : Prop := Claim7.holds Tryz.pinned (.plain (OpenSpec.upto worldApartSpec)) worldApartUptoCard

/-- THE SECOND FORM's CARD OF 'manyhandslaw.WorldMeets'. -/
def worldMeetsUptoCard : Claim7 := { stood := { row := worldMeetsUptoRow, standIns := [], harness := (true, "c98cc06c3afee6af8be172c0f36aeef9a006c53ee95c49d329b53689307d84ca"), looks := false }, kinds := [], alts := [], laidByText := true, laidKinds := [.data, .data, .data, .data, .data, .pinned], laidTests := true, laidLooks := .later }
def WorldMeetsUptoCardSaid : Prop := Claim7.holds Tryz.pinned (.plain (OpenSpec.upto worldMeetsSpec)) worldMeetsUptoCard

/-- THE SECOND FORM's CARD OF 'manyhandslaw.WorldHolds'. -/
def worldHoldsUptoCard : Claim7 := { stood := { row := worldHoldsUptoRow, standIns := [], harness := (true, "c98cc06c3afee6af8be172c0f36aeef9a006c53ee95c49d329b53689307d84ca"), looks := false }, kinds := [], alts := [], laidByText := true, laidKinds := [.data, .data, .data, .data, .data, .pinned], laidTests := true, laidLooks := .later }
def WorldHoldsUptoCardSaid : Prop := Claim7.holds Tryz.pinned (.plain (OpenSpec.upto worldHoldsSpec)) worldHoldsUptoCard
end Rows
end Go.Proofs.YthddphjghgdalaaGreatDoor
