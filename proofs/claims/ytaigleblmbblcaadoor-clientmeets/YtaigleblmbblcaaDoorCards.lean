/-
  DERIVED. GIVEN WITH THE SEED: THE CARDS: each row of YtaigleblmbblcaaDoorRows.lean that lists a variable, with what it lists TIED to the program's text (the seventh form; the later family's looks); each row that meets fmt, with fmt's text TOLD by the authors' own Lean function (tested against real Go, not proved from fmt's source: count such statements apart). THE CARD IS WHAT COUNTS. Prove the row's statement (the work); the ties are given (YtaigleblmbblcaaDoorTie.lean); close each card by the builder's one call (the guide's Derived/Test/ToyasCard.lean, 'card_holds'). Laid BY PROGRAM, IN A SANDBOX (cutbox-door.mjs). By AI agents, Wed Nov 11 2026. No macro, syntax, notation, axiom, sorry.
-/
import Derived.Test.YtaigleblmbblcaaDoorRows
import GoSem.ClaimSeven
namespace Go.Proofs.YtaigleblmbblcaaDoor
namespace Rows

/-- THE TIED CARD OF 'manyhandslaw.ClientKeeps'. -/
def clientKeepsCard : Claim7 := { stood := { row := clientKeepsRow, standIns := [], harness := (true, "bbe81a4b48200394360f7196f1f677fe507557870c83a5ca25586cbe23ff5606"), looks := false }, kinds := [], alts := [], laidByText := true, laidKinds := [.data], laidTests := true, laidLooks := .later }
def ClientKeepsCardSaid : Prop := Claim7.holds Tryd.pinned (.plain (OpenSpec.ofChange clientKeepsSpec)) clientKeepsCard

/-- THE TIED CARD OF 'manyhandslaw.ClientMeets'. -/
def clientMeetsCard : Claim7 := { stood := { row := clientMeetsRow, standIns := [], harness := (true, "bbe81a4b48200394360f7196f1f677fe507557870c83a5ca25586cbe23ff5606"), looks := false }, kinds := [], alts := [], laidByText := true, laidKinds := [.data], laidTests := true, laidLooks := .later }
def ClientMeetsCardSaid : Prop := Claim7.holds Tryd.pinned (.plain (OpenSpec.ofChange clientMeetsSpec)) clientMeetsCard

/-- THE TIED CARD OF 'manyhandslaw.ClientGoes'. -/
def clientGoesCard : Claim7 := { stood := { row := clientGoesRow, standIns := [], harness := (true, "bbe81a4b48200394360f7196f1f677fe507557870c83a5ca25586cbe23ff5606"), looks := false }, kinds := [], alts := [], laidByText := true, laidKinds := [.data], laidTests := true, laidLooks := .later }
def ClientGoesCardSaid : Prop := Claim7.holds Tryd.pinned (.plain (OpenSpec.ofChange clientGoesSpec)) clientGoesCard

/-- THE SECOND FORM's CARD OF 'manyhandslaw.ClientKeeps'. -/
def clientKeepsUptoCard : Claim7 := { stood := { row := clientKeepsUptoRow, standIns := [], harness := (true, "bbe81a4b48200394360f7196f1f677fe507557870c83a5ca25586cbe23ff5606"), looks := false }, kinds := [], alts := [], laidByText := true, laidKinds := [.data], laidTests := true, laidLooks := .later }
def ClientKeepsUptoCardSaid : Prop := Claim7.holds Tryd.pinned (.plain (OpenSpec.upto clientKeepsSpec)) clientKeepsUptoCard

/-- THE SECOND FORM's CARD OF 'manyhandslaw.ClientMeets'. -/
def clientMeetsUptoCard : Claim7 := { stood := { row := clientMeetsUptoRow, standIns := [], harness := (true, "bbe81a4b48200394360f7196f1f677fe507557870c83a5ca25586cbe23ff5606"), looks := false }, kinds := [], alts := [], laidByText := true, laidKinds := [.data], laidTests := true, laidLooks := .later }
def ClientMeetsUptoCardSaid : Prop := Claim7.holds Tryd.pinned (.plain (OpenSpec.upto clientMeetsSpec)) clientMeetsUptoCard

/-- THE SECOND FORM's CARD OF 'manyhandslaw.ClientGoes'. -/
def clientGoesUptoCard : Claim7 := { stood := { row := clientGoesUptoRow, standIns := [], harness := (true, "bbe81a4b48200394360f7196f1f677fe507557870c83a5ca25586cbe23ff5606"), looks := false }, kinds := [], alts := [], laidByText := true, laidKinds := [.data], laidTests := true, laidLooks := .later }
def ClientGoesUptoCardSaid : Prop := Claim7.holds Tryd.pinned (.plain (OpenSpec.upto clientGoesSpec)) clientGoesUptoCard
end Rows
end Go.Proofs.YtaigleblmbblcaaDoor
