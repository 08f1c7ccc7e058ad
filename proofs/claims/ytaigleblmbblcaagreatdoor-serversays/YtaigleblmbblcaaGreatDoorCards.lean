/-
  DERIVED. GIVEN WITH THE SEED: THE CARDS: each row of YtaigleblmbblcaaGreatDoorRows.lean that lists a variable, with what it lists TIED to the program's text (the seventh form; the later family's looks); each row that meets fmt, with fmt's text TOLD by the authors' own Lean function (tested against real Go, not proved from fmt's source: count such statements apart). THE CARD IS WHAT COUNTS. Prove the row's statement (the work); the ties are given (YtaigleblmbblcaaGreatDoorTie.lean); close each card by the builder's one call (the guide's Derived/Test/ToyasCard.lean, 'card_holds'). Laid BY PROGRAM, IN A SANDBOX (cutbox-door.mjs). By AI agents, Wed Nov 11 2026. No macro, syntax, notation, axiom, sorry.
-/
import Derived.Test.YtaigleblmbblcaaGreatDoorRows
import GoSem.ClaimSeven
namespace Go.Proofs.YtaigleblmbblcaaGreatDoor
namespace Rows

/-- THE TIED CARD OF 'manyhandslaw.ServerSays'. -/
def serverSaysCard : Claim7 := { stood := { row := serverSaysRow, standIns := [], harness := (true, "21850acad8d0501f22d131bc65e25c793a06c5bb46ec047fe723228f3acc49f7"), looks := false }, kinds := [], alts := [], laidByText := true, laidKinds := [.data], laidTests := true, laidLooks := .later }
def ServerSaysCardSaid : Prop := Claim7.holds Tryz.pinned (.plain (OpenSpec.ofChange serverSaysSpec)) serverSaysCard

/-- THE TIED CARD OF 'manyhandslaw.ClientSays'. -/
def clientSaysCard : Claim7 := { stood := { row := clientSaysRow, standIns := [], harness := (true, "21850acad8d0501f22d131bc65e25c793a06c5bb46ec047fe723228f3acc49f7"), looks := false }, kinds := [], alts := [], laidByText := true, laidKinds := [.data], laidTests := true, laidLooks := .later }
def ClientSaysCardSaid : Prop := Claim7.holds Tryz.pinned (.plain (OpenSpec.ofChange clientSaysSpec)) clientSaysCard

/-- THE SECOND FORM's CARD OF 'manyhandslaw.ServerSays'. -/
def serverSaysUptoCard : Claim7 := { stood := { row := serverSaysUptoRow, standIns := [], harness := (true, "21850acad8d0501f22d131bc65e25c793a06c5bb46ec047fe723228f3acc49f7"), looks := false }, kinds := [], alts := [], laidByText := true, laidKinds := [.data], laidTests := true, laidLooks := .later }
def ServerSaysUptoCardSaid : Prop := Claim7.holds Tryz.pinned (.plain (OpenSpec.upto serverSaysSpec)) serverSaysUptoCard

/-- THE SECOND FORM's CARD OF 'manyhandslaw.ClientSays'. -/
def clientSaysUptoCard : Claim7 := { stood := { row := clientSaysUptoRow, standIns := [], harness := (true, "21850acad8d0501f22d131bc65e25c793a06c5bb46ec047fe723228f3acc49f7"), looks := false }, kinds := [], alts := [], laidByText := true, laidKinds := [.data], laidTests := true, laidLooks := .later }
def ClientSaysUptoCardSaid : Prop := Claim7.holds Tryz.pinned (.plain (OpenSpec.upto clientSaysSpec)) clientSaysUptoCard
end Rows
end Go.Proofs.YtaigleblmbblcaaGreatDoor
