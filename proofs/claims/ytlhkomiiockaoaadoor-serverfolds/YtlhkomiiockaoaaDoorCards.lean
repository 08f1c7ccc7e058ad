/-
  DERIVED. GIVEN WITH THE SEED: THE CARDS: each row of YtlhkomiiockaoaaDoorRows.lean that lists a variable, with what it lists TIED to the program's text (the seventh form; the later family's looks); each row that meets fmt, with fmt's text TOLD by the authors' own Lean function (tested against real Go, not proved from fmt's source: count such statements apart). THE CARD IS WHAT COUNTS. Prove the row's statement (the work); the ties are given (YtlhkomiiockaoaaDoorTie.lean); close each card by the builder's one call (the guide's Derived/Test/ToyasCard.lean, 'card_holds'). Laid BY PROGRAM, IN A SANDBOX (cutbox-door.mjs). By AI agents, Wed Nov 11 2026. No macro, syntax, notation, axiom, sorry.
-/
import Derived.Test.YtlhkomiiockaoaaDoorRows
import GoSem.ClaimSeven
namespace Go.Proofs.YtlhkomiiockaoaaDoor
namespace Rows

/-- THE TIED CARD OF 'manyhandslaw.OtSays'. -/
def otSaysCard : Claim7 := { stood := { row := otSaysRow, standIns := [], harness := (true, "e65bbd3a1c7ea7071dc6c7341333e9829bd2f1b41720d6a27d1fd86c20bb4662"), looks := false }, kinds := [], alts := [], laidByText := true, laidKinds := [.data], laidTests := true, laidLooks := .later }
def OtSaysCardSaid : Prop := Claim7.holds Tryd.pinned (.plain (OpenSpec.ofChange otSaysSpec)) otSaysCard

/-- THE TIED CARD OF 'manyhandslaw.ServerFolds'. -/
def serverFoldsCard : Claim7 := { stood := { row := serverFoldsRow, standIns := [], harness := (true, "e65bbd3a1c7ea7071dc6c7341333e9829bd2f1b41720d6a27d1fd86c20bb4662"), looks := false }, kinds := [], alts := [], laidByText := true, laidKinds := [.data], laidTests := true, laidLooks := .later }
def ServerFoldsCardSaid : Prop := Claim7.holds Tryd.pinned (.plain (OpenSpec.ofChange serverFoldsSpec)) serverFoldsCard

/-- THE TIED CARD OF 'manyhandslaw.ServerOrder'. -/
def serverOrderCard : Claim7 := { stood := { row := serverOrderRow, standIns := [], harness := (true, "e65bbd3a1c7ea7071dc6c7341333e9829bd2f1b41720d6a27d1fd86c20bb4662"), looks := false }, kinds := [], alts := [], laidByText := true, laidKinds := [.data], laidTests := true, laidLooks := .later }
def ServerOrderCardSaid : Prop := Claim7.holds Tryd.pinned (.plain (OpenSpec.ofChange serverOrderSpec)) serverOrderCard

/-- THE SECOND FORM's CARD OF 'manyhandslaw.OtSays'. -/
def otSaysUptoCard : Claim7 := { stood := { row := otSaysUptoRow, standIns := [], harness := (true, "e65bbd3a1c7ea7071dc6c7341333e9829bd2f1b41720d6a27d1fd86c20bb4662"), looks := false }, kinds := [], alts := [], laidByText := true, laidKinds := [.data], laidTests := true, laidLooks := .later }
def OtSaysUptoCardSaid : Prop := Claim7.holds Tryd.pinned (.plain (OpenSpec.upto otSaysSpec)) otSaysUptoCard

/-- THE SECOND FORM's CARD OF 'manyhandslaw.ServerFolds'. -/
def serverFoldsUptoCard : Claim7 := { stood := { row := serverFoldsUptoRow, standIns := [], harness := (true, "e65bbd3a1c7ea7071dc6c7341333e9829bd2f1b41720d6a27d1fd86c20bb4662"), looks := false }, kinds := [], alts := [], laidByText := true, laidKinds := [.data], laidTests := true, laidLooks := .later }
def ServerFoldsUptoCardSaid : Prop := Claim7.holds Tryd.pinned (.plain (OpenSpec.upto serverFoldsSpec)) serverFoldsUptoCard

/-- THE SECOND FORM's CARD OF 'manyhandslaw.ServerOrder'. -/
def serverOrderUptoCard : Claim7 := { stood := { row := serverOrderUptoRow, standIns := [], harness := (true, "e65bbd3a1c7ea7071dc6c7341333e9829bd2f1b41720d6a27d1fd86c20bb4662"), looks := false }, kinds := [], alts := [], laidByText := true, laidKinds := [.data], laidTests := true, laidLooks := .later }
def ServerOrderUptoCardSaid : Prop := Claim7.holds Tryd.pinned (.plain (OpenSpec.upto serverOrderSpec)) serverOrderUptoCard
end Rows
end Go.Proofs.YtlhkomiiockaoaaDoor
