/-
  NARROWER THAN 'FOR EVERY INPUT', by the rows' own cells (each row's printed sentence says how): OtSays: laid · ServerFolds: laid · ServerOrder: laid · ClientKeeps: laid · ClientMeets: laid · ClientGoes: laid.
  DERIVED. THE GIVEN ROWS OF THIS SEAT. 6 by the template 'for every input the law returns true; each argument reads behind the call as it read before'; 0 by the template 'total and deterministic' (their statements: YtbhcklkbckacpaaDoorTotals.lean).
  GIVEN WITH THE SEED: the statements are not yours to turn. If you find one false, say at which input.
  Laid BY PROGRAM, IN A SANDBOX (cutbox-rows.mjs): the forced cells as the released guide's own fill.sh prints them over the translation ddcdd63d7a96d7a5… (all of the seat's roots in one cut). By AI agents, Wed Nov 11 2026. No macro, syntax, notation, axiom, sorry.
-/
import Derived.Test.YtbhcklkbckacpaaDoorChecked
import GoSem.Claim
import GoSem.ClaimJoined
import GoSem.ClaimMapViews
import Derived.JoinedTies
import Derived.KernelRfl
namespace Go.Proofs.YtbhcklkbckacpaaDoor
/- THE CELL 'sum', in the pinned program and in every row, IS THE sha256 OF THE DUMP (.gsa) THAT YtbhcklkbckacpaaDoorProg.lean LOADS. Nothing in Lean hashes anything: it is a label: what it is worth is what the hold of that sum in a sandbox is worth. -/
noncomputable def Tryd.pinned : Pinned := { name := "ytbhcklkbckacpaadoor", sum := "ddcdd63d7a96d7a5652e0c9a51f7289a85a93bda83130f992f3e919fc4ba80ce", checked := Tryd.checked }
namespace Rows
def none {H : Type} : Left H := { results := [], args := [] }

/- WHAT THE LISTED PACKAGE-LEVEL VARIABLES READ AS WHEN THE CALL BEGINS. Each datum BY PROGRAM (the guide's laid-datum.mjs) off the statement by which the dump's own 'gosem.cut.vars' lays the variable. In a bare row this is a premise. The card (YtbhcklkbckacpaaDoorCards.lean) ties it to the program's text. -/
def laid_manyhands_link_schemes {H : Type} : DataW H := .agg [.lit (.string [104, 116, 116, 112]), .lit (.string [104, 116, 116, 112, 115]), .lit (.string [109, 97, 105, 108, 116, 111])]

/-- 'manyhandslaw.OtSays': WHATEVER THE INPUT: true; the input reads as it did. -/
def otSaysSpec : ChangeSpec := { name := "otSays", fn := fun _ => fun
  | [d1, d2] => { results := [.lit (.bool true)], args := [d1, d2] }
  | _ => none }
def otSaysRow : OpenClaim := { program := "ytbhcklkbckacpaadoor", sum := "ddcdd63d7a96d7a5652e0c9a51f7289a85a93bda83130f992f3e919fc4ba80ce", func := "manyhands/manyhandslaw.OtSays", spec := "otSays", inPlace := ["internal/bytealg.IndexByteString", "internal/bytealg.IndexString"], unfollowed := true, recurses := true, named := ["internal/bytealg.MaxLen", "manyhands/link.schemes"], apart := false, laid := [("manyhands/link.schemes", laid_manyhands_link_schemes)] }
def OtSaysSaid : Prop := otSaysRow.holds Tryd.pinned (OpenSpec.ofChange otSaysSpec)

/-- ITS FALSE NEIGHBOUR: 'it returns false'. Refute it at one input. -/
def otSaysWrong : ChangeSpec := { name := "otSays", fn := fun _ => fun
  | [d1, d2] => { results := [.lit (.bool false)], args := [d1, d2] }
  | _ => none }
def OtSaysWrongFalsely : Prop := otSaysRow.holds Tryd.pinned (OpenSpec.ofChange otSaysWrong)

/-- 'manyhandslaw.ServerFolds': WHATEVER THE INPUT: true; the input reads as it did. -/
def serverFoldsSpec : ChangeSpec := { name := "serverFolds", fn := fun _ => fun
  | [d1, d2, d3] => { results := [.lit (.bool true)], args := [d1, d2, d3] }
  | _ => none }
def serverFoldsRow : OpenClaim := { program := "ytbhcklkbckacpaadoor", sum := "ddcdd63d7a96d7a5652e0c9a51f7289a85a93bda83130f992f3e919fc4ba80ce", func := "manyhands/manyhandslaw.ServerFolds", spec := "serverFolds", inPlace := ["internal/bytealg.IndexByteString", "internal/bytealg.IndexString"], unfollowed := true, recurses := true, named := ["internal/bytealg.MaxLen", "manyhands/link.schemes"], apart := false, laid := [("manyhands/link.schemes", laid_manyhands_link_schemes)] }
def ServerFoldsSaid : Prop := serverFoldsRow.holds Tryd.pinned (OpenSpec.ofChange serverFoldsSpec)

/-- ITS FALSE NEIGHBOUR: 'it returns false'. Refute it at one input. -/
def serverFoldsWrong : ChangeSpec := { name := "serverFolds", fn := fun _ => fun
  | [d1, d2, d3] => { results := [.lit (.bool false)], args := [d1, d2, d3] }
  | _ => none }
def ServerFoldsWrongFalsely : Prop := serverFoldsRow.holds Tryd.pinned (OpenSpec.ofChange serverFoldsWrong)

/-- 'manyhandslaw.ServerOrder': WHATEVER THE INPUT: true; the input reads as it did. -/
def serverOrderSpec : ChangeSpec := { name := "serverOrder", fn := fun _ => fun
  | [d1, d2, d3] => { results := [.lit (.bool true)], args := [d1, d2, d3] }
  | _ => none }
def serverOrderRow : OpenClaim := { program := "ytbhcklkbckacpaadoor", sum := "ddcdd63d7a96d7a5652e0c9a51f7289a85a93bda83130f992f3e919fc4ba80ce", func := "manyhands/manyhandslaw.ServerOrder", spec := "serverOrder", inPlace := ["internal/bytealg.IndexByteString", "internal/bytealg.IndexString"], unfollowed := true, recurses := true, named := ["internal/bytealg.MaxLen", "manyhands/link.schemes"], apart := false, laid := [("manyhands/link.schemes", laid_manyhands_link_schemes)] }
def ServerOrderSaid : Prop := serverOrderRow.holds Tryd.pinned (OpenSpec.ofChange serverOrderSpec)

/-- ITS FALSE NEIGHBOUR: 'it returns false'. Refute it at one input. -/
def serverOrderWrong : ChangeSpec := { name := "serverOrder", fn := fun _ => fun
  | [d1, d2, d3] => { results := [.lit (.bool false)], args := [d1, d2, d3] }
  | _ => none }
def ServerOrderWrongFalsely : Prop := serverOrderRow.holds Tryd.pinned (OpenSpec.ofChange serverOrderWrong)

/-- 'manyhandslaw.ClientKeeps': WHATEVER THE INPUT: true; the input reads as it did. -/
def clientKeepsSpec : ChangeSpec := { name := "clientKeeps", fn := fun _ => fun
  | [d1, d2, d3, d4] => { results := [.lit (.bool true)], args := [d1, d2, d3, d4] }
  | _ => none }
def clientKeepsRow : OpenClaim := { program := "ytbhcklkbckacpaadoor", sum := "ddcdd63d7a96d7a5652e0c9a51f7289a85a93bda83130f992f3e919fc4ba80ce", func := "manyhands/manyhandslaw.ClientKeeps", spec := "clientKeeps", inPlace := ["internal/bytealg.IndexByteString", "internal/bytealg.IndexString"], unfollowed := true, recurses := true, named := ["internal/bytealg.MaxLen", "manyhands/link.schemes"], apart := false, laid := [("manyhands/link.schemes", laid_manyhands_link_schemes)] }
def ClientKeepsSaid : Prop := clientKeepsRow.holds Tryd.pinned (OpenSpec.ofChange clientKeepsSpec)

/-- ITS FALSE NEIGHBOUR: 'it returns false'. Refute it at one input. -/
def clientKeepsWrong : ChangeSpec := { name := "clientKeeps", fn := fun _ => fun
  | [d1, d2, d3, d4] => { results := [.lit (.bool false)], args := [d1, d2, d3, d4] }
  | _ => none }
def ClientKeepsWrongFalsely : Prop := clientKeepsRow.holds Tryd.pinned (OpenSpec.ofChange clientKeepsWrong)

/-- 'manyhandslaw.ClientMeets': WHATEVER THE INPUT: true; the input reads as it did. -/
def clientMeetsSpec : ChangeSpec := { name := "clientMeets", fn := fun _ => fun
  | [d1, d2] => { results := [.lit (.bool true)], args := [d1, d2] }
  | _ => none }
def clientMeetsRow : OpenClaim := { program := "ytbhcklkbckacpaadoor", sum := "ddcdd63d7a96d7a5652e0c9a51f7289a85a93bda83130f992f3e919fc4ba80ce", func := "manyhands/manyhandslaw.ClientMeets", spec := "clientMeets", inPlace := ["internal/bytealg.IndexByteString", "internal/bytealg.IndexString"], unfollowed := true, recurses := true, named := ["internal/bytealg.MaxLen", "manyhands/link.schemes"], apart := false, laid := [("manyhands/link.schemes", laid_manyhands_link_schemes)] }
def ClientMeetsSaid : Prop := clientMeetsRow.holds Tryd.pinned (OpenSpec.ofChange clientMeetsSpec)

/-- ITS FALSE NEIGHBOUR: 'it returns false'. Refute it at one input. -/
def clientMeetsWrong : ChangeSpec := { name := "clientMeets", fn := fun _ => fun
  | [d1, d2] => { results := [.lit (.bool false)], args := [d1, d2] }
  | _ => none }
def ClientMeetsWrongFalsely : Prop := clientMeetsRow.holds Tryd.pinned (OpenSpec.ofChange clientMeetsWrong)

/-- 'manyhandslaw.ClientGoes': WHATEVER THE INPUT: true; the input reads as it did. -/
def clientGoesSpec : ChangeSpec := { name := "clientGoes", fn := fun _ => fun
  | [d1, d2, d3] => { results := [.lit (.bool true)], args := [d1, d2, d3] }
  | _ => none }
def clientGoesRow : OpenClaim := { program := "ytbhcklkbckacpaadoor", sum := "ddcdd63d7a96d7a5652e0c9a51f7289a85a93bda83130f992f3e919fc4ba80ce", func := "manyhands/manyhandslaw.ClientGoes", spec := "clientGoes", inPlace := ["internal/bytealg.IndexByteString", "internal/bytealg.IndexString"], unfollowed := true, recurses := true, named := ["internal/bytealg.MaxLen", "manyhands/link.schemes"], apart := false, laid := [("manyhands/link.schemes", laid_manyhands_link_schemes)] }
def ClientGoesSaid : Prop := clientGoesRow.holds Tryd.pinned (OpenSpec.ofChange clientGoesSpec)

/-- ITS FALSE NEIGHBOUR: 'it returns false'. Refute it at one input. -/
def clientGoesWrong : ChangeSpec := { name := "clientGoes", fn := fun _ => fun
  | [d1, d2, d3] => { results := [.lit (.bool false)], args := [d1, d2, d3] }
  | _ => none }
def ClientGoesWrongFalsely : Prop := clientGoesRow.holds Tryd.pinned (OpenSpec.ofChange clientGoesWrong)

/- THE SECOND FORM. 'bulk': how many values and letters a reading holds, each counted each time it is reached (what is shared counts as often as it is met; a slice's spare places count too). A statement '..UptoSaid' is the law's where the arguments, and the package variables that the reading takes, are together of bulk at most 1048576: NARROWER than '..Said'. Prove '..Said' where nothing that the law and all that it calls make is longer than what came in: it says more and counts as full. Else prove '..UptoSaid'. A law counts once. -/
mutual
def uptoBulk {H : Type} : DataW H → Nat
  | .lit (.string bytes) => bytes.length + 1
  | .lit _ => 1
  | .nil => 1
  | .ptr d => uptoBulk d + 1
  | .slice elems spare => uptoBulkAll elems + uptoBulkAll spare + 1
  | .agg parts => uptoBulkAll parts + 1
  | .iface _ d => uptoBulk d + 1
  | .map entries => uptoBulkEntries entries + 1
  | .held _ => 1
def uptoBulkAll {H : Type} : List (DataW H) → Nat
  | [] => 0
  | d :: r => uptoBulk d + uptoBulkAll r
def uptoBulkEntries {H : Type} : List (Lit × DataW H) → Nat
  | [] => 0
  | x :: r => uptoBulkEntry x + uptoBulkEntries r
def uptoBulkEntry {H : Type} : Lit × DataW H → Nat
  | (.string bytes, d) => bytes.length + uptoBulk d + 1
  | (_, d) => uptoBulk d + 1
 end
def uptoSmall : (H : Type) → List (DataW H) → Bool := fun _ ds => decide (uptoBulkAll ds ≤ 1048576)
def OpenSpec.upto (s : _root_.Go.ChangeSpec) : _root_.Go.OpenSpec := { _root_.Go.OpenSpec.ofChange s with cond := some uptoSmall }

/-- 'manyhandslaw.OtSays', WHERE WHAT IT READS IS OF BULK AT MOST 1048576: true; the input reads as it did. -/
def otSaysUptoRow : OpenClaim := { program := "ytbhcklkbckacpaadoor", sum := "ddcdd63d7a96d7a5652e0c9a51f7289a85a93bda83130f992f3e919fc4ba80ce", func := "manyhands/manyhandslaw.OtSays", spec := "otSays", inPlace := ["internal/bytealg.IndexByteString", "internal/bytealg.IndexString"], unfollowed := true, recurses := true, named := ["internal/bytealg.MaxLen", "manyhands/link.schemes"], apart := false, laid := [("manyhands/link.schemes", laid_manyhands_link_schemes)], narrowed := true }
def OtSaysUptoSaid : Prop := otSaysUptoRow.holds Tryd.pinned (OpenSpec.upto otSaysSpec)

/-- 'manyhandslaw.ServerFolds', WHERE WHAT IT READS IS OF BULK AT MOST 1048576: true; the input reads as it did. -/
def serverFoldsUptoRow : OpenClaim := { program := "ytbhcklkbckacpaadoor", sum := "ddcdd63d7a96d7a5652e0c9a51f7289a85a93bda83130f992f3e919fc4ba80ce", func := "manyhands/manyhandslaw.ServerFolds", spec := "serverFolds", inPlace := ["internal/bytealg.IndexByteString", "internal/bytealg.IndexString"], unfollowed := true, recurses := true, named := ["internal/bytealg.MaxLen", "manyhands/link.schemes"], apart := false, laid := [("manyhands/link.schemes", laid_manyhands_link_schemes)], narrowed := true }
def ServerFoldsUptoSaid : Prop := serverFoldsUptoRow.holds Tryd.pinned (OpenSpec.upto serverFoldsSpec)

/-- 'manyhandslaw.ServerOrder', WHERE WHAT IT READS IS OF BULK AT MOST 1048576: true; the input reads as it did. -/
def serverOrderUptoRow : OpenClaim := { program := "ytbhcklkbckacpaadoor", sum := "ddcdd63d7a96d7a5652e0c9a51f7289a85a93bda83130f992f3e919fc4ba80ce", func := "manyhands/manyhandslaw.ServerOrder", spec := "serverOrder", inPlace := ["internal/bytealg.IndexByteString", "internal/bytealg.IndexString"], unfollowed := true, recurses := true, named := ["internal/bytealg.MaxLen", "manyhands/link.schemes"], apart := false, laid := [("manyhands/link.schemes", laid_manyhands_link_schemes)], narrowed := true }
def ServerOrderUptoSaid : Prop := serverOrderUptoRow.holds Tryd.pinned (OpenSpec.upto serverOrderSpec)

/-- 'manyhandslaw.ClientKeeps', WHERE WHAT IT READS IS OF BULK AT MOST 1048576: true; the input reads as it did. -/
def clientKeepsUptoRow : OpenClaim := { program := "ytbhcklkbckacpaadoor", sum := "ddcdd63d7a96d7a5652e0c9a51f7289a85a93bda83130f992f3e919fc4ba80ce", func := "manyhands/manyhandslaw.ClientKeeps", spec := "clientKeeps", inPlace := ["internal/bytealg.IndexByteString", "internal/bytealg.IndexString"], unfollowed := true, recurses := true, named := ["internal/bytealg.MaxLen", "manyhands/link.schemes"], apart := false, laid := [("manyhands/link.schemes", laid_manyhands_link_schemes)], narrowed := true }
def ClientKeepsUptoSaid : Prop := clientKeepsUptoRow.holds Tryd.pinned (OpenSpec.upto clientKeepsSpec)

/-- 'manyhandslaw.ClientMeets', WHERE WHAT IT READS IS OF BULK AT MOST 1048576: true; the input reads as it did. -/
def clientMeetsUptoRow : OpenClaim := { program := "ytbhcklkbckacpaadoor", sum := "ddcdd63d7a96d7a5652e0c9a51f7289a85a93bda83130f992f3e919fc4ba80ce", func := "manyhands/manyhandslaw.ClientMeets", spec := "clientMeets", inPlace := ["internal/bytealg.IndexByteString", "internal/bytealg.IndexString"], unfollowed := true, recurses := true, named := ["internal/bytealg.MaxLen", "manyhands/link.schemes"], apart := false, laid := [("manyhands/link.schemes", laid_manyhands_link_schemes)], narrowed := true }
def ClientMeetsUptoSaid : Prop := clientMeetsUptoRow.holds Tryd.pinned (OpenSpec.upto clientMeetsSpec)

/-- 'manyhandslaw.ClientGoes', WHERE WHAT IT READS IS OF BULK AT MOST 1048576: true; the input reads as it did. -/
def clientGoesUptoRow : OpenClaim := { program := "ytbhcklkbckacpaadoor", sum := "ddcdd63d7a96d7a5652e0c9a51f7289a85a93bda83130f992f3e919fc4ba80ce", func := "manyhands/manyhandslaw.ClientGoes", spec := "clientGoes", inPlace := ["internal/bytealg.IndexByteString", "internal/bytealg.IndexString"], unfollowed := true, recurses := true, named := ["internal/bytealg.MaxLen", "manyhands/link.schemes"], apart := false, laid := [("manyhands/link.schemes", laid_manyhands_link_schemes)], narrowed := true }
def ClientGoesUptoSaid : Prop := clientGoesUptoRow.holds Tryd.pinned (OpenSpec.upto clientGoesSpec)

end Rows
end Go.Proofs.YtbhcklkbckacpaaDoor
