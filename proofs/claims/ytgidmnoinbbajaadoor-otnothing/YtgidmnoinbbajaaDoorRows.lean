/-
  NARROWER THAN 'FOR EVERY INPUT', by the rows' own cells (each row's printed sentence says how): OpSays: laid · OpKeeps: laid · OpNothing: laid · OtSays: laid · OtMeets: laid · OtJoins: laid · OtNothing: laid.
  DERIVED. THE GIVEN ROWS OF THIS SEAT. 7 by the template 'for every input the law returns true; each argument reads behind the call as it read before'; 0 by the template 'total and deterministic' (their statements: YtgidmnoinbbajaaDoorTotals.lean).
  GIVEN WITH THE SEED: the statements are not yours to turn. If you find one false, say at which input.
  Laid BY PROGRAM, IN A SANDBOX (cutbox-rows.mjs): the forced cells as the released guide's own fill.sh prints them over the translation ef4b8e909e2d7f7e… (all of the seat's roots in one cut). By AI agents, Wed Nov 11 2026. No macro, syntax, notation, axiom, sorry.
-/
import Derived.Test.YtgidmnoinbbajaaDoorChecked
import GoSem.Claim
import GoSem.ClaimJoined
import GoSem.ClaimMapViews
import Derived.JoinedTies
import Derived.KernelRfl
namespace Go.Proofs.YtgidmnoinbbajaaDoor
/- THE CELL 'sum', in the pinned program and in every row, IS THE sha256 OF THE DUMP (.gsa) THAT YtgidmnoinbbajaaDoorProg.lean LOADS. Nothing in Lean hashes anything: it is a label: what it is worth is what the hold of that sum in a sandbox is worth. -/
noncomputable def Tryd.pinned : Pinned := { name := "ytgidmnoinbbajaadoor", sum := "ef4b8e909e2d7f7e92a47db64a81de9b00692b6e50ef99ca967a0fd4d8657734", checked := Tryd.checked }
namespace Rows
def none {H : Type} : Left H := { results := [], args := [] }

/- WHAT THE LISTED PACKAGE-LEVEL VARIABLES READ AS WHEN THE CALL BEGINS. Each datum BY PROGRAM (the guide's laid-datum.mjs) off the statement by which the dump's own 'gosem.cut.vars' lays the variable. In a bare row this is a premise. The card (YtgidmnoinbbajaaDoorCards.lean) ties it to the program's text. -/
def laid_manyhands_link_schemes {H : Type} : DataW H := .agg [.lit (.string [104, 116, 116, 112]), .lit (.string [104, 116, 116, 112, 115]), .lit (.string [109, 97, 105, 108, 116, 111])]

/-- 'manyhandslaw.OpSays': WHATEVER THE INPUT: true; the input reads as it did. -/
def opSaysSpec : ChangeSpec := { name := "opSays", fn := fun _ => fun
  | [d1, d2, d3] => { results := [.lit (.bool true)], args := [d1, d2, d3] }
  | _ => none }
def opSaysRow : OpenClaim := { program := "ytgidmnoinbbajaadoor", sum := "ef4b8e909e2d7f7e92a47db64a81de9b00692b6e50ef99ca967a0fd4d8657734", func := "manyhands/manyhandslaw.OpSays", spec := "opSays", inPlace := ["internal/bytealg.IndexByteString", "internal/bytealg.IndexString"], unfollowed := true, recurses := true, named := ["internal/bytealg.MaxLen", "manyhands/link.schemes"], apart := false, laid := [("manyhands/link.schemes", laid_manyhands_link_schemes)] }
def OpSaysSaid : Prop := opSaysRow.holds Tryd.pinned (OpenSpec.ofChange opSaysSpec)

/-- ITS FALSE NEIGHBOUR: 'it returns false'. Refute it at one input. -/
def opSaysWrong : ChangeSpec := { name := "opSays", fn := fun _ => fun
  | [d1, d2, d3] => { results := [.lit (.bool false)], args := [d1, d2, d3] }
  | _ => none }
def OpSaysWrongFalsely : Prop := opSaysRow.holds Tryd.pinned (OpenSpec.ofChange opSaysWrong)

/-- 'manyhandslaw.OpKeeps': WHATEVER THE INPUT: true; the input reads as it did. -/
def opKeepsSpec : ChangeSpec := { name := "opKeeps", fn := fun _ => fun
  | [d1, d2] => { results := [.lit (.bool true)], args := [d1, d2] }
  | _ => none }
def opKeepsRow : OpenClaim := { program := "ytgidmnoinbbajaadoor", sum := "ef4b8e909e2d7f7e92a47db64a81de9b00692b6e50ef99ca967a0fd4d8657734", func := "manyhands/manyhandslaw.OpKeeps", spec := "opKeeps", inPlace := ["internal/bytealg.IndexByteString", "internal/bytealg.IndexString"], unfollowed := true, recurses := true, named := ["internal/bytealg.MaxLen", "manyhands/link.schemes"], apart := false, laid := [("manyhands/link.schemes", laid_manyhands_link_schemes)] }
def OpKeepsSaid : Prop := opKeepsRow.holds Tryd.pinned (OpenSpec.ofChange opKeepsSpec)

/-- ITS FALSE NEIGHBOUR: 'it returns false'. Refute it at one input. -/
def opKeepsWrong : ChangeSpec := { name := "opKeeps", fn := fun _ => fun
  | [d1, d2] => { results := [.lit (.bool false)], args := [d1, d2] }
  | _ => none }
def OpKeepsWrongFalsely : Prop := opKeepsRow.holds Tryd.pinned (OpenSpec.ofChange opKeepsWrong)

/-- 'manyhandslaw.OpNothing': WHATEVER THE INPUT: true; the input reads as it did. -/
def opNothingSpec : ChangeSpec := { name := "opNothing", fn := fun _ => fun
  | [d1, d2] => { results := [.lit (.bool true)], args := [d1, d2] }
  | _ => none }
def opNothingRow : OpenClaim := { program := "ytgidmnoinbbajaadoor", sum := "ef4b8e909e2d7f7e92a47db64a81de9b00692b6e50ef99ca967a0fd4d8657734", func := "manyhands/manyhandslaw.OpNothing", spec := "opNothing", inPlace := ["internal/bytealg.IndexByteString", "internal/bytealg.IndexString"], unfollowed := true, recurses := true, named := ["internal/bytealg.MaxLen", "manyhands/link.schemes"], apart := false, laid := [("manyhands/link.schemes", laid_manyhands_link_schemes)] }
def OpNothingSaid : Prop := opNothingRow.holds Tryd.pinned (OpenSpec.ofChange opNothingSpec)

/-- ITS FALSE NEIGHBOUR: 'it returns false'. Refute it at one input. -/
def opNothingWrong : ChangeSpec := { name := "opNothing", fn := fun _ => fun
  | [d1, d2] => { results := [.lit (.bool false)], args := [d1, d2] }
  | _ => none }
def OpNothingWrongFalsely : Prop := opNothingRow.holds Tryd.pinned (OpenSpec.ofChange opNothingWrong)

/-- 'manyhandslaw.OtSays': WHATEVER THE INPUT: true; the input reads as it did. -/
def otSaysSpec : ChangeSpec := { name := "otSays", fn := fun _ => fun
  | [d1, d2] => { results := [.lit (.bool true)], args := [d1, d2] }
  | _ => none }
def otSaysRow : OpenClaim := { program := "ytgidmnoinbbajaadoor", sum := "ef4b8e909e2d7f7e92a47db64a81de9b00692b6e50ef99ca967a0fd4d8657734", func := "manyhands/manyhandslaw.OtSays", spec := "otSays", inPlace := ["internal/bytealg.IndexByteString", "internal/bytealg.IndexString"], unfollowed := true, recurses := true, named := ["internal/bytealg.MaxLen", "manyhands/link.schemes"], apart := false, laid := [("manyhands/link.schemes", laid_manyhands_link_schemes)] }
def OtSaysSaid : Prop := otSaysRow.holds Tryd.pinned (OpenSpec.ofChange otSaysSpec)

/-- ITS FALSE NEIGHBOUR: 'it returns false'. Refute it at one input. -/
def otSaysWrong : ChangeSpec := { name := "otSays", fn := fun _ => fun
  | [d1, d2] => { results := [.lit (.bool false)], args := [d1, d2] }
  | _ => none }
def OtSaysWrongFalsely : Prop := otSaysRow.holds Tryd.pinned (OpenSpec.ofChange otSaysWrong)

/-- 'manyhandslaw.OtMeets': WHATEVER THE INPUT: true; the input reads as it did. -/
def otMeetsSpec : ChangeSpec := { name := "otMeets", fn := fun _ => fun
  | [d1, d2, d3] => { results := [.lit (.bool true)], args := [d1, d2, d3] }
  | _ => none }
def otMeetsRow : OpenClaim := { program := "ytgidmnoinbbajaadoor", sum := "ef4b8e909e2d7f7e92a47db64a81de9b00692b6e50ef99ca967a0fd4d8657734", func := "manyhands/manyhandslaw.OtMeets", spec := "otMeets", inPlace := ["internal/bytealg.IndexByteString", "internal/bytealg.IndexString"], unfollowed := true, recurses := true, named := ["internal/bytealg.MaxLen", "manyhands/link.schemes"], apart := false, laid := [("manyhands/link.schemes", laid_manyhands_link_schemes)] }
def OtMeetsSaid : Prop := otMeetsRow.holds Tryd.pinned (OpenSpec.ofChange otMeetsSpec)

/-- ITS FALSE NEIGHBOUR: 'it returns false'. Refute it at one input. -/
def otMeetsWrong : ChangeSpec := { name := "otMeets", fn := fun _ => fun
  | [d1, d2, d3] => { results := [.lit (.bool false)], args := [d1, d2, d3] }
  | _ => none }
def OtMeetsWrongFalsely : Prop := otMeetsRow.holds Tryd.pinned (OpenSpec.ofChange otMeetsWrong)

/-- 'manyhandslaw.OtJoins': WHATEVER THE INPUT: true; the input reads as it did. -/
def otJoinsSpec : ChangeSpec := { name := "otJoins", fn := fun _ => fun
  | [d1, d2, d3, d4] => { results := [.lit (.bool true)], args := [d1, d2, d3, d4] }
  | _ => none }
def otJoinsRow : OpenClaim := { program := "ytgidmnoinbbajaadoor", sum := "ef4b8e909e2d7f7e92a47db64a81de9b00692b6e50ef99ca967a0fd4d8657734", func := "manyhands/manyhandslaw.OtJoins", spec := "otJoins", inPlace := ["internal/bytealg.IndexByteString", "internal/bytealg.IndexString"], unfollowed := true, recurses := true, named := ["internal/bytealg.MaxLen", "manyhands/link.schemes"], apart := false, laid := [("manyhands/link.schemes", laid_manyhands_link_schemes)] }
def OtJoinsSaid : Prop := otJoinsRow.holds Tryd.pinned (OpenSpec.ofChange otJoinsSpec)

/-- ITS FALSE NEIGHBOUR: 'it returns false'. Refute it at one input. -/
def otJoinsWrong : ChangeSpec := { name := "otJoins", fn := fun _ => fun
  | [d1, d2, d3, d4] => { results := [.lit (.bool false)], args := [d1, d2, d3, d4] }
  | _ => none }
def OtJoinsWrongFalsely : Prop := otJoinsRow.holds Tryd.pinned (OpenSpec.ofChange otJoinsWrong)

/-- 'manyhandslaw.OtNothing': WHATEVER THE INPUT: true; the input reads as it did. -/
def otNothingSpec : ChangeSpec := { name := "otNothing", fn := fun _ => fun
  | [d] => { results := [.lit (.bool true)], args := [d] }
  | _ => none }
def otNothingRow : OpenClaim := { program := "ytgidmnoinbbajaadoor", sum := "ef4b8e909e2d7f7e92a47db64a81de9b00692b6e50ef99ca967a0fd4d8657734", func := "manyhands/manyhandslaw.OtNothing", spec := "otNothing", inPlace := ["internal/bytealg.IndexByteString", "internal/bytealg.IndexString"], unfollowed := true, recurses := true, named := ["internal/bytealg.MaxLen", "manyhands/link.schemes"], apart := false, laid := [("manyhands/link.schemes", laid_manyhands_link_schemes)] }
def OtNothingSaid : Prop := otNothingRow.holds Tryd.pinned (OpenSpec.ofChange otNothingSpec)

/-- ITS FALSE NEIGHBOUR: 'it returns false'. Refute it at one input. -/
def otNothingWrong : ChangeSpec := { name := "otNothing", fn := fun _ => fun
  | [d] => { results := [.lit (.bool false)], args := [d] }
  | _ => none }
def OtNothingWrongFalsely : Prop := otNothingRow.holds Tryd.pinned (OpenSpec.ofChange otNothingWrong)

/- THE SECOND FORM. 'bulk': how many values and letters a reading holds, each counted each time it is reached (what is shared counts as often as it is met; a slice's spare places count too). A statement '..UptoSaid' is the law's where the arguments, and the package variables that the reading takes, are together of bulk at most 1048576: NARROWER than '..Said'. Prove '..Said' where nothing that the law and all that it calls make is longer than what came in: it says more and counts as full. Else prove '..UptoSaid'. A law counts once. -/
mutual
def uptoBulk {H : Type} : DataW H → Nat
  | .lit (.string bytes) => bytes.length + 1
  | .lit _ => 1
  | .nil => 1
  | .ptr d => uptoBulk d + 1
  | .slice elems spare => uptoBulkAll elems + uptoBulkAll spare + 1
  | .agg parts => uptoBulkAll parts + 1
  | .iface _ d => uptoBulk d + 1
  | .map entries => uptoBulkEntries entries + 1
  | .held _ => 1
def uptoBulkAll {H : Type} : List (DataW H) → Nat
  | [] => 0
  | d :: r => uptoBulk d + uptoBulkAll r
def uptoBulkEntries {H : Type} : List (Lit × DataW H) → Nat
  | [] => 0
  | x :: r => uptoBulkEntry x + uptoBulkEntries r
def uptoBulkEntry {H : Type} : Lit × DataW H → Nat
  | (.string bytes, d) => bytes.length + uptoBulk d + 1
  | (_, d) => uptoBulk d + 1
 end
def uptoSmall : (H : Type) → List (DataW H) → Bool := fun _ ds => decide (uptoBulkAll ds ≤ 1048576)
def OpenSpec.upto (s : _root_.Go.ChangeSpec) : _root_.Go.OpenSpec := { _root_.Go.OpenSpec.ofChange s with cond := some uptoSmall }

/-- 'manyhandslaw.OpSays', WHERE WHAT IT READS IS OF BULK AT MOST 1048576: true; the input reads as it did. -/
def opSaysUptoRow : OpenClaim := { program := "ytgidmnoinbbajaadoor", sum := "ef4b8e909e2d7f7e92a47db64a81de9b00692b6e50ef99ca967a0fd4d8657734", func := "manyhands/manyhandslaw.OpSays", spec := "opSays", inPlace := ["internal/bytealg.IndexByteString", "internal/bytealg.IndexString"], unfollowed := true, recurses := true, named := ["internal/bytealg.MaxLen", "manyhands/link.schemes"], apart := false, laid := [("manyhands/link.schemes", laid_manyhands_link_schemes)], narrowed := true }
def OpSaysUptoSaid : Prop := opSaysUptoRow.holds Tryd.pinned (OpenSpec.upto opSaysSpec)

/-- 'manyhandslaw.OpKeeps', WHERE WHAT IT READS IS OF BULK AT MOST 1048576: true; the input reads as it did. -/
def opKeepsUptoRow : OpenClaim := { program := "ytgidmnoinbbajaadoor", sum := "ef4b8e909e2d7f7e92a47db64a81de9b00692b6e50ef99ca967a0fd4d8657734", func := "manyhands/manyhandslaw.OpKeeps", spec := "opKeeps", inPlace := ["internal/bytealg.IndexByteString", "internal/bytealg.IndexString"], unfollowed := true, recurses := true, named := ["internal/bytealg.MaxLen", "manyhands/link.schemes"], apart := false, laid := [("manyhands/link.schemes", laid_manyhands_link_schemes)], narrowed := true }
def OpKeepsUptoSaid : Prop := opKeepsUptoRow.holds Tryd.pinned (OpenSpec.upto opKeepsSpec)

/-- 'manyhandslaw.OpNothing', WHERE WHAT IT READS IS OF BULK AT MOST 1048576: true; the input reads as it did. -/
def opNothingUptoRow : OpenClaim := { program := "ytgidmnoinbbajaadoor", sum := "ef4b8e909e2d7f7e92a47db64a81de9b00692b6e50ef99ca967a0fd4d8657734", func := "manyhands/manyhandslaw.OpNothing", spec := "opNothing", inPlace := ["internal/bytealg.IndexByteString", "internal/bytealg.IndexString"], unfollowed := true, recurses := true, named := ["internal/bytealg.MaxLen", "manyhands/link.schemes"], apart := false, laid := [("manyhands/link.schemes", laid_manyhands_link_schemes)], narrowed := true }
def OpNothingUptoSaid : Prop := opNothingUptoRow.holds Tryd.pinned (OpenSpec.upto opNothingSpec)

/-- 'manyhandslaw.OtSays', WHERE WHAT IT READS IS OF BULK AT MOST 1048576: true; the input reads as it did. -/
def otSaysUptoRow : OpenClaim := { program := "ytgidmnoinbbajaadoor", sum := "ef4b8e909e2d7f7e92a47db64a81de9b00692b6e50ef99ca967a0fd4d8657734", func := "manyhands/manyhandslaw.OtSays", spec := "otSays", inPlace := ["internal/bytealg.IndexByteString", "internal/bytealg.IndexString"], unfollowed := true, recurses := true, named := ["internal/bytealg.MaxLen", "manyhands/link.schemes"], apart := false, laid := [("manyhands/link.schemes", laid_manyhands_link_schemes)], narrowed := true }
def OtSaysUptoSaid : Prop := otSaysUptoRow.holds Tryd.pinned (OpenSpec.upto otSaysSpec)

/-- 'manyhandslaw.OtMeets', WHERE WHAT IT READS IS OF BULK AT MOST 1048576: true; the input reads as it did. -/
def otMeetsUptoRow : OpenClaim := { program := "ytgidmnoinbbajaadoor", sum := "ef4b8e909e2d7f7e92a47db64a81de9b00692b6e50ef99ca967a0fd4d8657734", func := "manyhands/manyhandslaw.OtMeets", spec := "otMeets", inPlace := ["internal/bytealg.IndexByteString", "internal/bytealg.IndexString"], unfollowed := true, recurses := true, named := ["internal/bytealg.MaxLen", "manyhands/link.schemes"], apart := false, laid := [("manyhands/link.schemes", laid_manyhands_link_schemes)], narrowed := true }
def OtMeetsUptoSaid : Prop := otMeetsUptoRow.holds Tryd.pinned (OpenSpec.upto otMeetsSpec)

/-- 'manyhandslaw.OtJoins', WHERE WHAT IT READS IS OF BULK AT MOST 1048576: true; the input reads as it did. -/
def otJoinsUptoRow : OpenClaim := { program := "ytgidmnoinbbajaadoor", sum := "ef4b8e909e2d7f7e92a47db64a81de9b00692b6e50ef99ca967a0fd4d8657734", func := "manyhands/manyhandslaw.OtJoins", spec := "otJoins", inPlace := ["internal/bytealg.IndexByteString", "internal/bytealg.IndexString"], unfollowed := true, recurses := true, named := ["internal/bytealg.MaxLen", "manyhands/link.schemes"], apart := false, laid := [("manyhands/link.schemes", laid_manyhands_link_schemes)], narrowed := true }
def OtJoinsUptoSaid : Prop := otJoinsUptoRow.holds Tryd.pinned (OpenSpec.upto otJoinsSpec)

/-- 'manyhandslaw.OtNothing', WHERE WHAT IT READS IS OF BULK AT MOST 1048576: true; the input reads as it did. -/
def otNothingUptoRow : OpenClaim := { program := "ytgidmnoinbbajaadoor", sum := "ef4b8e909e2d7f7e92a47db64a81de9b00692b6e50ef99ca967a0fd4d8657734", func := "manyhands/manyhandslaw.OtNothing", spec := "otNothing", inPlace := ["internal/bytealg.IndexByteString", "internal/bytealg.IndexString"], unfollowed := true, recurses := true, named := ["internal/bytealg.MaxLen", "manyhands/link.schemes"], apart := false, laid := [("manyhands/link.schemes", laid_manyhands_link_schemes)], narrowed := true }
def OtNothingUptoSaid : Prop := otNothingUptoRow.holds Tryd.pinned (OpenSpec.upto otNothingSpec)

end Rows
end Go.Proofs.YtgidmnoinbbajaaDoor
