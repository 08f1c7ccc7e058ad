/-
  NARROWER THAN 'FOR EVERY INPUT', by the rows' own cells (each row's printed sentence says how): EscapeSays: laid · EscapeBack: laid · EscapeOnce: laid.
  DERIVED. THE GIVEN ROWS OF THIS SEAT. 3 by the template 'for every input the law returns true; each argument reads behind the call as it read before'; 0 by the template 'total and deterministic' (their statements: YtdolnompcbloaaaDoorTotals.lean).
  GIVEN WITH THE SEED: the statements are not yours to turn. If you find one false, say at which input.
  Laid BY PROGRAM, IN A SANDBOX (cutbox-rows.mjs): the forced cells as the released guide's own fill.sh prints them over the translation 827951191a6194a8… (all of the seat's roots in one cut). By AI agents, Wed Nov 11 2026. No macro, syntax, notation, axiom, sorry.
-/
import Derived.Test.YtdolnompcbloaaaDoorChecked
import GoSem.Claim
import GoSem.ClaimJoined
import GoSem.ClaimMapViews
import Derived.JoinedTies
import Derived.KernelRfl
namespace Go.Proofs.YtdolnompcbloaaaDoor
/- THE CELL 'sum', in the pinned program and in every row, IS THE sha256 OF THE DUMP (.gsa) THAT YtdolnompcbloaaaDoorProg.lean LOADS. Nothing in Lean hashes anything: it is a label: what it is worth is what the hold of that sum in a sandbox is worth. -/
noncomputable def Tryd.pinned : Pinned := { name := "ytdolnompcbloaaadoor", sum := "827951191a6194a831c28d93e029d0f14a180e2bd90f4269b70a9b18013f96c0", checked := Tryd.checked }
namespace Rows
def none {H : Type} : Left H := { results := [], args := [] }

/- WHAT THE LISTED PACKAGE-LEVEL VARIABLES READ AS WHEN THE CALL BEGINS. Each datum BY PROGRAM (the guide's laid-datum.mjs) off the statement by which the dump's own 'gosem.cut.vars' lays the variable. In a bare row this is a premise. The card (YtdolnompcbloaaaDoorCards.lean) ties it to the program's text. -/
def laid_manyhands_escape_pairs {H : Type} : DataW H := .agg [.agg [.lit (.int .u8 38), .lit (.string [38, 97, 109, 112, 59])], .agg [.lit (.int .u8 60), .lit (.string [38, 108, 116, 59])], .agg [.lit (.int .u8 62), .lit (.string [38, 103, 116, 59])], .agg [.lit (.int .u8 34), .lit (.string [38, 113, 117, 111, 116, 59])]]

/-- 'manyhandslaw.EscapeSays': WHATEVER THE INPUT: true; the input reads as it did. -/
def escapeSaysSpec : ChangeSpec := { name := "escapeSays", fn := fun _ => fun
  | [d] => { results := [.lit (.bool true)], args := [d] }
  | _ => none }
def escapeSaysRow : OpenClaim := { program := "ytdolnompcbloaaadoor", sum := "827951191a6194a831c28d93e029d0f14a180e2bd90f4269b70a9b18013f96c0", func := "manyhands/manyhandslaw.EscapeSays", spec := "escapeSays", inPlace := ["sync/atomic.LoadUint32", "(*internal/sync.Mutex).Lock", "internal/race.Disable", "sync/atomic.CompareAndSwapInt32", "internal/race.Enable", "internal/race.Acquire", "(*internal/sync.Mutex).lockSlow", "internal/sync.runtime_canSpin", "internal/sync.runtime_doSpin", "internal/sync.throw", "internal/sync.runtime_nanotime", "internal/sync.runtime_SemacquireMutex", "sync/atomic.AddInt32", "(*internal/sync.Mutex).Unlock", "internal/race.ReleaseMerge", "(*internal/sync.Mutex).unlockSlow", "internal/sync.fatal", "internal/sync.runtime_Semrelease", "sync/atomic.StoreUint32"], unfollowed := true, recurses := true, named := ["manyhands/escape.pairs"], apart := false, laid := [("manyhands/escape.pairs", laid_manyhands_escape_pairs)] }
def EscapeSaysSaid : Prop := escapeSaysRow.holds Tryd.pinned (OpenSpec.ofChange escapeSaysSpec)

/-- ITS FALSE NEIGHBOUR: 'it returns false'. Refute it at one input. -/
def escapeSaysWrong : ChangeSpec := { name := "escapeSays", fn := fun _ => fun
  | [d] => { results := [.lit (.bool false)], args := [d] }
  | _ => none }
def EscapeSaysWrongFalsely : Prop := escapeSaysRow.holds Tryd.pinned (OpenSpec.ofChange escapeSaysWrong)

/-- 'manyhandslaw.EscapeBack': WHATEVER THE INPUT: true; the input reads as it did. -/
def escapeBackSpec : ChangeSpec := { name := "escapeBack", fn := fun _ => fun
  | [d1, d2] => { results := [.lit (.bool true)], args := [d1, d2] }
  | _ => none }
def escapeBackRow : OpenClaim := { program := "ytdolnompcbloaaadoor", sum := "827951191a6194a831c28d93e029d0f14a180e2bd90f4269b70a9b18013f96c0", func := "manyhands/manyhandslaw.EscapeBack", spec := "escapeBack", inPlace := ["internal/bytealg.IndexByteString", "internal/bytealg.IndexString"], named := ["manyhands/escape.pairs", "internal/bytealg.MaxLen"], apart := false, laid := [("manyhands/escape.pairs", laid_manyhands_escape_pairs)] }
def EscapeBackSaid : Prop := escapeBackRow.holds Tryd.pinned (OpenSpec.ofChange escapeBackSpec)

/-- ITS FALSE NEIGHBOUR: 'it returns false'. Refute it at one input. -/
def escapeBackWrong : ChangeSpec := { name := "escapeBack", fn := fun _ => fun
  | [d1, d2] => { results := [.lit (.bool false)], args := [d1, d2] }
  | _ => none }
def EscapeBackWrongFalsely : Prop := escapeBackRow.holds Tryd.pinned (OpenSpec.ofChange escapeBackWrong)

/-- 'manyhandslaw.EscapeOnce': WHATEVER THE INPUT: true; the input reads as it did. -/
def escapeOnceSpec : ChangeSpec := { name := "escapeOnce", fn := fun _ => fun
  | [d] => { results := [.lit (.bool true)], args := [d] }
  | _ => none }
def escapeOnceRow : OpenClaim := { program := "ytdolnompcbloaaadoor", sum := "827951191a6194a831c28d93e029d0f14a180e2bd90f4269b70a9b18013f96c0", func := "manyhands/manyhandslaw.EscapeOnce", spec := "escapeOnce", inPlace := ["internal/bytealg.CountString", "internal/bytealg.IndexByteString", "internal/bytealg.IndexString"], named := ["manyhands/escape.pairs", "internal/bytealg.MaxLen"], apart := false, laid := [("manyhands/escape.pairs", laid_manyhands_escape_pairs)] }
def EscapeOnceSaid : Prop := escapeOnceRow.holds Tryd.pinned (OpenSpec.ofChange escapeOnceSpec)

/-- ITS FALSE NEIGHBOUR: 'it returns false'. Refute it at one input. -/
def escapeOnceWrong : ChangeSpec := { name := "escapeOnce", fn := fun _ => fun
  | [d] => { results := [.lit (.bool false)], args := [d] }
  | _ => none }
def EscapeOnceWrongFalsely : Prop := escapeOnceRow.holds Tryd.pinned (OpenSpec.ofChange escapeOnceWrong)

/- THE SECOND FORM. 'bulk': how many values and letters a reading holds, each counted each time it is reached (what is shared counts as often as it is met; a slice's spare places count too). A statement '..UptoSaid' is the law's where the arguments, and the package variables that the reading takes, are together of bulk at most 1048576: NARROWER than '..Said'. Prove '..Said' where nothing that the law and all that it calls make is longer than what came in: it says more and counts as full. Else prove '..UptoSaid'. A law counts once. -/
mutual
def uptoBulk {H : Type} : DataW H → Nat
  | .lit (.string bytes) => bytes.length + 1
  | .lit _ => 1
  | .nil => 1
  | .ptr d => uptoBulk d + 1
  | .slice elems spare => uptoBulkAll elems + uptoBulkAll spare + 1
  | .agg parts => uptoBulkAll parts + 1
  | .iface _ d => uptoBulk d + 1
  | .map entries => uptoBulkEntries entries + 1
  | .held _ => 1
def uptoBulkAll {H : Type} : List (DataW H) → Nat
  | [] => 0
  | d :: r => uptoBulk d + uptoBulkAll r
def uptoBulkEntries {H : Type} : List (Lit × DataW H) → Nat
  | [] => 0
  | x :: r => uptoBulkEntry x + uptoBulkEntries r
def uptoBulkEntry {H : Type} : Lit × DataW H → Nat
  | (.string bytes, d) => bytes.length + uptoBulk d + 1
  | (_, d) => uptoBulk d + 1
 end
def uptoSmall : (H : Type) → List (DataW H) → Bool := fun _ ds => decide (uptoBulkAll ds ≤ 1048576)
def OpenSpec.upto (s : _root_.Go.ChangeSpec) : _root_.Go.OpenSpec := { _root_.Go.OpenSpec.ofChange s with cond := some uptoSmall }

/-- 'manyhandslaw.EscapeSays', WHERE WHAT IT READS IS OF BULK AT MOST 1048576: true; the input reads as it did. -/
def escapeSaysUptoRow : OpenClaim := { program := "ytdolnompcbloaaadoor", sum := "827951191a6194a831c28d93e029d0f14a180e2bd90f4269b70a9b18013f96c0", func := "manyhands/manyhandslaw.EscapeSays", spec := "escapeSays", inPlace := ["sync/atomic.LoadUint32", "(*internal/sync.Mutex).Lock", "internal/race.Disable", "sync/atomic.CompareAndSwapInt32", "internal/race.Enable", "internal/race.Acquire", "(*internal/sync.Mutex).lockSlow", "internal/sync.runtime_canSpin", "internal/sync.runtime_doSpin", "internal/sync.throw", "internal/sync.runtime_nanotime", "internal/sync.runtime_SemacquireMutex", "sync/atomic.AddInt32", "(*internal/sync.Mutex).Unlock", "internal/race.ReleaseMerge", "(*internal/sync.Mutex).unlockSlow", "internal/sync.fatal", "internal/sync.runtime_Semrelease", "sync/atomic.StoreUint32"], unfollowed := true, recurses := true, named := ["manyhands/escape.pairs"], apart := false, laid := [("manyhands/escape.pairs", laid_manyhands_escape_pairs)], narrowed := true }
def EscapeSaysUptoSaid : Prop := escapeSaysUptoRow.holds Tryd.pinned (OpenSpec.upto escapeSaysSpec)

/-- 'manyhandslaw.EscapeBack', WHERE WHAT IT READS IS OF BULK AT MOST 1048576: true; the input reads as it did. -/
def escapeBackUptoRow : OpenClaim := { program := "ytdolnompcbloaaadoor", sum := "827951191a6194a831c28d93e029d0f14a180e2bd90f4269b70a9b18013f96c0", func := "manyhands/manyhandslaw.EscapeBack", spec := "escapeBack", inPlace := ["internal/bytealg.IndexByteString", "internal/bytealg.IndexString"], named := ["manyhands/escape.pairs", "internal/bytealg.MaxLen"], apart := false, laid := [("manyhands/escape.pairs", laid_manyhands_escape_pairs)], narrowed := true }
def EscapeBackUptoSaid : Prop := escapeBackUptoRow.holds Tryd.pinned (OpenSpec.upto escapeBackSpec)

/-- 'manyhandslaw.EscapeOnce', WHERE WHAT IT READS IS OF BULK AT MOST 1048576: true; the input reads as it did. -/
def escapeOnceUptoRow : OpenClaim := { program := "ytdolnompcbloaaadoor", sum := "827951191a6194a831c28d93e029d0f14a180e2bd90f4269b70a9b18013f96c0", func := "manyhands/manyhandslaw.EscapeOnce", spec := "escapeOnce", inPlace := ["internal/bytealg.CountString", "internal/bytealg.IndexByteString", "internal/bytealg.IndexString"], named := ["manyhands/escape.pairs", "internal/bytealg.MaxLen"], apart := false, laid := [("manyhands/escape.pairs", laid_manyhands_escape_pairs)], narrowed := true }
def EscapeOnceUptoSaid : Prop := escapeOnceUptoRow.holds Tryd.pinned (OpenSpec.upto escapeOnceSpec)

end Rows
end Go.Proofs.YtdolnompcbloaaaDoor
