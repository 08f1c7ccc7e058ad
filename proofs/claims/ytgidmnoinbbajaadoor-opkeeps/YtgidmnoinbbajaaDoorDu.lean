/-
  doc.Runs of any list of items: the places where its runs begin.
-/
import Derived.Test.YtgidmnoinbbajaaDoorDr
namespace Go.Proofs.YtgidmnoinbbajaaDoor
open Go.RowKit

theorem Tryd.info3 : (Tryd.prog.info? 3).map (fun i => (i.zero, i.size, i.bytes)) = some (some (.int .i64 0), 1, 8) := by kernel_rfl
namespace Dc
/-- Whether a run begins at place k. -/
def runB (l : List It) : Nat → Bool
  | 0 => true
  | j + 1 => turns (l[j]?.getD It.zero) (l[j + 1]?.getD It.zero)
theorem runB_succ {l : List It} {j : Nat} (hj : j + 1 < l.length) : runB l (j + 1) = turns l[j] l[j + 1] := by
  show turns (l[j]?.getD It.zero) (l[j + 1]?.getD It.zero) = _
  rw [List.getElem?_eq_getElem (by omega), List.getElem?_eq_getElem hj]
  rfl
end Dc

namespace Dc
def runsTo (l : List It) (k : Nat) : List Nat := (List.range k).filter (runB l)
def runs (l : List It) : List Nat := if check l = 0 then runsTo l l.length else []
theorem runsTo_succ (l : List It) (k : Nat) : runsTo l (k + 1) = if runB l k then runsTo l k ++ [k] else runsTo l k := by
  unfold runsTo
  rw [List.range_succ, List.filter_append]
  by_cases h : runB l k = true
  · rw [if_pos h]; simp [h]
  · rw [if_neg h]; simp [h]
theorem runsTo_len (l : List It) (k : Nat) : (runsTo l k).length ≤ k := by
  have := List.length_filter_le (runB l) (List.range k)
  simpa [runsTo] using this
end Dc
def ci (k : Nat) : Value := .int .i64 k

end Go.Proofs.YtgidmnoinbbajaaDoor
