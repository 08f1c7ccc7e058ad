/-
  What holds of the places where runs begin: the first is the first item's, they rise, and within a run all is alike.
-/
import Derived.Test.YtmifcioccnmlaaaDoorDu
namespace Go.Proofs.YtmifcioccnmlaaaDoor
open Go.RowKit
namespace Dc

theorem runsTo_sorted (l : List It) (n : Nat) : (runsTo l n).Pairwise (· < ·) := List.Pairwise.filter _ List.pairwise_lt_range
theorem runsTo_rise (l : List It) (n : Nat) {i j : Nat} (hi : i < (runsTo l n).length) (hj : j < (runsTo l n).length) (h : i < j) : (runsTo l n)[i] < (runsTo l n)[j] :=
  List.pairwise_iff_getElem.1 (runsTo_sorted l n) i j hi hj h
theorem runsTo_lt (l : List It) (n : Nat) {i : Nat} (hi : i < (runsTo l n).length) : (runsTo l n)[i] < n := by
  have := List.getElem_mem hi
  unfold runsTo at this
  rw [List.mem_filter, List.mem_range] at this
  exact this.1
theorem runsTo_first (l : List It) (n : Nat) (hn : 0 < n) : ∃ t, runsTo l n = 0 :: t := by
  obtain ⟨k, rfl⟩ : ∃ k, n = k + 1 := ⟨n - 1, by omega⟩
  unfold runsTo
  rw [List.range_succ_eq_map, List.filter_cons]
  exact ⟨_, rfl⟩
/-- Where the run that begins at the k-th place ends. -/
def upTo (l : List It) (n k : Nat) : Nat := if h : k + 1 < (runsTo l n).length then (runsTo l n)[k + 1] else n
theorem upTo_bounds (l : List It) (n : Nat) {k : Nat} (hk : k < (runsTo l n).length) : (runsTo l n)[k] < upTo l n k ∧ upTo l n k ≤ n := by
  unfold upTo
  split
  · rename_i h
    exact ⟨runsTo_rise l n hk h (by omega), Nat.le_of_lt (runsTo_lt l n h)⟩
  · exact ⟨runsTo_lt l n hk, Nat.le_refl _⟩
theorem between (l : List It) (n : Nat) {k i : Nat} (hk : k < (runsTo l n).length) (h1 : (runsTo l n)[k] < i) (h2 : i < upTo l n k) : runB l i = false := by
  cases hf : runB l i
  · rfl
  · exfalso
    have hin : i < n := Nat.lt_of_lt_of_le h2 (upTo_bounds l n hk).2
    have hm : i ∈ runsTo l n := List.mem_filter.2 ⟨List.mem_range.2 hin, hf⟩
    obtain ⟨j, hj, rfl⟩ := List.mem_iff_getElem.1 hm
    have hkj : k < j := by
      rcases Nat.lt_trichotomy k j with h | h | h
      · exact h
      · subst h; omega
      · have := runsTo_rise l n hj hk h; omega
    unfold upTo at h2
    split at h2
    · rename_i h
      rcases Nat.lt_or_ge (k + 1) j with h3 | h3
      · have := runsTo_rise l n h hj h3; omega
      · obtain rfl : j = k + 1 := by omega
        omega
    · omega
theorem turns_no {a x : It} (h : turns a x = false) : ends a = false ∧ ends x = false ∧ x.m = a.m ∧ x.l.toList = a.l.toList := by
  unfold turns at h
  simp only [Bool.or_eq_false_iff] at h
  obtain ⟨⟨⟨h1, h2⟩, h3⟩, h4⟩ := h
  exact ⟨h1, h2, by simpa using h3, by simpa using h4⟩
/-- Within a run all is alike. -/
theorem run_alike (l : List It) (n : Nat) (hn : l.length = n) {k : Nat} (hk : k < (runsTo l n).length) (hf : (runsTo l n)[k] < l.length) :
    ∀ j (_ : (runsTo l n)[k] + j < upTo l n k) (hi : (runsTo l n)[k] + j < l.length), l[(runsTo l n)[k] + j].m = l[(runsTo l n)[k]].m ∧ l[(runsTo l n)[k] + j].l.toList = l[(runsTo l n)[k]].l.toList ∧ (j ≠ 0 → ends l[(runsTo l n)[k] + j] = false)
  | 0, _, _ => ⟨rfl, rfl, fun h => absurd rfl h⟩
  | j + 1, hj, hi => by
    obtain ⟨h1, h2, _⟩ := run_alike l n hn hk hf j (by omega) (by omega)
    have hb := between l n hk (i := (runsTo l n)[k] + j + 1) (by omega) (by omega)
    rw [runB_succ (by omega)] at hb
    obtain ⟨_, e2, e3, e4⟩ := turns_no hb
    exact ⟨e3.trans h1, e4.trans h2, fun _ => e2⟩
/-- Where a run has more than one item its first is no end of a block. -/
theorem run_first (l : List It) (n : Nat) (hn : l.length = n) {k : Nat} (hk : k < (runsTo l n).length) (hf : (runsTo l n)[k] < l.length) (h : (runsTo l n)[k] + 1 < upTo l n k) : ends l[(runsTo l n)[k]] = false := by
  have hu := (upTo_bounds l n hk).2
  have hb := between l n hk (i := (runsTo l n)[k] + 1) (by omega) h
  rw [runB_succ (by omega)] at hb
  exact (turns_no hb).1
end Dc
end Go.Proofs.YtmifcioccnmlaaaDoor
