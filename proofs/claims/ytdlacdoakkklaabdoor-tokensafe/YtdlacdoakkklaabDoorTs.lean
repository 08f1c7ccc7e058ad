/-
  Of no program: what strings.ReplaceAll makes of a text whose ends of lines are left out; the characters of a document; how the check of a page's tags goes on.
-/
import Derived.Test.YtdlacdoakkklaabDoorTp
import Derived.Test.YtdlacdoakkklaabDoorTq
import Derived.Lib.ReplaceLaws
import Derived.Lib.CountLaws
import Derived.Lib.SplitLaws
namespace Go.Proofs.YtdlacdoakkklaabDoor
open Go.RowKit
namespace Tk
theorem tw_all (p : UInt8 → Bool) : ∀ (l : List UInt8) (x : UInt8), x ∈ l.takeWhile p → p x = true
  | [], x, h => by cases h
  | c :: t, x, h => by
    rw [List.takeWhile_cons] at h
    split at h
    · rcases List.mem_cons.1 h with rfl | h
      · assumption
      · exact tw_all p t x h
    · cases h
theorem repl_k : ∀ (k : Nat) (s : List UInt8), Lib.count s [10] = k → Lib.replaceK [10] [] k s = s.filter (fun c => c != 10)
  | 0, s, h => by
    rw [Lib.count_one] at h
    rw [Lib.replaceK]
    symm
    rw [List.filter_eq_self]
    intro c hc
    have := List.count_eq_zero.1 h
    rw [bne_iff_ne]
    intro e
    exact this (e ▸ hc)
  | k + 1, s, h => by
    obtain ⟨i, hi⟩ := Lib.index_of_count (s := s) (old := [10]) (by omega)
    have hc := Lib.count_hit (s := s) (sub := [10]) (i := i) (by simp) hi
    rcases quote_at 10 s with ⟨a, _⟩ | ⟨j, a, _, b, c, d⟩
    · rw [hi] at a; omega
    · obtain rfl : i = j := by rw [hi] at a; omega
      rw [Lib.replaceK_hit [10] [] k s i hi, repl_k k _ (by rw [h] at hc; omega), List.append_nil]
      have hs : s = s.take i ++ 10 :: s.drop (i + 1) := by
        have h1 : s.take (i + 1) ++ s.drop (i + 1) = s := List.take_append_drop _ _
        rw [c, ← b] at h1
        simpa using h1.symm
      have ht : (s.take i).filter (fun c => c != 10) = s.take i := by
        rw [List.filter_eq_self, b]
        intro x hx
        exact tw_all (not 10) s x hx
      show s.take i ++ (s.drop (i + 1)).filter _ = _
      conv => rhs; rw [hs, List.filter_append, ht, List.filter_cons]
      simp
theorem repl_nl (s : List UInt8) : Lib.replaceAll s [10] [] = s.filter (fun c => c != 10) := by
  unfold Lib.replaceAll Lib.replace Lib.replaceNum
  rw [if_neg (by decide), if_pos (by left; decide)]
  exact repl_k _ s rfl
theorem chars_eq (l : List It) : (l.map It.c).filter (fun c => c != 10) = chars l := by
  unfold chars
  rw [List.filter_map]
  congr 1
  apply List.filter_congr
  intro x _
  show (x.c != 10) = !Dc.ends x
  unfold Dc.ends
  by_cases h : x.c = 10
  · rw [h]; rfl
  · have h1 : (x.c != 10) = true := by simpa using h
    have h2 : ((x.c.toNat : Int) == 10) = false := by
      rw [beq_eq_false_iff_ne]
      intro e
      exact h (UInt8.toNat_inj.1 (by show x.c.toNat = 10; omega))
    rw [h1, h2]
    rfl
/-- What was read only grows. -/
theorem chk_grows : ∀ (ks : List Tk) (o : List (List UInt8)) (t : List UInt8) (o' : List (List UInt8)) (t' : List UInt8), chk ks o t = some (o', t') → t.length ≤ t'.length
  | [], o, t, o', t', h => by
    rw [chk] at h
    cases h
    exact Nat.le_refl _
  | k :: ks, o, t, o', t', h => by
    rw [chk] at h
    split at h
    · have := chk_grows ks _ _ _ _ h
      rw [List.length_append] at this
      omega
    split at h
    · split at h
      · exact chk_grows ks _ _ _ _ h
      · cases h
    split at h
    · split at h
      · exact chk_grows ks _ _ _ _ h
      · cases h
    · cases h
end Tk
end Go.Proofs.YtdlacdoakkklaabDoor
