/-
  Chapter 9, on lists: a server that takes something stays one; what it takes is what it was, turned behind all since.
-/
import Derived.Test.YtbhcklkbckacpaaGreatDoorM9
import Derived.Test.YtbhcklkbckacpaaGreatDoorPi
namespace Go.Proofs.YtbhcklkbckacpaaGreatDoor
namespace Sv
theorem fold_cons {d : List It} {x : En} {l : List En} (h : foldE d (x :: l) = 0) : Ac.fitE d x.o = 0 ∧ foldE (Ac.done d x.o) l = 0 ∧ foldD d (x :: l) = foldD (Ac.done d x.o) l := by
  have hx : Ac.fitE d x.o = 0 := by
    by_cases hx : Ac.fitE d x.o = 0
    · exact hx
    · have : foldE d (x :: l) = Ac.fitE d x.o := if_neg hx
      rw [this] at h
      exact absurd h hx
  refine ⟨hx, ?_, if_pos hx⟩
  have : foldE d (x :: l) = foldE (Ac.done d x.o) l := if_pos hx
  rw [this] at h
  exact h
theorem fold_check : ∀ (l : List En) (d : List It), Dc.check d = 0 → foldE d l = 0 → Dc.check (foldD d l) = 0
  | [], _, h, _ => h
  | x :: l, d, h, he => by
    obtain ⟨h1, h2, h3⟩ := fold_cons he
    rw [h3]
    exact fold_check l _ (Ac.done_is h1).2.1 h2
theorem sameE_self (x : En) : sameE x x = true := by simp [sameE, Ac.sameO_self]
theorem sameL_self : ∀ l : List En, sameL l l = true
  | [] => rfl
  | x :: l => by rw [sameL, sameE_self, sameL_self l]; rfl
theorem its_self (l : List It) : Dc.same l l = true := (its_same l l).2 rfl
theorem sameS_self (s : Se) : sameS s s = true := by simp [sameS, sameL_self, its_self]
theorem srv_0 {s : Se} (h : srvE s = 0) : s.log.length ≤ 60 ∧ entsE s.log = 0 ∧ Dc.check s.first = 0 ∧ foldE s.first s.log = 0 ∧ s.now = foldD s.first s.log := by
  unfold srvE at h
  by_cases h1 : 60 < s.log.length
  · rw [if_pos h1] at h; cases h
  rw [if_neg h1] at h
  by_cases h2 : entsE s.log = 0
  · rw [if_pos h2] at h
    by_cases h3 : fldE s.first s.log = 0
    · rw [if_pos h3] at h
      by_cases h4 : Dc.same s.now (fldD s.first s.log) = true
      · have hn := (its_same _ _).1 h4
        unfold fldE at h3
        unfold fldD at hn
        by_cases h5 : Dc.check s.first = 0
        · rw [if_pos h5, if_neg h1] at h3
          rw [if_pos h5, if_neg h1] at hn
          exact ⟨by omega, h2, h5, h3, hn⟩
        · rw [if_neg h5] at h3
          exact absurd h3 h5
      · rw [if_neg h4] at h; cases h
    · rw [if_neg h3] at h
      exact absurd h h3
  · rw [if_neg h2] at h
    exact absurd h h2
theorem take_has {s : Se} {rev : Int} {x : En} (h1 : srvE s = 0) (h2 : entE x = 0) (h3 : has s x.who x.seq = true) : takE s rev x = 0 ∧ takS s rev x = s := by
  have h : takE s rev x = 0 := by unfold takE; rw [if_pos h1, if_pos h2, if_pos h3]
  refine ⟨h, ?_⟩
  unfold takS
  rw [if_pos h, if_pos h3]
end Sv
end Go.Proofs.YtbhcklkbckacpaaGreatDoor
