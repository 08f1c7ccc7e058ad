/-
  What holds of an address that may be led to, cleaned: pure mathematics of chapter 2.
-/
import Derived.Test.YtpcaiechaakhnabGreatDoorM3
namespace Go.Proofs.YtpcaiechaakhnabGreatDoor
open Go.RowKit
namespace Lk

theorem tl_all (p : UInt8 → Bool) : ∀ l : List UInt8, (∀ x ∈ l, p x = false) → tl p l = l
  | [], _ => rfl
  | x :: t, h => by rw [tl, h x (by simp)]; rfl
theorem tr_all (p : UInt8 → Bool) : ∀ l : List UInt8, (∀ x ∈ l, p x = false) → tr p l = l
  | [], _ => rfl
  | x :: t, h => by
    have ih := tr_all p t (fun y hy => h y (by simp [hy]))
    rw [tr, ih]
    cases t with
    | nil => simp only; rw [h x (by simp)]; rfl
    | cons y u => rfl
theorem tl_suffix (p : UInt8 → Bool) : ∀ l : List UInt8, ∃ a, l = a ++ tl p l
  | [] => ⟨[], rfl⟩
  | x :: t => by
    obtain ⟨a, ha⟩ := tl_suffix p t
    rw [tl]
    cases p x
    · exact ⟨[], rfl⟩
    · exact ⟨x :: a, by simp only [if_true, List.cons_append]; rw [← ha]⟩
theorem tr_prefix (p : UInt8 → Bool) : ∀ l : List UInt8, ∃ b, l = tr p l ++ b
  | [] => ⟨[], rfl⟩
  | x :: t => by
    obtain ⟨b, hb⟩ := tr_prefix p t
    rw [tr]
    cases h : tr p t with
    | nil =>
      rw [h] at hb
      simp only
      cases p x
      · exact ⟨t, rfl⟩
      · exact ⟨x :: t, rfl⟩
    | cons y u =>
      rw [h] at hb
      exact ⟨b, by simp only [List.cons_append] at hb ⊢; rw [← hb]⟩
theorem trim_infix (l : List UInt8) : ∃ a b, l = a ++ (trim l ++ b) := by
  obtain ⟨b, hb⟩ := tr_prefix bl l
  obtain ⟨a, ha⟩ := tl_suffix bl (tr bl l)
  refine ⟨a, b, ?_⟩
  rw [← List.append_assoc]
  show l = a ++ tl bl (tr bl l) ++ b
  rw [← ha]
  exact hb
theorem infix_contains (a c b : List UInt8) : Lib.contains (a ++ (c ++ b)) c = true := by
  rcases Lib.index_spec (a ++ (c ++ b)) c with ⟨_, h2⟩ | ⟨i, h1, _⟩
  · have := h2 a.length (by simp)
    simp [Lib.occAt] at this
    rw [List.isPrefixOf_iff_prefix.2 (List.prefix_append c b)] at this
    cases this
  · unfold Lib.contains
    rw [h1]
    exact decide_eq_true (by omega)
theorem stand_vis {x : UInt8} (h : stand x = true) : 33 ≤ x.toNat ∧ x.toNat ≤ 126 ∧ barred.contains x = false := by
  unfold stand at h
  rw [Bool.and_eq_true, Bool.and_eq_true, decide_eq_true_eq, decide_eq_true_eq, UInt8.le_iff_toNat_le, UInt8.le_iff_toNat_le] at h
  refine ⟨h.1.1, h.1.2, ?_⟩
  cases hb : barred.contains x
  · rfl
  · rw [hb] at h; cases h.2
theorem stand_bl {x : UInt8} (h : stand x = true) : bl x = false := by
  have hv := (stand_vis h).1
  unfold bl blanks
  simp only [List.contains_cons, List.contains_nil, Bool.or_false, Bool.or_eq_false_iff, beq_eq_false_iff_ne]
  refine ⟨?_, ?_, ?_, ?_, ?_⟩ <;> (intro e; subst e; revert hv; decide)
theorem may_parts {c : List UInt8} (h : may c = true) : 1 ≤ c.length ∧ c.length ≤ 24 ∧ (∀ x ∈ c, stand x = true) ∧ lead (scheme c) = true := by
  unfold may at h
  rw [Bool.and_eq_true, Bool.and_eq_true, Bool.and_eq_true, decide_eq_true_eq, decide_eq_true_eq, List.all_eq_true] at h
  exact ⟨h.1.1.1, h.1.1.2, h.1.2, h.2⟩
theorem trim_may {c : List UInt8} (h : may c = true) : trim c = c := by
  have hb : ∀ x ∈ c, bl x = false := fun x hx => stand_bl ((may_parts h).2.2.1 x hx)
  unfold trim
  rw [tr_all bl c hb, tl_all bl c hb]
theorem clean_may {c : List UInt8} (h : may c = true) : clean c = c := by
  unfold clean
  rw [trim_may h, h]
  rfl
theorem clean_some {l : List UInt8} (h : clean l ≠ []) : clean l = trim l ∧ may (clean l) = true := by
  unfold clean at h ⊢
  cases hm : may (trim l)
  · rw [hm] at h; exact absurd rfl h
  · exact ⟨rfl, hm⟩
end Lk
end Go.Proofs.YtpcaiechaakhnabGreatDoor
