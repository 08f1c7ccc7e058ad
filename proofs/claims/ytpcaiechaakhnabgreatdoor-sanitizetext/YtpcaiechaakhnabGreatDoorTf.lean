/-
  What holds of each token that a page is taken apart into: its kind is one of four, what it bears is no longer than the page.
-/
import Derived.Test.YtpcaiechaakhnabGreatDoorTp0
namespace Go.Proofs.YtpcaiechaakhnabGreatDoor
open Go.RowKit
namespace Tk
/-- A token that a page of n bytes may hold. -/
structure Fits (n : Nat) (t : Tk) : Prop where
  kind : t.kind = 1 ∨ t.kind = 2 ∨ t.kind = 3 ∨ t.kind = 4
  text : t.text.length ≤ n
  href : t.href.length ≤ n
theorem Fits.mono {n m : Nat} {t : Tk} (h : Fits n t) (hm : n ≤ m) : Fits m t := ⟨h.kind, Nat.le_trans h.text hm, Nat.le_trans h.href hm⟩
theorem tw_le (p : UInt8 → Bool) (l : List UInt8) : (l.takeWhile p).length ≤ l.length := (List.takeWhile_sublist p).length_le
theorem val_fst (l : List UInt8) : (val l).1.length ≤ l.length := by
  cases l with
  | nil => exact Nat.le_refl _
  | cons q r =>
    rw [val]
    split
    · have := tw_le (not q) r
      simp only [List.length_cons]
      omega
    · exact tw_le avl (q :: r)
theorem value_fst (l : List UInt8) : (value l).1.length ≤ l.length := by
  unfold value
  have h0 := dw_len sp l
  cases h : l.dropWhile sp with
  | nil => exact Nat.zero_le _
  | cons c r2 =>
    rw [h] at h0
    simp only
    split
    · have h1 := val_fst (r2.dropWhile sp)
      have h2 := dw_len sp r2
      simp at h0
      omega
    · exact Nat.zero_le _
theorem attr_fst : ∀ (n : Nat) (l : List UInt8) (h : Option (List UInt8)) (x : Option (List UInt8) × List UInt8) (m : Nat), l.length ≤ n → attr l h = some x → l.length ≤ m → (h.getD []).length ≤ m → (x.1.getD []).length ≤ m
  | _, [], _, _, _, _, e, _, _ => by rw [attr_nil] at e; cases e
  | 0, _ :: _, _, _, _, hn, _, _, _ => by simp at hn
  | n + 1, c :: t, h, x, m, hn, e, hm, hh => by
    have h3 := value_len (t.dropWhile anm)
    have h4 := dw_len anm t
    have h5 := value_fst (t.dropWhile anm)
    simp only [List.length_cons] at hn hm
    rw [attr_cons] at e
    split at e
    · cases e; exact hh
    split at e
    · exact attr_fst n t h x m (by omega) e (by omega) hh
    · refine attr_fst n _ _ x m (by omega) e (by omega) ?_
      split
      · show (value (t.dropWhile anm)).1.length ≤ m
        omega
      · exact hh
theorem tag_fits (s : Bool) (u : List UInt8) (hr : ∀ l : List UInt8, (Esc.rd l).length ≤ l.length) : ∀ t ∈ (tag s u).1, Fits u.length t := by
  unfold tag
  have h0 := dw_len nam u
  cases h : attr (u.dropWhile nam) none with
  | none => intro t ht; cases ht
  | some x =>
    have h1 := attr_fst _ _ _ x u.length (Nat.le_refl _) h h0 (Nat.zero_le _)
    obtain ⟨a, r⟩ := x
    intro t ht
    simp only [List.mem_singleton] at ht
    subst ht
    refine ⟨?_, Nat.zero_le _, ?_⟩
    · cases s
      · exact .inr (.inl rfl)
      · exact .inr (.inr (.inl rfl))
    · cases s
      · exact Nat.le_trans (hr _) h1
      · exact Nat.zero_le _
theorem fits_lt {n : Nat} (h : 1 ≤ n) : Fits n (txt [60]) := ⟨.inl rfl, h, Nat.zero_le _⟩
theorem fits_oth (n : Nat) : Fits n oth := ⟨.inr (.inr (.inr rfl)), Nat.zero_le _, Nat.zero_le _⟩
theorem mem_one {x y : Tk} {r : List UInt8} (h : x ∈ (([y], r) : List Tk × List UInt8).1) : x = y := List.mem_singleton.1 h
theorem first_fits (c : UInt8) (t : List UInt8) (hr : ∀ l : List UInt8, (Esc.rd l).length ≤ l.length) : ∀ k ∈ (first c t).1, Fits (t.length + 1) k := by
  unfold first
  split
  · cases t with
    | nil => intro k hk; rw [angle_nil] at hk; rw [mem_one hk]; exact fits_lt (Nat.le_refl _)
    | cons d u =>
      rw [angle_cons]
      split
      · intro k hk; rw [mem_one hk]; exact fits_oth _
      split
      · intro k hk; rw [mem_one hk]; exact fits_oth _
      split
      · cases u with
        | nil => intro k hk; rw [mem_one hk]; exact fits_lt (by simp)
        | cons e v =>
          rw [shutAt]
          split
          · intro k hk; exact (tag_fits true (e :: v) hr k hk).mono (by simp)
          · intro k hk; rw [mem_one hk]; exact fits_lt (by simp)
      split
      · intro k hk; exact (tag_fits false (d :: u) hr k hk).mono (by simp)
      · intro k hk; rw [mem_one hk]; exact fits_lt (by simp)
  · intro k hk
    rw [mem_one hk]
    refine ⟨.inl rfl, ?_, Nat.zero_le _⟩
    have h1 := hr (c :: t.takeWhile (not 60))
    have h2 := tw_le (not 60) t
    simp only [List.length_cons] at h1
    show (Esc.rd (c :: t.takeWhile (not 60))).length ≤ _
    omega
theorem toks_fits (hr : ∀ l : List UInt8, (Esc.rd l).length ≤ l.length) : ∀ (n : Nat) (l : List UInt8), l.length ≤ n → ∀ t ∈ toks l, Fits n t
  | _, [], _, t, ht => by rw [toks_nil] at ht; cases ht
  | 0, _ :: _, h, _, _ => by simp at h
  | n + 1, c :: u, h, t, ht => by
    have hl := first_len c u
    simp only [List.length_cons] at h
    rw [toks_cons] at ht
    rcases List.mem_append.1 ht with h1 | h1
    · exact (first_fits c u hr t h1).mono (by omega)
    · exact (toks_fits hr n _ (by omega) t h1).mono (by omega)
theorem first_le1 (c : UInt8) (t : List UInt8) : (first c t).1.length ≤ 1 := by
  unfold first
  split
  · cases t with
    | nil => exact Nat.le_refl _
    | cons d u =>
      have ht : ∀ s v, (tag s v).1.length ≤ 1 := fun s v => by
        unfold tag
        split <;> simp
      rw [angle_cons]
      split
      · exact Nat.le_refl _
      split
      · exact Nat.le_refl _
      split
      · cases u with
        | nil => exact Nat.le_refl _
        | cons e v =>
          rw [shutAt]
          split
          · exact ht _ _
          · exact Nat.le_refl _
      split
      · exact ht _ _
      · exact Nat.le_refl _
  · exact Nat.le_refl _
theorem toks_count : ∀ (n : Nat) (l : List UInt8), l.length ≤ n → (toks l).length ≤ l.length
  | _, [], _ => Nat.le_refl _
  | 0, _ :: _, h => by simp at h
  | n + 1, c :: u, h => by
    have hl := first_len c u
    have h1 := first_le1 c u
    simp only [List.length_cons] at h ⊢
    rw [toks_cons, List.length_append]
    have := toks_count n (first c u).2 (by omega)
    omega
end Tk
end Go.Proofs.YtpcaiechaakhnabGreatDoor
