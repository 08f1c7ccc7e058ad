/-
  More of chapter 5 on lists of bytes: how the program goes by what is left of a page, how one goes by places, sets of bytes; and how many tokens there are.
-/
import Derived.Test.YtbhcklkbckacpaaGreatDoorTp0
import Derived.Lib.IndexMore
import Derived.Lib.Strings
namespace Go.Proofs.YtbhcklkbckacpaaGreatDoor
open Go.RowKit
namespace Tk
/-- What is left out ahead of an attribute. -/
def sl (c : UInt8) : Bool := sp c || c == 47
/-- What the program leaves behind an attribute's name: the spaces are taken, too. -/
def restA (r : List UInt8) : List UInt8 :=
  match r.dropWhile sp with
  | [] => []
  | c :: r2 => if c == 61 then (val (r2.dropWhile sp)).2 else c :: r2
theorem sp_ne (c : UInt8) (h : sp c = true) : (c == 62) = false := by
  unfold sp at h
  simp only [Bool.or_eq_true, beq_iff_eq] at h
  rcases h with (((h | h) | h) | h) | h <;> subst h <;> rfl
theorem sl_ne (c : UInt8) (h : sl c = true) : (c == 62) = false := by
  unfold sl at h
  rw [Bool.or_eq_true] at h
  rcases h with h | h
  · exact sp_ne c h
  · rw [beq_iff_eq] at h; subst h; rfl
theorem attr_sl1 (c : UInt8) (t : List UInt8) (h : Option (List UInt8)) (hc : sl c = true) : attr (c :: t) h = attr t h := by
  rw [attr_cons, sl_ne c hc, if_neg Bool.false_ne_true]
  unfold sl at hc
  rw [if_pos hc]
theorem attr_skip (p : UInt8 → Bool) (hp : ∀ c, p c = true → sl c = true) : ∀ (l : List UInt8) (h : Option (List UInt8)), attr (l.dropWhile p) h = attr l h
  | [], _ => rfl
  | c :: t, h => by
    cases hc : p c
    · rw [List.dropWhile_cons, hc]; rfl
    · rw [List.dropWhile_cons, hc, if_pos rfl, attr_skip p hp t h, attr_sl1 c t h (hp c hc)]
theorem attr_sp (l : List UInt8) (h : Option (List UInt8)) : attr (l.dropWhile sp) h = attr l h := attr_skip sp (fun c hc => by unfold sl; rw [hc]; rfl) l h
theorem attr_sl (l : List UInt8) (h : Option (List UInt8)) : attr (l.dropWhile sl) h = attr l h := attr_skip sl (fun _ hc => hc) l h
theorem attr_restA (r : List UInt8) (h : Option (List UInt8)) : attr (restA r) h = attr (value r).2 h := by
  unfold restA value
  cases e : r.dropWhile sp with
  | nil =>
    have := attr_sp r h
    rw [e] at this
    exact this
  | cons c r2 =>
    simp only
    split
    · rfl
    · have := attr_sp r h
      rw [e] at this
      exact this
theorem restA_len (l : List UInt8) : (restA l).length ≤ l.length := by
  unfold restA
  have h0 := dw_len sp l
  cases h : l.dropWhile sp with
  | nil => simp
  | cons c r2 =>
    rw [h] at h0
    simp only
    split
    · have h1 := val_len (r2.dropWhile sp)
      have h2 := dw_len sp r2
      simp at h0
      omega
    · exact h0
theorem restA_eq (r r2 : List UInt8) (h : r.dropWhile sp = 61 :: r2) : restA r = (val (r2.dropWhile sp)).2 ∧ (value r).1 = (val (r2.dropWhile sp)).1 ∧ (value r).2 = (val (r2.dropWhile sp)).2 := by
  unfold restA value
  rw [h]
  exact ⟨rfl, rfl, rfl⟩
theorem restA_ne (r : List UInt8) (h : ∀ r2, r.dropWhile sp ≠ 61 :: r2) : restA r = r.dropWhile sp ∧ (value r).1 = [] ∧ (value r).2 = r := by
  unfold restA value
  cases e : r.dropWhile sp with
  | nil => exact ⟨rfl, rfl, rfl⟩
  | cons c r2 =>
    have hc : (c == 61) = false := by
      rw [beq_eq_false_iff_ne]
      intro hc
      exact h r2 (by rw [e, hc])
    simp only [hc]
    exact ⟨rfl, rfl, rfl⟩
theorem val_len1 (l : List UInt8) : (val l).1.length ≤ l.length := by
  cases l with
  | nil => exact Nat.le_refl _
  | cons q r =>
    rw [val]
    split
    · have := (List.takeWhile_sublist (not q) (l := r)).length_le
      simp only [List.length_cons]
      omega
    · exact (List.takeWhile_sublist avl).length_le
theorem value_len1 (l : List UInt8) : (value l).1.length ≤ l.length := by
  unfold value
  have h0 := dw_len sp l
  cases h : l.dropWhile sp with
  | nil => simp
  | cons c r2 =>
    rw [h] at h0
    simp only
    split
    · have h1 := val_len1 (r2.dropWhile sp)
      have h2 := dw_len sp r2
      simp at h0
      omega
    · simp
/-- A tag at work: its attributes from some place on. -/
theorem attr_go (c : UInt8) (t : List UInt8) (h : Option (List UInt8)) (h1 : (c == 62) = false) (h2 : sl c = false) : attr (c :: t) h =
    attr (restA (t.dropWhile anm)) (if Lk.small (c :: t.takeWhile anm) == hrefL && h.isNone then some (value (t.dropWhile anm)).1 else h) := by
  rw [attr_cons, h1, if_neg Bool.false_ne_true, attr_restA]
  unfold sl at h2
  rw [h2, if_neg Bool.false_ne_true]
theorem after_index (p : List UInt8) (hp : p ≠ []) : ∀ l, (Lib.index l p = -1 ∧ after p l = none) ∨ (∃ k : Nat, Lib.index l p = k ∧ k + p.length ≤ l.length ∧ after p l = some (l.drop (k + p.length)))
  | [] => by
    left
    refine ⟨?_, rfl⟩
    unfold Lib.index
    cases p with
    | nil => exact absurd rfl hp
    | cons a b => rfl
  | c :: t => by
    by_cases h : p.isPrefixOf (c :: t) = true
    · right
      refine ⟨0, ?_, ?_, ?_⟩
      · unfold Lib.index; rw [if_pos h]; rfl
      · have := (List.isPrefixOf_iff_prefix.1 h).length_le; omega
      · rw [after, if_pos h, Nat.zero_add]
    · rcases after_index p hp t with ⟨h1, h2⟩ | ⟨k, h1, h2, h3⟩
      · left
        refine ⟨?_, by rw [after, if_neg h, h2]⟩
        unfold Lib.index
        rw [if_neg h, h1]
        rfl
      · right
        refine ⟨k + 1, ?_, by simp only [List.length_cons]; omega, ?_⟩
        · unfold Lib.index
          have : ((k : Int) == -1) = false := by rw [beq_eq_false_iff_ne]; omega
          rw [if_neg h, h1, this, if_neg Bool.false_ne_true]
          omega
        · rw [after, if_neg h, h3, show k + 1 + p.length = (k + p.length) + 1 by omega, List.drop_succ_cons]
theorem cut_after (p : List UInt8) (hp : p ≠ []) (l : List UInt8) : (Lib.cut l p).2.1 = (after p l).getD [] := by
  unfold Lib.cut
  rcases after_index p hp l with ⟨h1, h2⟩ | ⟨k, h1, h2, h3⟩
  · rw [h1, h2]; rfl
  · rw [h1, h3, if_pos (by omega)]
    simp
/-- Places: behind i, what p holds of is passed by until k. -/
theorem tw_of_dw {l : List UInt8} {p : UInt8 → Bool} {i k : Nat} (hi : i ≤ k) (hk : k ≤ l.length) (h : l.drop k = (l.drop i).dropWhile p) : (l.drop i).take (k - i) = (l.drop i).takeWhile p := by
  have h1 : (l.drop i).takeWhile p ++ (l.drop i).dropWhile p = l.drop i := List.takeWhile_append_dropWhile
  have h2 := congrArg List.length h1
  rw [← h, List.length_append, List.length_drop, List.length_drop] at h2
  have h3 : ((l.drop i).takeWhile p).length = k - i := by omega
  have h4 : (l.drop i).take (k - i) = ((l.drop i).takeWhile p ++ (l.drop i).dropWhile p).take (k - i) := by rw [h1]
  rw [h4, ← h3, List.take_left]
theorem dw_go {l : List UInt8} {p : UInt8 → Bool} {k : Nat} (hk : k < l.length) (h : p l[k] = true) : (l.drop (k + 1)).dropWhile p = (l.drop k).dropWhile p := by
  rw [List.drop_eq_getElem_cons hk, List.dropWhile_cons, h, if_pos rfl]
theorem dw_stop {l : List UInt8} {p : UInt8 → Bool} {k : Nat} (hk : k < l.length) (h : p l[k] = false) : (l.drop k).dropWhile p = l.drop k := by
  rw [List.drop_eq_getElem_cons hk, List.dropWhile_cons, h]
  rfl
theorem dw_end {l : List UInt8} {p : UInt8 → Bool} {k : Nat} (hk : l.length ≤ k) : (l.drop k).dropWhile p = l.drop k := by
  rw [List.drop_eq_nil_of_le hk]
  rfl
/-- Whether a byte is one of a set. -/
def inS (set : List UInt8) (c : UInt8) : Bool := decide (0 ≤ Lib.indexByte set c)
theorem all256 (f : UInt8 → Bool) (h : ∀ n : Fin 256, f (UInt8.ofNat n.val) = true) (c : UInt8) : f c = true := by
  have := h ⟨c.toNat, c.toNat_lt⟩
  simpa using this
theorem in_sp (c : UInt8) : inS [32, 9, 10, 13, 12] c = sp c := by
  have := all256 (fun c => inS [32, 9, 10, 13, 12] c == sp c) (by decide +kernel) c
  simpa using this
theorem in_sl (c : UInt8) : inS [32, 9, 10, 13, 12, 47] c = sl c := by
  have := all256 (fun c => inS [32, 9, 10, 13, 12, 47] c == sl c) (by decide +kernel) c
  simpa using this
theorem in_nam (c : UInt8) : inS [32, 9, 10, 13, 12, 47, 62] c = !nam c := by
  have := all256 (fun c => inS [32, 9, 10, 13, 12, 47, 62] c == !nam c) (by decide +kernel) c
  simpa using this
theorem in_anm (c : UInt8) : inS [32, 9, 10, 13, 12, 47, 62, 61] c = !anm c := by
  have := all256 (fun c => inS [32, 9, 10, 13, 12, 47, 62, 61] c == !anm c) (by decide +kernel) c
  simpa using this
theorem in_avl (c : UInt8) : inS [32, 9, 10, 13, 12, 62] c = !avl c := by
  have := all256 (fun c => inS [32, 9, 10, 13, 12, 62] c == !avl c) (by decide +kernel) c
  simpa using this
theorem in_one (q c : UInt8) : inS [q] c = !not q c := by
  unfold inS not Lib.indexByte Lib.indexByte
  by_cases h : q = c
  · subst h; simp
  · have h1 : (q == c) = false := by simpa using h
    have h2 : (c != q) = true := by simp; exact fun e => h e.symm
    rw [h1, h2]
    simp
theorem first_one (c : UInt8) (t : List UInt8) : (first c t).1.length ≤ 1 := by
  unfold first angle shutAt tag
  split
  · split
    · simp
    split
    · simp
    split
    · simp
    split
    · split
      · simp
      split
      · split <;> simp
      · simp
    split
    · split <;> simp
    · simp
  · simp
theorem toksN_len : ∀ (n : Nat) (l : List UInt8), (toksN n l).length ≤ n
  | 0, _ => Nat.le_refl _
  | _ + 1, [] => by simp [toksN]
  | n + 1, c :: t => by
    have h1 := first_one c t
    have h2 := toksN_len n (first c t).2
    rw [toksN, List.length_append]
    omega
theorem toks_len (l : List UInt8) : (toks l).length ≤ l.length := toksN_len _ _
theorem suf_none (q : UInt8) (r : List UInt8) (h : ∀ y ∈ r, y ≠ q) : ([q] : List UInt8).isSuffixOf r = false := by
  rw [Bool.eq_false_iff]
  intro hs
  have := (List.isSuffixOf_iff_suffix.1 hs).subset (List.mem_singleton.2 rfl)
  exact h q this rfl
/-- A value in quotes, by places. -/
theorem quote_at (q : UInt8) : ∀ r : List UInt8, (Lib.index r [q] = -1 ∧ r.takeWhile (not q) = r ∧ r.dropWhile (not q) = [] ∧ ∀ y ∈ r, y ≠ q) ∨
    ∃ k : Nat, Lib.index r [q] = k ∧ k + 1 ≤ r.length ∧ r.take k = r.takeWhile (not q) ∧ r.take (k + 1) = r.takeWhile (not q) ++ [q] ∧ r.drop (k + 1) = (r.dropWhile (not q)).drop 1
  | [] => .inl ⟨rfl, rfl, rfl, fun _ h => by cases h⟩
  | c :: t => by
    by_cases h : c = q
    · subst h
      have h1 : not c c = false := by unfold not; simp
      have h0 : ([c] : List UInt8).isPrefixOf (c :: t) = true := by simp [List.isPrefixOf]
      refine .inr ⟨0, ?_, by simp, ?_, ?_, ?_⟩
      · unfold Lib.index; rw [if_pos h0]; rfl
      · rw [List.takeWhile_cons, h1]; rfl
      · rw [List.takeWhile_cons, h1]; rfl
      · rw [List.dropWhile_cons, h1]; rfl
    · have h1 : not q c = true := by unfold not; simpa using h
      have h0 : ([q] : List UInt8).isPrefixOf (c :: t) = false := by
        have : (q == c) = false := by simpa using (fun e => h e.symm)
        simp [List.isPrefixOf, this]
      rcases quote_at q t with ⟨a, b, d, e⟩ | ⟨k, a, b, d, e, f⟩
      · refine .inl ⟨?_, ?_, ?_, ?_⟩
        · unfold Lib.index; rw [h0, a]; rfl
        · rw [List.takeWhile_cons, h1, if_pos rfl, b]
        · rw [List.dropWhile_cons, h1, if_pos rfl, d]
        · intro y hy
          rcases List.mem_cons.1 hy with rfl | hy
          · exact h
          · exact e y hy
      · refine .inr ⟨k + 1, ?_, by simp only [List.length_cons]; omega, ?_, ?_, ?_⟩
        · unfold Lib.index
          have : ((k : Int) == -1) = false := by rw [beq_eq_false_iff_ne]; omega
          rw [h0, if_neg Bool.false_ne_true, a, this, if_neg Bool.false_ne_true]
          omega
        · rw [List.take_succ_cons, List.takeWhile_cons, h1, if_pos rfl, d]
        · rw [List.take_succ_cons, List.takeWhile_cons, h1, if_pos rfl, e]; rfl
        · rw [List.drop_succ_cons, List.dropWhile_cons, h1, if_pos rfl, f]
theorem after_one (q : UInt8) (r : List UInt8) : (after [q] r).getD [] = (r.dropWhile (not q)).drop 1 := by
  rcases after_index [q] (by simp) r with ⟨h1, h2⟩ | ⟨k, h1, _, h2⟩
  · rcases quote_at q r with ⟨a, b, d, e⟩ | ⟨k, a, _⟩
    · rw [h2, d]; rfl
    · rw [a] at h1; omega
  · rcases quote_at q r with ⟨a, _⟩ | ⟨k', a, _, _, _, f⟩
    · rw [a] at h1; omega
    · rw [a] at h1
      obtain rfl : k' = k := by omega
      rw [h2, ← f]
      rfl
end Tk
end Go.Proofs.YtbhcklkbckacpaaGreatDoor
