/-
  Chapter 7 on parts: what an operation makes of items, part by part; how many it is for, and leaves; what a right one is.
-/
import Derived.Test.YtlhkomiiockaoaaDoorM4
namespace Go.Proofs.YtlhkomiiockaoaaDoor
open Go.RowKit
namespace Ac
def nd1 (p : Pt) : Nat := if p.kind = 2 then 0 else p.n.toNat
def lv1 (p : Pt) : Nat := if p.kind = 1 then p.n.toNat else if p.kind = 2 then p.items.length else 0
def nd (o : List Pt) : Nat := (o.map nd1).sum
def lv (o : List Pt) : Nat := (o.map lv1).sum
theorem nd_cons (p : Pt) (o : List Pt) : nd (p :: o) = nd1 p + nd o := by simp [nd]
theorem lv_cons (p : Pt) (o : List Pt) : lv (p :: o) = lv1 p + lv o := by simp [lv]
theorem nd_app (o o' : List Pt) : nd (o ++ o') = nd o + nd o' := by simp [nd]
theorem lv_app (o o' : List Pt) : lv (o ++ o') = lv o + lv o' := by simp [lv]
theorem nd_take (o : List Pt) (k : Nat) : nd (o.take k) ≤ nd o := by
  have : nd o = nd (o.take k) + nd (o.drop k) := by rw [← nd_app, List.take_append_drop]
  omega
theorem lv_take (o : List Pt) (k : Nat) : lv (o.take k) ≤ lv o := by
  have : lv o = lv (o.take k) + lv (o.drop k) := by rw [← lv_app, List.take_append_drop]
  omega
/-- What is made so far, and how many items are done with; a part more. -/
def mkS (d : List It) (s : List It × Nat) (p : Pt) : List It × Nat :=
  if p.kind = 1 then (s.1 ++ ((d.drop s.2).take p.n.toNat).map (fun x => change x (chOf p)), s.2 + p.n.toNat) else if p.kind = 2 then (s.1 ++ p.items, s.2) else (s.1, s.2 + p.n.toNat)
def mk (d : List It) (o : List Pt) : List It × Nat := o.foldl (mkS d) ([], 0)
theorem mkS_two (d : List It) (s : List It × Nat) (p : Pt) : (mkS d s p).2 = s.2 + nd1 p := by
  unfold mkS nd1
  by_cases h1 : p.kind = 1
  · rw [if_pos h1, if_neg (by omega)]
  · rw [if_neg h1]
    by_cases h2 : p.kind = 2
    · rw [if_pos h2, if_pos h2]; rfl
    · rw [if_neg h2, if_neg h2]
theorem mk_two (d : List It) : ∀ (o : List Pt) (s : List It × Nat), (o.foldl (mkS d) s).2 = s.2 + nd o
  | [], s => by simp [nd]
  | p :: o, s => by rw [List.foldl_cons, mk_two d o, mkS_two, nd_cons]; omega
theorem mkS_len (d : List It) (s : List It × Nat) (p : Pt) (h : s.2 + nd1 p ≤ d.length) : (mkS d s p).1.length = s.1.length + lv1 p := by
  unfold mkS lv1
  unfold nd1 at h
  by_cases h1 : p.kind = 1
  · rw [if_neg (by omega)] at h
    rw [if_pos h1, if_pos h1]
    simp
    omega
  · rw [if_neg h1, if_neg h1]
    by_cases h2 : p.kind = 2
    · rw [if_pos h2, if_pos h2]; simp
    · rw [if_neg h2, if_neg h2]; rfl
theorem mk_len (d : List It) : ∀ (o : List Pt) (s : List It × Nat), s.2 + nd o ≤ d.length → (o.foldl (mkS d) s).1.length = s.1.length + lv o
  | [], s, _ => by simp [lv]
  | p :: o, s, h => by
    rw [nd_cons] at h
    rw [List.foldl_cons, mk_len d o _ (by rw [mkS_two]; omega), mkS_len d s p (by omega), lv_cons]
    omega
theorem mk_step (d : List It) (o : List Pt) (k : Nat) (h : k < o.length) : mk d (o.take (k + 1)) = mkS d (mk d (o.take k)) o[k] := by
  unfold mk
  rw [List.take_succ_eq_append_getElem h, List.foldl_append]
  rfl
theorem mk_take (d : List It) (o : List Pt) (h : nd o = d.length) (k : Nat) : (mk d (o.take k)).2 ≤ d.length ∧ (mk d (o.take k)).1.length ≤ lv o := by
  have h1 := nd_take o k
  have h2 := lv_take o k
  unfold mk
  rw [mk_two, mk_len d _ _ (by simp; omega)]
  exact ⟨by simp; omega, by simp; omega⟩
theorem ap_keeps (c : Ch) : ∀ (n : Nat) (l : List A) (d : List It), ap (List.replicate n (A.keep c) ++ l) d = if n ≤ d.length then (ap l (d.drop n)).map ((d.take n).map (fun x => change x c) ++ ·) else none
  | 0, l, d => by simp
  | n + 1, l, [] => by simp [List.replicate_succ, ap]
  | n + 1, l, x :: d => by
    rw [List.replicate_succ, List.cons_append, ap_keep, ap_keeps c n l d]
    by_cases h : n ≤ d.length
    · rw [if_pos h, if_pos (by simpa using h)]
      simp [Option.map_map, Function.comp_def]
    · rw [if_neg h, if_neg (by simpa using h)]
      rfl
/-- Part by part it makes what its acts make. -/
theorem mk_ap (d : List It) : ∀ (o : List Pt) (s : List It × Nat), s.2 + nd o = d.length → (∀ p ∈ o, p.kind = 1 ∨ p.kind = 2 ∨ p.kind = 3) → (ap (acts o) (d.drop s.2)).map (s.1 ++ ·) = some (o.foldl (mkS d) s).1
  | [], s, h, _ => by
    have : d.drop s.2 = [] := List.drop_eq_nil_of_le (by simp [nd] at h; omega)
    rw [this, acts_nil]
    simp [ap]
  | p :: o, s, h, hk => by
    rw [nd_cons] at h
    have ih := mk_ap d o (mkS d s p) (by rw [mkS_two]; omega) (fun q hq => hk q (List.mem_cons_of_mem _ hq))
    rw [List.foldl_cons, ← ih, acts_cons]
    rcases hk p (List.mem_cons_self ..) with h1 | h1 | h1
    · have hn : nd1 p = p.n.toNat := if_neg (by omega)
      have ha : acts1 p = List.replicate p.n.toNat (A.keep (chOf p)) := by unfold acts1; rw [if_neg (by omega), if_pos h1]
      have hm : mkS d s p = (s.1 ++ ((d.drop s.2).take p.n.toNat).map (fun x => change x (chOf p)), s.2 + p.n.toNat) := if_pos h1
      rw [ha, hm, ap_keeps, if_pos (by simp; omega), List.drop_drop]
      simp [Option.map_map, Function.comp_def]
    · have ha : acts1 p = p.items.map A.put := by unfold acts1; rw [if_pos h1]
      have hm : mkS d s p = (s.1 ++ p.items, s.2) := (if_neg (by omega)).trans (if_pos h1)
      rw [ha, hm, ap_puts]
      simp [Option.map_map, Function.comp_def]
    · have hn : nd1 p = p.n.toNat := if_neg (by omega)
      have ha : acts1 p = List.replicate p.n.toNat A.cut := by unfold acts1; rw [if_neg (by omega), if_neg (by omega)]
      have hm : mkS d s p = (s.1, s.2 + p.n.toNat) := (if_neg (by omega)).trans (if_neg (by omega))
      rw [ha, hm, ap_cuts, if_pos (by simp; omega), List.drop_drop]
/-- A right operation. -/
structure Right (o : List Pt) : Prop where
  ne : 1 ≤ o.length
  few : o.length ≤ 40
  ok : ∀ p ∈ o, err1 p = 0
  sum : nd o ≤ 80
  last : ∃ o' p, o = o' ++ [p] ∧ p.kind = 1
theorem err1_nd {p : Pt} (h : err1 p = 0) : (nd1 p : Int) = p.n := by
  have hb := err1_n h
  unfold nd1
  by_cases h2 : p.kind = 2
  · obtain ⟨_, hs⟩ := err1_0 h
    have hn := says_nil hs
    unfold usedP at hn
    rw [if_neg (by omega), if_pos h2] at hn
    rw [if_pos h2]
    simp only at hn
    omega
  · rw [if_neg h2]; omega
theorem chks_0 : ∀ (o : List Pt) (z : Int), 0 ≤ z → z ≤ 80 → (chks z o = 0 ↔ (∀ p ∈ o, err1 p = 0) ∧ z + nd o ≤ 80)
  | [], z, h0, h1 => by simp [chks, nd]; omega
  | p :: o, z, h0, h1 => by
    rw [chks, nd_cons]
    by_cases he : err1 p = 0
    · have hn := err1_nd he
      have hb := err1_n he
      rw [if_pos he]
      by_cases h80 : 80 < z + p.n
      · rw [if_pos h80]
        constructor
        · intro h; cases h
        · intro ⟨_, h⟩; omega
      · rw [if_neg h80, chks_0 o (z + p.n) (by omega) (by omega)]
        constructor
        · rintro ⟨h, h'⟩
          refine ⟨fun q hq => ?_, by omega⟩
          rcases List.mem_cons.1 hq with rfl | hq
          · exact he
          · exact h q hq
        · rintro ⟨h, h'⟩
          exact ⟨fun q hq => h q (List.mem_cons_of_mem _ hq), by omega⟩
    · rw [if_neg he]
      constructor
      · intro h; exact absurd h he
      · rintro ⟨h, _⟩; exact absurd (h p (List.mem_cons_self ..)) he
theorem chk_right {o : List Pt} : chk o = 0 ↔ Right o := by
  unfold chk
  by_cases h : o.length < 1 ∨ 40 < o.length
  · rw [if_pos h]
    constructor
    · intro h; cases h
    · intro r; have := r.ne; have := r.few; omega
  · rw [if_neg h]
    have hc := chks_0 o 0 (by decide) (by decide)
    by_cases h0 : chks 0 o = 0
    · rw [if_pos h0]
      obtain ⟨h1, h2⟩ := hc.1 h0
      rcases List.eq_nil_or_concat o with e | ⟨o', p, e⟩
      · subst e; simp at h
      · rw [List.concat_eq_append] at e
        rw [e, List.getLast?_concat]
        simp only
        constructor
        · intro hk
          refine ⟨by rw [← e]; omega, by rw [← e]; omega, by rw [← e]; exact h1, by rw [← e]; omega, o', p, rfl, ?_⟩
          by_cases hp : p.kind = 1
          · exact hp
          · rw [if_neg hp] at hk; cases hk
        · rintro ⟨_, _, _, _, o2, q, e2, hq⟩
          have := List.append_inj' e2 rfl
          simp at this
          rw [if_pos (by rw [this.2]; exact hq)]
    · rw [if_neg h0]
      constructor
      · intro h; exact absurd h h0
      · intro r; exact absurd (hc.2 ⟨r.ok, by have := r.sum; omega⟩) h0
theorem wrap_small {x : Int} (h0 : 0 ≤ x) (h1 : x ≤ 1000000) : wrap64 x = x := by
  unfold wrap64
  omega
theorem kind_of {p : Pt} (h : err1 p = 0) : p.kind = 1 ∨ p.kind = 2 ∨ p.kind = 3 := by
  rcases err0_kind (err1_0 h).1 with h | h | h
  · exact .inl h.1
  · exact .inr (.inl h.1)
  · exact .inr (.inr h.1)
theorem lf_nd : ∀ (o : List Pt) (s : Int), (∀ p ∈ o, err1 p = 0) → 0 ≤ s → s + nd o ≤ 1000000 → o.foldl lfS s = s + nd o
  | [], s, _, _, _ => by simp [nd]
  | p :: o, s, h, h0, h1 => by
    rw [nd_cons] at h1 ⊢
    have hp := h p (List.mem_cons_self ..)
    have hn := err1_nd hp
    have e : lfS s p = s + nd1 p := by
      unfold lfS
      rcases kind_of hp with k | k | k
      · rw [if_pos (.inl k), wrap_small (by omega) (by omega), hn]
      · rw [if_neg (by omega)]; unfold nd1; rw [if_pos k]; simp
      · rw [if_pos (.inr k), wrap_small (by omega) (by omega), hn]
    rw [List.foldl_cons, lf_nd o _ (fun q hq => h q (List.mem_cons_of_mem _ hq)) (by omega) (by omega), e]
    omega
theorem lt_lv : ∀ (o : List Pt) (s : Int), (∀ p ∈ o, err1 p = 0) → 0 ≤ s → s + lv o ≤ 1000000 → o.foldl ltS s = s + lv o
  | [], s, _, _, _ => by simp [lv]
  | p :: o, s, h, h0, h1 => by
    rw [lv_cons] at h1 ⊢
    have hp := h p (List.mem_cons_self ..)
    have hn := err1_n hp
    have e : ltS s p = s + lv1 p := by
      unfold ltS lv1
      unfold lv1 at h1
      rcases kind_of hp with k | k | k
      · rw [if_pos k] at h1
        rw [if_pos k, if_pos k, wrap_small (by omega) (by omega)]
        omega
      · rw [if_neg (by omega), if_pos k] at h1
        rw [if_neg (by omega), if_pos k, if_neg (by omega), if_pos k, wrap_small (by omega) (by omega)]
      · rw [if_neg (by omega), if_neg (by omega), if_neg (by omega), if_neg (by omega)]
        simp
    rw [List.foldl_cons, lt_lv o _ (fun q hq => h q (List.mem_cons_of_mem _ hq)) (by omega) (by omega), e]
    omega
theorem err1_lv {p : Pt} (h : err1 p = 0) : lv1 p ≤ 80 := by
  have hb := err1_n h
  unfold lv1
  rcases err0_kind (err1_0 h).1 with ⟨k, _⟩ | ⟨k, he⟩ | ⟨k, _⟩
  · rw [if_pos k]; omega
  · rw [if_neg (by omega), if_pos k]
    unfold errPut at he
    by_cases hh : p.items.length < 1 ∨ 80 < p.items.length
    · rw [if_pos hh] at he; cases he
    · omega
  · rw [if_neg (by omega), if_neg (by omega)]; omega
theorem lv_le : ∀ (o : List Pt), (∀ p ∈ o, err1 p = 0) → lv o ≤ o.length * 80
  | [], _ => by simp [lv]
  | p :: o, h => by
    rw [lv_cons, List.length_cons]
    have := err1_lv (h p (List.mem_cons_self ..))
    have := lv_le o (fun q hq => h q (List.mem_cons_of_mem _ hq))
    omega
theorem Right.lf {o : List Pt} (h : Right o) : Ac.lf o = nd o := by
  have := lf_nd o 0 h.ok (by decide) (by have := h.sum; omega)
  unfold Ac.lf
  omega
theorem Right.lt {o : List Pt} (h : Right o) : Ac.lt o = lv o := by
  have hl := lv_le o h.ok
  have hf := h.few
  have := lt_lv o 0 h.ok (by decide) (by omega)
  unfold Ac.lt
  omega
end Ac
end Go.Proofs.YtlhkomiiockaoaaDoor
