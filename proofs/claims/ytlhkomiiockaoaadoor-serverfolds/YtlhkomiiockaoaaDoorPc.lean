/-
  Chapter 7 on parts: how an operation is made tidy, part by part.
-/
import Derived.Test.YtlhkomiiockaoaaDoorPb
import Derived.Test.YtlhkomiiockaoaaDoorOm
namespace Go.Proofs.YtlhkomiiockaoaaDoor
open Go.RowKit
namespace Ac
/-- What is made so far, and what is put and cut behind it. -/
structure TS where
  out : List Pt
  put : List It
  cut : Nat
def tS (s : TS) (p : Pt) : TS := if p.kind = 1 then ⟨withK (s.out ++ flushP s.put s.cut) p, [], 0⟩ else if p.kind = 2 then ⟨s.out, s.put ++ p.items, s.cut⟩ else ⟨s.out, s.put, s.cut + p.n.toNat⟩
def ts (o : List Pt) : TS := o.foldl tS ⟨[], [], 0⟩
theorem ts_step (o : List Pt) (k : Nat) (h : k < o.length) : ts (o.take (k + 1)) = tS (ts (o.take k)) o[k] := by
  unfold ts
  rw [List.take_succ_eq_append_getElem h, List.foldl_append]
  rfl
def sumN (l : List Pt) : Int := (l.map Pt.n).sum
theorem sumN_app (l l' : List Pt) : sumN (l ++ l') = sumN l + sumN l' := by simp [sumN]
theorem sumN_one (p : Pt) : sumN [p] = p.n := by simp [sumN]
theorem sumN_flush (ps : List It) (n : Nat) : sumN (flushP ps n) = n := by
  unfold flushP
  rw [sumN_app]
  have e1 : sumN (if ps.isEmpty then [] else [putP ps]) = 0 := by split <;> rfl
  have e2 : sumN (if n = 0 then [] else [cutP n]) = n := by
    split
    · rename_i h; subst h; rfl
    · rw [sumN_one]; rfl
  rw [e1, e2]
  omega
theorem flush_n {ps : List It} {n : Nat} {z : Pt} (h : z ∈ flushP ps n) : 0 ≤ z.n := by
  unfold flushP at h
  rcases List.mem_append.1 h with h | h
  · split at h
    · cases h
    · rw [List.mem_singleton.1 h]; exact Int.le_refl _
  · split at h
    · cases h
    · rw [List.mem_singleton.1 h]; exact Int.natCast_nonneg _
theorem sum_le : ∀ {l : List Pt}, (∀ z ∈ l, 0 ≤ z.n) → 0 ≤ sumN l ∧ ∀ z ∈ l, z.n ≤ sumN l
  | [], _ => ⟨by decide, fun z hz => by cases hz⟩
  | p :: l, h => by
    obtain ⟨h0, h1⟩ := sum_le (fun z hz => h z (List.mem_cons_of_mem _ hz))
    have hp := h p (List.mem_cons_self ..)
    have e : sumN (p :: l) = p.n + sumN l := by simp [sumN]
    rw [e]
    refine ⟨by omega, fun z hz => ?_⟩
    rcases List.mem_cons.1 hz with rfl | hz
    · omega
    · have := h1 z hz; omega
theorem usedP_n {p : Pt} (h : p.kind = 1) : (usedP p).n = p.n := by unfold usedP; rw [if_pos h]
theorem withK_sum (o : List Pt) (p : Pt) (hk : p.kind = 1) : sumN (withK o p) = sumN o + p.n ∧ (withK o p).length ≤ o.length + 1 := by
  rcases List.eq_nil_or_concat o with e | ⟨o', q, e⟩
  · rw [e, withK_nil, sumN_one, usedP_n hk]
    simp [sumN]
  · rw [List.concat_eq_append] at e
    rw [e, withK_snoc]
    by_cases h : q.kind = 1 ∧ says q p = true
    · rw [if_pos h, sumN_app, sumN_app, sumN_one, sumN_one]
      refine ⟨by simp only; omega, by simp⟩
    · rw [if_neg h, sumN_app, sumN_app, sumN_one, sumN_one, usedP_n hk]
      exact ⟨rfl, by simp⟩
theorem withK_pos {o : List Pt} {p : Pt} (hk : p.kind = 1) (ho : ∀ z ∈ o, 0 ≤ z.n) (hp : 0 ≤ p.n) : ∀ z ∈ withK o p, 0 ≤ z.n := by
  rcases List.eq_nil_or_concat o with e | ⟨o', q, e⟩
  · rw [e, withK_nil]
    intro z hz
    rw [List.mem_singleton.1 hz, usedP_n hk]
    exact hp
  · rw [List.concat_eq_append] at e
    rw [e] at ho ⊢
    rw [withK_snoc]
    by_cases h : q.kind = 1 ∧ says q p = true
    · rw [if_pos h]
      intro z hz
      rcases List.mem_append.1 hz with hz | hz
      · exact ho z (List.mem_append_left _ hz)
      · rw [List.mem_singleton.1 hz]
        have := ho q (by simp)
        simp only
        omega
    · rw [if_neg h]
      intro z hz
      rcases List.mem_append.1 hz with hz | hz
      · exact ho z hz
      · rw [List.mem_singleton.1 hz, usedP_n hk]; exact hp
/-- What holds on the way. -/
structure TB (s : TS) (o : List Pt) : Prop where
  len : s.out.length + (flushP s.put s.cut).length ≤ o.length
  pos : ∀ z ∈ s.out, 0 ≤ z.n
  sum : sumN s.out + s.cut = nd o
  put : s.put.length ≤ lv o
theorem flush_len (ps : List It) (n : Nat) : (flushP ps n).length = (if ps.isEmpty then 0 else 1) + (if n = 0 then 0 else 1) := by
  unfold flushP
  rw [List.length_append]
  congr 1
  · split <;> rfl
  · split <;> rfl
theorem TB.step {s : TS} {o : List Pt} (h : TB s o) {p : Pt} (hp : err1 p = 0) : TB (tS s p) (o ++ [p]) := by
  have hn := err1_nd hp
  have hb := err1_n hp
  have hl := h.len
  rw [flush_len] at hl
  have e1 : nd (o ++ [p]) = nd o + nd1 p := by rw [nd_app]; simp [nd]
  have e2 : lv (o ++ [p]) = lv o + lv1 p := by rw [lv_app]; simp [lv]
  have hs := h.sum
  have hq := h.put
  unfold tS
  rcases kind_of hp with k | k | k
  · rw [if_pos k]
    have hk := withK_sum (s.out ++ flushP s.put s.cut) p k
    have hfl := h.len
    refine ⟨?_, ?_, ?_, ?_⟩
    · simp only
      have : (flushP ([] : List It) 0).length = 0 := rfl
      rw [this, List.length_append]
      have := hk.2
      rw [List.length_append] at this
      simp
      omega
    · refine withK_pos k (fun z hz => ?_) hb.1
      rcases List.mem_append.1 hz with hz | hz
      · exact h.pos z hz
      · exact flush_n hz
    · simp only
      rw [hk.1, sumN_app, sumN_flush, e1]
      omega
    · simp
  · rw [if_neg (by omega), if_pos k]
    have hn0 : nd1 p = 0 := if_pos k
    have hl1 : lv1 p = p.items.length := (if_neg (by omega)).trans (if_pos k)
    refine ⟨?_, h.pos, by simp only; rw [e1, hn0]; omega, by simp only; rw [List.length_append, e2, hl1]; omega⟩
    simp only
    rw [flush_len, List.length_append, List.length_singleton]
    have ha : (if (s.put ++ p.items).isEmpty = true then 0 else 1) ≤ 1 := by split <;> omega
    generalize (if (s.put ++ p.items).isEmpty = true then 0 else 1) = a at *
    generalize (if s.cut = 0 then 0 else 1) = b at *
    omega
  · rw [if_neg (by omega), if_neg (by omega)]
    have hn0 : nd1 p = p.n.toNat := if_neg (by omega)
    refine ⟨?_, h.pos, by simp only; rw [e1, hn0]; omega, by simp only; omega⟩
    simp only
    rw [flush_len, List.length_append, List.length_singleton]
    have ha : (if s.cut + p.n.toNat = 0 then 0 else 1) ≤ 1 := by split <;> omega
    generalize (if s.cut + p.n.toNat = 0 then 0 else 1) = a at *
    generalize (if s.put.isEmpty = true then 0 else 1) = b at *
    omega
theorem tb_fold : ∀ (o o1 : List Pt) (s : TS), TB s o1 → (∀ p ∈ o, err1 p = 0) → TB (o.foldl tS s) (o1 ++ o)
  | [], o1, s, h, _ => by rw [List.append_nil]; exact h
  | p :: o, o1, s, h, hp => by
    have := tb_fold o (o1 ++ [p]) (tS s p) (h.step (hp p (List.mem_cons_self ..))) (fun q hq => hp q (List.mem_cons_of_mem _ hq))
    rw [List.append_assoc] at this
    exact this
theorem ts_bound {o : List Pt} (h : ∀ p ∈ o, err1 p = 0) : TB (ts o) o := by
  have := tb_fold o [] ⟨[], [], 0⟩ ⟨by simp [flushP], fun z hz => (by cases hz), rfl, by simp⟩ h
  exact this
end Ac
end Go.Proofs.YtlhkomiiockaoaaDoor
