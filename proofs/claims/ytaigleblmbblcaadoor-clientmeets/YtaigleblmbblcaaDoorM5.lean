/-
  Texts of this proof, one behind the other.
-/
import Derived.Test.YtaigleblmbblcaaDoorM4
import Derived.Deep.RegionHeld3

/-
  Chapter 7 on parts: what an operation makes of items, part by part; how many it is for, and leaves; what a right one is.
-/
namespace Go.Proofs.YtaigleblmbblcaaDoor
open Go.RowKit
namespace Ac
def nd1 (p : Pt) : Nat := if p.kind = 2 then 0 else p.n.toNat
def lv1 (p : Pt) : Nat := if p.kind = 1 then p.n.toNat else if p.kind = 2 then p.items.length else 0
def nd (o : List Pt) : Nat := (o.map nd1).sum
def lv (o : List Pt) : Nat := (o.map lv1).sum
theorem nd_cons (p : Pt) (o : List Pt) : nd (p :: o) = nd1 p + nd o := by simp [nd]
theorem lv_cons (p : Pt) (o : List Pt) : lv (p :: o) = lv1 p + lv o := by simp [lv]
theorem nd_app (o o' : List Pt) : nd (o ++ o') = nd o + nd o' := by simp [nd]
theorem lv_app (o o' : List Pt) : lv (o ++ o') = lv o + lv o' := by simp [lv]
theorem nd_take (o : List Pt) (k : Nat) : nd (o.take k) ≤ nd o := by
  have : nd o = nd (o.take k) + nd (o.drop k) := by rw [← nd_app, List.take_append_drop]
  omega
theorem lv_take (o : List Pt) (k : Nat) : lv (o.take k) ≤ lv o := by
  have : lv o = lv (o.take k) + lv (o.drop k) := by rw [← lv_app, List.take_append_drop]
  omega
/-- What is made so far, and how many items are done with; a part more. -/
def mkS (d : List It) (s : List It × Nat) (p : Pt) : List It × Nat :=
  if p.kind = 1 then (s.1 ++ ((d.drop s.2).take p.n.toNat).map (fun x => change x (chOf p)), s.2 + p.n.toNat) else if p.kind = 2 then (s.1 ++ p.items, s.2) else (s.1, s.2 + p.n.toNat)
def mk (d : List It) (o : List Pt) : List It × Nat := o.foldl (mkS d) ([], 0)
theorem mkS_two (d : List It) (s : List It × Nat) (p : Pt) : (mkS d s p).2 = s.2 + nd1 p := by
  unfold mkS nd1
  by_cases h1 : p.kind = 1
  · rw [if_pos h1, if_neg (by omega)]
  · rw [if_neg h1]
    by_cases h2 : p.kind = 2
    · rw [if_pos h2, if_pos h2]; rfl
    · rw [if_neg h2, if_neg h2]
theorem mk_two (d : List It) : ∀ (o : List Pt) (s : List It × Nat), (o.foldl (mkS d) s).2 = s.2 + nd o
  | [], s => by simp [nd]
  | p :: o, s => by rw [List.foldl_cons, mk_two d o, mkS_two, nd_cons]; omega
theorem mkS_len (d : List It) (s : List It × Nat) (p : Pt) (h : s.2 + nd1 p ≤ d.length) : (mkS d s p).1.length = s.1.length + lv1 p := by
  unfold mkS lv1
  unfold nd1 at h
  by_cases h1 : p.kind = 1
  · rw [if_neg (by omega)] at h
    rw [if_pos h1, if_pos h1]
    simp
    omega
  · rw [if_neg h1, if_neg h1]
    by_cases h2 : p.kind = 2
    · rw [if_pos h2, if_pos h2]; simp
    · rw [if_neg h2, if_neg h2]; rfl
theorem mk_len (d : List It) : ∀ (o : List Pt) (s : List It × Nat), s.2 + nd o ≤ d.length → (o.foldl (mkS d) s).1.length = s.1.length + lv o
  | [], s, _ => by simp [lv]
  | p :: o, s, h => by
    rw [nd_cons] at h
    rw [List.foldl_cons, mk_len d o _ (by rw [mkS_two]; omega), mkS_len d s p (by omega), lv_cons]
    omega
theorem mk_step (d : List It) (o : List Pt) (k : Nat) (h : k < o.length) : mk d (o.take (k + 1)) = mkS d (mk d (o.take k)) o[k] := by
  unfold mk
  rw [List.take_succ_eq_append_getElem h, List.foldl_append]
  rfl
theorem mk_take (d : List It) (o : List Pt) (h : nd o = d.length) (k : Nat) : (mk d (o.take k)).2 ≤ d.length ∧ (mk d (o.take k)).1.length ≤ lv o := by
  have h1 := nd_take o k
  have h2 := lv_take o k
  unfold mk
  rw [mk_two, mk_len d _ _ (by simp; omega)]
  exact ⟨by simp; omega, by simp; omega⟩
theorem ap_keeps (c : Ch) : ∀ (n : Nat) (l : List A) (d : List It), ap (List.replicate n (A.keep c) ++ l) d = if n ≤ d.length then (ap l (d.drop n)).map ((d.take n).map (fun x => change x c) ++ ·) else none
  | 0, l, d => by simp
  | n + 1, l, [] => by simp [List.replicate_succ, ap]
  | n + 1, l, x :: d => by
    rw [List.replicate_succ, List.cons_append, ap_keep, ap_keeps c n l d]
    by_cases h : n ≤ d.length
    · rw [if_pos h, if_pos (by simpa using h)]
      simp [Option.map_map, Function.comp_def]
    · rw [if_neg h, if_neg (by simpa using h)]
      rfl
/-- Part by part it makes what its acts make. -/
theorem mk_ap (d : List It) : ∀ (o : List Pt) (s : List It × Nat), s.2 + nd o = d.length → (∀ p ∈ o, p.kind = 1 ∨ p.kind = 2 ∨ p.kind = 3) → (ap (acts o) (d.drop s.2)).map (s.1 ++ ·) = some (o.foldl (mkS d) s).1
  | [], s, h, _ => by
    have : d.drop s.2 = [] := List.drop_eq_nil_of_le (by simp [nd] at h; omega)
    rw [this, acts_nil]
    simp [ap]
  | p :: o, s, h, hk => by
    rw [nd_cons] at h
    have ih := mk_ap d o (mkS d s p) (by rw [mkS_two]; omega) (fun q hq => hk q (List.mem_cons_of_mem _ hq))
    rw [List.foldl_cons, ← ih, acts_cons]
    rcases hk p (List.mem_cons_self ..) with h1 | h1 | h1
    · have hn : nd1 p = p.n.toNat := if_neg (by omega)
      have ha : acts1 p = List.replicate p.n.toNat (A.keep (chOf p)) := by unfold acts1; rw [if_neg (by omega), if_pos h1]
      have hm : mkS d s p = (s.1 ++ ((d.drop s.2).take p.n.toNat).map (fun x => change x (chOf p)), s.2 + p.n.toNat) := if_pos h1
      rw [ha, hm, ap_keeps, if_pos (by simp; omega), List.drop_drop]
      simp [Option.map_map, Function.comp_def]
    · have ha : acts1 p = p.items.map A.put := by unfold acts1; rw [if_pos h1]
      have hm : mkS d s p = (s.1 ++ p.items, s.2) := (if_neg (by omega)).trans (if_pos h1)
      rw [ha, hm, ap_puts]
      simp [Option.map_map, Function.comp_def]
    · have hn : nd1 p = p.n.toNat := if_neg (by omega)
      have ha : acts1 p = List.replicate p.n.toNat A.cut := by unfold acts1; rw [if_neg (by omega), if_neg (by omega)]
      have hm : mkS d s p = (s.1, s.2 + p.n.toNat) := (if_neg (by omega)).trans (if_neg (by omega))
      rw [ha, hm, ap_cuts, if_pos (by simp; omega), List.drop_drop]
/-- A right operation. -/
structure Right (o : List Pt) : Prop where
  ne : 1 ≤ o.length
  few : o.length ≤ 40
  ok : ∀ p ∈ o, err1 p = 0
  sum : nd o ≤ 80
  last : ∃ o' p, o = o' ++ [p] ∧ p.kind = 1
theorem err1_nd {p : Pt} (h : err1 p = 0) : (nd1 p : Int) = p.n := by
  have hb := err1_n h
  unfold nd1
  by_cases h2 : p.kind = 2
  · obtain ⟨_, hs⟩ := err1_0 h
    have hn := says_nil hs
    unfold usedP at hn
    rw [if_neg (by omega), if_pos h2] at hn
    rw [if_pos h2]
    simp only at hn
    omega
  · rw [if_neg h2]; omega
theorem chks_0 : ∀ (o : List Pt) (z : Int), 0 ≤ z → z ≤ 80 → (chks z o = 0 ↔ (∀ p ∈ o, err1 p = 0) ∧ z + nd o ≤ 80)
  | [], z, h0, h1 => by simp [chks, nd]; omega
  | p :: o, z, h0, h1 => by
    rw [chks, nd_cons]
    by_cases he : err1 p = 0
    · have hn := err1_nd he
      have hb := err1_n he
      rw [if_pos he]
      by_cases h80 : 80 < z + p.n
      · rw [if_pos h80]
        constructor
        · intro h; cases h
        · intro ⟨_, h⟩; omega
      · rw [if_neg h80, chks_0 o (z + p.n) (by omega) (by omega)]
        constructor
        · rintro ⟨h, h'⟩
          refine ⟨fun q hq => ?_, by omega⟩
          rcases List.mem_cons.1 hq with rfl | hq
          · exact he
          · exact h q hq
        · rintro ⟨h, h'⟩
          exact ⟨fun q hq => h q (List.mem_cons_of_mem _ hq), by omega⟩
    · rw [if_neg he]
      constructor
      · intro h; exact absurd h he
      · rintro ⟨h, _⟩; exact absurd (h p (List.mem_cons_self ..)) he
theorem chk_right {o : List Pt} : chk o = 0 ↔ Right o := by
  unfold chk
  by_cases h : o.length < 1 ∨ 40 < o.length
  · rw [if_pos h]
    constructor
    · intro h; cases h
    · intro r; have := r.ne; have := r.few; omega
  · rw [if_neg h]
    have hc := chks_0 o 0 (by decide) (by decide)
    by_cases h0 : chks 0 o = 0
    · rw [if_pos h0]
      obtain ⟨h1, h2⟩ := hc.1 h0
      rcases List.eq_nil_or_concat o with e | ⟨o', p, e⟩
      · subst e; simp at h
      · rw [List.concat_eq_append] at e
        rw [e, List.getLast?_concat]
        simp only
        constructor
        · intro hk
          refine ⟨by rw [← e]; omega, by rw [← e]; omega, by rw [← e]; exact h1, by rw [← e]; omega, o', p, rfl, ?_⟩
          by_cases hp : p.kind = 1
          · exact hp
          · rw [if_neg hp] at hk; cases hk
        · rintro ⟨_, _, _, _, o2, q, e2, hq⟩
          have := List.append_inj' e2 rfl
          simp at this
          rw [if_pos (by rw [this.2]; exact hq)]
    · rw [if_neg h0]
      constructor
      · intro h; exact absurd h h0
      · intro r; exact absurd (hc.2 ⟨r.ok, by have := r.sum; omega⟩) h0
theorem wrap_small {x : Int} (h0 : 0 ≤ x) (h1 : x ≤ 1000000) : wrap64 x = x := by
  unfold wrap64
  omega
theorem kind_of {p : Pt} (h : err1 p = 0) : p.kind = 1 ∨ p.kind = 2 ∨ p.kind = 3 := by
  rcases err0_kind (err1_0 h).1 with h | h | h
  · exact .inl h.1
  · exact .inr (.inl h.1)
  · exact .inr (.inr h.1)
theorem lf_nd : ∀ (o : List Pt) (s : Int), (∀ p ∈ o, err1 p = 0) → 0 ≤ s → s + nd o ≤ 1000000 → o.foldl lfS s = s + nd o
  | [], s, _, _, _ => by simp [nd]
  | p :: o, s, h, h0, h1 => by
    rw [nd_cons] at h1 ⊢
    have hp := h p (List.mem_cons_self ..)
    have hn := err1_nd hp
    have e : lfS s p = s + nd1 p := by
      unfold lfS
      rcases kind_of hp with k | k | k
      · rw [if_pos (.inl k), wrap_small (by omega) (by omega), hn]
      · rw [if_neg (by omega)]; unfold nd1; rw [if_pos k]; simp
      · rw [if_pos (.inr k), wrap_small (by omega) (by omega), hn]
    rw [List.foldl_cons, lf_nd o _ (fun q hq => h q (List.mem_cons_of_mem _ hq)) (by omega) (by omega), e]
    omega
theorem lt_lv : ∀ (o : List Pt) (s : Int), (∀ p ∈ o, err1 p = 0) → 0 ≤ s → s + lv o ≤ 1000000 → o.foldl ltS s = s + lv o
  | [], s, _, _, _ => by simp [lv]
  | p :: o, s, h, h0, h1 => by
    rw [lv_cons] at h1 ⊢
    have hp := h p (List.mem_cons_self ..)
    have hn := err1_n hp
    have e : ltS s p = s + lv1 p := by
      unfold ltS lv1
      unfold lv1 at h1
      rcases kind_of hp with k | k | k
      · rw [if_pos k] at h1
        rw [if_pos k, if_pos k, wrap_small (by omega) (by omega)]
        omega
      · rw [if_neg (by omega), if_pos k] at h1
        rw [if_neg (by omega), if_pos k, if_neg (by omega), if_pos k, wrap_small (by omega) (by omega)]
      · rw [if_neg (by omega), if_neg (by omega), if_neg (by omega), if_neg (by omega)]
        simp
    rw [List.foldl_cons, lt_lv o _ (fun q hq => h q (List.mem_cons_of_mem _ hq)) (by omega) (by omega), e]
    omega
theorem err1_lv {p : Pt} (h : err1 p = 0) : lv1 p ≤ 80 := by
  have hb := err1_n h
  unfold lv1
  rcases err0_kind (err1_0 h).1 with ⟨k, _⟩ | ⟨k, he⟩ | ⟨k, _⟩
  · rw [if_pos k]; omega
  · rw [if_neg (by omega), if_pos k]
    unfold errPut at he
    by_cases hh : p.items.length < 1 ∨ 80 < p.items.length
    · rw [if_pos hh] at he; cases he
    · omega
  · rw [if_neg (by omega), if_neg (by omega)]; omega
theorem lv_le : ∀ (o : List Pt), (∀ p ∈ o, err1 p = 0) → lv o ≤ o.length * 80
  | [], _ => by simp [lv]
  | p :: o, h => by
    rw [lv_cons, List.length_cons]
    have := err1_lv (h p (List.mem_cons_self ..))
    have := lv_le o (fun q hq => h q (List.mem_cons_of_mem _ hq))
    omega
theorem Right.lf {o : List Pt} (h : Right o) : Ac.lf o = nd o := by
  have := lf_nd o 0 h.ok (by decide) (by have := h.sum; omega)
  unfold Ac.lf
  omega
theorem Right.lt {o : List Pt} (h : Right o) : Ac.lt o = lv o := by
  have hl := lv_le o h.ok
  have hf := h.few
  have := lt_lv o 0 h.ok (by decide) (by omega)
  unfold Ac.lt
  omega
end Ac
end Go.Proofs.YtaigleblmbblcaaDoor

/-
  Package op: Apply, of whatever document and operation.
-/
namespace Go.Proofs.YtaigleblmbblcaaDoor
open Go.RowKit

theorem elemD : Tryd.prog.elem 23 = 62 := by kernel_rfl
theorem under_doc : Tryd.prog.underlying 23 = some (.slice (Tryd.prog.elem 23)) := by kernel_rfl
theorem slice_d (b off n cap i k : Nat) (hi : i < k) (hk : k ≤ n) (hc : n ≤ cap) (w : World) : (Instr.slice 23 (.slice (some ⟨b, off, none⟩) n cap) (some (.int .i64 i)) (some (.int .i64 k)) none).run Tryd.prog w = .ok (.slice (some ⟨b, off + i * 3, none⟩) (k - i) (cap - i)) w := by
  rw [run_slice_lh (P := Tryd.prog) (w := w) 23 _ n cap under_doc .i64 .i64 (i : Int) (k : Int) (by omega) (by omega) (by omega), elemD, Tryd.sizeOf62 w]
  simp only [Result.andThen, Int.toNat_natCast]
  congr 1
  unfold sliced
  have e : (⟨b, off, none⟩ : Addr).add (i * 3) = ⟨b, off + i * 3, none⟩ := by unfold Addr.add; split <;> simp_all
  rw [if_neg (by omega)]
  simp only [Option.map_some, e]
theorem At.part {w : World} {b off : Nat} {l : List It} (h : At w b off l) (a q : Nat) : At w b (off + a * 3) ((l.drop a).take q) := by
  have hx : ∀ i (hi : i < ((l.drop a).take q).length), ∃ hj : a + i < l.length, ((l.drop a).take q)[i] = l[a + i] := fun i hi => by
    have h1 : i < (l.drop a).length := by have := List.length_take_le q (l.drop a); simp at hi; simp; omega
    refine ⟨by simp at h1; omega, ?_⟩
    rw [List.getElem_take, List.getElem_drop]
  refine ⟨fun i hi => ?_, fun i hi => ?_, fun i hi => ?_⟩
  · obtain ⟨hj, e⟩ := hx i hi
    rw [e, show off + a * 3 + i * 3 = off + (a + i) * 3 by omega]
    exact h.c _ hj
  · obtain ⟨hj, e⟩ := hx i hi
    rw [e, show off + a * 3 + i * 3 = off + (a + i) * 3 by omega]
    exact h.m _ hj
  · obtain ⟨hj, e⟩ := hx i hi
    rw [e, show off + a * 3 + i * 3 = off + (a + i) * 3 by omega]
    exact h.l _ hj

set_option maxRecDepth 100000 in
set_option maxHeartbeats 1600000 in
theorem next_any (A D b off n cap a q k : Nat) (w : World) (hA : Blk w A [.int .i64 a] 3) (hD : Blk w D [.slice (some ⟨b, off, none⟩) n cap] 23) (hne : D ≠ A) (hk : a + q = k) (hq : 0 < q) (hkn : k ≤ n) (h80 : n ≤ 80) (hcap : n ≤ cap) :
    Calls Tryd.prog 17 #[.int .i64 q, .pointer (some ⟨A, 0, none⟩), .pointer (some ⟨D, 0, none⟩)] w fun e w' => e = .returned (.slice (some ⟨b, off + a * 3, none⟩) q (cap - a)) ∧ w' = w.setCell ⟨A, 0, none⟩ (.int .i64 k) := by
  have a0 : w.cell? ⟨A, 0, none⟩ = some (.int .i64 a) := hA.cell 0
  have f0 := hA.frozen 0
  have HB2 : Hid (Blk (w.setCell ⟨A, 0, none⟩ (.int .i64 k)) A [.int .i64 k] 3) := hA.set 0 _
  have HD2 : Hid (Blk (w.setCell ⟨A, 0, none⟩ (.int .i64 k)) D [.slice (some ⟨b, off, none⟩) n cap] 23) := hD.other _ _ hne
  have hw1 : wrap64 ((a : Int) + (q : Int)) = (k : Int) := by unfold wrap64; omega
  have hw2 : wrap64 ((k : Int) - (q : Int)) = (a : Int) := by unfold wrap64; omega
  have hsl := slice_d b off n cap a k (by omega) hkn hcap
  have hqq : k - a = q := by omega
  rw [hqq] at hsl
  have HR : Hid (k ≤ 80) := by show _ ≤ _; omega
  clear hA hD hqq hk
  go_enter Tryd.func17, Tryd.ntmps17
  go_upto_region 2 with fail
  change Code.wp Tryd.prog _ _ _ (w.setCell ⟨A, 0, none⟩ (.int .i64 k))
  obtain ⟨W, hW⟩ : ∃ W, w.setCell ⟨A, 0, none⟩ (.int .i64 k) = W := ⟨_, rfl⟩
  rw [hW] at HB2 HD2 ⊢
  have a1 : W.cell? ⟨A, 0, none⟩ = some (.int .i64 k) := HB2.out.cell 0
  have d1 : W.cell? ⟨D, 0, none⟩ = some (.slice (some ⟨b, off, none⟩) n cap) := HD2.out.cell 0
  have HW : Hid (w.setCell ⟨A, 0, none⟩ (.int .i64 k) = W) := hW
  clear hW a0 f0
  go_wp2
  go_ret
  exact ⟨rfl, HW.out.symm⟩

/-- Where the loop of Apply stands. -/
structure ApI (w2 : World) (mv : Value) (s : List It × Nat) (wr : World) : Prop where
  own : wr.ownsRow (w2.heap.size + 1) 62 3 mv s.1.length (itCells s.1)
  atv : Blk wr w2.heap.size [.int .i64 s.2] 3
  blw : Below w2.heap.size w2 wr
  fit : Fit s.1
theorem ApI.lt {w2 : World} {mv : Value} {s : List It × Nat} {wr : World} (h : ApI w2 mv s wr) : w2.heap.size < wr.heap.size := h.atv.lt
theorem below_low {B : Nat} {w w' : World} (hB : B ≤ w.heap.size) (h : Below w.heap.size w w') : Below B w w' := h.mono hB
/-- Something is appended behind what may have been done below. -/
theorem ApI.push {w2 : World} {mv : Value} {s s' : List It × Nat} {wr w7 w8 : World} {mv' : Value} (h : ApI w2 mv s wr) (hat : Blk w7 w2.heap.size [.int .i64 s'.2] 3) (hb : Below w2.heap.size w2 w7)
    (hown : w8.ownsRow (w2.heap.size + 1) 62 3 mv' s'.1.length (itCells s'.1)) (hg : w7.grownBy w8 mv.ownBlock) (hf : Fit s'.1) : ApI w2 mv' s' w8 := by
  have hne : ∀ k, k < w2.heap.size + 1 → some k ≠ mv.ownBlock := fun k hk e => by have := ownBlk_ge h.own k e.symm; omega
  refine ⟨hown, (hg.block _ hat.lt (hne _ (Nat.lt_succ_self _))).trans hat, hb.trans ⟨hg.os, hg.tape, hg.output, hg.size, fun k hk => hg.block k (by have := hat.lt; omega) (hne k (by omega))⟩, hf⟩
theorem fit_app {l l' : List It} (h : Fit l) (h' : Fit l') : Fit (l ++ l') := fun x hx => by
  rcases List.mem_append.1 hx with hx | hx
  · exact h x hx
  · exact h' x hx
theorem fit_change {l : List It} (h : Fit l) (c : Ac.Ch) (hc : c.link.size ≤ 9223372036854775807) : Fit (l.map fun x => Ac.change x c) := fun x hx => by
  obtain ⟨y, hy, rfl⟩ := List.mem_map.1 hx
  unfold Ac.change
  simp only
  split
  · exact hc
  · exact h y hy
theorem fit_part {l : List It} (h : Fit l) (a q : Nat) : Fit ((l.drop a).take q) := fun x hx => h x (List.mem_of_mem_drop (List.mem_of_mem_take hx))
theorem m4_part {l : List It} (h : Ac.M4 l) (a q : Nat) : Ac.M4 ((l.drop a).take q) := fun x hx => h x (List.mem_of_mem_drop (List.mem_of_mem_take hx))

end Go.Proofs.YtaigleblmbblcaaDoor

/-
  Package op: Apply, of whatever document and operation.
-/
namespace Go.Proofs.YtaigleblmbblcaaDoor
open Go.RowKit
namespace Ac
theorem errs_all : ∀ {l : List It}, Dc.errs l = 0 → ∀ x ∈ l, Dc.err x = 0
  | [], _, x, hx => by cases hx
  | y :: l, h, x, hx => by
    rw [Dc.errs] at h
    by_cases hy : Dc.err y = 0
    · rw [if_pos hy] at h
      rcases List.mem_cons.1 hx with rfl | hx
      · exact hy
      · exact errs_all h x hx
    · rw [if_neg hy] at h; exact absurd h hy
theorem errs_of : ∀ {l : List It}, (∀ x ∈ l, Dc.err x = 0) → Dc.errs l = 0
  | [], _ => rfl
  | y :: l, h => by rw [Dc.errs, if_pos (h y (List.mem_cons_self ..))]; exact errs_of (fun x hx => h x (List.mem_cons_of_mem _ hx))
theorem err_parts {x : It} (h : Dc.err x = 0) : (Dc.ends x = true ∨ Dc.isChar x = true) ∧ m4 x.m ∧ Dc.link x = true := by
  unfold Dc.err at h
  cases h1 : Dc.ends x
  · cases h2 : Dc.isChar x
    · rw [h1, h2] at h; cases h
    · rw [h1, h2] at h
      cases h3 : Dc.marks x
      · rw [h3] at h; cases h
      · rw [h3] at h
        cases h4 : Dc.link x
        · rw [h4] at h; cases h
        · refine ⟨.inr rfl, ?_, rfl⟩
          unfold Dc.marks at h3
          simp only [Bool.and_eq_true, decide_eq_true_eq] at h3
          exact h3
  · rw [h1] at h
    cases h3 : Dc.marks x
    · rw [h3] at h; cases h
    · rw [h3] at h
      cases h4 : Dc.link x
      · rw [h4] at h; cases h
      · refine ⟨.inl rfl, ?_, rfl⟩
        unfold Dc.marks at h3
        simp only [Bool.and_eq_true, decide_eq_true_eq] at h3
        exact h3
theorem check_0 {l : List It} (h : Dc.check l = 0) : l.length ≤ 80 ∧ Dc.errs l = 0 ∧ ∃ l' x, l = l' ++ [x] ∧ Dc.ends x = true := by
  have h80 : ¬ 80 < l.length := fun h' => by rw [Dc.check_many h'] at h; cases h
  have h0 : Dc.errs l = 0 := by
    by_cases h0 : Dc.errs l = 0
    · exact h0
    · rw [Dc.check_errs h80 h0] at h; exact h
  refine ⟨by omega, h0, ?_⟩
  rcases List.eq_nil_or_concat l with e | ⟨l', x, e⟩
  · rw [Dc.check_none h0 (by rw [e]; rfl)] at h; cases h
  · rw [List.concat_eq_append] at e
    have hl : l'.length < l.length := by rw [e]; simp
    rw [Dc.check_last h80 h0 hl (by rw [e]; simp)] at h
    have e2 : l[l'.length] = x := by simp [e]
    rw [e2] at h
    refine ⟨l', x, e, ?_⟩
    cases hx : Dc.ends x
    · rw [hx] at h; cases h
    · rfl
theorem check_m4 {l : List It} (h : Dc.check l = 0) : M4 l := fun x hx => (err_parts (errs_all (check_0 h).2.1 x hx)).2.1
theorem fit_0 {d : List It} {o : List Pt} (h : fitE d o = 0) : Dc.check d = 0 ∧ Right o ∧ nd o = d.length ∧ lv o ≤ 80 := by
  unfold fitE at h
  by_cases h1 : Dc.check d = 0
  · rw [if_pos h1] at h
    by_cases h2 : chk o = 0
    · rw [if_pos h2] at h
      have hr := chk_right.1 h2
      rw [hr.lf, hr.lt] at h
      by_cases h3 : (nd o : Int) = d.length
      · rw [if_pos h3] at h
        by_cases h4 : 80 < (lv o : Int)
        · rw [if_pos h4] at h; cases h
        · exact ⟨h1, hr, by omega, by omega⟩
      · rw [if_neg h3] at h; cases h
    · rw [if_neg h2] at h; exact absurd h h2
  · rw [if_neg h1] at h; exact absurd h h1
theorem fit_of {d : List It} {o : List Pt} (h1 : Dc.check d = 0) (hr : Right o) (h3 : nd o = d.length) (h4 : lv o ≤ 80) : fitE d o = 0 := by
  unfold fitE
  rw [if_pos h1, if_pos (chk_right.2 hr), hr.lf, hr.lt, if_pos (by omega), if_neg (by omega)]
theorem areM_m4 {a : Int} (h : areM a = true) : m4 a := by
  unfold areM at h
  simp only [Bool.and_eq_true, decide_eq_true_eq] at h
  exact h
theorem keep_m4 {p : Pt} (h : err1 p = 0) (hk : p.kind = 1) : m4 p.set ∧ m4 p.clr ∧ 1 ≤ p.n ∧ p.n ≤ 80 := by
  rcases err0_kind (err1_0 h).1 with ⟨_, he⟩ | ⟨h2, _⟩ | ⟨h3, _⟩
  · obtain ⟨hm, _, hn⟩ := errK_0 he
    unfold marksBad at hm
    simp only [Bool.or_eq_false_iff, Bool.not_eq_false'] at hm
    exact ⟨areM_m4 hm.1, areM_m4 hm.2.1, errN_0 hn⟩
  · omega
  · omega
theorem put_len {p : Pt} (h : err1 p = 0) (hk : p.kind = 2) : 1 ≤ p.items.length ∧ p.items.length ≤ 80 ∧ Dc.errs p.items = 0 := by
  rcases err0_kind (err1_0 h).1 with ⟨_, he⟩ | ⟨_, he⟩ | ⟨h3, _⟩
  · omega
  · unfold errPut at he
    by_cases hh : p.items.length < 1 ∨ 80 < p.items.length
    · rw [if_pos hh] at he; cases he
    · rw [if_neg hh] at he; exact ⟨by omega, by omega, he⟩
  · omega
theorem cut_n {p : Pt} (h : err1 p = 0) (hk : p.kind = 3) : 1 ≤ p.n ∧ p.n ≤ 80 := by
  rcases err0_kind (err1_0 h).1 with ⟨h1, _⟩ | ⟨h2, _⟩ | ⟨_, he⟩
  · omega
  · omega
  · exact errN_0 he
/-- What an operation makes of a document; nothing where it can't be done. -/
def done (d : List It) (o : List Pt) : List It := if fitE d o = 0 then (mk d o).1 else []
end Ac

theorem own_doc {w : World} {B0 n : Nat} {v : Value} {l : List It} (h : w.ownsRow B0 62 3 v n (itCells l)) (hf : Fit l) (hl : l.length = n) : ∃ a c, v = .slice a n c ∧ Doc w a n c l := by
  rcases h.2 with ⟨rfl, rfl⟩ | ⟨g, cap, cur, rfl, hg, hh, h1, h2, h3, h4⟩
  · exact ⟨none, 0, rfl, hf, hl, Nat.le_refl _, by decide, fun h => absurd rfl h⟩
  · exact ⟨_, cap, rfl, hf, hl, h1, by unfold maxLen at h2; exact h2, fun _ => ⟨g, 0, rfl, own_at h⟩⟩

set_option maxRecDepth 100000 in
set_option maxHeartbeats 1600000 in
theorem apply_bad (ao ao' : Option Addr) (n cap n' cap' : Nat) (l : List It) (vs : List PV) (w : World) (hD : Doc w ao n cap l) (hO : Ops w ao' n' cap' vs) (hS : Sch w) (hE : ¬ Ac.fitE l (vs.map PV.pt) = 0) :
    Calls Tryd.prog 7 #[.slice ao n cap, .slice ao' n' cap'] w fun e w' => e = .returned (.tuple #[.slice none 0 0, .int .i64 (Ac.fitE l (vs.map PV.pt))]) ∧ Below w.heap.size w w' := by
  have H1 : Hid (Below w.heap.size w (w.alloc (.cells #[.slice ao n cap] 23))) := (Below.refl _ _).alloc (Nat.le_refl _) _
  have CF : Hid (Calls Tryd.prog 16 #[.slice ao n cap, .slice ao' n' cap'] (w.alloc (.cells #[.slice ao n cap] 23)) fun e w' => e = .returned (.int .i64 (Ac.fitE l (vs.map PV.pt))) ∧ Below (w.alloc (.cells #[.slice ao n cap] 23)).heap.size (w.alloc (.cells #[.slice ao n cap] 23)) w') := fit_any ao ao' n cap n' cap' l vs _ (hD.below H1.out) (hO.below H1.out) (hS.below H1.out)
  clear hD hO hS
  generalize Ac.fitE l (vs.map PV.pt) = r at *
  have hE' : (r != 0) = true := by simp [hE]
  go_enter Tryd.func7, Tryd.ntmps7
  go_wp2_with fail
  refine CF.out.mono ?_
  rintro e w1 ⟨rfl, hb⟩
  have H2 : Hid (Below w.heap.size w w1) := H1.out.trans (hb.mono H1.out.size)
  clear hb
  go_wp2
  go_ret2
  exact ⟨rfl, H2.out⟩

set_option maxRecDepth 100000 in
set_option maxHeartbeats 12800000 in
theorem apply_ok (ao ao' : Option Addr) (n cap n' cap' : Nat) (l : List It) (vs : List PV) (w : World) (hD : Doc w ao n cap l) (hO : Ops w ao' n' cap' vs) (hS : Sch w) (hE : Ac.fitE l (vs.map PV.pt) = 0) :
    Calls Tryd.prog 7 #[.slice ao n cap, .slice ao' n' cap'] w fun e w' => (∃ a c, e = .returned (.tuple #[.slice a (Ac.mk l (vs.map PV.pt)).1.length c, .int .i64 0]) ∧ Doc w' a (Ac.mk l (vs.map PV.pt)).1.length c (Ac.mk l (vs.map PV.pt)).1) ∧ Below w.heap.size w w' := by
  obtain ⟨hck, hri, hnd, hlv⟩ := Ac.fit_0 hE
  have hN80 := (Ac.check_0 hck).1
  obtain ⟨i0, hi, hz0, hz1, hz2⟩ := info_parts Tryd.infI
  have hpos : n ≠ 0 := by
    obtain ⟨_, _, l', x, e, _⟩ := Ac.check_0 hck
    have := hD.len
    rw [e] at this
    simp at this
    omega
  obtain ⟨b, off, rfl, hA⟩ := hD.lies hpos
  have H1 : Hid (Below w.heap.size w (w.alloc (.cells #[.slice (some ⟨b, off, none⟩) n cap] 23))) := (Below.refl _ _).alloc (Nat.le_refl _) _
  have CF : Hid (Calls Tryd.prog 16 #[.slice (some ⟨b, off, none⟩) n cap, .slice ao' n' cap'] (w.alloc (.cells #[.slice (some ⟨b, off, none⟩) n cap] 23)) fun e w' => e = .returned (.int .i64 (Ac.fitE l (vs.map PV.pt))) ∧ Below (w.alloc (.cells #[.slice (some ⟨b, off, none⟩) n cap] 23)).heap.size (w.alloc (.cells #[.slice (some ⟨b, off, none⟩) n cap] 23)) w') := fit_any _ ao' n cap n' cap' l vs _ (hD.below H1.out) (hO.below H1.out) (hS.below H1.out)
  rw [hE] at CF
  have HDX : Hid (Blk (w.alloc (.cells #[.slice (some ⟨b, off, none⟩) n cap] 23)) w.heap.size [.slice (some ⟨b, off, none⟩) n cap] 23) := Blk.new w _ _
  have HDS : Hid (w.heap.size < (w.alloc (.cells #[.slice (some ⟨b, off, none⟩) n cap] 23)).heap.size) := by show _ < _; simp
  have HA0 : Hid (At w b off l) := hA
  have HO0 : Hid (Ops w ao' n' cap' vs) := hO
  have HN : Hid (vs.length = n') := hO.len
  have HLL : Hid (l.length = n) := hD.len
  have HFIT : Hid (Fit l) := hD.fit
  have HM4 : Hid (Ac.M4 l) := Ac.check_m4 hck
  have HOK : Hid (∀ v ∈ vs, Ac.err1 v.pt = 0) := fun v hv => hri.ok _ (List.mem_map.2 ⟨v, hv, rfl⟩)
  have HTK : Hid (∀ k, (Ac.mk l ((vs.map PV.pt).take k)).2 ≤ n ∧ (Ac.mk l ((vs.map PV.pt).take k)).1.length ≤ 80) := fun k => by
    have := Ac.mk_take l (vs.map PV.pt) hnd k
    rw [hD.len] at this
    exact ⟨this.1, by omega⟩
  have hcap := hD.room
  have hbig := hD.big
  have hcap' := hO.row.room
  have hbig' := hO.row.big
  rw [hD.len] at hN80
  clear hD hO hS hE hck hri hnd hlv hA hpos
  obtain ⟨R, hR⟩ : ∃ R, (Ac.mk l (vs.map PV.pt)).1 = R := ⟨_, rfl⟩
  have HR : Hid ((Ac.mk l (vs.map PV.pt)).1 = R) := hR
  rw [hR]
  clear hR
  go_enter Tryd.func7, Tryd.ntmps7
  go_wp2_with fail
  refine CF.out.mono ?_
  rintro e w2 ⟨rfl, hb⟩
  have H2 : Hid (Below w.heap.size w w2) := H1.out.trans (hb.mono H1.out.size)
  have HD2 : Hid (Blk w2 w.heap.size [.slice (some ⟨b, off, none⟩) n cap] 23) := (hb.block _ HDS.out).trans HDX.out
  have HDL : Hid (w.heap.size < w2.heap.size) := HD2.out.lt
  have HA2 : Hid (At w2 b off l) := HA0.out.below H2.out
  have HO2 : Hid (Ops w2 ao' n' cap' vs) := HO0.out.below H2.out
  have HAT : Hid (Blk (w2.alloc (.cells #[.int .i64 0] 3)) w2.heap.size [.int .i64 0] 3) := Blk.new w2 [.int .i64 0] 3
  have HBA : Hid (Below w2.heap.size w2 (w2.alloc (.cells #[.int .i64 0] 3))) := (Below.refl _ _).alloc (Nat.le_refl _) _
  clear hb CF HDX HDS HA0 HO0
  go_wp2
  go_loopw [9, 21] (fun mv i wr => ∃ k : Nat, k ≤ n' ∧ i = .int .i64 k ∧ ApI w2 mv (Ac.mk l ((vs.map PV.pt).take k)) wr) (fun _ i _ => n' - (intOf i).toNat)
  case atStart => exact ⟨0, Nat.zero_le _, rfl, World.ownsRow_nil _ _ _ _, HAT.out, HBA.out, fun x hx => absurd hx (by simp [Ac.mk])⟩
  case round =>
    obtain ⟨k, hk, rfl, hI⟩ := hrel
    have HI : Hid (ApI w2 u9 (Ac.mk l ((vs.map PV.pt).take k)) wr) := hI
    clear hI
    by_cases hlt : k < n'
    · obtain ⟨pb, po, rfl, hG⟩ := HO2.out.get (by omega)
      have hkv : k < vs.length := by rw [HN.out]; exact hlt
      have HMS : Hid (Ac.mk l ((vs.map PV.pt).take (k + 1)) = Ac.mkS l (Ac.mk l ((vs.map PV.pt).take k)) vs[k].pt) := by
        have := Ac.mk_step l (vs.map PV.pt) k (by rw [List.length_map]; exact hkv)
        rw [List.getElem_map] at this
        exact this
      have hB1 := HTK.out k
      have hB2 := HTK.out (k + 1)
      rw [HMS.out] at hB2
      have hok := HOK.out vs[k] (List.getElem_mem hkv)
      have HPV := HO2.out.pts vs[k] (List.getElem_mem hkv)
      obtain ⟨c0, c1, c2, c3, c4, c5, c6⟩ := (hG k hkv).same (HI.out.blw.block pb (cell_lt (hG k hkv).c0))
      clear hG
      generalize Ac.mk l ((vs.map PV.pt).take k) = s at *
      generalize vs[k] = v at *
      obtain ⟨kind, q, vo, m, vcap, items, st, cl, gs, lk⟩ := v
      simp only at c0 c1 c2 c3 c4 c5 c6
      clear hkv
      obtain ⟨made, at0⟩ := s
      by_cases h1 : kind = 1
      · subst h1
        obtain ⟨hs4, hc4, hq1, hq2⟩ := Ac.keep_m4 hok rfl
        change 1 ≤ q at hq1
        change q ≤ 80 at hq2
        obtain ⟨qn, rfl⟩ : ∃ qn : Nat, q = qn := ⟨q.toNat, by omega⟩
        have hms : Ac.mkS l (made, at0) (PV.pt ⟨1, qn, vo, m, vcap, items, st, cl, gs, lk⟩) = (made ++ ((l.drop at0).take qn).map (fun x => Ac.change x ⟨st, cl, gs, lk⟩), at0 + qn) := rfl
        rw [hms] at HMS hB2
        have hB3 : (made ++ ((l.drop at0).take qn).map (fun x => Ac.change x ⟨st, cl, gs, lk⟩)).length ≤ 80 := hB2.2
        rw [List.length_append, List.length_map] at hB3
        have hb1 : made.length ≤ 80 := hB1.2
        obtain ⟨ml, hml⟩ : ∃ ml, made.length = ml := ⟨_, rfl⟩
        have HML : Hid (made.length = ml) := hml
        have HLT := HI.out.lt
        have HNB : Hid (some wr.heap.size ≠ u9.ownBlock) := fun e => by have := (HI.out.own.lt _ e.symm).2; omega
        have HDL1 := HDL.out
        have HS5 : Hid (Seven (boxp ⟨1, qn, vo, m, vcap, items, st, cl, gs, lk⟩ wr) wr.heap.size 0 ⟨1, qn, vo, m, vcap, items, st, cl, gs, lk⟩) := boxp_at _ wr
        have hw5 : Below wr.heap.size wr (boxp ⟨1, qn, vo, m, vcap, items, st, cl, gs, lk⟩ wr) := boxp_below _ wr
        have HB5 : Hid (Below w2.heap.size w2 (boxp ⟨1, qn, vo, m, vcap, items, st, cl, gs, lk⟩ wr)) := HI.out.blw.trans (hw5.mono (by omega))
        have HO5 : Hid ((boxp ⟨1, qn, vo, m, vcap, items, st, cl, gs, lk⟩ wr).ownsRow (w2.heap.size + 1) 62 3 u9 ml (itCells made)) := by
          have := own_under HI.out.own hw5
          rw [hml] at this
          exact this
        have HAT5 : Hid (Blk (boxp ⟨1, qn, vo, m, vcap, items, st, cl, gs, lk⟩ wr) w2.heap.size [.int .i64 at0] 3) := (hw5.block _ HI.out.atv.lt).trans HI.out.atv
        have HD5 : Hid (Blk (boxp ⟨1, qn, vo, m, vcap, items, st, cl, gs, lk⟩ wr) w.heap.size [.slice (some ⟨b, off, none⟩) n cap] 23) := (HB5.out.block _ HDL1).trans HD2.out
        have HA5 : Hid (At (boxp ⟨1, qn, vo, m, vcap, items, st, cl, gs, lk⟩ wr) b off l) := HA2.out.below HB5.out
        have hq0 : 0 < qn := by omega
        have hqn : at0 + qn ≤ n := hB2.1
        have CN : Hid (Calls Tryd.prog 17 #[.int .i64 qn, .pointer (some ⟨w2.heap.size, 0, none⟩), .pointer (some ⟨w.heap.size, 0, none⟩)] (boxp ⟨1, qn, vo, m, vcap, items, st, cl, gs, lk⟩ wr).drew fun e w' => e = .returned (.slice (some ⟨b, off + at0 * 3, none⟩) qn (cap - at0)) ∧ w' = (boxp ⟨1, qn, vo, m, vcap, items, st, cl, gs, lk⟩ wr).drew.setCell ⟨w2.heap.size, 0, none⟩ (.int .i64 ((at0 + qn : Nat) : Int))) := next_any w2.heap.size w.heap.size b off n cap at0 qn (at0 + qn) _ HAT5.out HD5.out (by omega) rfl hq0 hqn hN80 hcap
        have HW1b : Hid (Below w2.heap.size w2 ((boxp ⟨1, qn, vo, m, vcap, items, st, cl, gs, lk⟩ wr).drew.setCell ⟨w2.heap.size, 0, none⟩ (.int .i64 ((at0 + qn : Nat) : Int)))) := HB5.out.drew.setCell (Nat.le_refl _) _
        have HAT1 : Hid (Blk ((boxp ⟨1, qn, vo, m, vcap, items, st, cl, gs, lk⟩ wr).drew.setCell ⟨w2.heap.size, 0, none⟩ (.int .i64 ((at0 + qn : Nat) : Int))) w2.heap.size [.int .i64 ((at0 + qn : Nat) : Int)] 3) := HAT5.out.set 0 _
        have HS1 : Hid (Seven ((boxp ⟨1, qn, vo, m, vcap, items, st, cl, gs, lk⟩ wr).drew.setCell ⟨w2.heap.size, 0, none⟩ (.int .i64 ((at0 + qn : Nat) : Int))) wr.heap.size 0 ⟨1, qn, vo, m, vcap, items, st, cl, gs, lk⟩) := HS5.out.same (Below.heap_setCell (boxp ⟨1, qn, vo, m, vcap, items, st, cl, gs, lk⟩ wr).drew _ _ _ (by simp; omega))
        have HO1 : Hid (((boxp ⟨1, qn, vo, m, vcap, items, st, cl, gs, lk⟩ wr).drew.setCell ⟨w2.heap.size, 0, none⟩ (.int .i64 ((at0 + qn : Nat) : Int))).ownsRow (w2.heap.size + 1) 62 3 u9 ml (itCells made)) := ownsRow_setCell_below HO5.out (by simp) _
        have HA1 : Hid (At ((boxp ⟨1, qn, vo, m, vcap, items, st, cl, gs, lk⟩ wr).drew.setCell ⟨w2.heap.size, 0, none⟩ (.int .i64 ((at0 + qn : Nat) : Int))) b off l) := HA2.out.below HW1b.out
        generalize (boxp ⟨1, qn, vo, m, vcap, items, st, cl, gs, lk⟩ wr).drew.setCell ⟨w2.heap.size, 0, none⟩ (.int .i64 ((at0 + qn : Nat) : Int)) = W1 at *
        have hpl : ((l.drop at0).take qn).length = qn := by rw [List.length_take, List.length_drop, HLL.out]; omega
        have CHH : Hid (Calls Tryd.prog 18 #[.slice (some ⟨b, off + at0 * 3, none⟩) qn (cap - at0), .agg #[.int .i64 1, .int .i64 qn, .slice vo m vcap, .int .i64 st, .int .i64 cl, .bool gs, .string lk]] W1 fun e w' => (∃ g cap', e = .returned (.slice (some ⟨g, 0, none⟩) qn cap') ∧ w'.ownsRow W1.heap.size 62 3 (.slice (some ⟨g, 0, none⟩) qn cap') qn (itCells (((l.drop at0).take qn).map fun x => Ac.change x ⟨st, cl, gs, lk⟩))) ∧ Below W1.heap.size W1 w') := changed_any b (off + at0 * 3) qn (cap - at0) _ 1 qn vo m vcap items st cl gs lk W1 (HA1.out.part at0 qn) hpl hq0 (by omega) (m4_part HM4.out _ _) hs4 hc4
        have HLC : Hid ((itCells (((l.drop at0).take qn).map fun x => Ac.change x ⟨st, cl, gs, lk⟩)).length = qn * 3) := by show _ = _; rw [itCells_len, List.length_map, hpl]
        have HFN : Hid (Fit (made ++ (((l.drop at0).take qn).map fun x => Ac.change x ⟨st, cl, gs, lk⟩))) := fit_app HI.out.fit (fit_change (fit_part HFIT.out _ _) _ HPV.fit)
        have hmq : ml + qn ≤ 80 := by rw [hpl] at hB3; omega
        have HMQ : Hid ((made ++ (((l.drop at0).take qn).map fun x => Ac.change x ⟨st, cl, gs, lk⟩)).length = ml + qn) := by show _ = _; rw [List.length_append, List.length_map, hpl, hml]
        clear hms hB1 hB2 hB3 hml hpl hw5 hok hs4 hc4 HPV hb1
        generalize (((l.drop at0).take qn).map fun x => Ac.change x ⟨st, cl, gs, lk⟩) = ch at *
        go_upto_region 12 with fail
        change Code.wp Tryd.prog _ _ _ (boxp ⟨1, qn, vo, m, vcap, items, st, cl, gs, lk⟩ wr)
        generalize (boxp ⟨1, qn, vo, m, vcap, items, st, cl, gs, lk⟩ wr) = W5 at *
        clear c0 c1 c2 c3 c4 c5 c6
        obtain ⟨d0, d1, d2, d3, d4, d5, d6⟩ := HS5.out
        obtain ⟨x0, x1, x2, x3, x4, x5, x6⟩ := HS1.out
        simp only [Nat.zero_add] at d0 d1 d2 d3 d4 d5 d6 x0 x1 x2 x3 x4 x5 x6
        go_region_held3 (fun w' => w'.cell? ⟨wr.heap.size, 0, none⟩ = some (.int .i64 1) ∧ w'.cell? ⟨wr.heap.size, 1, none⟩ = some (.int .i64 qn) ∧ w'.cell? ⟨wr.heap.size, 2, none⟩ = some (.slice vo m vcap) ∧ w'.cell? ⟨wr.heap.size, 3, none⟩ = some (.int .i64 st) ∧ w'.cell? ⟨wr.heap.size, 4, none⟩ = some (.int .i64 cl) ∧ w'.cell? ⟨wr.heap.size, 5, none⟩ = some (.bool gs) ∧ w'.cell? ⟨wr.heap.size, 6, none⟩ = some (.string lk)) (first | exact ⟨d0, d1, d2, d3, d4, d5, d6⟩ | exact ⟨x0, x1, x2, x3, x4, x5, x6⟩ | exact ⟨y0, y1, y2, y3, y4, y5, y6⟩ | exact ⟨z0, z1, z2, z3, z4, z5, z6⟩) (first | (go_at_call 17; refine CN.out.mono ?_; rintro e w6 ⟨rfl, rfl⟩) | (go_at_call 18; refine CHH.out.mono ?_; rintro e w7 ⟨⟨g, cg, rfl, ho⟩, hb⟩; have HS7 : Hid (Seven w7 wr.heap.size 0 ⟨1, qn, vo, m, vcap, items, st, cl, gs, lk⟩) := HS1.out.below hb; obtain ⟨y0, y1, y2, y3, y4, y5, y6⟩ := HS7.out; simp only [Nat.zero_add] at y0 y1 y2 y3 y4 y5 y6; have HO7 : Hid (w7.ownsRow (w2.heap.size + 1) 62 3 u9 ml (itCells made)) := own_under HO1.out hb; have HN7 : Hid (∀ j u, (itCells ch)[j]? = some u → w7.cell? ((⟨g, 0, none⟩ : Addr).add j) = some u) := ho.cells rfl; have HAT7 : Hid (Blk w7 w2.heap.size [.int .i64 ((at0 + qn : Nat) : Int)] 3) := (hb.block _ HAT1.out.lt).trans HAT1.out; have HB7 : Hid (Below w2.heap.size w2 w7) := HW1b.out.trans (hb.mono (Nat.le_of_lt HAT1.out.lt)); have hsz7 : w2.heap.size + 1 ≤ w7.heap.size := HAT7.out.lt; clear ho hb) | (refine step_append_lies2 _ rfl (.tmp 29) (.tmp 35) 23 22 62 rfl Tryd.underlying22 (w2.heap.size + 1) 62 i0 (.agg #[.int .u8 0, .int .i64 0, .string ⟨#[]⟩]) 3 32 Tryd.underlying23 hi hz0 hz1 hz2 rfl (by decide) u9 ml (itCells made) rfl HO7.out ⟨g, 0, none⟩ qn cg (itCells ch) rfl HLC.out HN7.out (itCells_one _) hq0 (by unfold maxLen; omega) (by omega) hsz7 _ rfl ?_; intro g2 cap2 w8 hown hgrow hat hlt; obtain ⟨z0, z1, z2, z3, z4, z5, z6⟩ := HS7.out.same (hgrow.block _ (cell_lt HS7.out.c0) HNB.out); simp only [Nat.zero_add] at z0 z1 z2 z3 z4 z5 z6; have HFIN : Hid (ApI w2 (.slice (some ⟨g2, 0, none⟩) (ml + qn) cap2) (made ++ ch, at0 + qn) w8) := HI.out.push HAT7.out HB7.out (by rw [itCells_app, HMQ.out]; exact hown) hgrow HFN.out; clear hown hgrow hat hlt))
        go_wp2
        go_roundw
        case rel => exact ⟨k + 1, by omega, by go_num, by rw [HMS.out]; exact HFIN.out⟩
        case measure => simp [intOf]; omega
      · by_cases h2 : kind = 2
        · subst h2
          obtain ⟨hp1, hp2, -⟩ := Ac.put_len hok rfl
          change 1 ≤ items.length at hp1
          change items.length ≤ 80 at hp2
          have hlm : items.length = m := HPV.doc.len
          have hms : Ac.mkS l (made, at0) (PV.pt ⟨2, q, vo, m, vcap, items, st, cl, gs, lk⟩) = (made ++ items, at0) := rfl
          rw [hms] at HMS hB2
          have hB3 : (made ++ items).length ≤ 80 := hB2.2
          rw [List.length_append, hlm] at hB3
          rw [hlm] at hp1 hp2
          have hb1 : made.length ≤ 80 := hB1.2
          obtain ⟨ml, hml⟩ : ∃ ml, made.length = ml := ⟨_, rfl⟩
          have HML : Hid (made.length = ml) := hml
          have HLT := HI.out.lt
          have HNB : Hid (some wr.heap.size ≠ u9.ownBlock) := fun e => by have := (HI.out.own.lt _ e.symm).2; omega
          have HDL1 := HDL.out
          have HS5 : Hid (Seven (boxp ⟨2, q, vo, m, vcap, items, st, cl, gs, lk⟩ wr) wr.heap.size 0 ⟨2, q, vo, m, vcap, items, st, cl, gs, lk⟩) := boxp_at _ wr
          have hw5 : Below wr.heap.size wr (boxp ⟨2, q, vo, m, vcap, items, st, cl, gs, lk⟩ wr) := boxp_below _ wr
          have HB5 : Hid (Below w2.heap.size w2 (boxp ⟨2, q, vo, m, vcap, items, st, cl, gs, lk⟩ wr)) := HI.out.blw.trans (hw5.mono (by omega))
          have HO5 : Hid ((boxp ⟨2, q, vo, m, vcap, items, st, cl, gs, lk⟩ wr).ownsRow (w2.heap.size + 1) 62 3 u9 ml (itCells made)) := by
            have := own_under HI.out.own hw5
            rw [hml] at this
            exact this
          have HAT5 : Hid (Blk (boxp ⟨2, q, vo, m, vcap, items, st, cl, gs, lk⟩ wr) w2.heap.size [.int .i64 at0] 3) := (hw5.block _ HI.out.atv.lt).trans HI.out.atv
          have HD5 : Hid (Blk (boxp ⟨2, q, vo, m, vcap, items, st, cl, gs, lk⟩ wr) w.heap.size [.slice (some ⟨b, off, none⟩) n cap] 23) := (HB5.out.block _ HDL1).trans HD2.out
          have HA5 : Hid (At (boxp ⟨2, q, vo, m, vcap, items, st, cl, gs, lk⟩ wr) b off l) := HA2.out.below HB5.out
          obtain ⟨ib, io, rfl, hIA⟩ := HPV.doc.lies (by change m ≠ 0; omega)
          have HIA : Hid (∀ j u, (itCells items)[j]? = some u → (boxp ⟨2, q, some ⟨ib, io, none⟩, m, vcap, items, st, cl, gs, lk⟩ wr).cell? ((⟨ib, io, none⟩ : Addr).add j) = some u) := at_cells (hIA.below HB5.out)
          have HLC : Hid ((itCells items).length = m * 3) := by show _ = _; rw [itCells_len, hlm]
          have HFN : Hid (Fit (made ++ items)) := fit_app HI.out.fit HPV.doc.fit
          have hmq : ml + m ≤ 80 := by omega
          have HMQ : Hid ((made ++ items).length = ml + m) := by show _ = _; rw [List.length_append, hlm, hml]
          have hsz5 : w2.heap.size + 1 ≤ (boxp ⟨2, q, some ⟨ib, io, none⟩, m, vcap, items, st, cl, gs, lk⟩ wr).heap.size := HAT5.out.lt
          clear hms hB1 hB2 hB3 hml hw5 hok HPV hb1 hIA hlm
          go_upto_region 13 with fail
          change Code.wp Tryd.prog _ _ _ (boxp ⟨2, q, some ⟨ib, io, none⟩, m, vcap, items, st, cl, gs, lk⟩ wr)
          generalize boxp ⟨2, q, some ⟨ib, io, none⟩, m, vcap, items, st, cl, gs, lk⟩ wr = W5 at *
          clear c0 c1 c2 c3 c4 c5 c6
          obtain ⟨d0, d1, d2, d3, d4, d5, d6⟩ := HS5.out
          simp only [Nat.zero_add] at d0 d1 d2 d3 d4 d5 d6
          go_wp2_with (at_builtin; refine wpList_append_lies2 _ rfl (.tmp 39) (.tmp 41) 23 22 62 rfl Tryd.underlying22 (w2.heap.size + 1) 62 i0 (.agg #[.int .u8 0, .int .i64 0, .string ⟨#[]⟩]) 3 32 Tryd.underlying23 hi hz0 hz1 hz2 rfl (by decide) u9 ml (itCells made) rfl HO5.out ⟨ib, io, none⟩ m vcap (itCells items) rfl HLC.out HIA.out (itCells_one _) (by omega) (by unfold maxLen; omega) (by omega) hsz5 _ rfl ?c7)
          case c7 =>
            intro g2 cap2 w8 hown hgrow hat hlt2
            have HFIN : Hid (ApI w2 (.slice (some ⟨g2, 0, none⟩) (ml + m) cap2) (made ++ items, at0) w8) := HI.out.push HAT5.out HB5.out (by rw [itCells_app, HMQ.out]; exact hown) hgrow HFN.out
            clear hown hgrow hat hlt2
            go_wp2
            go_roundw
            case rel => exact ⟨k + 1, by omega, by go_num, by rw [HMS.out]; exact HFIN.out⟩
            case measure => simp [intOf]; omega
        · by_cases h3 : kind = 3
          · subst h3
            obtain ⟨hq1, hq2⟩ := Ac.cut_n hok rfl
            change 1 ≤ q at hq1
            change q ≤ 80 at hq2
            obtain ⟨qn, rfl⟩ : ∃ qn : Nat, q = qn := ⟨q.toNat, by omega⟩
            have hms : Ac.mkS l (made, at0) (PV.pt ⟨3, qn, vo, m, vcap, items, st, cl, gs, lk⟩) = (made, at0 + qn) := rfl
            rw [hms] at HMS hB2
            have hb1 : made.length ≤ 80 := hB1.2
            obtain ⟨ml, hml⟩ : ∃ ml, made.length = ml := ⟨_, rfl⟩
            have HML : Hid (made.length = ml) := hml
            have HLT := HI.out.lt
            have HNB : Hid (some wr.heap.size ≠ u9.ownBlock) := fun e => by have := (HI.out.own.lt _ e.symm).2; omega
            have HDL1 := HDL.out
            have HS5 : Hid (Seven (boxp ⟨3, qn, vo, m, vcap, items, st, cl, gs, lk⟩ wr) wr.heap.size 0 ⟨3, qn, vo, m, vcap, items, st, cl, gs, lk⟩) := boxp_at _ wr
            have hw5 : Below wr.heap.size wr (boxp ⟨3, qn, vo, m, vcap, items, st, cl, gs, lk⟩ wr) := boxp_below _ wr
            have HB5 : Hid (Below w2.heap.size w2 (boxp ⟨3, qn, vo, m, vcap, items, st, cl, gs, lk⟩ wr)) := HI.out.blw.trans (hw5.mono (by omega))
            have HO5 : Hid ((boxp ⟨3, qn, vo, m, vcap, items, st, cl, gs, lk⟩ wr).ownsRow (w2.heap.size + 1) 62 3 u9 ml (itCells made)) := by
              have := own_under HI.out.own hw5
              rw [hml] at this
              exact this
            have HAT5 : Hid (Blk (boxp ⟨3, qn, vo, m, vcap, items, st, cl, gs, lk⟩ wr) w2.heap.size [.int .i64 at0] 3) := (hw5.block _ HI.out.atv.lt).trans HI.out.atv
            have HD5 : Hid (Blk (boxp ⟨3, qn, vo, m, vcap, items, st, cl, gs, lk⟩ wr) w.heap.size [.slice (some ⟨b, off, none⟩) n cap] 23) := (HB5.out.block _ HDL1).trans HD2.out
            have HA5 : Hid (At (boxp ⟨3, qn, vo, m, vcap, items, st, cl, gs, lk⟩ wr) b off l) := HA2.out.below HB5.out
            have hq0 : 0 < qn := by omega
            have hqn : at0 + qn ≤ n := hB2.1
            have CN : Hid (Calls Tryd.prog 17 #[.int .i64 qn, .pointer (some ⟨w2.heap.size, 0, none⟩), .pointer (some ⟨w.heap.size, 0, none⟩)] (boxp ⟨3, qn, vo, m, vcap, items, st, cl, gs, lk⟩ wr) fun e w' => e = .returned (.slice (some ⟨b, off + at0 * 3, none⟩) qn (cap - at0)) ∧ w' = (boxp ⟨3, qn, vo, m, vcap, items, st, cl, gs, lk⟩ wr).setCell ⟨w2.heap.size, 0, none⟩ (.int .i64 ((at0 + qn : Nat) : Int))) := next_any w2.heap.size w.heap.size b off n cap at0 qn (at0 + qn) _ HAT5.out HD5.out (by omega) rfl hq0 hqn hN80 hcap
            have HW1b : Hid (Below w2.heap.size w2 ((boxp ⟨3, qn, vo, m, vcap, items, st, cl, gs, lk⟩ wr).setCell ⟨w2.heap.size, 0, none⟩ (.int .i64 ((at0 + qn : Nat) : Int)))) := HB5.out.setCell (Nat.le_refl _) _
            have HAT1 : Hid (Blk ((boxp ⟨3, qn, vo, m, vcap, items, st, cl, gs, lk⟩ wr).setCell ⟨w2.heap.size, 0, none⟩ (.int .i64 ((at0 + qn : Nat) : Int))) w2.heap.size [.int .i64 ((at0 + qn : Nat) : Int)] 3) := HAT5.out.set 0 _
            have HS1 : Hid (Seven ((boxp ⟨3, qn, vo, m, vcap, items, st, cl, gs, lk⟩ wr).setCell ⟨w2.heap.size, 0, none⟩ (.int .i64 ((at0 + qn : Nat) : Int))) wr.heap.size 0 ⟨3, qn, vo, m, vcap, items, st, cl, gs, lk⟩) := HS5.out.same (Below.heap_setCell (boxp ⟨3, qn, vo, m, vcap, items, st, cl, gs, lk⟩ wr) _ _ _ (by simp; omega))
            have HO1 : Hid (((boxp ⟨3, qn, vo, m, vcap, items, st, cl, gs, lk⟩ wr).setCell ⟨w2.heap.size, 0, none⟩ (.int .i64 ((at0 + qn : Nat) : Int))).ownsRow (w2.heap.size + 1) 62 3 u9 ml (itCells made)) := ownsRow_setCell_below HO5.out (by simp) _
            have HA1 : Hid (At ((boxp ⟨3, qn, vo, m, vcap, items, st, cl, gs, lk⟩ wr).setCell ⟨w2.heap.size, 0, none⟩ (.int .i64 ((at0 + qn : Nat) : Int))) b off l) := HA2.out.below HW1b.out
            have HFIN : Hid (ApI w2 u9 (made, at0 + qn) ((boxp ⟨3, qn, vo, m, vcap, items, st, cl, gs, lk⟩ wr).setCell ⟨w2.heap.size, 0, none⟩ (.int .i64 ((at0 + qn : Nat) : Int)))) := ⟨by rw [HML.out]; exact HO1.out, HAT1.out, HW1b.out, HI.out.fit⟩
            clear hms hB1 hB2 hml hw5 hok HPV hb1
            go_upto_region 13 with fail
            change Code.wp Tryd.prog _ _ _ (boxp ⟨3, qn, vo, m, vcap, items, st, cl, gs, lk⟩ wr)
            generalize boxp ⟨3, qn, vo, m, vcap, items, st, cl, gs, lk⟩ wr = W5 at *
            clear c0 c1 c2 c3 c4 c5 c6
            obtain ⟨d0, d1, d2, d3, d4, d5, d6⟩ := HS5.out
            simp only [Nat.zero_add] at d0 d1 d2 d3 d4 d5 d6
            go_wp2_with fail
            refine CN.out.mono ?_
            rintro e w6 ⟨rfl, rfl⟩
            go_wp2
            go_roundw
            case rel => exact ⟨k + 1, by omega, by go_num, by rw [HMS.out]; exact HFIN.out⟩
            case measure => simp [intOf]; omega
          · exact absurd (Ac.kind_of hok) (fun h => h.elim h1 (fun h => h.elim h2 h3))
    · have hkn : k = n' := by omega
      have hm : Ac.mk l ((vs.map PV.pt).take k) = Ac.mk l (vs.map PV.pt) := by rw [List.take_of_length_le (by rw [List.length_map, HN.out]; omega)]
      rw [hm] at HI
      obtain ⟨a, c, hv, hd⟩ := own_doc HI.out.own HI.out.fit rfl
      rw [HR.out] at hv hd
      have HB : Hid (Below w.heap.size w wr) := H2.out.trans (HI.out.blw.mono (Nat.le_of_lt HDL.out))
      have HDD : Hid (Doc wr a R.length c R) := hd
      obtain ⟨rl, hrl⟩ : ∃ rl, R.length = rl := ⟨_, rfl⟩
      rw [hrl] at hv HDD
      have HRL : Hid (R.length = rl) := hrl
      subst hv hkn
      clear hm hd hrl
      go_wp2
      go_ret2
      exact ⟨⟨a, c, by rw [HRL.out]; rfl, by rw [HRL.out]; exact HDD.out⟩, HB.out⟩
end Go.Proofs.YtaigleblmbblcaaDoor

/-
  Operations that are made: a row of parts of the call's own, and what is put and cut behind it, which is settled.
-/
namespace Go.Proofs.YtaigleblmbblcaaDoor
open Go.RowKit

/-- A part's items lie in another block than a row. -/
def Far (v : PV) (x : Value) : Prop := ∀ a : Addr, v.m ≠ 0 → v.ao = some a → some a.block ≠ x.ownBlock
theorem far_none (v : PV) {x : Value} (h : x.ownBlock = none) : Far v x := fun a _ _ e => by rw [h] at e; cases e
theorem far_zero {v : PV} (h : v.m = 0) (x : Value) : Far v x := fun _ h' _ => absurd h h'
theorem Pvt.lies {w : World} {v : PV} (h : Pvt w v) {a : Addr} (hm : v.m ≠ 0) (ha : v.ao = some a) : a.block < w.heap.size := by
  obtain ⟨b, off, e, hA⟩ := h.doc.lies hm
  rw [ha] at e
  cases e
  exact cell_lt (hA.c 0 (by rw [h.doc.len]; omega))
theorem Pvt.kept {w w' : World} {v : PV} {S : List Nat} (h : Pvt w v) (hk : Kept w w' S) (hn : ∀ a : Addr, v.m ≠ 0 → v.ao = some a → a.block ∉ S) : Pvt w' v := by
  refine ⟨⟨h.doc.fit, h.doc.len, h.doc.room, h.doc.big, fun hm => ?_⟩, h.fit⟩
  obtain ⟨b, off, e, hA⟩ := h.doc.lies hm
  have hb : b < w.heap.size := cell_lt (hA.c 0 (by rw [h.doc.len]; omega))
  have he := hk.block b hb (hn _ hm e)
  exact ⟨b, off, e, fun i hi => (World.cell?_of_block (w := w) he).trans (hA.c i hi), fun i hi => (World.cell?_of_block (w := w) he).trans (hA.m i hi), fun i hi => (World.cell?_of_block (w := w) he).trans (hA.l i hi)⟩
/-- A part's items lie in a block from B on. -/
def High (B : Nat) (v : PV) : Prop := ∀ a : Addr, v.m ≠ 0 → v.ao = some a → B ≤ a.block
theorem high_zero {v : PV} (h : v.m = 0) (B : Nat) : High B v := fun _ h' _ => absurd h h'
/-- A row of parts of the call's own. -/
structure Tide (w : World) (B : Nat) (tv : Value) (out : List PV) : Prop where
  own : w.ownsRow B 55 7 tv out.length (pvCells out)
  pts : ∀ v ∈ out, Pvt w v
  far : ∀ v ∈ out, Far v tv
  hi : ∀ v ∈ out, High B v
theorem Tide.nil (w : World) (B : Nat) : Tide w B (.slice none 0 0) [] := ⟨World.ownsRow_nil _ _ _ _, fun v hv => absurd hv (by simp), fun v hv => absurd hv (by simp), fun v hv => absurd hv (by simp)⟩
theorem own_keeps {w w' : World} {B n sz : Nat} {e : TypeId} {v : Value} {xs : List Value} {S : List Nat} (h : w.ownsRow B e sz v n xs) (hk : Kept w w' S) (hs : ∀ x ∈ S, v.ownBlock ≠ some x) : w'.ownsRow B e sz v n xs := by
  refine ⟨h.1, ?_⟩
  rcases h.2 with h2 | ⟨g, cap, cur, hv, hg, hh, r⟩
  · exact .inl h2
  · exact .inr ⟨g, cap, cur, hv, hg, (hk.block g (Array.getElem?_eq_some_iff.1 hh).1 (fun hm => hs g hm (by rw [hv]; rfl))).trans hh, r⟩
theorem Tide.kept {w w' : World} {B : Nat} {tv : Value} {out : List PV} {S : List Nat} (h : Tide w B tv out) (hk : Kept w w' S) (hs : ∀ x ∈ S, tv.ownBlock ≠ some x) (hf : ∀ v ∈ out, ∀ a : Addr, v.m ≠ 0 → v.ao = some a → a.block ∉ S) : Tide w' B tv out :=
  ⟨own_keeps h.own hk hs, fun v hv => (h.pts v hv).kept hk (hf v hv), h.far, h.hi⟩
theorem kept_of_below {w w' : World} (h : Below w.heap.size w w') : Kept w w' [] := ⟨h.os, h.tape, h.output, h.size, fun k hk _ => h.block k hk⟩
theorem Tide.under {w w' : World} {B : Nat} {tv : Value} {out : List PV} (h : Tide w B tv out) (hb : Below w.heap.size w w') : Tide w' B tv out :=
  h.kept (kept_of_below hb) (fun x hx => by cases hx) (fun v _ a _ _ hx => by cases hx)
/-- A part more: behind the append. -/
theorem Tide.push {w wa w3 : World} {B g cap : Nat} {tv : Value} {out : List PV} {v : PV} (h : Tide w B tv out) (hv : Pvt w v) (hfar : Far v tv) (hhi : High B v) (hal : Below w.heap.size w wa)
    (hown : w3.ownsRow B 55 7 (.slice (some ⟨g, 0, none⟩) (out.length + 1) cap) (out.length + 1) (pvCells out ++ pvC v)) (hg : wa.grownBy w3 tv.ownBlock) (hat : tv.ownBlock = some g ∨ g = wa.heap.size) :
    Tide w3 B (.slice (some ⟨g, 0, none⟩) (out.length + 1) cap) (out ++ [v]) ∧ Kept w w3 (ob tv) := by
  have hk : Kept w w3 (ob tv) := ((kept_of_below hal).mono (fun x hx => by cases hx)).trans (grown_kept hg)
  have hp : ∀ u : PV, Pvt w u → Far u tv → Pvt w3 u := fun u hu hf => hu.kept hk (fun a hm ha hx => hf a hm ha (ob_mem hx).symm)
  have hq : ∀ u : PV, Pvt w u → Far u tv → Far u (.slice (some ⟨g, 0, none⟩) (out.length + 1) cap) := fun u hu hf a hm ha e => by
    have hlt := hu.lies hm ha
    rcases hat with e2 | e2
    · exact hf a hm ha (by rw [e2]; exact e)
    · have : a.block = g := by simpa [Value.ownBlock] using e
      have := hal.size
      omega
  refine ⟨⟨by rw [List.length_append, pvCells_app, pvCells_one]; exact hown, fun u hu => ?_, fun u hu => ?_, fun u hu => ?_⟩, hk⟩
  · rcases List.mem_append.1 hu with hu | hu
    · exact hp u (h.pts u hu) (h.far u hu)
    · rw [List.mem_singleton.1 hu]; exact hp v hv hfar
  · rcases List.mem_append.1 hu with hu | hu
    · exact hq u (h.pts u hu) (h.far u hu)
    · rw [List.mem_singleton.1 hu]; exact hq v hv hfar
  · rcases List.mem_append.1 hu with hu | hu
    · exact h.hi u hu
    · rw [List.mem_singleton.1 hu]; exact hhi
/-- What is made lies in the variable of block T; what is put behind it in the next one, what is cut in the one behind that. -/
structure Tdy (w1 : World) (tv pv : Value) (out : List PV) (put : List It) (cut : Nat) (w : World) : Prop where
  blw : Below w1.heap.size w1 w
  tb : Blk w w1.heap.size [tv] 25
  pb : Blk w (w1.heap.size + 1) [pv] 22
  cb : Blk w (w1.heap.size + 2) [.int .i64 cut] 3
  tide : Tide w (w1.heap.size + 3) tv out
  pown : w.ownsRow (w1.heap.size + 3) 62 3 pv put.length (itCells put)
  pfit : Fit put
  pfar : ∀ v ∈ out, Far v pv
  apart : ∀ k, tv.ownBlock = some k → pv.ownBlock ≠ some k
theorem Tdy.under {w1 w w' : World} {tv pv : Value} {out : List PV} {put : List It} {cut : Nat} (h : Tdy w1 tv pv out put cut w) (hb : Below w.heap.size w w') : Tdy w1 tv pv out put cut w' :=
  ⟨h.blw.trans (hb.mono h.blw.size), (hb.block _ h.tb.lt).trans h.tb, (hb.block _ h.pb.lt).trans h.pb, (hb.block _ h.cb.lt).trans h.cb, h.tide.under hb, own_under h.pown hb, h.pfit, h.pfar, h.apart⟩
/-- What was appended goes into the variable. -/
theorem Tide.var {w w3 : World} {T : Nat} {tv tv3 : Value} {out3 : List PV} (h : Tide w3 (T + 3) tv3 out3) (hk : Kept w w3 (T :: ob tv)) (hb : Blk w3 T [tv] 25) :
    Tide (w3.setCell ⟨T, 0, none⟩ tv3) (T + 3) tv3 out3 ∧ Kept w (w3.setCell ⟨T, 0, none⟩ tv3) (T :: ob tv) ∧ Blk (w3.setCell ⟨T, 0, none⟩ tv3) T [tv3] 25 := by
  refine ⟨h.kept (kept_set w3 T 0 tv3 [T] (List.mem_singleton.2 rfl)) (fun x hx e => ?_) (fun v hv a hm ha hx => ?_), hk.setCell _ _ (.inl (List.mem_cons_self ..)), hb.set 0 tv3⟩
  · have := ownBlk_ge h.own x e
    rw [List.mem_singleton] at hx
    omega
  · have := h.hi v hv a hm ha
    rw [List.mem_singleton] at hx
    omega
theorem kept_cons {w w' : World} {S : List Nat} (h : Kept w w' S) (x : Nat) : Kept w w' (x :: S) := h.mono (fun _ hy => List.mem_cons_of_mem _ hy)
/-- What was settled: the variables turn. -/
theorem Tdy.settled {w1 w w3 : World} {tv pv tv3 : Value} {out out3 : List PV} {put : List It} {cut : Nat} (h : Tdy w1 tv pv out put cut w) (ht : Tide w3 (w1.heap.size + 3) tv3 out3) (hk : Kept w w3 (w1.heap.size :: ob tv)) (hb : Blk w3 w1.heap.size [tv3] 25) :
    Tdy w1 tv3 (.slice none 0 0) out3 [] 0 ((w3.setCell ⟨w1.heap.size + 1, 0, none⟩ (.slice none 0 0)).setCell ⟨w1.heap.size + 2, 0, none⟩ (.int .i64 0)) := by
  have hlo : ∀ x ∈ w1.heap.size :: ob tv, x = w1.heap.size ∨ w1.heap.size + 3 ≤ x := fun x hx => by
    rcases List.mem_cons.1 hx with rfl | hx
    · exact .inl rfl
    · exact .inr (ownBlk_ge h.tide.own x (ob_mem hx))
  have hp3 : Blk w3 (w1.heap.size + 1) [pv] 22 := hk.blk h.pb (fun hx => by have := hlo _ hx; omega)
  have hc3 : Blk w3 (w1.heap.size + 2) [.int .i64 cut] 3 := hk.blk h.cb (fun hx => by have := hlo _ hx; omega)
  have hk4 : Kept w3 ((w3.setCell ⟨w1.heap.size + 1, 0, none⟩ (.slice none 0 0)).setCell ⟨w1.heap.size + 2, 0, none⟩ (.int .i64 0)) [w1.heap.size + 1, w1.heap.size + 2] :=
    ((Kept.refl w3 _).setCell _ _ (.inl (by simp))).setCell _ _ (.inl (by simp))
  have hlow : ∀ k, tv3.ownBlock = some k → w1.heap.size + 3 ≤ k := ownBlk_ge ht.own
  refine ⟨?_, hk4.blk hb (by simp), ?_, ?_, ?_, World.ownsRow_nil _ _ _ _, fun x hx => absurd hx (by simp), fun v _ => far_none v rfl, fun k _ e => by cases e⟩
  · refine (h.blw.trans (hk.below h.blw.size (fun x hx => by rcases hlo x hx with h | h <;> omega))).trans (hk4.below (Nat.le_trans h.blw.size hk.size) (fun x hx => by simp at hx; omega))
  · exact (hp3.set 0 (.slice none 0 0)).other _ _ (by simp)
  · exact (hc3.other ⟨w1.heap.size + 1, 0, none⟩ _ (by simp)).set 0 (.int .i64 0)
  · refine ht.kept hk4 (fun x hx e => ?_) (fun v hv a hm ha hx => ?_)
    · have := hlow x e
      simp at hx
      omega
    · have := ht.hi v hv a hm ha
      simp at hx
      omega

theorem kept_settled {w w3 : World} {T : Nat} {tv : Value} (h : Kept w w3 (T :: ob tv)) : Kept w ((w3.setCell ⟨T + 1, 0, none⟩ (.slice none 0 0)).setCell ⟨T + 2, 0, none⟩ (.int .i64 0)) (T :: (T + 1) :: (T + 2) :: ob tv) :=
  ((h.mono (fun x hx => by rcases List.mem_cons.1 hx with rfl | hx; exact List.mem_cons_self ..; exact List.mem_cons_of_mem _ (List.mem_cons_of_mem _ (List.mem_cons_of_mem _ hx)))).setCell _ _ (.inl (by simp))).setCell _ _ (.inl (by simp))
theorem kept_two {w w4 w6 : World} {T : Nat} {tv tv4 : Value} (hk4 : Kept w w4 (T :: ob tv)) (hn : tv4.ownBlock = tv.ownBlock ∨ ∀ k, tv4.ownBlock = some k → w.heap.size ≤ k) (hk6 : Kept w4 w6 (T :: ob tv4)) : Kept w w6 (T :: ob tv) :=
  hk4.trans_new hk6 (fun x hx => by
    rcases List.mem_cons.1 hx with rfl | hx
    · exact .inl (List.mem_cons_self ..)
    · rcases hn with e | e
      · left
        refine List.mem_cons_of_mem _ ?_
        unfold ob at hx ⊢
        rw [← e]
        exact hx
      · exact .inr (e x (ob_mem hx)))
/-- Two steps: what the second one writes is what the first one wrote, or is new. -/
theorem Tdy.settled2 {w1 w w4 w6 : World} {tv pv tv4 tv6 : Value} {out out6 : List PV} {put : List It} {cut : Nat} (h : Tdy w1 tv pv out put cut w) (hk4 : Kept w w4 (w1.heap.size :: ob tv)) (hn : tv4.ownBlock = tv.ownBlock ∨ ∀ k, tv4.ownBlock = some k → w.heap.size ≤ k)
    (h6 : Tide w6 (w1.heap.size + 3) tv6 out6) (hk6 : Kept w4 w6 (w1.heap.size :: ob tv4)) (hb6 : Blk w6 w1.heap.size [tv6] 25) :
    Tdy w1 tv6 (.slice none 0 0) out6 [] 0 ((w6.setCell ⟨w1.heap.size + 1, 0, none⟩ (.slice none 0 0)).setCell ⟨w1.heap.size + 2, 0, none⟩ (.int .i64 0)) := by
  refine h.settled h6 (hk4.trans_new hk6 (fun x hx => ?_)) hb6
  rcases List.mem_cons.1 hx with rfl | hx
  · exact .inl (List.mem_cons_self ..)
  · rcases hn with e | e
    · left
      refine List.mem_cons_of_mem _ ?_
      unfold ob at hx ⊢
      rw [← e]
      exact hx
    · exact .inr (e x (ob_mem hx))

set_option maxRecDepth 100000 in
set_option maxHeartbeats 3200000 in
theorem settle_any (w1 w : World) (tv pv : Value) (out : List PV) (put : List It) (cut : Nat) (hT : Tdy w1 tv pv out put cut w) (hp : put.length ≤ 100000) (ho : out.length ≤ 100000) (hc : cut ≤ 1000000) :
    Calls Tryd.prog 49 #[.pointer (some ⟨w1.heap.size + 1, 0, none⟩), .pointer (some ⟨w1.heap.size, 0, none⟩), .pointer (some ⟨w1.heap.size + 2, 0, none⟩)] w fun e w' => e = .returned (.tuple #[]) ∧ ∃ tv' out', Tdy w1 tv' (.slice none 0 0) out' [] 0 w' ∧ out'.map PV.pt = out.map PV.pt ++ Ac.flushP put cut ∧ out'.length ≤ out.length + 2 ∧ Kept w w' (w1.heap.size :: (w1.heap.size + 1) :: (w1.heap.size + 2) :: ob tv) := by
  obtain ⟨i0, hi, hz0, hz1, hz2⟩ := info_parts Tryd.infP
  obtain ⟨pao, pcap, hpv, hpd⟩ := own_doc hT.pown hT.pfit rfl
  obtain ⟨pl, hpl⟩ : ∃ pl, put.length = pl := ⟨_, rfl⟩
  have HT : Hid (Tdy w1 tv pv out put cut w) := hT
  have HPL : Hid (put.length = pl) := hpl
  have HPD : Hid (Doc w pao pl pcap put) := by rw [← hpl]; exact hpd
  rw [hpl] at hpv hp
  have HPV : Hid (pv = .slice pao pl pcap) := hpv
  have t0 : w.cell? ⟨w1.heap.size, 0, none⟩ = some tv := hT.tb.cell 0
  have p0 : w.cell? ⟨w1.heap.size + 1, 0, none⟩ = some (.slice pao pl pcap) := by rw [← hpv]; exact hT.pb.cell 0
  have k0 : w.cell? ⟨w1.heap.size + 2, 0, none⟩ = some (.int .i64 cut) := hT.cb.cell 0
  have tz := hT.tb.frozen 0
  have pz := hT.pb.frozen 0
  have kz := hT.cb.frozen 0
  obtain ⟨ol, hol⟩ : ∃ ol, out.length = ol := ⟨_, rfl⟩
  have HOL : Hid (out.length = ol) := hol
  rw [hol] at ho
  have HOW : Hid (w.ownsRow (w1.heap.size + 3) 55 7 tv ol (pvCells out)) := by have := hT.tide.own; rw [hol] at this; exact this
  have hsz : w1.heap.size + 3 ≤ w.heap.size := hT.cb.lt
  obtain ⟨tao, tcap, htv, -⟩ := own_row HOW.out
  clear hT hpl hol hpd hpv
  subst htv
  have HPUT : Hid (0 < pl → Pvt w ⟨2, 0, pao, pl, pcap, put, 0, 0, false, ⟨#[]⟩⟩ ∧ Far ⟨2, 0, pao, pl, pcap, put, 0, 0, false, ⟨#[]⟩⟩ (.slice tao ol tcap) ∧ High (w1.heap.size + 3) ⟨2, 0, pao, pl, pcap, put, 0, 0, false, ⟨#[]⟩⟩) := fun _ => by
    refine ⟨⟨HPD.out, Nat.zero_le _⟩, fun a _ ha e => ?_, fun a _ ha => ?_⟩
    · have e2 : pv.ownBlock = some a.block := by
        rw [HPV.out]
        change pao = some a at ha
        rw [ha]
        rfl
      exact HT.out.apart a.block e.symm e2
    · refine ownBlk_ge HT.out.pown a.block ?_
      rw [HPV.out]
      change pao = some a at ha
      rw [ha]
      rfl
  by_cases hp0 : pl = 0
  · have HFL : Hid (Ac.flushP put cut = if cut = 0 then [] else [Ac.cutP cut]) := by
      have : put = [] := List.length_eq_zero_iff.1 (HPL.out.trans hp0)
      show _ = _
      unfold Ac.flushP
      rw [this]
      rfl
    subst hp0
    by_cases hc0 : cut = 0
    · subst hc0
      have HS : Hid (Tdy w1 (.slice tao ol tcap) (.slice none 0 0) out [] 0 ((w.setCell ⟨w1.heap.size + 1, 0, none⟩ (.slice none 0 0)).setCell ⟨w1.heap.size + 2, 0, none⟩ (.int .i64 0))) := HT.out.settled HT.out.tide (Kept.refl _ _) HT.out.tb
      have HKE : Hid (Kept w ((w.setCell ⟨w1.heap.size + 1, 0, none⟩ (.slice none 0 0)).setCell ⟨w1.heap.size + 2, 0, none⟩ (.int .i64 0)) (w1.heap.size :: (w1.heap.size + 1) :: (w1.heap.size + 2) :: ob (.slice tao ol tcap))) := kept_settled (Kept.refl _ _)
      go_enter Tryd.func49, Tryd.ntmps49
      go_wp2
      go_end0
      exact ⟨rfl, _, out, HS.out, by rw [HFL.out]; simp, by omega, HKE.out⟩
    · have hc1 : 0 < cut := Nat.pos_of_ne_zero hc0
      go_enter Tryd.func49, Tryd.ntmps49
      go_wp2_with (at_builtin; refine wpList_append_lies _ rfl (.tmp 13) (.tmp 16) 25 rfl (w1.heap.size + 3) 55 i0 (.agg #[.int .i64 0, .int .i64 0, .slice none 0 0, .int .i64 0, .int .i64 0, .bool false, .string ⟨#[]⟩]) 7 80 Tryd.underlying25 hi hz0 hz1 hz2 rfl (by decide) _ ol (pvCells out) rfl ?c1 ⟨w.heap.size, 0, none⟩ 1 1 [.int .i64 3, .int .i64 cut, .slice none 0 0, .int .i64 0, .int .i64 0, .bool false, .string ⟨#[]⟩] rfl rfl ?c2 ?c3 (by decide) ?c4 ?c5 ?c6 _ rfl ?c7)
      case c1 => exact HOW.out.alloc _
      case c2 => exact World.news_of_block (cs := #[.int .i64 3, .int .i64 cut, .slice none 0 0, .int .i64 0, .int .i64 0, .bool false, .string ⟨#[]⟩]) (heap_alloc_new w _)
      case c3 => exact pvCells_oneCell [⟨3, cut, none, 0, 0, [], 0, 0, false, ⟨#[]⟩⟩]
      case c4 => unfold maxLen; omega
      case c5 => omega
      case c6 => first | omega | (simp; omega)
      case c7 =>
        intro g cap2 w3 hown hgrow hat hlt
        have hal : Below w.heap.size w (w.alloc (.cells #[.int .i64 3, .int .i64 cut, .slice none 0 0, .int .i64 0, .int .i64 0, .bool false, .string ⟨#[]⟩] 55)) := (Below.refl _ _).alloc (Nat.le_refl _) _
        obtain ⟨ht3, hk3⟩ := HT.out.tide.push (v := ⟨3, cut, none, 0, 0, [], 0, 0, false, ⟨#[]⟩⟩) ⟨doc_none w, Nat.zero_le _⟩ (far_zero rfl _) (high_zero rfl _) hal (by rw [HOL.out]; exact hown) hgrow (by rcases hat with h | h; exact .inl h; exact .inr (h.trans (World.size_alloc ..).symm))
        rw [HOL.out] at ht3
        have HK : Hid (Kept w w3 (w1.heap.size :: ob (.slice tao ol tcap))) := kept_cons hk3 _
        have hb3 : Blk w3 w1.heap.size [(.slice tao ol tcap)] 25 := hk3.blk HT.out.tb (fun hx => by have := ownBlk_ge HT.out.tide.own _ (ob_mem hx); omega)
        obtain ⟨ht4, hk4, hb4⟩ := ht3.var HK.out hb3
        have HS : Hid (Tdy w1 (.slice (some ⟨g, 0, none⟩) (ol + 1) cap2) (.slice none 0 0) (out ++ [⟨3, cut, none, 0, 0, [], 0, 0, false, ⟨#[]⟩⟩]) [] 0 (((w3.setCell ⟨w1.heap.size, 0, none⟩ (.slice (some ⟨g, 0, none⟩) (ol + 1) cap2)).setCell ⟨w1.heap.size + 1, 0, none⟩ (.slice none 0 0)).setCell ⟨w1.heap.size + 2, 0, none⟩ (.int .i64 0))) := HT.out.settled ht4 hk4 hb4
        have HKE : Hid (Kept w (((w3.setCell ⟨w1.heap.size, 0, none⟩ (.slice (some ⟨g, 0, none⟩) (ol + 1) cap2)).setCell ⟨w1.heap.size + 1, 0, none⟩ (.slice none 0 0)).setCell ⟨w1.heap.size + 2, 0, none⟩ (.int .i64 0)) (w1.heap.size :: (w1.heap.size + 1) :: (w1.heap.size + 2) :: ob (.slice tao ol tcap))) := kept_settled hk4
        have r0 : w3.cell? ⟨w1.heap.size, 0, none⟩ = some (.slice tao ol tcap) := hb3.cell 0
        have r1 := hb3.frozen 0
        have hlo : ∀ x ∈ w1.heap.size :: ob (.slice tao ol tcap), x = w1.heap.size ∨ w1.heap.size + 3 ≤ x := fun x hx => by
          rcases List.mem_cons.1 hx with rfl | hx
          · exact .inl rfl
          · exact .inr (ownBlk_ge HT.out.tide.own x (ob_mem hx))
        have hp3 : Blk w3 (w1.heap.size + 1) [pv] 22 := HK.out.blk HT.out.pb (fun hx => by have := hlo _ hx; omega)
        have hc3 : Blk w3 (w1.heap.size + 2) [.int .i64 cut] 3 := HK.out.blk HT.out.cb (fun hx => by have := hlo _ hx; omega)
        have u1 : w3.cell? ⟨w1.heap.size + 1, 0, none⟩ = some (.slice pao 0 pcap) := by rw [← HPV.out]; exact hp3.cell 0
        have u2 : w3.cell? ⟨w1.heap.size + 2, 0, none⟩ = some (.int .i64 cut) := hc3.cell 0
        have y1 := hp3.frozen 0
        have y2 := hc3.frozen 0
        clear ht3 hk3 hb3 ht4 hk4 hb4 hown hgrow hat hlt hal hp3 hc3 hlo
        have HFL2 : Hid ((out ++ [(⟨3, cut, none, 0, 0, [], 0, 0, false, ⟨#[]⟩⟩ : PV)]).map PV.pt = out.map PV.pt ++ Ac.flushP put cut) := by show _ = _; rw [HFL.out, if_neg hc0, List.map_append]; rfl
        have HLEN : Hid ((out ++ [(⟨3, cut, none, 0, 0, [], 0, 0, false, ⟨#[]⟩⟩ : PV)]).length ≤ out.length + 2) := by show _ ≤ _; simp
        go_wp2
        go_end0
        exact ⟨rfl, _, _, HS.out, HFL2.out, HLEN.out, HKE.out⟩
  · have hp1 : 0 < pl := Nat.pos_of_ne_zero hp0
    have hq1 : (0 : Int) < (pl : Int) := by omega
    obtain ⟨hv1, hv2, hv3⟩ := HPUT.out hp1
    have HV : Hid (Pvt w ⟨2, 0, pao, pl, pcap, put, 0, 0, false, ⟨#[]⟩⟩ ∧ Far ⟨2, 0, pao, pl, pcap, put, 0, 0, false, ⟨#[]⟩⟩ (.slice tao ol tcap) ∧ High (w1.heap.size + 3) ⟨2, 0, pao, pl, pcap, put, 0, 0, false, ⟨#[]⟩⟩) := ⟨hv1, hv2, hv3⟩
    clear hv1 hv2 hv3
    have HFL : Hid (Ac.flushP put cut = Ac.putP put :: (if cut = 0 then [] else [Ac.cutP cut])) := by
      have : put.isEmpty = false := by
        cases hq : put
        · have := HPL.out; rw [hq] at this; simp at this; omega
        · rfl
      show _ = _
      unfold Ac.flushP
      rw [this]
      rfl
    have HCU : Hid (cut ≤ 1000000) := hc
    go_enter Tryd.func49, Tryd.ntmps49
    go_wp2_with (at_builtin; refine wpList_append_lies _ rfl (.tmp 6) (.tmp 9) 25 rfl (w1.heap.size + 3) 55 i0 (.agg #[.int .i64 0, .int .i64 0, .slice none 0 0, .int .i64 0, .int .i64 0, .bool false, .string ⟨#[]⟩]) 7 80 Tryd.underlying25 hi hz0 hz1 hz2 rfl (by decide) _ ol (pvCells out) rfl ?c1 ⟨w.heap.size, 0, none⟩ 1 1 [.int .i64 2, .int .i64 0, .slice pao pl pcap, .int .i64 0, .int .i64 0, .bool false, .string ⟨#[]⟩] rfl rfl ?c2 ?c3 (by decide) ?c4 ?c5 ?c6 _ rfl ?c7)
    case c1 => exact HOW.out.alloc _
    case c2 => exact World.news_of_block (cs := #[.int .i64 2, .int .i64 0, .slice pao pl pcap, .int .i64 0, .int .i64 0, .bool false, .string ⟨#[]⟩]) (heap_alloc_new w _)
    case c3 => exact pvCells_oneCell [⟨2, 0, pao, pl, pcap, put, 0, 0, false, ⟨#[]⟩⟩]
    case c4 => unfold maxLen; omega
    case c5 => omega
    case c6 => first | omega | (simp; omega)
    case c7 =>
      intro g cap2 w3 hown hgrow hat hlt
      have hal : Below w.heap.size w (w.alloc (.cells #[.int .i64 2, .int .i64 0, .slice pao pl pcap, .int .i64 0, .int .i64 0, .bool false, .string ⟨#[]⟩] 55)) := (Below.refl _ _).alloc (Nat.le_refl _) _
      obtain ⟨ht3, hk3⟩ := HT.out.tide.push (v := ⟨2, 0, pao, pl, pcap, put, 0, 0, false, ⟨#[]⟩⟩) HV.out.1 HV.out.2.1 HV.out.2.2 hal (by rw [HOL.out]; exact hown) hgrow (by rcases hat with h | h; exact .inl h; exact .inr (h.trans (World.size_alloc ..).symm))
      rw [HOL.out] at ht3
      have HK : Hid (Kept w w3 (w1.heap.size :: ob (.slice tao ol tcap))) := kept_cons hk3 _
      have hb3 : Blk w3 w1.heap.size [(.slice tao ol tcap)] 25 := hk3.blk HT.out.tb (fun hx => by have := ownBlk_ge HT.out.tide.own _ (ob_mem hx); omega)
      obtain ⟨ht4, hk4, hb4⟩ := ht3.var HK.out hb3
      have r0 : w3.cell? ⟨w1.heap.size, 0, none⟩ = some (.slice tao ol tcap) := hb3.cell 0
      have r1 := hb3.frozen 0
      have hlo : ∀ x ∈ w1.heap.size :: ob (.slice tao ol tcap), x = w1.heap.size ∨ w1.heap.size + 3 ≤ x := fun x hx => by
        rcases List.mem_cons.1 hx with rfl | hx
        · exact .inl rfl
        · exact .inr (ownBlk_ge HT.out.tide.own x (ob_mem hx))
      have hp3 : Blk w3 (w1.heap.size + 1) [pv] 22 := HK.out.blk HT.out.pb (fun hx => by have := hlo _ hx; omega)
      have hc3 : Blk w3 (w1.heap.size + 2) [.int .i64 cut] 3 := HK.out.blk HT.out.cb (fun hx => by have := hlo _ hx; omega)
      have u1 : w3.cell? ⟨w1.heap.size + 1, 0, none⟩ = some (.slice pao pl pcap) := by rw [← HPV.out]; exact hp3.cell 0
      have u2 : w3.cell? ⟨w1.heap.size + 2, 0, none⟩ = some (.int .i64 cut) := hc3.cell 0
      have y1 := hp3.frozen 0
      have y2 := hc3.frozen 0
      have HT4 : Hid (Tide (w3.setCell ⟨w1.heap.size, 0, none⟩ (.slice (some ⟨g, 0, none⟩) (ol + 1) cap2)) (w1.heap.size + 3) (.slice (some ⟨g, 0, none⟩) (ol + 1) cap2) (out ++ [⟨2, 0, pao, pl, pcap, put, 0, 0, false, ⟨#[]⟩⟩])) := ht4
      have HK4 : Hid (Kept w (w3.setCell ⟨w1.heap.size, 0, none⟩ (.slice (some ⟨g, 0, none⟩) (ol + 1) cap2)) (w1.heap.size :: ob (.slice tao ol tcap))) := hk4
      have HB4 : Hid (Blk (w3.setCell ⟨w1.heap.size, 0, none⟩ (.slice (some ⟨g, 0, none⟩) (ol + 1) cap2)) w1.heap.size [(.slice (some ⟨g, 0, none⟩) (ol + 1) cap2)] 25) := hb4
      have HOL2 : Hid ((out ++ [(⟨2, 0, pao, pl, pcap, put, 0, 0, false, ⟨#[]⟩⟩ : PV)]).length = ol + 1) := by show _ = _; rw [List.length_append, HOL.out]; rfl
      have HG4 : Hid (Value.ownBlock (.slice (some ⟨g, 0, none⟩) (ol + 1) cap2) = Value.ownBlock (.slice tao ol tcap) ∨ ∀ k, Value.ownBlock (.slice (some ⟨g, 0, none⟩) (ol + 1) cap2) = some k → w.heap.size ≤ k) := by rcases hat with h | h; exact .inl h.symm; exact .inr (fun k hk => by simp [Value.ownBlock] at hk; omega)
      have HP4 : Hid (Blk (w3.setCell ⟨w1.heap.size, 0, none⟩ (.slice (some ⟨g, 0, none⟩) (ol + 1) cap2)) (w1.heap.size + 1) [.slice pao pl pcap] 22) := by have := hp3.other ⟨w1.heap.size, 0, none⟩ (.slice (some ⟨g, 0, none⟩) (ol + 1) cap2) (by simp); rw [HPV.out] at this; exact this
      have HC4 : Hid (Blk (w3.setCell ⟨w1.heap.size, 0, none⟩ (.slice (some ⟨g, 0, none⟩) (ol + 1) cap2)) (w1.heap.size + 2) [.int .i64 cut] 3) := hc3.other ⟨w1.heap.size, 0, none⟩ (.slice (some ⟨g, 0, none⟩) (ol + 1) cap2) (by simp)
      clear ht3 hk3 hb3 ht4 hk4 hb4 hown hgrow hat hlt hal hp3 hc3 hlo t0 p0 k0 tz pz kz
      go_upto_region 2 with fail
      change Code.wp Tryd.prog _ _ _ (w3.setCell ⟨w1.heap.size, 0, none⟩ (.slice (some ⟨g, 0, none⟩) (ol + 1) cap2))
      generalize (w3.setCell ⟨w1.heap.size, 0, none⟩ (.slice (some ⟨g, 0, none⟩) (ol + 1) cap2)) = W4 at *
      clear r0 r1 u1 u2 y1 y2
      have r0 : W4.cell? ⟨w1.heap.size, 0, none⟩ = some (.slice (some ⟨g, 0, none⟩) (ol + 1) cap2) := HB4.out.cell 0
      have r1 := HB4.out.frozen 0
      have u1 : W4.cell? ⟨w1.heap.size + 1, 0, none⟩ = some (.slice pao pl pcap) := HP4.out.cell 0
      have u2 : W4.cell? ⟨w1.heap.size + 2, 0, none⟩ = some (.int .i64 cut) := HC4.out.cell 0
      have y1 := HP4.out.frozen 0
      have y2 := HC4.out.frozen 0
      by_cases hc0 : cut = 0
      · subst hc0
        have HS : Hid (Tdy w1 (.slice (some ⟨g, 0, none⟩) (ol + 1) cap2) (.slice none 0 0) (out ++ [⟨2, 0, pao, pl, pcap, put, 0, 0, false, ⟨#[]⟩⟩]) [] 0 ((W4.setCell ⟨w1.heap.size + 1, 0, none⟩ (.slice none 0 0)).setCell ⟨w1.heap.size + 2, 0, none⟩ (.int .i64 0))) := HT.out.settled HT4.out HK4.out HB4.out
        have HKE : Hid (Kept w ((W4.setCell ⟨w1.heap.size + 1, 0, none⟩ (.slice none 0 0)).setCell ⟨w1.heap.size + 2, 0, none⟩ (.int .i64 0)) (w1.heap.size :: (w1.heap.size + 1) :: (w1.heap.size + 2) :: ob (.slice tao ol tcap))) := kept_settled HK4.out
        have HFL2 : Hid ((out ++ [(⟨2, 0, pao, pl, pcap, put, 0, 0, false, ⟨#[]⟩⟩ : PV)]).map PV.pt = out.map PV.pt ++ Ac.flushP put 0) := by show _ = _; rw [HFL.out, List.map_append]; rfl
        have HLEN : Hid ((out ++ [(⟨2, 0, pao, pl, pcap, put, 0, 0, false, ⟨#[]⟩⟩ : PV)]).length ≤ out.length + 2) := by show _ ≤ _; simp
        clear HT4 HK4 HB4
        go_wp2
        go_end0
        exact ⟨rfl, _, _, HS.out, HFL2.out, HLEN.out, HKE.out⟩
      · have hc1 : 0 < cut := Nat.pos_of_ne_zero hc0
        have HO4 : Hid (W4.ownsRow (w1.heap.size + 3) 55 7 (.slice (some ⟨g, 0, none⟩) (ol + 1) cap2) (ol + 1) (pvCells (out ++ [⟨2, 0, pao, pl, pcap, put, 0, 0, false, ⟨#[]⟩⟩]))) := by have := HT4.out.own; rw [HOL2.out] at this; exact this
        have hs4 : w1.heap.size + 3 ≤ W4.heap.size := Nat.le_trans hsz HK4.out.size
        go_wp2_with (at_builtin; refine wpList_append_lies _ rfl (.tmp 13) (.tmp 16) 25 rfl (w1.heap.size + 3) 55 i0 (.agg #[.int .i64 0, .int .i64 0, .slice none 0 0, .int .i64 0, .int .i64 0, .bool false, .string ⟨#[]⟩]) 7 80 Tryd.underlying25 hi hz0 hz1 hz2 rfl (by decide) _ (ol + 1) (pvCells (out ++ [⟨2, 0, pao, pl, pcap, put, 0, 0, false, ⟨#[]⟩⟩])) rfl ?e1 ⟨W4.heap.size, 0, none⟩ 1 1 [.int .i64 3, .int .i64 cut, .slice none 0 0, .int .i64 0, .int .i64 0, .bool false, .string ⟨#[]⟩] rfl rfl ?e2 ?e3 (by decide) ?e4 ?e5 ?e6 _ rfl ?e7)
        case e1 => exact HO4.out.alloc _
        case e2 => exact World.news_of_block (cs := #[.int .i64 3, .int .i64 cut, .slice none 0 0, .int .i64 0, .int .i64 0, .bool false, .string ⟨#[]⟩]) (heap_alloc_new W4 _)
        case e3 => exact pvCells_oneCell [⟨3, cut, none, 0, 0, [], 0, 0, false, ⟨#[]⟩⟩]
        case e4 => unfold maxLen; omega
        case e5 => omega
        case e6 => first | omega | (simp; omega) | (have := hs4; simp at this ⊢; omega)
        case e7 =>
          intro g5 cap5 w5 hown hgrow hat hlt
          have hal : Below W4.heap.size W4 (W4.alloc (.cells #[.int .i64 3, .int .i64 cut, .slice none 0 0, .int .i64 0, .int .i64 0, .bool false, .string ⟨#[]⟩] 55)) := (Below.refl _ _).alloc (Nat.le_refl _) _
          obtain ⟨ht5, hk5⟩ := HT4.out.push (v := ⟨3, cut, none, 0, 0, [], 0, 0, false, ⟨#[]⟩⟩) ⟨doc_none _, Nat.zero_le _⟩ (far_zero rfl _) (high_zero rfl _) hal (by rw [HOL2.out]; exact hown) hgrow (by rcases hat with h | h; exact .inl h; exact .inr (h.trans (by simp)))
          rw [HOL2.out] at ht5
          have HK5 : Kept W4 w5 (w1.heap.size :: ob (.slice (some ⟨g, 0, none⟩) (ol + 1) cap2)) := kept_cons hk5 _
          have hb5 : Blk w5 w1.heap.size [(.slice (some ⟨g, 0, none⟩) (ol + 1) cap2)] 25 := hk5.blk HB4.out (fun hx => by have := ownBlk_ge HO4.out _ (ob_mem hx); omega)
          have hp5 : Blk w5 (w1.heap.size + 1) [.slice pao pl pcap] 22 := hk5.blk HP4.out (fun hx => by have := ownBlk_ge HO4.out _ (ob_mem hx); omega)
          have hc5 : Blk w5 (w1.heap.size + 2) [.int .i64 cut] 3 := hk5.blk HC4.out (fun hx => by have := ownBlk_ge HO4.out _ (ob_mem hx); omega)
          obtain ⟨ht6, hk6, hb6⟩ := ht5.var HK5 hb5
          have HS : Hid (Tdy w1 (.slice (some ⟨g5, 0, none⟩) (ol + 1 + 1) cap5) (.slice none 0 0) ((out ++ [⟨2, 0, pao, pl, pcap, put, 0, 0, false, ⟨#[]⟩⟩]) ++ [⟨3, cut, none, 0, 0, [], 0, 0, false, ⟨#[]⟩⟩]) [] 0 (((w5.setCell ⟨w1.heap.size, 0, none⟩ (.slice (some ⟨g5, 0, none⟩) (ol + 1 + 1) cap5)).setCell ⟨w1.heap.size + 1, 0, none⟩ (.slice none 0 0)).setCell ⟨w1.heap.size + 2, 0, none⟩ (.int .i64 0))) := HT.out.settled2 HK4.out HG4.out ht6 hk6 hb6
          have HKE : Hid (Kept w (((w5.setCell ⟨w1.heap.size, 0, none⟩ (.slice (some ⟨g5, 0, none⟩) (ol + 1 + 1) cap5)).setCell ⟨w1.heap.size + 1, 0, none⟩ (.slice none 0 0)).setCell ⟨w1.heap.size + 2, 0, none⟩ (.int .i64 0)) (w1.heap.size :: (w1.heap.size + 1) :: (w1.heap.size + 2) :: ob (.slice tao ol tcap))) := kept_settled (kept_two HK4.out HG4.out hk6)
          have HFL2 : Hid (((out ++ [(⟨2, 0, pao, pl, pcap, put, 0, 0, false, ⟨#[]⟩⟩ : PV)]) ++ [(⟨3, cut, none, 0, 0, [], 0, 0, false, ⟨#[]⟩⟩ : PV)]).map PV.pt = out.map PV.pt ++ Ac.flushP put cut) := by show _ = _; rw [HFL.out, if_neg hc0, List.map_append, List.map_append, List.append_assoc]; rfl
          have HLEN : Hid (((out ++ [(⟨2, 0, pao, pl, pcap, put, 0, 0, false, ⟨#[]⟩⟩ : PV)]) ++ [(⟨3, cut, none, 0, 0, [], 0, 0, false, ⟨#[]⟩⟩ : PV)]).length ≤ out.length + 2) := by show _ ≤ _; simp
          have v0 : w5.cell? ⟨w1.heap.size, 0, none⟩ = some (.slice (some ⟨g, 0, none⟩) (ol + 1) cap2) := hb5.cell 0
          have v1 := hb5.frozen 0
          have x1 : w5.cell? ⟨w1.heap.size + 1, 0, none⟩ = some (.slice pao pl pcap) := hp5.cell 0
          have x2 : w5.cell? ⟨w1.heap.size + 2, 0, none⟩ = some (.int .i64 cut) := hc5.cell 0
          have z1 := hp5.frozen 0
          have z2 := hc5.frozen 0
          clear HT4 HK4 HB4 HK5 hb5 hp5 hc5 ht5 hk5 ht6 hk6 hb6 hown hgrow hat hlt hal HO4
          go_wp2
          go_end0
          exact ⟨rfl, _, _, HS.out, HFL2.out, HLEN.out, HKE.out⟩
end Go.Proofs.YtaigleblmbblcaaDoor
