/-
  The reference's rows of an operation: of each item what is put ahead of it, and what is done to it, in memory.
-/
import Derived.Test.YtbhcklkbckacpaaGreatDoorM9
import Derived.Test.YtbhcklkbckacpaaGreatDoorRh
namespace Go.Proofs.YtbhcklkbckacpaaGreatDoor
open Go.RowKit
theorem Tryz.infR : (Tryz.prog.info? 205).map (fun i => (i.zero, i.size, i.bytes)) = some (some (.agg #[.slice none 0 0, .int .i64 0, .int .u8 0, .int .i64 0, .string ⟨#[]⟩, .int .i64 0, .int .i64 0, .slice none 0 0, .int .i64 0, .int .i64 0, .bool false, .string ⟨#[]⟩]), 12, 144) := by kernel_rfl
structure RwV where
  ao : Option Addr
  n : Nat
  cap : Nat
  put : List AV
  own : AV
def rwC (r : RwV) : List Value := .slice r.ao r.n r.cap :: avC r.own
def rwCells (l : List RwV) : List Value := l.flatMap rwC
theorem rwCells_app (l l' : List RwV) : rwCells (l ++ l') = rwCells l ++ rwCells l' := List.flatMap_append
theorem rwCells_one (v : RwV) : rwCells [v] = rwC v := by simp [rwCells]
theorem rwC_one (v : RwV) : ∀ u ∈ rwC v, u.oneCell' = true := by
  intro u h
  rcases List.mem_cons.1 h with rfl | h
  · rfl
  · exact avC_one _ u h
def flatR (l : List RwV) : List AV := l.flatMap fun r => r.put ++ [r.own]
theorem flatR_app (l l' : List RwV) : flatR (l ++ l') = flatR l ++ flatR l' := List.flatMap_append
theorem flatR_one (r : RwV) : flatR [r] = r.put ++ [r.own] := by simp [flatR]
structure RwOk (r : RwV) : Prop where
  put : ∀ a ∈ r.put, a.kind = 2
  own : ¬ r.own.kind = 2
def OffV (ao : Option Addr) (n : Nat) (x : Value) : Prop := ∀ a : Addr, n ≠ 0 → ao = some a → some a.block ≠ x.ownBlock
structure RwI (w wr : World) (ov pv : Value) (R : List RwV) (ps : List AV) : Prop where
  own : wr.ownsRow w.heap.size 205 12 ov R.length (rwCells R)
  pown : wr.ownsRow w.heap.size 196 11 pv ps.length (avCells ps)
  apart : ∀ k, ov.ownBlock = some k → pv.ownBlock ≠ some k
  rows : ∀ r ∈ R, Row wr r.ao r.n r.cap 11 (avCells r.put)
  offo : ∀ r ∈ R, OffV r.ao r.n ov
  offp : ∀ r ∈ R, OffV r.ao r.n pv
  ok : ∀ r ∈ R, RwOk r
  pok : ∀ a ∈ ps, a.kind = 2
  blw : Below w.heap.size w wr
theorem RwI.start (w : World) : RwI w w (.slice none 0 0) (.slice none 0 0) [] [] :=
  ⟨World.ownsRow_nil _ _ _ _, World.ownsRow_nil _ _ _ _, fun k e => (by cases e), fun r hr => absurd hr (by simp), fun r hr => absurd hr (by simp), fun r hr => absurd hr (by simp), fun r hr => absurd hr (by simp), fun r hr => absurd hr (by simp), Below.refl _ _⟩
theorem RwI.under {w wr wr' : World} {ov pv : Value} {R : List RwV} {ps : List AV} (h : RwI w wr ov pv R ps) (hb : Below wr.heap.size wr wr') : RwI w wr' ov pv R ps :=
  ⟨own_under h.own hb, own_under h.pown hb, h.apart, fun r hr => (h.rows r hr).below hb, h.offo, h.offp, h.ok, h.pok, h.blw.trans (hb.mono h.blw.size)⟩
theorem row_lt {w : World} {ao : Option Addr} {n cap sz : Nat} {cs : List Value} (h : Row w ao n cap sz cs) (hs : 0 < sz) {a : Addr} (hn : n ≠ 0) (ha : ao = some a) : a.block < w.heap.size := by
  obtain ⟨b, off, e, hc⟩ := h.lies hn
  rw [ha] at e
  cases e
  have hl : 0 < cs.length := by rw [h.len]; exact Nat.mul_pos (Nat.pos_of_ne_zero hn) hs
  exact cell_lt (hc 0 cs[0] (List.getElem?_eq_getElem hl))
theorem RwI.push {w wr w3 : World} {ov pv xv : Value} {R : List RwV} {ps : List AV} {a : AV} {m : Nat} (h : RwI w wr ov pv R ps) (hk : a.kind = 2) (hm : (ps ++ [a]).length = m)
    (hown : w3.ownsRow w.heap.size 196 11 xv m (avCells ps ++ avC a)) (hg : wr.grownBy w3 pv.ownBlock) (hat : ∀ k, xv.ownBlock = some k → pv.ownBlock = some k ∨ k = wr.heap.size) : RwI w w3 ov xv R (ps ++ [a]) := by
  have hk3 := grown_kept hg
  have hlo := ob_lo h.pown
  refine ⟨own_keeps h.own hk3 (fun k hk e => h.apart k e (ob_mem hk)), by rw [hm, avCells_app, avCells_one]; exact hown, fun k e e2 => ?_, fun r hr => (h.rows r hr).kept (by decide) hk3 (fun b hn hb hx => h.offp r hr b hn hb (ob_mem hx).symm), h.offo, fun r hr b hn hb e => ?_, h.ok, fun b hb => ?_, h.blw.trans (hk3.below h.blw.size (fun k hk => hlo k hk))⟩
  · rcases hat k e2 with e3 | e3
    · exact h.apart k e e3
    · have := (h.own.lt k e).2; omega
  · rcases hat b.block e.symm with e3 | e3
    · exact h.offp r hr b hn hb e3.symm
    · have := row_lt (h.rows r hr) (by decide) hn hb; omega
  · rcases List.mem_append.1 hb with hb | hb
    · exact h.pok b hb
    · rw [List.mem_singleton.1 hb]; exact hk
theorem RwI.row {w wr w3 : World} {ov xv : Value} {pa : Option Addr} {pn pc : Nat} {R : List RwV} {ps : List AV} {a : AV} {m : Nat} (h : RwI w wr ov (.slice pa pn pc) R ps) (hpn : ps.length = pn) (hk : ¬ a.kind = 2) (hm : (R ++ [(⟨pa, pn, pc, ps, a⟩ : RwV)]).length = m)
    (hown : w3.ownsRow w.heap.size 205 12 xv m (rwCells R ++ rwC ⟨pa, pn, pc, ps, a⟩)) (hg : wr.grownBy w3 ov.ownBlock) (hat : ∀ k, xv.ownBlock = some k → ov.ownBlock = some k ∨ k = wr.heap.size) : RwI w w3 xv (.slice none 0 0) (R ++ [⟨pa, pn, pc, ps, a⟩]) [] := by
  have hk3 := grown_kept hg
  have hlo := ob_lo h.own
  obtain ⟨pa', pc', e, hrow⟩ := own_row h.pown
  simp only [Value.slice.injEq] at e
  obtain ⟨rfl, -, rfl⟩ := e
  rw [hpn] at hrow
  have hoff : OffV pa pn ov := fun b hn hb e => by
    refine h.apart b.block e.symm ?_
    rw [hb]
    rfl
  have key : ∀ r : RwV, Row wr r.ao r.n r.cap 11 (avCells r.put) → OffV r.ao r.n ov → Row w3 r.ao r.n r.cap 11 (avCells r.put) ∧ OffV r.ao r.n xv := fun r h1 h2 => by
    refine ⟨h1.kept (by decide) hk3 (fun b hn hb hx => h2 b hn hb (ob_mem hx).symm), fun b hn hb e => ?_⟩
    rcases hat b.block e.symm with e3 | e3
    · exact h2 b hn hb e3.symm
    · have := row_lt h1 (by decide) hn hb; omega
  refine ⟨by rw [hm, rwCells_app, rwCells_one]; exact hown, World.ownsRow_nil _ _ _ _, fun k _ e => (by cases e), fun r hr => ?_, fun r hr => ?_, fun r _ b _ _ e => (by cases e), fun r hr => ?_, fun b hb => absurd hb (by simp), h.blw.trans (hk3.below h.blw.size (fun k hk => hlo k hk))⟩
  · rcases List.mem_append.1 hr with hr | hr
    · exact (key r (h.rows r hr) (h.offo r hr)).1
    · rw [List.mem_singleton.1 hr]; exact (key ⟨pa, pn, pc, ps, a⟩ hrow hoff).1
  · rcases List.mem_append.1 hr with hr | hr
    · exact (key r (h.rows r hr) (h.offo r hr)).2
    · rw [List.mem_singleton.1 hr]; exact (key ⟨pa, pn, pc, ps, a⟩ hrow hoff).2
  · rcases List.mem_append.1 hr with hr | hr
    · exact h.ok r hr
    · rw [List.mem_singleton.1 hr]; exact ⟨h.pok, hk⟩

theorem row_elev {w : World} {b off n cap : Nat} {l : List AV} (h : Row w (some ⟨b, off, none⟩) n cap 11 (avCells l)) (hn : l.length = n) (i : Nat) (hi : i < l.length) : Elev w b (off + i * 11) l[i] := by
  obtain ⟨b', off', e, hc⟩ := h.lies (by omega)
  cases e
  have key : ∀ j, j < 11 → ∀ u, (avC l[i])[j]? = some u → w.cell? ⟨b, off + i * 11 + j, none⟩ = some u := fun j hj u hu => by
    rw [Nat.add_assoc]
    exact hc _ u ((avCells_at l i hi j hj).trans hu)
  exact ⟨key 0 (by decide) _ rfl, key 1 (by decide) _ rfl, key 2 (by decide) _ rfl, key 3 (by decide) _ rfl, key 4 (by decide) _ rfl, key 5 (by decide) _ rfl, key 6 (by decide) _ rfl, key 7 (by decide) _ rfl, key 8 (by decide) _ rfl, key 9 (by decide) _ rfl, key 10 (by decide) _ rfl⟩
theorem avCells_oneCell (l : List AV) : ∀ u ∈ avCells l, u.oneCell' = true := fun u hu => by
  obtain ⟨a, _, h⟩ := List.mem_flatMap.1 hu
  exact avC_one a u h
theorem RwI.mono {w w1 wr : World} {ov pv : Value} {R : List RwV} {ps : List AV} (h : RwI w1 wr ov pv R ps) (hb : Below w.heap.size w w1) : RwI w wr ov pv R ps :=
  ⟨h.own.mono hb.size, h.pown.mono hb.size, h.apart, h.rows, h.offo, h.offp, h.ok, h.pok, hb.trans (h.blw.mono hb.size)⟩
theorem boxa_row (a : AV) (w : World) : Row (boxa a w) (some ⟨w.heap.size, 0, none⟩) 1 1 11 (avC a) :=
  ⟨rfl, Nat.le_refl _, by decide, fun _ => ⟨_, 0, rfl, fun j u hu => by rw [Nat.zero_add]; exact ((boxa_blk a w).cell j).trans hu⟩⟩
def boxw (r : RwV) (w : World) : World := w.alloc (.cells #[.slice r.ao r.n r.cap, .int .i64 r.own.kind, .int .u8 r.own.x.c.toNat, .int .i64 r.own.x.m, .string r.own.x.l, .int .i64 r.own.p.kind, .int .i64 r.own.p.n, .slice r.own.p.ao r.own.p.m r.own.p.cap, .int .i64 r.own.p.set, .int .i64 r.own.p.clr, .bool r.own.p.goes, .string r.own.p.link] 205)
theorem boxw_below (r : RwV) (w : World) : Below w.heap.size w (boxw r w) := (Below.refl _ _).alloc (Nat.le_refl _) _
theorem boxw_blk (r : RwV) (w : World) : Blk (boxw r w) w.heap.size (rwC r) 205 := Blk.new w _ _
theorem boxw_row (r : RwV) (w : World) : Row (boxw r w) (some ⟨w.heap.size, 0, none⟩) 1 1 12 (rwC r) :=
  ⟨rfl, Nat.le_refl _, by decide, fun _ => ⟨_, 0, rfl, fun j u hu => by rw [Nat.zero_add]; exact ((boxw_blk r w).cell j).trans hu⟩⟩

set_option maxRecDepth 100000 in
set_option maxHeartbeats 6400000 in
theorem rows_any (ao : Option Addr) (n cap : Nat) (vs : List PV) (w : World) (hO : Ops w ao n cap vs) (hok : ∀ v ∈ vs, Ac.err1 v.pt = 0) (hn40 : n ≤ 40) :
    Calls Tryz.prog 166 #[.slice ao n cap] w fun e w' => (∃ ov pv R ps, e = .returned ov ∧ RwI w w' ov pv R ps ∧ flatR R ++ ps = actsV vs) ∧ Below w.heap.size w w' := by
  obtain ⟨i0, hi, hz0, hz1, hz2⟩ := info_parts Tryz.infA
  obtain ⟨j0, hj, hy0, hy1, hy2⟩ := info_parts Tryz.infR
  have CA : Hid (Calls Tryz.prog 158 #[.slice ao n cap] w fun e w' => (∃ lv, e = .returned lv ∧ w'.ownsRow w.heap.size 196 11 lv (actsV vs).length (avCells (actsV vs))) ∧ Below w.heap.size w w') := acts_any ao n cap vs w hO hok hn40
  have hlen := actsV_len hok
  rw [hO.len] at hlen
  have hlen : (actsV vs).length ≤ 3200 := by omega
  clear hO hok
  obtain ⟨L, hL⟩ : ∃ L, actsV vs = L := ⟨_, rfl⟩
  rw [hL] at CA hlen ⊢
  clear hL
  obtain ⟨ln, hln⟩ : ∃ ln, L.length = ln := ⟨_, rfl⟩
  rw [hln] at CA hlen
  have HLN : Hid (L.length = ln) := hln
  clear hln
  go_enter Tryz.func166, Tryz.ntmps166
  go_wp2_with fail
  refine CA.out.mono ?_
  rintro e w1 ⟨⟨lv, rfl, hown⟩, hb⟩
  have H1 : Hid (Below w.heap.size w w1) := hb
  obtain ⟨la, lc, hlv, hrow⟩ := own_row hown
  have HROW : Hid (Row w1 la ln lc 11 (avCells L)) := hrow
  have hroom := hrow.room
  have hbig := hrow.big
  subst hlv
  clear hb hown CA hrow
  go_wp2
  go_loopw [3, 4, 10] (fun ov pv i wr => ∃ k : Nat, k ≤ ln ∧ i = .int .i64 k ∧ ∃ R ps, RwI w1 wr ov pv R ps ∧ flatR R ++ ps = L.take k) (fun _ _ i _ => ln - (intOf i).toNat)
  case atStart => exact ⟨0, Nat.zero_le _, rfl, [], [], RwI.start w1, rfl⟩
  case round =>
    obtain ⟨k, hk, rfl, R, ps, hT, hpt⟩ := hrel
    have HT : Hid (RwI w1 wr u3 u4 R ps) := hT
    have HPT : Hid (flatR R ++ ps = L.take k) := hpt
    clear hT hpt
    by_cases hlt : k < ln
    · have hkl : k < L.length := by rw [HLN.out]; exact hlt
      obtain ⟨lb, lo, rfl, -⟩ := HROW.out.lies (by omega)
      have hE := (row_elev HROW.out HLN.out k hkl).below HT.out.blw
      have HTK : Hid (L.take (k + 1) = L.take k ++ [L[k]]) := List.take_succ_eq_append_getElem hkl
      have hbd : R.length ≤ 3200 ∧ ps.length ≤ 3200 := by
        have h1 := congrArg List.length HPT.out
        rw [List.length_append, List.length_take] at h1
        have h2 : R.length ≤ (flatR R).length := by
          clear h1 HPT HT
          induction R with
          | nil => exact Nat.le_refl _
          | cons r R ih => have e : flatR (r :: R) = (r.put ++ [r.own]) ++ flatR R := rfl; rw [e]; simp; omega
        omega
      generalize L[k] = a at *
      obtain ⟨c0, c1, c2, c3, c4, c5, c6, c7, c8, c9, c10⟩ := hE
      have HB5 : Hid (Blk (boxa a wr) wr.heap.size (avC a) 196) := boxa_blk a wr
      have HT5 : Hid (RwI w1 (boxa a wr) u3 u4 R ps) := HT.out.under (boxa_below a wr)
      obtain ⟨pa, pc, hpv, -⟩ := own_row HT.out.pown
      obtain ⟨pl, hpl⟩ : ∃ pl, ps.length = pl := ⟨_, rfl⟩
      obtain ⟨rl, hrl⟩ : ∃ rl, R.length = rl := ⟨_, rfl⟩
      rw [hpl] at hpv
      rw [hpl, hrl] at hbd
      obtain ⟨hb1, hb2⟩ := hbd
      have HPL : Hid (ps.length = pl) := hpl
      have HRL : Hid (R.length = rl) := hrl
      subst hpv
      clear hpl hrl hkl
      go_upto_region 6 with fail
      change Code.wp Tryz.prog _ _ _ (boxa a wr)
      generalize boxa a wr = W5 at *
      clear c0 c1 c2 c3 c4 c5 c6 c7 c8 c9 c10
      have d0 : W5.cell? ⟨wr.heap.size, 0, none⟩ = some (.int .i64 a.kind) := HB5.out.cell 0
      have d1 : W5.cell? ⟨wr.heap.size, 1, none⟩ = some (.int .u8 a.x.c.toNat) := HB5.out.cell 1
      have d2 : W5.cell? ⟨wr.heap.size, 2, none⟩ = some (.int .i64 a.x.m) := HB5.out.cell 2
      have d3 : W5.cell? ⟨wr.heap.size, 3, none⟩ = some (.string a.x.l) := HB5.out.cell 3
      have d4 : W5.cell? ⟨wr.heap.size, 4, none⟩ = some (.int .i64 a.p.kind) := HB5.out.cell 4
      have d5 : W5.cell? ⟨wr.heap.size, 5, none⟩ = some (.int .i64 a.p.n) := HB5.out.cell 5
      have d6 : W5.cell? ⟨wr.heap.size, 6, none⟩ = some (.slice a.p.ao a.p.m a.p.cap) := HB5.out.cell 6
      have d7 : W5.cell? ⟨wr.heap.size, 7, none⟩ = some (.int .i64 a.p.set) := HB5.out.cell 7
      have d8 : W5.cell? ⟨wr.heap.size, 8, none⟩ = some (.int .i64 a.p.clr) := HB5.out.cell 8
      have d9 : W5.cell? ⟨wr.heap.size, 9, none⟩ = some (.bool a.p.goes) := HB5.out.cell 9
      have d10 : W5.cell? ⟨wr.heap.size, 10, none⟩ = some (.string a.p.link) := HB5.out.cell 10
      by_cases hk2 : a.kind = 2
      · have hkb : (a.kind == 2) = true := by simp [hk2]
        have HK2 : Hid (a.kind = 2) := hk2
        clear hk2
        have HOP : Hid ((boxa a W5).ownsRow w1.heap.size 196 11 (.slice pa pl pc) pl (avCells ps)) := by have := (HT5.out.under (boxa_below a W5)).pown; rw [HPL.out] at this; exact this
        have HT6 : Hid (RwI w1 (boxa a W5) u3 (.slice pa pl pc) R ps) := HT5.out.under (boxa_below a W5)
        have hs6 : w1.heap.size ≤ (boxa a W5).heap.size := HT6.out.blw.size
        go_wp2_with (at_builtin; refine wpList_append_row (boxa a W5) rfl (.tmp 17) (.tmp 19) 193 rfl w1.heap.size 196 i0 (.agg #[.int .i64 0, .int .u8 0, .int .i64 0, .string ⟨#[]⟩, .int .i64 0, .int .i64 0, .slice none 0 0, .int .i64 0, .int .i64 0, .bool false, .string ⟨#[]⟩]) 11 120 Tryz.underlying193 hi hz0 hz1 hz2 rfl (by decide) (.slice pa pl pc) pl (avCells ps) rfl HOP.out (some ⟨W5.heap.size, 0, none⟩) 1 1 (avC a) rfl (boxa_row a W5) (avC_one a) (by unfold maxLen; omega) (by omega) hs6 ?_)
        intro xv w7 hown7 hg7 hat7
        have HT7 : Hid (RwI w1 w7 u3 xv R (ps ++ [a])) := HT6.out.push HK2.out (m := pl + 1) (by rw [List.length_append, HPL.out]; rfl) hown7 hg7 hat7
        clear hown7 hg7 hat7
        go_wp2
        go_roundw
        case rel => exact ⟨k + 1, by omega, by go_num, R, ps ++ [a], HT7.out, by rw [HTK.out, ← HPT.out, List.append_assoc]⟩
        case measure => simp [intOf]; omega
      · have hkb : (a.kind == 2) = false := by simp [hk2]
        have HK2 : Hid (¬ a.kind = 2) := hk2
        clear hk2
        have HOR : Hid ((boxw ⟨pa, pl, pc, ps, a⟩ W5).ownsRow w1.heap.size 205 12 u3 rl (rwCells R)) := by have := (HT5.out.under (boxw_below ⟨pa, pl, pc, ps, a⟩ W5)).own; rw [HRL.out] at this; exact this
        have HT6 : Hid (RwI w1 (boxw ⟨pa, pl, pc, ps, a⟩ W5) u3 (.slice pa pl pc) R ps) := HT5.out.under (boxw_below _ W5)
        have hs6 : w1.heap.size ≤ (boxw ⟨pa, pl, pc, ps, a⟩ W5).heap.size := HT6.out.blw.size
        go_wp2_with (at_builtin; refine wpList_append_row (boxw ⟨pa, pl, pc, ps, a⟩ W5) rfl (.tmp 21) (.tmp 25) 202 rfl w1.heap.size 205 j0 (.agg #[.slice none 0 0, .int .i64 0, .int .u8 0, .int .i64 0, .string ⟨#[]⟩, .int .i64 0, .int .i64 0, .slice none 0 0, .int .i64 0, .int .i64 0, .bool false, .string ⟨#[]⟩]) 12 144 Tryz.underlying202 hj hy0 hy1 hy2 rfl (by decide) u3 rl (rwCells R) rfl HOR.out (some ⟨W5.heap.size, 0, none⟩) 1 1 (rwC ⟨pa, pl, pc, ps, a⟩) rfl (boxw_row _ W5) (rwC_one _) (by unfold maxLen; omega) (by omega) hs6 ?_)
        intro xv w7 hown7 hg7 hat7
        have HT7 : Hid (RwI w1 w7 xv (.slice none 0 0) (R ++ [⟨pa, pl, pc, ps, a⟩]) []) := HT6.out.row HPL.out HK2.out (m := rl + 1) (by rw [List.length_append, HRL.out]; rfl) hown7 hg7 hat7
        clear hown7 hg7 hat7
        go_wp2
        go_roundw
        case rel => exact ⟨k + 1, by omega, by go_num, R ++ [⟨pa, pl, pc, ps, a⟩], [], HT7.out, by rw [HTK.out, ← HPT.out, flatR_app, flatR_one, List.append_nil, List.append_assoc]⟩
        case measure => simp [intOf]; omega
    · have hkn : k = ln := by omega
      have HPT2 : Hid (flatR R ++ ps = L) := by have := HPT.out; rw [List.take_of_length_le (by rw [HLN.out]; omega)] at this; exact this
      obtain ⟨oa, oc, hov, -⟩ := own_row HT.out.own
      obtain ⟨rl, hrl⟩ : ∃ rl, R.length = rl := ⟨_, rfl⟩
      rw [hrl] at hov
      clear hrl
      subst hov hkn
      go_wp2
      go_ret
      exact ⟨⟨_, _, R, ps, rfl, HT.out.mono H1.out, HPT2.out⟩, H1.out.trans (HT.out.blw.mono H1.out.size)⟩
end Go.Proofs.YtbhcklkbckacpaaGreatDoor
