/-
  Package ot: a Keep without what another one has a say in; a Keep that does one, and then another one.
-/
import Derived.Test.YtaigleblmbblcaaDoorM7
namespace Go.Proofs.YtaigleblmbblcaaDoor
open Go.RowKit

def yieldV (p f : PV) : PV := { p with set := Ac.less p.set (Ac.both f.set f.clr), clr := Ac.less p.clr (Ac.both f.set f.clr), goes := p.goes && !f.goes, link := if f.goes then ⟨#[]⟩ else p.link }
theorem yieldV_pt (p f : PV) : (yieldV p f).pt = Ac.yieldP p.pt f.pt := rfl
def oneV (f p : PV) : PV := { f with set := Ac.both (Ac.less f.set p.clr) p.set, clr := Ac.both (Ac.less f.clr p.set) p.clr, goes := f.goes || p.goes, link := if p.goes then p.link else f.link }
theorem oneV_pt (f p : PV) : (oneV f p).pt = Ac.oneP f.pt p.pt := rfl
/-- Two parts that were handed in, and the result's block. -/
structure Bx3 (w0 w : World) (u v r : PV) : Prop where
  ub : Blk w w0.heap.size (pvC u) 55
  vb : Blk w (w0.heap.size + 1) (pvC v) 55
  rb : Blk w (w0.heap.size + 2) (pvC r) 55
  blw : Below w0.heap.size w0 w
theorem Bx3.start (u v : PV) (w : World) : Bx3 w (boxp pv0 (boxp v (boxp u w))) u v pv0 := by
  refine ⟨((boxp_blk u w).alloc _).alloc _, ?_, ?_, (boxp2_below u v w).trans ((boxp_below pv0 _).mono (by rw [boxp_size, boxp_size]; omega))⟩
  · have := (boxp_blk v (boxp u w)).alloc (.cells #[.int .i64 0, .int .i64 0, .slice none 0 0, .int .i64 0, .int .i64 0, .bool false, .string ⟨#[]⟩] 55)
    rw [boxp_size] at this
    exact this
  · have := boxp_blk pv0 (boxp v (boxp u w))
    rw [boxp_size, boxp_size] at this
    exact this
theorem Bx3.drew {w0 w : World} {u v r : PV} (h : Bx3 w0 w u v r) : Bx3 w0 w.drew u v r := ⟨h.ub, h.vb, h.rb, h.blw.drew⟩
theorem Bx3.setU {w0 w : World} {u v r : PV} (h : Bx3 w0 w u v r) (j : Nat) (x : Value) {u' : PV} (e : (pvC u).set j x = pvC u') : Bx3 w0 (w.setCell ⟨w0.heap.size, j, none⟩ x) u' v r :=
  ⟨by have := h.ub.set j x; rw [e] at this; exact this, h.vb.other _ _ (by simp), h.rb.other _ _ (by simp), h.blw.setCell (Nat.le_refl _) _⟩

set_option maxRecDepth 100000 in
set_option maxHeartbeats 3200000 in
theorem yield_any (p f : PV) (w : World) (h1 : Ac.m4 p.set) (h2 : Ac.m4 p.clr) (h3 : Ac.m4 f.set) (h4 : Ac.m4 f.clr) :
    Calls Tryd.prog 62 #[.agg #[.int .i64 p.kind, .int .i64 p.n, .slice p.ao p.m p.cap, .int .i64 p.set, .int .i64 p.clr, .bool p.goes, .string p.link], .agg #[.int .i64 f.kind, .int .i64 f.n, .slice f.ao f.m f.cap, .int .i64 f.set, .int .i64 f.clr, .bool f.goes, .string f.link]] w fun e w' => e = .returned (.agg #[.int .i64 (yieldV p f).kind, .int .i64 (yieldV p f).n, .slice (yieldV p f).ao (yieldV p f).m (yieldV p f).cap, .int .i64 (yieldV p f).set, .int .i64 (yieldV p f).clr, .bool (yieldV p f).goes, .string (yieldV p f).link]) ∧ Below w.heap.size w w' := by
  have HT : Hid (Bx3 w (boxp pv0 (boxp f (boxp p w))) p f pv0) := Bx3.start p f w
  have q1 := bits_or h3 h4
  have q2 := bits_anot h1 (Ac.both_m4 h3 h4)
  have q3 := bits_anot h2 (Ac.both_m4 h3 h4)
  obtain ⟨u, hu⟩ : ∃ u, yieldV p f = u := ⟨_, rfl⟩
  rw [hu]
  have HU : Hid (yieldV p f = u) := hu
  obtain ⟨kind, vn, vao, m, vcap, items, st, cl, gs, lk⟩ := p
  obtain ⟨kind', vn', vao', m', vcap', items', st', cl', gs', lk'⟩ := f
  simp only at *
  clear hu h1 h2 h3 h4
  go_enter Tryd.func62, Tryd.ntmps62
  go_upto_region 1 with fail
  change Code.wp Tryd.prog _ _ _ (boxp pv0 (boxp ⟨kind', vn', vao', m', vcap', items', st', cl', gs', lk'⟩ (boxp ⟨kind, vn, vao, m, vcap, items, st, cl, gs, lk⟩ w)))
  generalize boxp pv0 (boxp ⟨kind', vn', vao', m', vcap', items', st', cl', gs', lk'⟩ (boxp ⟨kind, vn, vao, m, vcap, items, st, cl, gs, lk⟩ w)) = W at *
  have v3 : W.cell? ⟨w.heap.size + 1, 3, none⟩ = some (.int .i64 st') := HT.out.vb.cell 3
  have v4 : W.cell? ⟨w.heap.size + 1, 4, none⟩ = some (.int .i64 cl') := HT.out.vb.cell 4
  have u3 : W.cell? ⟨w.heap.size, 3, none⟩ = some (.int .i64 st) := HT.out.ub.cell 3
  have f3 := HT.out.ub.frozen 3
  go_upto_region 3 with fail
  change Code.wp Tryd.prog _ _ _ (W.setCell ⟨w.heap.size, 3, none⟩ (.int .i64 (Ac.less st (Ac.both st' cl'))))
  have HT2 := HT.out.setU 3 (.int .i64 (Ac.less st (Ac.both st' cl'))) (u' := ⟨kind, vn, vao, m, vcap, items, Ac.less st (Ac.both st' cl'), cl, gs, lk⟩) rfl
  generalize W.setCell ⟨w.heap.size, 3, none⟩ (.int .i64 (Ac.less st (Ac.both st' cl'))) = W2 at *
  have HT2 : Hid _ := HT2
  clear v3 v4 u3 f3 HT
  have u4 : W2.cell? ⟨w.heap.size, 4, none⟩ = some (.int .i64 cl) := HT2.out.ub.cell 4
  have f4 := HT2.out.ub.frozen 4
  go_upto_region 4 with fail
  change Code.wp Tryd.prog _ _ _ (W2.setCell ⟨w.heap.size, 4, none⟩ (.int .i64 (Ac.less cl (Ac.both st' cl'))))
  have HT3 := HT2.out.setU 4 (.int .i64 (Ac.less cl (Ac.both st' cl'))) (u' := ⟨kind, vn, vao, m, vcap, items, Ac.less st (Ac.both st' cl'), Ac.less cl (Ac.both st' cl'), gs, lk⟩) rfl
  generalize W2.setCell ⟨w.heap.size, 4, none⟩ (.int .i64 (Ac.less cl (Ac.both st' cl'))) = W3 at *
  have HT3 : Hid _ := HT3
  clear u4 f4 HT2 q1 q2 q3
  have v5 : W3.cell? ⟨w.heap.size + 1, 5, none⟩ = some (.bool gs') := HT3.out.vb.cell 5
  cases gs'
  · obtain rfl : u = ⟨kind, vn, vao, m, vcap, items, (Ac.less st (Ac.both st' cl')), (Ac.less cl (Ac.both st' cl')), gs, lk⟩ := by rw [← HU.out]; unfold yieldV; simp
    clear HU
    have z0 : W3.cell? ⟨w.heap.size, 0, none⟩ = some (.int .i64 kind) := HT3.out.ub.cell 0
    have z1 : W3.cell? ⟨w.heap.size, 1, none⟩ = some (.int .i64 vn) := HT3.out.ub.cell 1
    have z2 : W3.cell? ⟨w.heap.size, 2, none⟩ = some (.slice vao m vcap) := HT3.out.ub.cell 2
    have z3 : W3.cell? ⟨w.heap.size, 3, none⟩ = some (.int .i64 (Ac.less st (Ac.both st' cl'))) := HT3.out.ub.cell 3
    have z4 : W3.cell? ⟨w.heap.size, 4, none⟩ = some (.int .i64 (Ac.less cl (Ac.both st' cl'))) := HT3.out.ub.cell 4
    have z5 : W3.cell? ⟨w.heap.size, 5, none⟩ = some (.bool gs) := HT3.out.ub.cell 5
    have z6 : W3.cell? ⟨w.heap.size, 6, none⟩ = some (.string lk) := HT3.out.ub.cell 6
    have r0 : W3.cell? ⟨w.heap.size + 2, 0, none⟩ = some (.int .i64 0) := HT3.out.rb.cell 0
    have r1 : W3.cell? ⟨w.heap.size + 2, 1, none⟩ = some (.int .i64 0) := HT3.out.rb.cell 1
    have r2 : W3.cell? ⟨w.heap.size + 2, 2, none⟩ = some (.slice none 0 0) := HT3.out.rb.cell 2
    have r3 : W3.cell? ⟨w.heap.size + 2, 3, none⟩ = some (.int .i64 0) := HT3.out.rb.cell 3
    have r4 : W3.cell? ⟨w.heap.size + 2, 4, none⟩ = some (.int .i64 0) := HT3.out.rb.cell 4
    have r5 : W3.cell? ⟨w.heap.size + 2, 5, none⟩ = some (.bool false) := HT3.out.rb.cell 5
    have r6 : W3.cell? ⟨w.heap.size + 2, 6, none⟩ = some (.string ⟨#[]⟩) := HT3.out.rb.cell 6
    have g0 := HT3.out.rb.frozen 0
    have g1 := HT3.out.rb.frozen 1
    have g2 := HT3.out.rb.frozen 2
    have g3 := HT3.out.rb.frozen 3
    have g4 := HT3.out.rb.frozen 4
    have g5 := HT3.out.rb.frozen 5
    have g6 := HT3.out.rb.frozen 6
    go_wp2
    change bodyPost Tryd.prog _ _ Exit.ret _ (putP W3 (w.heap.size + 2) ⟨kind, vn, vao, m, vcap, items, (Ac.less st (Ac.both st' cl')), (Ac.less cl (Ac.both st' cl')), gs, lk⟩)
    exact bodyPost_ret (ret_part (k := ⟨kind, vn, vao, m, vcap, items, (Ac.less st (Ac.both st' cl')), (Ac.less cl (Ac.both st' cl')), gs, lk⟩) rfl _ rfl (putP_blk HT3.out.rb)) rfl ⟨rfl, HT3.out.blw.trans ((putP_below _ _ _).mono (by omega))⟩
  · obtain rfl : u = ⟨kind, vn, vao, m, vcap, items, (Ac.less st (Ac.both st' cl')), (Ac.less cl (Ac.both st' cl')), false, ⟨#[]⟩⟩ := by rw [← HU.out]; unfold yieldV; simp
    clear HU
    have u5 : W3.cell? ⟨w.heap.size, 5, none⟩ = some (.bool gs) := HT3.out.ub.cell 5
    have u6 : W3.cell? ⟨w.heap.size, 6, none⟩ = some (.string lk) := HT3.out.ub.cell 6
    have f5 := HT3.out.ub.frozen 5
    have f6 := HT3.out.ub.frozen 6
    go_upto_region 6 with fail
    change Code.wp Tryd.prog _ _ _ ((W3.setCell ⟨w.heap.size, 5, none⟩ (.bool false)).setCell ⟨w.heap.size, 6, none⟩ (.string ⟨#[]⟩))
    have HT4 := (HT3.out.setU 5 (.bool false) (u' := ⟨kind, vn, vao, m, vcap, items, (Ac.less st (Ac.both st' cl')), (Ac.less cl (Ac.both st' cl')), false, lk⟩) rfl).setU 6 (.string ⟨#[]⟩) (u' := ⟨kind, vn, vao, m, vcap, items, (Ac.less st (Ac.both st' cl')), (Ac.less cl (Ac.both st' cl')), false, ⟨#[]⟩⟩) rfl
    generalize (W3.setCell ⟨w.heap.size, 5, none⟩ (.bool false)).setCell ⟨w.heap.size, 6, none⟩ (.string ⟨#[]⟩) = W4 at *
    have HT4 : Hid _ := HT4
    clear v5 u5 u6 f5 f6 HT3
    have z0 : W4.cell? ⟨w.heap.size, 0, none⟩ = some (.int .i64 kind) := HT4.out.ub.cell 0
    have z1 : W4.cell? ⟨w.heap.size, 1, none⟩ = some (.int .i64 vn) := HT4.out.ub.cell 1
    have z2 : W4.cell? ⟨w.heap.size, 2, none⟩ = some (.slice vao m vcap) := HT4.out.ub.cell 2
    have z3 : W4.cell? ⟨w.heap.size, 3, none⟩ = some (.int .i64 (Ac.less st (Ac.both st' cl'))) := HT4.out.ub.cell 3
    have z4 : W4.cell? ⟨w.heap.size, 4, none⟩ = some (.int .i64 (Ac.less cl (Ac.both st' cl'))) := HT4.out.ub.cell 4
    have z5 : W4.cell? ⟨w.heap.size, 5, none⟩ = some (.bool false) := HT4.out.ub.cell 5
    have z6 : W4.cell? ⟨w.heap.size, 6, none⟩ = some (.string ⟨#[]⟩) := HT4.out.ub.cell 6
    have r0 : W4.cell? ⟨w.heap.size + 2, 0, none⟩ = some (.int .i64 0) := HT4.out.rb.cell 0
    have r1 : W4.cell? ⟨w.heap.size + 2, 1, none⟩ = some (.int .i64 0) := HT4.out.rb.cell 1
    have r2 : W4.cell? ⟨w.heap.size + 2, 2, none⟩ = some (.slice none 0 0) := HT4.out.rb.cell 2
    have r3 : W4.cell? ⟨w.heap.size + 2, 3, none⟩ = some (.int .i64 0) := HT4.out.rb.cell 3
    have r4 : W4.cell? ⟨w.heap.size + 2, 4, none⟩ = some (.int .i64 0) := HT4.out.rb.cell 4
    have r5 : W4.cell? ⟨w.heap.size + 2, 5, none⟩ = some (.bool false) := HT4.out.rb.cell 5
    have r6 : W4.cell? ⟨w.heap.size + 2, 6, none⟩ = some (.string ⟨#[]⟩) := HT4.out.rb.cell 6
    have g0 := HT4.out.rb.frozen 0
    have g1 := HT4.out.rb.frozen 1
    have g2 := HT4.out.rb.frozen 2
    have g3 := HT4.out.rb.frozen 3
    have g4 := HT4.out.rb.frozen 4
    have g5 := HT4.out.rb.frozen 5
    have g6 := HT4.out.rb.frozen 6
    go_wp2
    change bodyPost Tryd.prog _ _ Exit.ret _ (putP W4 (w.heap.size + 2) ⟨kind, vn, vao, m, vcap, items, (Ac.less st (Ac.both st' cl')), (Ac.less cl (Ac.both st' cl')), false, ⟨#[]⟩⟩)
    exact bodyPost_ret (ret_part (k := ⟨kind, vn, vao, m, vcap, items, (Ac.less st (Ac.both st' cl')), (Ac.less cl (Ac.both st' cl')), false, ⟨#[]⟩⟩) rfl _ rfl (putP_blk HT4.out.rb)) rfl ⟨rfl, HT4.out.blw.trans ((putP_below _ _ _).mono (by omega))⟩

/-- And a copy of the first one. -/
structure Bx4 (w0 w : World) (u v r o : PV) : Prop where
  ub : Blk w w0.heap.size (pvC u) 55
  vb : Blk w (w0.heap.size + 1) (pvC v) 55
  rb : Blk w (w0.heap.size + 2) (pvC r) 55
  ob : Blk w (w0.heap.size + 3) (pvC o) 55
  blw : Below w0.heap.size w0 w
theorem Bx4.start (u v : PV) (w : World) : Bx4 w (boxp u (boxp pv0 (boxp v (boxp u w)))) u v pv0 u := by
  have h := Bx3.start u v w
  refine ⟨h.ub.alloc _, h.vb.alloc _, h.rb.alloc _, ?_, h.blw.trans ((boxp_below u _).mono h.blw.size)⟩
  have := boxp_blk u (boxp pv0 (boxp v (boxp u w)))
  rw [boxp_size, boxp_size, boxp_size] at this
  exact this
theorem Bx4.drew {w0 w : World} {u v r o : PV} (h : Bx4 w0 w u v r o) : Bx4 w0 w.drew u v r o := ⟨h.ub, h.vb, h.rb, h.ob, h.blw.drew⟩
theorem Bx4.setO {w0 w : World} {u v r o : PV} (h : Bx4 w0 w u v r o) (j : Nat) (x : Value) {o' : PV} (e : (pvC o).set j x = pvC o') : Bx4 w0 (w.setCell ⟨w0.heap.size + 3, j, none⟩ x) u v r o' :=
  ⟨h.ub.other _ _ (by simp), h.vb.other _ _ (by simp), h.rb.other _ _ (by simp), by have := h.ob.set j x; rw [e] at this; exact this, h.blw.setCell (by simp) _⟩

set_option maxRecDepth 100000 in
set_option maxHeartbeats 3200000 in
theorem one_any (f p : PV) (w : World) (h1 : Ac.m4 f.set) (h2 : Ac.m4 f.clr) (h3 : Ac.m4 p.set) (h4 : Ac.m4 p.clr) :
    Calls Tryd.prog 71 #[.agg #[.int .i64 f.kind, .int .i64 f.n, .slice f.ao f.m f.cap, .int .i64 f.set, .int .i64 f.clr, .bool f.goes, .string f.link], .agg #[.int .i64 p.kind, .int .i64 p.n, .slice p.ao p.m p.cap, .int .i64 p.set, .int .i64 p.clr, .bool p.goes, .string p.link]] w fun e w' => e = .returned (.agg #[.int .i64 (oneV f p).kind, .int .i64 (oneV f p).n, .slice (oneV f p).ao (oneV f p).m (oneV f p).cap, .int .i64 (oneV f p).set, .int .i64 (oneV f p).clr, .bool (oneV f p).goes, .string (oneV f p).link]) ∧ Below w.heap.size w w' := by
  have HT : Hid (Bx4 w (boxp f (boxp pv0 (boxp p (boxp f w)))) f p pv0 f) := Bx4.start f p w
  have HT0 : Hid (Bx3 w (boxp pv0 (boxp p (boxp f w))) f p pv0) := Bx3.start f p w
  have q1 := bits_anot h1 h4
  have q2 := bits_or (Ac.less_m4 h1 h4) h3
  have q3 := bits_anot h2 h3
  have q4 := bits_or (Ac.less_m4 h2 h3) h4
  obtain ⟨u, hu⟩ : ∃ u, oneV f p = u := ⟨_, rfl⟩
  rw [hu]
  have HU : Hid (oneV f p = u) := hu
  obtain ⟨kind, vn, vao, m, vcap, items, st, cl, gs, lk⟩ := f
  obtain ⟨kind', vn', vao', m', vcap', items', st', cl', gs', lk'⟩ := p
  simp only at *
  clear hu h1 h2 h3 h4
  go_enter Tryd.func71, Tryd.ntmps71
  go_upto_region 1 with fail
  change Code.wp Tryd.prog _ _ _ (boxp pv0 (boxp ⟨kind', vn', vao', m', vcap', items', st', cl', gs', lk'⟩ (boxp ⟨kind, vn, vao, m, vcap, items, st, cl, gs, lk⟩ w)))
  obtain ⟨W0, hW0⟩ : ∃ W0, boxp pv0 (boxp ⟨kind', vn', vao', m', vcap', items', st', cl', gs', lk'⟩ (boxp ⟨kind, vn, vao, m, vcap, items, st, cl, gs, lk⟩ w)) = W0 := ⟨_, rfl⟩
  rw [hW0] at HT HT0 ⊢
  have HZ : Hid (W0.heap.size = w.heap.size + 3) := by show _ = _; rw [← hW0, boxp_size, boxp_size, boxp_size]
  clear hW0
  have z0 : W0.cell? ⟨w.heap.size, 0, none⟩ = some (.int .i64 kind) := HT0.out.ub.cell 0
  have z1 : W0.cell? ⟨w.heap.size, 1, none⟩ = some (.int .i64 vn) := HT0.out.ub.cell 1
  have z2 : W0.cell? ⟨w.heap.size, 2, none⟩ = some (.slice vao m vcap) := HT0.out.ub.cell 2
  have z3 : W0.cell? ⟨w.heap.size, 3, none⟩ = some (.int .i64 st) := HT0.out.ub.cell 3
  have z4 : W0.cell? ⟨w.heap.size, 4, none⟩ = some (.int .i64 cl) := HT0.out.ub.cell 4
  have z5 : W0.cell? ⟨w.heap.size, 5, none⟩ = some (.bool gs) := HT0.out.ub.cell 5
  have z6 : W0.cell? ⟨w.heap.size, 6, none⟩ = some (.string lk) := HT0.out.ub.cell 6
  go_upto_region 2 with fail
  change Code.wp Tryd.prog _ _ _ (boxp ⟨kind, vn, vao, m, vcap, items, st, cl, gs, lk⟩ W0)
  generalize boxp ⟨kind, vn, vao, m, vcap, items, st, cl, gs, lk⟩ W0 = W at *
  clear z0 z1 z2 z3 z4 z5 z6 HT0
  rw [HZ.out]
  have u3 : W.cell? ⟨w.heap.size, 3, none⟩ = some (.int .i64 st) := HT.out.ub.cell 3
  have v4 : W.cell? ⟨w.heap.size + 1, 4, none⟩ = some (.int .i64 cl') := HT.out.vb.cell 4
  have v3 : W.cell? ⟨w.heap.size + 1, 3, none⟩ = some (.int .i64 st') := HT.out.vb.cell 3
  have o3 : W.cell? ⟨w.heap.size + 3, 3, none⟩ = some (.int .i64 st) := HT.out.ob.cell 3
  have f3 := HT.out.ob.frozen 3
  go_upto_region 3 with fail
  change Code.wp Tryd.prog _ _ _ (W.setCell ⟨w.heap.size + 3, 3, none⟩ (.int .i64 (Ac.both (Ac.less st cl') st')))
  have HT2 := HT.out.setO 3 (.int .i64 (Ac.both (Ac.less st cl') st')) (o' := ⟨kind, vn, vao, m, vcap, items, (Ac.both (Ac.less st cl') st'), cl, gs, lk⟩) rfl
  generalize W.setCell ⟨w.heap.size + 3, 3, none⟩ (.int .i64 (Ac.both (Ac.less st cl') st')) = W2 at *
  have HT2 : Hid _ := HT2
  clear u3 v4 v3 o3 f3 HT
  have u4 : W2.cell? ⟨w.heap.size, 4, none⟩ = some (.int .i64 cl) := HT2.out.ub.cell 4
  have v4 : W2.cell? ⟨w.heap.size + 1, 4, none⟩ = some (.int .i64 cl') := HT2.out.vb.cell 4
  have v3 : W2.cell? ⟨w.heap.size + 1, 3, none⟩ = some (.int .i64 st') := HT2.out.vb.cell 3
  have o4 : W2.cell? ⟨w.heap.size + 3, 4, none⟩ = some (.int .i64 cl) := HT2.out.ob.cell 4
  have f4 := HT2.out.ob.frozen 4
  go_upto_region 4 with fail
  change Code.wp Tryd.prog _ _ _ (W2.setCell ⟨w.heap.size + 3, 4, none⟩ (.int .i64 (Ac.both (Ac.less cl st') cl')))
  have HT3 := HT2.out.setO 4 (.int .i64 (Ac.both (Ac.less cl st') cl')) (o' := ⟨kind, vn, vao, m, vcap, items, (Ac.both (Ac.less st cl') st'), (Ac.both (Ac.less cl st') cl'), gs, lk⟩) rfl
  generalize W2.setCell ⟨w.heap.size + 3, 4, none⟩ (.int .i64 (Ac.both (Ac.less cl st') cl')) = W3 at *
  have HT3 : Hid _ := HT3
  clear u4 v4 v3 o4 f4 HT2 q1 q2 q3 q4
  have v5 : W3.cell? ⟨w.heap.size + 1, 5, none⟩ = some (.bool gs') := HT3.out.vb.cell 5
  cases gs'
  · obtain rfl : u = ⟨kind, vn, vao, m, vcap, items, (Ac.both (Ac.less st cl') st'), (Ac.both (Ac.less cl st') cl'), gs, lk⟩ := by rw [← HU.out]; unfold oneV; simp
    clear HU
    have z0 : W3.cell? ⟨w.heap.size + 3, 0, none⟩ = some (.int .i64 kind) := HT3.out.ob.cell 0
    have z1 : W3.cell? ⟨w.heap.size + 3, 1, none⟩ = some (.int .i64 vn) := HT3.out.ob.cell 1
    have z2 : W3.cell? ⟨w.heap.size + 3, 2, none⟩ = some (.slice vao m vcap) := HT3.out.ob.cell 2
    have z3 : W3.cell? ⟨w.heap.size + 3, 3, none⟩ = some (.int .i64 (Ac.both (Ac.less st cl') st')) := HT3.out.ob.cell 3
    have z4 : W3.cell? ⟨w.heap.size + 3, 4, none⟩ = some (.int .i64 (Ac.both (Ac.less cl st') cl')) := HT3.out.ob.cell 4
    have z5 : W3.cell? ⟨w.heap.size + 3, 5, none⟩ = some (.bool gs) := HT3.out.ob.cell 5
    have z6 : W3.cell? ⟨w.heap.size + 3, 6, none⟩ = some (.string lk) := HT3.out.ob.cell 6
    have r0 : W3.cell? ⟨w.heap.size + 2, 0, none⟩ = some (.int .i64 0) := HT3.out.rb.cell 0
    have r1 : W3.cell? ⟨w.heap.size + 2, 1, none⟩ = some (.int .i64 0) := HT3.out.rb.cell 1
    have r2 : W3.cell? ⟨w.heap.size + 2, 2, none⟩ = some (.slice none 0 0) := HT3.out.rb.cell 2
    have r3 : W3.cell? ⟨w.heap.size + 2, 3, none⟩ = some (.int .i64 0) := HT3.out.rb.cell 3
    have r4 : W3.cell? ⟨w.heap.size + 2, 4, none⟩ = some (.int .i64 0) := HT3.out.rb.cell 4
    have r5 : W3.cell? ⟨w.heap.size + 2, 5, none⟩ = some (.bool false) := HT3.out.rb.cell 5
    have r6 : W3.cell? ⟨w.heap.size + 2, 6, none⟩ = some (.string ⟨#[]⟩) := HT3.out.rb.cell 6
    have g0 := HT3.out.rb.frozen 0
    have g1 := HT3.out.rb.frozen 1
    have g2 := HT3.out.rb.frozen 2
    have g3 := HT3.out.rb.frozen 3
    have g4 := HT3.out.rb.frozen 4
    have g5 := HT3.out.rb.frozen 5
    have g6 := HT3.out.rb.frozen 6
    go_wp2
    change bodyPost Tryd.prog _ _ Exit.ret _ (putP W3 (w.heap.size + 2) ⟨kind, vn, vao, m, vcap, items, (Ac.both (Ac.less st cl') st'), (Ac.both (Ac.less cl st') cl'), gs, lk⟩)
    exact bodyPost_ret (ret_part (k := ⟨kind, vn, vao, m, vcap, items, (Ac.both (Ac.less st cl') st'), (Ac.both (Ac.less cl st') cl'), gs, lk⟩) rfl _ rfl (putP_blk HT3.out.rb)) rfl ⟨rfl, HT3.out.blw.trans ((putP_below _ _ _).mono (by omega))⟩
  · obtain rfl : u = ⟨kind, vn, vao, m, vcap, items, (Ac.both (Ac.less st cl') st'), (Ac.both (Ac.less cl st') cl'), true, lk'⟩ := by rw [← HU.out]; unfold oneV; simp
    clear HU
    have v6 : W3.cell? ⟨w.heap.size + 1, 6, none⟩ = some (.string lk') := HT3.out.vb.cell 6
    have o5 : W3.cell? ⟨w.heap.size + 3, 5, none⟩ = some (.bool gs) := HT3.out.ob.cell 5
    have o6 : W3.cell? ⟨w.heap.size + 3, 6, none⟩ = some (.string lk) := HT3.out.ob.cell 6
    have f5 := HT3.out.ob.frozen 5
    have f6 := HT3.out.ob.frozen 6
    go_upto_region 5 with fail
    go_region
    change Exit.then _ _ Exit.normal _ ((W3.drew.setCell ⟨w.heap.size + 3, 5, none⟩ (.bool true)).setCell ⟨w.heap.size + 3, 6, none⟩ (.string lk'))
    have HT4 := (HT3.out.drew.setO 5 (.bool true) (o' := ⟨kind, vn, vao, m, vcap, items, (Ac.both (Ac.less st cl') st'), (Ac.both (Ac.less cl st') cl'), true, lk⟩) rfl).setO 6 (.string lk') (o' := ⟨kind, vn, vao, m, vcap, items, (Ac.both (Ac.less st cl') st'), (Ac.both (Ac.less cl st') cl'), true, lk'⟩) rfl
    generalize (W3.drew.setCell ⟨w.heap.size + 3, 5, none⟩ (.bool true)).setCell ⟨w.heap.size + 3, 6, none⟩ (.string lk') = W4 at *
    have HT4 : Hid _ := HT4
    clear v5 v6 o5 o6 f5 f6 HT3
    have z0 : W4.cell? ⟨w.heap.size + 3, 0, none⟩ = some (.int .i64 kind) := HT4.out.ob.cell 0
    have z1 : W4.cell? ⟨w.heap.size + 3, 1, none⟩ = some (.int .i64 vn) := HT4.out.ob.cell 1
    have z2 : W4.cell? ⟨w.heap.size + 3, 2, none⟩ = some (.slice vao m vcap) := HT4.out.ob.cell 2
    have z3 : W4.cell? ⟨w.heap.size + 3, 3, none⟩ = some (.int .i64 (Ac.both (Ac.less st cl') st')) := HT4.out.ob.cell 3
    have z4 : W4.cell? ⟨w.heap.size + 3, 4, none⟩ = some (.int .i64 (Ac.both (Ac.less cl st') cl')) := HT4.out.ob.cell 4
    have z5 : W4.cell? ⟨w.heap.size + 3, 5, none⟩ = some (.bool true) := HT4.out.ob.cell 5
    have z6 : W4.cell? ⟨w.heap.size + 3, 6, none⟩ = some (.string lk') := HT4.out.ob.cell 6
    have r0 : W4.cell? ⟨w.heap.size + 2, 0, none⟩ = some (.int .i64 0) := HT4.out.rb.cell 0
    have r1 : W4.cell? ⟨w.heap.size + 2, 1, none⟩ = some (.int .i64 0) := HT4.out.rb.cell 1
    have r2 : W4.cell? ⟨w.heap.size + 2, 2, none⟩ = some (.slice none 0 0) := HT4.out.rb.cell 2
    have r3 : W4.cell? ⟨w.heap.size + 2, 3, none⟩ = some (.int .i64 0) := HT4.out.rb.cell 3
    have r4 : W4.cell? ⟨w.heap.size + 2, 4, none⟩ = some (.int .i64 0) := HT4.out.rb.cell 4
    have r5 : W4.cell? ⟨w.heap.size + 2, 5, none⟩ = some (.bool false) := HT4.out.rb.cell 5
    have r6 : W4.cell? ⟨w.heap.size + 2, 6, none⟩ = some (.string ⟨#[]⟩) := HT4.out.rb.cell 6
    have g0 := HT4.out.rb.frozen 0
    have g1 := HT4.out.rb.frozen 1
    have g2 := HT4.out.rb.frozen 2
    have g3 := HT4.out.rb.frozen 3
    have g4 := HT4.out.rb.frozen 4
    have g5 := HT4.out.rb.frozen 5
    have g6 := HT4.out.rb.frozen 6
    go_wp2
    change bodyPost Tryd.prog _ _ Exit.ret _ (putP W4 (w.heap.size + 2) ⟨kind, vn, vao, m, vcap, items, (Ac.both (Ac.less st cl') st'), (Ac.both (Ac.less cl st') cl'), true, lk'⟩)
    exact bodyPost_ret (ret_part (k := ⟨kind, vn, vao, m, vcap, items, (Ac.both (Ac.less st cl') st'), (Ac.both (Ac.less cl st') cl'), true, lk'⟩) rfl _ rfl (putP_blk HT4.out.rb)) rfl ⟨rfl, HT4.out.blw.trans ((putP_below _ _ _).mono (by omega))⟩
end Go.Proofs.YtaigleblmbblcaaDoor
