/-
  Package ot: the next items of the next part, taken: of the other one of a pair.
-/
import Derived.Test.YtaigleblmbblcaaDoorM7
namespace Go.Proofs.YtaigleblmbblcaaDoor
open Go.RowKit

set_option maxRecDepth 100000 in
set_option maxHeartbeats 3200000 in
theorem take2pe (b : Nat) (r s : RV) (v : PV) (t : List PV) (q : Nat) (w : World) (hB : Blk w b (prC r s) 75) (hO : Ops w s.ao s.n s.cap (v :: t)) (hfb : ∀ a, s.ao = some a → a.block ≠ b) (hq : 1 ≤ q) (hl : ((s.g + q : Nat) : Int) ≤ lgV v) (hbd : lgV v ≤ 1000)
    (hk : v.kind = 2) (hf : ((s.g + q : Nat) : Int) = lgV v) :
    Calls Tryd.prog 60 #[.pointer (some ⟨b, 2, none⟩), .int .i64 q] w fun e w' => e = .returned (.agg #[.int .i64 (pieceV v s.g q).kind, .int .i64 (pieceV v s.g q).n, .slice (pieceV v s.g q).ao (pieceV v s.g q).m (pieceV v s.g q).cap, .int .i64 (pieceV v s.g q).set, .int .i64 (pieceV v s.g q).clr, .bool (pieceV v s.g q).goes, .string (pieceV v s.g q).link]) ∧ Blk w' b (prC r (s.next v t q)) 75 ∧ Kept w w' [b] := by
  have hgb : s.g + q ≤ 1000 := by omega
  obtain ⟨pb, po, hao, hsv, hn, -⟩ := hO.head
  have hpv := hO.pts v (List.mem_cons_self ..)
  have hpb : pb ≠ b := hfb _ hao
  have hplt : pb < w.heap.size := cell_lt hsv.c0
  have hblt : b < w.heap.size := hB.lt
  have hbig := hO.row.big
  have hroom := hO.row.room
  have HT : Hid (Tk3 w (boxp v (boxp pv0 w)) b (prC r s) v) := Tk3.start hB v
  have CL : Hid (∀ w', Calls Tryd.prog 70 #[.agg #[.int .i64 v.kind, .int .i64 v.n, .slice v.ao v.m v.cap, .int .i64 v.set, .int .i64 v.clr, .bool v.goes, .string v.link]] w' fun e w'' => e = .returned (.int .i64 (lgV v)) ∧ Below w'.heap.size w' w'') := fun w' => longp_any v w'
  have HSV : Hid (∀ w' : World, Kept w w' [b] → Seven w' pb po v) := fun w' hk => hsv.same (hk.block pb hplt (by simp; exact hpb))
  have HSV0 : Hid (Seven w pb po v) := hsv
  obtain ⟨L, hL⟩ : ∃ L, lgV v = L := ⟨_, rfl⟩
  have HL : Hid (lgV v = L) := hL
  rw [hL] at CL hl hbd hf
  have hL0 := hL
  unfold lgV at hL0
  rw [if_pos hk] at hL0
  have hkb : (v.kind == 2) = true := by simp [hk]
  have hm0 : s.g + q ≤ v.m := by omega
  obtain ⟨ib, io, hvao, -⟩ := hpv.doc.lies (by omega)
  have hsl := slice_li ib io v.m v.cap s.g (s.g + q) (by omega) hm0 hpv.doc.room
  rw [Nat.add_sub_cancel_left] at hsl
  have hU : pieceV v s.g q = ⟨v.kind, v.n, some ⟨ib, io + s.g * 3, none⟩, q, v.cap - s.g, (v.items.drop s.g).take q, v.set, v.clr, v.goes, v.link⟩ := by
    unfold pieceV
    rw [if_pos hk, hvao, Option.map_some, add_off]
  have HU : Hid ((pvC v).set 2 (.slice (some ⟨ib, io + s.g * 3, none⟩) q (v.cap - s.g)) = pvC (pieceV v s.g q)) := by show _ = _; rw [hU]; rfl
  rw [hU] at HU ⊢
  have HN : Hid (s.next v t q = ⟨tailA (some ⟨pb, po, none⟩) s.cap, s.n - 1, s.cap - 1, t, 0⟩) := by
    show _ = _
    unfold RV.next
    rw [hL, if_pos hf, hao]
  obtain ⟨rao, rn, rcap, rvs, g⟩ := s
  obtain ⟨sao, sn, scap, svs, h⟩ := r
  simp only at *
  subst hao
  obtain ⟨gq, hgq⟩ : ∃ gq, g + q = gq := ⟨_, rfl⟩
  have hs0 : (0 : Int) ≤ (g : Int) := Int.natCast_nonneg _
  have hs1 : (g : Int) ≤ (gq : Int) := by omega
  have hs2 : (gq : Int) ≤ (v.cap : Int) := by have := hpv.doc.room; omega
  rw [hgq] at hgb
  obtain ⟨hw1, hw2⟩ := wrap_add hgq hgb
  rw [hgq] at hsl hf
  have hfe : ((gq : Int) == L) = true := by simp [hf]
  have HG : Hid (g + q = gq) := hgq
  have hst := slice_tail pb po rn rcap hn
  obtain ⟨kind, vn, vao, m, vcap, items, st, cl, gs, lk⟩ := v
  simp only at *
  subst hvao
  obtain ⟨e0, e1, e2, e3, e4, e5, e6⟩ := HSV0.out
  have b0 : w.cell? ⟨b, 2, none⟩ = some (.slice (some ⟨pb, po, none⟩) rn rcap) := hB.cell 2
  have b1 : w.cell? ⟨b, 2 + 1, none⟩ = some (.int .i64 g) := hB.cell 3
  have hn' : (0 : Int) < (rn : Int) := by omega
  clear hO hfb hgq hU hL hL0 hk hf hsv hB hpv hm0 HSV0
  go_enter Tryd.func60, Tryd.ntmps60
  go_upto_region 2 with fail
  change Code.wp Tryd.prog _ _ _ (boxp ⟨kind, vn, some ⟨ib, io, none⟩, m, vcap, items, st, cl, gs, lk⟩ (boxp pv0 w))
  generalize boxp ⟨kind, vn, some ⟨ib, io, none⟩, m, vcap, items, st, cl, gs, lk⟩ (boxp pv0 w) = W2 at *
  clear b0 b1 e0 e1 e2 e3 e4 e5 e6
  have p0 : W2.cell? ⟨w.heap.size + 1, 0, none⟩ = some (.int .i64 kind) := HT.out.pb.cell 0
  have p2 : W2.cell? ⟨w.heap.size + 1, 2, none⟩ = some (.slice (some ⟨ib, io, none⟩) m vcap) := HT.out.pb.cell 2
  have b1 : W2.cell? ⟨b, 2 + 1, none⟩ = some (.int .i64 g) := HT.out.cb.cell 3
  have f2 := HT.out.pb.frozen 2
  go_upto_region 3 with fail
  go_region
  change Exit.then _ _ Exit.normal _ (W2.drew.setCell ⟨w.heap.size + 1, 2, none⟩ (.slice (some ⟨ib, io + g * 3, none⟩) q (vcap - g)))
  have HT3 := HT.out.drew.own hblt 2 _ HU.out
  generalize W2.drew.setCell ⟨w.heap.size + 1, 2, none⟩ (.slice (some ⟨ib, io + g * 3, none⟩) q (vcap - g)) = W3 at *
  clear p0 p2 b1 f2 HT
  have HT3 : Hid _ := HT3
  have b1 : W3.cell? ⟨b, 2 + 1, none⟩ = some (.int .i64 g) := HT3.out.cb.cell 3
  have f1 := HT3.out.cb.frozen 3
  go_upto_region 6 with fail
  change Code.wp Tryd.prog _ _ _ (W3.setCell ⟨b, 3, none⟩ (.int .i64 gq))
  have HT4 := HT3.out.pair hblt 3 (.int .i64 gq)
  generalize W3.setCell ⟨b, 3, none⟩ (.int .i64 gq) = W4 at *
  have HT4 : Hid _ := HT4
  clear b1 f1 HT3
  have b0 : W4.cell? ⟨b, 2, none⟩ = some (.slice (some ⟨pb, po, none⟩) rn rcap) := HT4.out.cb.cell 2
  have b1 : W4.cell? ⟨b, 2 + 1, none⟩ = some (.int .i64 gq) := HT4.out.cb.cell 3
  obtain ⟨e0, e1, e2, e3, e4, e5, e6⟩ := HSV.out W4 HT4.out.kept
  go_region_with ((go_at_call 70; refine (CL.out _).mono ?_; rintro e w5 ⟨rfl, hb⟩; have HT5 := HT4.out.drew.under hb; have b2 : w5.cell? ⟨b, 2, none⟩ = some (.slice (some ⟨pb, po, none⟩) rn rcap) := HT5.cb.cell 2; have b3 : w5.cell? ⟨b, 2 + 1, none⟩ = some (.int .i64 gq) := HT5.cb.cell 3; clear hb))
  all_goals
    have HT5 : Hid _ := HT5
    clear b0 b1 e0 e1 e2 e3 e4 e5 e6 HT4
    have f0 := HT5.out.cb.frozen 2
    have f1 := HT5.out.cb.frozen 3
    go_upto_region 8 with fail
    change Code.wp Tryd.prog _ _ _ ((w5.setCell ⟨b, 2, none⟩ (.slice (tailA (some ⟨pb, po, none⟩) rcap) (rn - 1) (rcap - 1))).setCell ⟨b, 3, none⟩ (.int .i64 0))
    have HT6 := (HT5.out.pair hblt 2 (.slice (tailA (some ⟨pb, po, none⟩) rcap) (rn - 1) (rcap - 1))).pair hblt 3 (.int .i64 0)
    generalize (w5.setCell ⟨b, 2, none⟩ (.slice (tailA (some ⟨pb, po, none⟩) rcap) (rn - 1) (rcap - 1))).setCell ⟨b, 3, none⟩ (.int .i64 0) = W6 at *
    clear f0 f1
    have HT6 : Hid _ := HT6
    clear b2 b3 HT5
    have p0 : W6.cell? ⟨w.heap.size + 1, 0, none⟩ = some (.int .i64 kind) := HT6.out.pb.cell 0
    have p1 : W6.cell? ⟨w.heap.size + 1, 1, none⟩ = some (.int .i64 vn) := HT6.out.pb.cell 1
    have p2 : W6.cell? ⟨w.heap.size + 1, 2, none⟩ = some (.slice (some ⟨ib, io + g * 3, none⟩) q (vcap - g)) := HT6.out.pb.cell 2
    have p3 : W6.cell? ⟨w.heap.size + 1, 3, none⟩ = some (.int .i64 st) := HT6.out.pb.cell 3
    have p4 : W6.cell? ⟨w.heap.size + 1, 4, none⟩ = some (.int .i64 cl) := HT6.out.pb.cell 4
    have p5 : W6.cell? ⟨w.heap.size + 1, 5, none⟩ = some (.bool gs) := HT6.out.pb.cell 5
    have p6 : W6.cell? ⟨w.heap.size + 1, 6, none⟩ = some (.string lk) := HT6.out.pb.cell 6
    have r0 : W6.cell? ⟨w.heap.size, 0, none⟩ = some (.int .i64 0) := HT6.out.rb.cell 0
    have r1 : W6.cell? ⟨w.heap.size, 1, none⟩ = some (.int .i64 0) := HT6.out.rb.cell 1
    have r2 : W6.cell? ⟨w.heap.size, 2, none⟩ = some (.slice none 0 0) := HT6.out.rb.cell 2
    have r3 : W6.cell? ⟨w.heap.size, 3, none⟩ = some (.int .i64 0) := HT6.out.rb.cell 3
    have r4 : W6.cell? ⟨w.heap.size, 4, none⟩ = some (.int .i64 0) := HT6.out.rb.cell 4
    have r5 : W6.cell? ⟨w.heap.size, 5, none⟩ = some (.bool false) := HT6.out.rb.cell 5
    have r6 : W6.cell? ⟨w.heap.size, 6, none⟩ = some (.string ⟨#[]⟩) := HT6.out.rb.cell 6
    have g0 := HT6.out.rb.frozen 0
    have g1 := HT6.out.rb.frozen 1
    have g2 := HT6.out.rb.frozen 2
    have g3 := HT6.out.rb.frozen 3
    have g4 := HT6.out.rb.frozen 4
    have g5 := HT6.out.rb.frozen 5
    have g6 := HT6.out.rb.frozen 6
    go_wp2
    change bodyPost Tryd.prog _ _ Exit.ret _ (putP W6 w.heap.size ⟨kind, vn, some ⟨ib, io + g * 3, none⟩, q, vcap - g, (items.drop g).take q, st, cl, gs, lk⟩)
    obtain ⟨d1, d2, d3⟩ := HT6.out.done hblt ⟨kind, vn, some ⟨ib, io + g * 3, none⟩, q, vcap - g, (items.drop g).take q, st, cl, gs, lk⟩
    exact bodyPost_ret (ret_part (k := ⟨kind, vn, some ⟨ib, io + g * 3, none⟩, q, vcap - g, (items.drop g).take q, st, cl, gs, lk⟩) rfl _ rfl d1) rfl ⟨rfl, by rw [HN.out]; exact d2, d3⟩

set_option maxRecDepth 100000 in
set_option maxHeartbeats 3200000 in
theorem take2pm (b : Nat) (r s : RV) (v : PV) (t : List PV) (q : Nat) (w : World) (hB : Blk w b (prC r s) 75) (hO : Ops w s.ao s.n s.cap (v :: t)) (hfb : ∀ a, s.ao = some a → a.block ≠ b) (hq : 1 ≤ q) (hl : ((s.g + q : Nat) : Int) ≤ lgV v) (hbd : lgV v ≤ 1000)
    (hk : v.kind = 2) (hf : ¬ ((s.g + q : Nat) : Int) = lgV v) :
    Calls Tryd.prog 60 #[.pointer (some ⟨b, 2, none⟩), .int .i64 q] w fun e w' => e = .returned (.agg #[.int .i64 (pieceV v s.g q).kind, .int .i64 (pieceV v s.g q).n, .slice (pieceV v s.g q).ao (pieceV v s.g q).m (pieceV v s.g q).cap, .int .i64 (pieceV v s.g q).set, .int .i64 (pieceV v s.g q).clr, .bool (pieceV v s.g q).goes, .string (pieceV v s.g q).link]) ∧ Blk w' b (prC r (s.next v t q)) 75 ∧ Kept w w' [b] := by
  have hgb : s.g + q ≤ 1000 := by omega
  obtain ⟨pb, po, hao, hsv, hn, -⟩ := hO.head
  have hpv := hO.pts v (List.mem_cons_self ..)
  have hpb : pb ≠ b := hfb _ hao
  have hplt : pb < w.heap.size := cell_lt hsv.c0
  have hblt : b < w.heap.size := hB.lt
  have hbig := hO.row.big
  have hroom := hO.row.room
  have HT : Hid (Tk3 w (boxp v (boxp pv0 w)) b (prC r s) v) := Tk3.start hB v
  have CL : Hid (∀ w', Calls Tryd.prog 70 #[.agg #[.int .i64 v.kind, .int .i64 v.n, .slice v.ao v.m v.cap, .int .i64 v.set, .int .i64 v.clr, .bool v.goes, .string v.link]] w' fun e w'' => e = .returned (.int .i64 (lgV v)) ∧ Below w'.heap.size w' w'') := fun w' => longp_any v w'
  have HSV : Hid (∀ w' : World, Kept w w' [b] → Seven w' pb po v) := fun w' hk => hsv.same (hk.block pb hplt (by simp; exact hpb))
  have HSV0 : Hid (Seven w pb po v) := hsv
  obtain ⟨L, hL⟩ : ∃ L, lgV v = L := ⟨_, rfl⟩
  have HL : Hid (lgV v = L) := hL
  rw [hL] at CL hl hbd hf
  have hL0 := hL
  unfold lgV at hL0
  rw [if_pos hk] at hL0
  have hkb : (v.kind == 2) = true := by simp [hk]
  have hm0 : s.g + q ≤ v.m := by omega
  obtain ⟨ib, io, hvao, -⟩ := hpv.doc.lies (by omega)
  have hsl := slice_li ib io v.m v.cap s.g (s.g + q) (by omega) hm0 hpv.doc.room
  rw [Nat.add_sub_cancel_left] at hsl
  have hU : pieceV v s.g q = ⟨v.kind, v.n, some ⟨ib, io + s.g * 3, none⟩, q, v.cap - s.g, (v.items.drop s.g).take q, v.set, v.clr, v.goes, v.link⟩ := by
    unfold pieceV
    rw [if_pos hk, hvao, Option.map_some, add_off]
  have HU : Hid ((pvC v).set 2 (.slice (some ⟨ib, io + s.g * 3, none⟩) q (v.cap - s.g)) = pvC (pieceV v s.g q)) := by show _ = _; rw [hU]; rfl
  rw [hU] at HU ⊢
  have HN : Hid (s.next v t q = ⟨some ⟨pb, po, none⟩, s.n, s.cap, v :: t, s.g + q⟩) := by
    show _ = _
    unfold RV.next
    rw [hL, if_neg hf, hao]
  obtain ⟨rao, rn, rcap, rvs, g⟩ := s
  obtain ⟨sao, sn, scap, svs, h⟩ := r
  simp only at *
  subst hao
  obtain ⟨gq, hgq⟩ : ∃ gq, g + q = gq := ⟨_, rfl⟩
  have hs0 : (0 : Int) ≤ (g : Int) := Int.natCast_nonneg _
  have hs1 : (g : Int) ≤ (gq : Int) := by omega
  have hs2 : (gq : Int) ≤ (v.cap : Int) := by have := hpv.doc.room; omega
  rw [hgq] at hgb
  obtain ⟨hw1, hw2⟩ := wrap_add hgq hgb
  rw [hgq] at hsl HN hf
  have hfe : ((gq : Int) == L) = false := by simp [hf]
  have HG : Hid (g + q = gq) := hgq
  have hst := slice_tail pb po rn rcap hn
  obtain ⟨kind, vn, vao, m, vcap, items, st, cl, gs, lk⟩ := v
  simp only at *
  subst hvao
  obtain ⟨e0, e1, e2, e3, e4, e5, e6⟩ := HSV0.out
  have b0 : w.cell? ⟨b, 2, none⟩ = some (.slice (some ⟨pb, po, none⟩) rn rcap) := hB.cell 2
  have b1 : w.cell? ⟨b, 2 + 1, none⟩ = some (.int .i64 g) := hB.cell 3
  have hn' : (0 : Int) < (rn : Int) := by omega
  clear hO hfb hgq hU hL hL0 hk hf hsv hB hpv hm0 HSV0
  go_enter Tryd.func60, Tryd.ntmps60
  go_upto_region 2 with fail
  change Code.wp Tryd.prog _ _ _ (boxp ⟨kind, vn, some ⟨ib, io, none⟩, m, vcap, items, st, cl, gs, lk⟩ (boxp pv0 w))
  generalize boxp ⟨kind, vn, some ⟨ib, io, none⟩, m, vcap, items, st, cl, gs, lk⟩ (boxp pv0 w) = W2 at *
  clear b0 b1 e0 e1 e2 e3 e4 e5 e6
  have p0 : W2.cell? ⟨w.heap.size + 1, 0, none⟩ = some (.int .i64 kind) := HT.out.pb.cell 0
  have p2 : W2.cell? ⟨w.heap.size + 1, 2, none⟩ = some (.slice (some ⟨ib, io, none⟩) m vcap) := HT.out.pb.cell 2
  have b1 : W2.cell? ⟨b, 2 + 1, none⟩ = some (.int .i64 g) := HT.out.cb.cell 3
  have f2 := HT.out.pb.frozen 2
  go_upto_region 3 with fail
  go_region
  change Exit.then _ _ Exit.normal _ (W2.drew.setCell ⟨w.heap.size + 1, 2, none⟩ (.slice (some ⟨ib, io + g * 3, none⟩) q (vcap - g)))
  have HT3 := HT.out.drew.own hblt 2 _ HU.out
  generalize W2.drew.setCell ⟨w.heap.size + 1, 2, none⟩ (.slice (some ⟨ib, io + g * 3, none⟩) q (vcap - g)) = W3 at *
  clear p0 p2 b1 f2 HT
  have HT3 : Hid _ := HT3
  have b1 : W3.cell? ⟨b, 2 + 1, none⟩ = some (.int .i64 g) := HT3.out.cb.cell 3
  have f1 := HT3.out.cb.frozen 3
  go_upto_region 6 with fail
  change Code.wp Tryd.prog _ _ _ (W3.setCell ⟨b, 3, none⟩ (.int .i64 gq))
  have HT4 := HT3.out.pair hblt 3 (.int .i64 gq)
  generalize W3.setCell ⟨b, 3, none⟩ (.int .i64 gq) = W4 at *
  have HT4 : Hid _ := HT4
  clear b1 f1 HT3
  have b0 : W4.cell? ⟨b, 2, none⟩ = some (.slice (some ⟨pb, po, none⟩) rn rcap) := HT4.out.cb.cell 2
  have b1 : W4.cell? ⟨b, 2 + 1, none⟩ = some (.int .i64 gq) := HT4.out.cb.cell 3
  obtain ⟨e0, e1, e2, e3, e4, e5, e6⟩ := HSV.out W4 HT4.out.kept
  go_region_with ((go_at_call 70; refine (CL.out _).mono ?_; rintro e w5 ⟨rfl, hb⟩; have HT5 := HT4.out.drew.under hb; have b2 : w5.cell? ⟨b, 2, none⟩ = some (.slice (some ⟨pb, po, none⟩) rn rcap) := HT5.cb.cell 2; have b3 : w5.cell? ⟨b, 2 + 1, none⟩ = some (.int .i64 gq) := HT5.cb.cell 3; clear hb))
  all_goals
    have HT5 : Hid _ := HT5
    clear b0 b1 e0 e1 e2 e3 e4 e5 e6 HT4
    go_upto_region 8 with fail
    have HT6 := HT5.out
    generalize w5 = W6 at *
    have HT6 : Hid _ := HT6
    clear b2 b3 HT5
    have p0 : W6.cell? ⟨w.heap.size + 1, 0, none⟩ = some (.int .i64 kind) := HT6.out.pb.cell 0
    have p1 : W6.cell? ⟨w.heap.size + 1, 1, none⟩ = some (.int .i64 vn) := HT6.out.pb.cell 1
    have p2 : W6.cell? ⟨w.heap.size + 1, 2, none⟩ = some (.slice (some ⟨ib, io + g * 3, none⟩) q (vcap - g)) := HT6.out.pb.cell 2
    have p3 : W6.cell? ⟨w.heap.size + 1, 3, none⟩ = some (.int .i64 st) := HT6.out.pb.cell 3
    have p4 : W6.cell? ⟨w.heap.size + 1, 4, none⟩ = some (.int .i64 cl) := HT6.out.pb.cell 4
    have p5 : W6.cell? ⟨w.heap.size + 1, 5, none⟩ = some (.bool gs) := HT6.out.pb.cell 5
    have p6 : W6.cell? ⟨w.heap.size + 1, 6, none⟩ = some (.string lk) := HT6.out.pb.cell 6
    have r0 : W6.cell? ⟨w.heap.size, 0, none⟩ = some (.int .i64 0) := HT6.out.rb.cell 0
    have r1 : W6.cell? ⟨w.heap.size, 1, none⟩ = some (.int .i64 0) := HT6.out.rb.cell 1
    have r2 : W6.cell? ⟨w.heap.size, 2, none⟩ = some (.slice none 0 0) := HT6.out.rb.cell 2
    have r3 : W6.cell? ⟨w.heap.size, 3, none⟩ = some (.int .i64 0) := HT6.out.rb.cell 3
    have r4 : W6.cell? ⟨w.heap.size, 4, none⟩ = some (.int .i64 0) := HT6.out.rb.cell 4
    have r5 : W6.cell? ⟨w.heap.size, 5, none⟩ = some (.bool false) := HT6.out.rb.cell 5
    have r6 : W6.cell? ⟨w.heap.size, 6, none⟩ = some (.string ⟨#[]⟩) := HT6.out.rb.cell 6
    have g0 := HT6.out.rb.frozen 0
    have g1 := HT6.out.rb.frozen 1
    have g2 := HT6.out.rb.frozen 2
    have g3 := HT6.out.rb.frozen 3
    have g4 := HT6.out.rb.frozen 4
    have g5 := HT6.out.rb.frozen 5
    have g6 := HT6.out.rb.frozen 6
    go_wp2
    change bodyPost Tryd.prog _ _ Exit.ret _ (putP W6 w.heap.size ⟨kind, vn, some ⟨ib, io + g * 3, none⟩, q, vcap - g, (items.drop g).take q, st, cl, gs, lk⟩)
    obtain ⟨d1, d2, d3⟩ := HT6.out.done hblt ⟨kind, vn, some ⟨ib, io + g * 3, none⟩, q, vcap - g, (items.drop g).take q, st, cl, gs, lk⟩
    exact bodyPost_ret (ret_part (k := ⟨kind, vn, some ⟨ib, io + g * 3, none⟩, q, vcap - g, (items.drop g).take q, st, cl, gs, lk⟩) rfl _ rfl d1) rfl ⟨rfl, by rw [HN.out]; exact d2, d3⟩

set_option maxRecDepth 100000 in
set_option maxHeartbeats 3200000 in
theorem take2ne (b : Nat) (r s : RV) (v : PV) (t : List PV) (q : Nat) (w : World) (hB : Blk w b (prC r s) 75) (hO : Ops w s.ao s.n s.cap (v :: t)) (hfb : ∀ a, s.ao = some a → a.block ≠ b) (_hq : 1 ≤ q) (hl : ((s.g + q : Nat) : Int) ≤ lgV v) (hbd : lgV v ≤ 1000)
    (hk : ¬ v.kind = 2) (hf : ((s.g + q : Nat) : Int) = lgV v) :
    Calls Tryd.prog 60 #[.pointer (some ⟨b, 2, none⟩), .int .i64 q] w fun e w' => e = .returned (.agg #[.int .i64 (pieceV v s.g q).kind, .int .i64 (pieceV v s.g q).n, .slice (pieceV v s.g q).ao (pieceV v s.g q).m (pieceV v s.g q).cap, .int .i64 (pieceV v s.g q).set, .int .i64 (pieceV v s.g q).clr, .bool (pieceV v s.g q).goes, .string (pieceV v s.g q).link]) ∧ Blk w' b (prC r (s.next v t q)) 75 ∧ Kept w w' [b] := by
  have hgb : s.g + q ≤ 1000 := by omega
  obtain ⟨pb, po, hao, hsv, hn, -⟩ := hO.head
  have hpv := hO.pts v (List.mem_cons_self ..)
  have hpb : pb ≠ b := hfb _ hao
  have hplt : pb < w.heap.size := cell_lt hsv.c0
  have hblt : b < w.heap.size := hB.lt
  have hbig := hO.row.big
  have hroom := hO.row.room
  have HT : Hid (Tk3 w (boxp v (boxp pv0 w)) b (prC r s) v) := Tk3.start hB v
  have CL : Hid (∀ w', Calls Tryd.prog 70 #[.agg #[.int .i64 v.kind, .int .i64 v.n, .slice v.ao v.m v.cap, .int .i64 v.set, .int .i64 v.clr, .bool v.goes, .string v.link]] w' fun e w'' => e = .returned (.int .i64 (lgV v)) ∧ Below w'.heap.size w' w'') := fun w' => longp_any v w'
  have HSV : Hid (∀ w' : World, Kept w w' [b] → Seven w' pb po v) := fun w' hk => hsv.same (hk.block pb hplt (by simp; exact hpb))
  have HSV0 : Hid (Seven w pb po v) := hsv
  obtain ⟨L, hL⟩ : ∃ L, lgV v = L := ⟨_, rfl⟩
  have HL : Hid (lgV v = L) := hL
  rw [hL] at CL hl hbd hf
  have hL0 := hL
  unfold lgV at hL0
  rw [if_neg hk] at hL0
  have hkb : (v.kind == 2) = false := by simp [hk]
  have hU : pieceV v s.g q = ⟨v.kind, q, v.ao, v.m, v.cap, v.items, v.set, v.clr, v.goes, v.link⟩ := by
    unfold pieceV
    rw [if_neg hk]
  have HU : Hid ((pvC v).set 1 (.int .i64 q) = pvC (pieceV v s.g q)) := by show _ = _; rw [hU]; rfl
  rw [hU] at HU ⊢
  have HN : Hid (s.next v t q = ⟨tailA (some ⟨pb, po, none⟩) s.cap, s.n - 1, s.cap - 1, t, 0⟩) := by
    show _ = _
    unfold RV.next
    rw [hL, if_pos hf, hao]
  obtain ⟨rao, rn, rcap, rvs, g⟩ := s
  obtain ⟨sao, sn, scap, svs, h⟩ := r
  simp only at *
  subst hao
  obtain ⟨gq, hgq⟩ : ∃ gq, g + q = gq := ⟨_, rfl⟩
  rw [hgq] at hgb
  obtain ⟨hw1, hw2⟩ := wrap_add hgq hgb
  rw [hgq] at hf
  have hfe : ((gq : Int) == L) = true := by simp [hf]
  have HG : Hid (g + q = gq) := hgq
  have hst := slice_tail pb po rn rcap hn
  obtain ⟨kind, vn, vao, m, vcap, items, st, cl, gs, lk⟩ := v
  simp only at *
  skip
  obtain ⟨e0, e1, e2, e3, e4, e5, e6⟩ := HSV0.out
  have b0 : w.cell? ⟨b, 2, none⟩ = some (.slice (some ⟨pb, po, none⟩) rn rcap) := hB.cell 2
  have b1 : w.cell? ⟨b, 2 + 1, none⟩ = some (.int .i64 g) := hB.cell 3
  have hn' : (0 : Int) < (rn : Int) := by omega
  clear hO hfb hgq hU hL hL0 hk hf hsv hB hpv HSV0
  go_enter Tryd.func60, Tryd.ntmps60
  go_upto_region 2 with fail
  change Code.wp Tryd.prog _ _ _ (boxp ⟨kind, vn, vao, m, vcap, items, st, cl, gs, lk⟩ (boxp pv0 w))
  generalize boxp ⟨kind, vn, vao, m, vcap, items, st, cl, gs, lk⟩ (boxp pv0 w) = W2 at *
  clear b0 b1 e0 e1 e2 e3 e4 e5 e6
  have p0 : W2.cell? ⟨w.heap.size + 1, 0, none⟩ = some (.int .i64 kind) := HT.out.pb.cell 0
  have p1 : W2.cell? ⟨w.heap.size + 1, 1, none⟩ = some (.int .i64 vn) := HT.out.pb.cell 1
  have f1 := HT.out.pb.frozen 1
  go_upto_region 5 with fail
  change Code.wp Tryd.prog _ _ _ (W2.setCell ⟨w.heap.size + 1, 1, none⟩ (.int .i64 q))
  have HT3 := HT.out.own hblt 1 _ HU.out
  generalize W2.setCell ⟨w.heap.size + 1, 1, none⟩ (.int .i64 q) = W3 at *
  clear p0 p1 f1 HT
  have HT3 : Hid _ := HT3
  have b1 : W3.cell? ⟨b, 2 + 1, none⟩ = some (.int .i64 g) := HT3.out.cb.cell 3
  have f1 := HT3.out.cb.frozen 3
  go_upto_region 6 with fail
  change Code.wp Tryd.prog _ _ _ (W3.setCell ⟨b, 3, none⟩ (.int .i64 gq))
  have HT4 := HT3.out.pair hblt 3 (.int .i64 gq)
  generalize W3.setCell ⟨b, 3, none⟩ (.int .i64 gq) = W4 at *
  have HT4 : Hid _ := HT4
  clear b1 f1 HT3
  have b0 : W4.cell? ⟨b, 2, none⟩ = some (.slice (some ⟨pb, po, none⟩) rn rcap) := HT4.out.cb.cell 2
  have b1 : W4.cell? ⟨b, 2 + 1, none⟩ = some (.int .i64 gq) := HT4.out.cb.cell 3
  obtain ⟨e0, e1, e2, e3, e4, e5, e6⟩ := HSV.out W4 HT4.out.kept
  go_region_with ((go_at_call 70; refine (CL.out _).mono ?_; rintro e w5 ⟨rfl, hb⟩; have HT5 := HT4.out.drew.under hb; have b2 : w5.cell? ⟨b, 2, none⟩ = some (.slice (some ⟨pb, po, none⟩) rn rcap) := HT5.cb.cell 2; have b3 : w5.cell? ⟨b, 2 + 1, none⟩ = some (.int .i64 gq) := HT5.cb.cell 3; clear hb))
  all_goals
    have HT5 : Hid _ := HT5
    clear b0 b1 e0 e1 e2 e3 e4 e5 e6 HT4
    have f0 := HT5.out.cb.frozen 2
    have f1 := HT5.out.cb.frozen 3
    go_upto_region 8 with fail
    change Code.wp Tryd.prog _ _ _ ((w5.setCell ⟨b, 2, none⟩ (.slice (tailA (some ⟨pb, po, none⟩) rcap) (rn - 1) (rcap - 1))).setCell ⟨b, 3, none⟩ (.int .i64 0))
    have HT6 := (HT5.out.pair hblt 2 (.slice (tailA (some ⟨pb, po, none⟩) rcap) (rn - 1) (rcap - 1))).pair hblt 3 (.int .i64 0)
    generalize (w5.setCell ⟨b, 2, none⟩ (.slice (tailA (some ⟨pb, po, none⟩) rcap) (rn - 1) (rcap - 1))).setCell ⟨b, 3, none⟩ (.int .i64 0) = W6 at *
    clear f0 f1
    have HT6 : Hid _ := HT6
    clear b2 b3 HT5
    have p0 : W6.cell? ⟨w.heap.size + 1, 0, none⟩ = some (.int .i64 kind) := HT6.out.pb.cell 0
    have p1 : W6.cell? ⟨w.heap.size + 1, 1, none⟩ = some (.int .i64 q) := HT6.out.pb.cell 1
    have p2 : W6.cell? ⟨w.heap.size + 1, 2, none⟩ = some (.slice vao m vcap) := HT6.out.pb.cell 2
    have p3 : W6.cell? ⟨w.heap.size + 1, 3, none⟩ = some (.int .i64 st) := HT6.out.pb.cell 3
    have p4 : W6.cell? ⟨w.heap.size + 1, 4, none⟩ = some (.int .i64 cl) := HT6.out.pb.cell 4
    have p5 : W6.cell? ⟨w.heap.size + 1, 5, none⟩ = some (.bool gs) := HT6.out.pb.cell 5
    have p6 : W6.cell? ⟨w.heap.size + 1, 6, none⟩ = some (.string lk) := HT6.out.pb.cell 6
    have r0 : W6.cell? ⟨w.heap.size, 0, none⟩ = some (.int .i64 0) := HT6.out.rb.cell 0
    have r1 : W6.cell? ⟨w.heap.size, 1, none⟩ = some (.int .i64 0) := HT6.out.rb.cell 1
    have r2 : W6.cell? ⟨w.heap.size, 2, none⟩ = some (.slice none 0 0) := HT6.out.rb.cell 2
    have r3 : W6.cell? ⟨w.heap.size, 3, none⟩ = some (.int .i64 0) := HT6.out.rb.cell 3
    have r4 : W6.cell? ⟨w.heap.size, 4, none⟩ = some (.int .i64 0) := HT6.out.rb.cell 4
    have r5 : W6.cell? ⟨w.heap.size, 5, none⟩ = some (.bool false) := HT6.out.rb.cell 5
    have r6 : W6.cell? ⟨w.heap.size, 6, none⟩ = some (.string ⟨#[]⟩) := HT6.out.rb.cell 6
    have g0 := HT6.out.rb.frozen 0
    have g1 := HT6.out.rb.frozen 1
    have g2 := HT6.out.rb.frozen 2
    have g3 := HT6.out.rb.frozen 3
    have g4 := HT6.out.rb.frozen 4
    have g5 := HT6.out.rb.frozen 5
    have g6 := HT6.out.rb.frozen 6
    go_wp2
    change bodyPost Tryd.prog _ _ Exit.ret _ (putP W6 w.heap.size ⟨kind, q, vao, m, vcap, items, st, cl, gs, lk⟩)
    obtain ⟨d1, d2, d3⟩ := HT6.out.done hblt ⟨kind, q, vao, m, vcap, items, st, cl, gs, lk⟩
    exact bodyPost_ret (ret_part (k := ⟨kind, q, vao, m, vcap, items, st, cl, gs, lk⟩) rfl _ rfl d1) rfl ⟨rfl, by rw [HN.out]; exact d2, d3⟩

set_option maxRecDepth 100000 in
set_option maxHeartbeats 3200000 in
theorem take2nm (b : Nat) (r s : RV) (v : PV) (t : List PV) (q : Nat) (w : World) (hB : Blk w b (prC r s) 75) (hO : Ops w s.ao s.n s.cap (v :: t)) (hfb : ∀ a, s.ao = some a → a.block ≠ b) (_hq : 1 ≤ q) (hl : ((s.g + q : Nat) : Int) ≤ lgV v) (hbd : lgV v ≤ 1000)
    (hk : ¬ v.kind = 2) (hf : ¬ ((s.g + q : Nat) : Int) = lgV v) :
    Calls Tryd.prog 60 #[.pointer (some ⟨b, 2, none⟩), .int .i64 q] w fun e w' => e = .returned (.agg #[.int .i64 (pieceV v s.g q).kind, .int .i64 (pieceV v s.g q).n, .slice (pieceV v s.g q).ao (pieceV v s.g q).m (pieceV v s.g q).cap, .int .i64 (pieceV v s.g q).set, .int .i64 (pieceV v s.g q).clr, .bool (pieceV v s.g q).goes, .string (pieceV v s.g q).link]) ∧ Blk w' b (prC r (s.next v t q)) 75 ∧ Kept w w' [b] := by
  have hgb : s.g + q ≤ 1000 := by omega
  obtain ⟨pb, po, hao, hsv, hn, -⟩ := hO.head
  have hpv := hO.pts v (List.mem_cons_self ..)
  have hpb : pb ≠ b := hfb _ hao
  have hplt : pb < w.heap.size := cell_lt hsv.c0
  have hblt : b < w.heap.size := hB.lt
  have hbig := hO.row.big
  have hroom := hO.row.room
  have HT : Hid (Tk3 w (boxp v (boxp pv0 w)) b (prC r s) v) := Tk3.start hB v
  have CL : Hid (∀ w', Calls Tryd.prog 70 #[.agg #[.int .i64 v.kind, .int .i64 v.n, .slice v.ao v.m v.cap, .int .i64 v.set, .int .i64 v.clr, .bool v.goes, .string v.link]] w' fun e w'' => e = .returned (.int .i64 (lgV v)) ∧ Below w'.heap.size w' w'') := fun w' => longp_any v w'
  have HSV : Hid (∀ w' : World, Kept w w' [b] → Seven w' pb po v) := fun w' hk => hsv.same (hk.block pb hplt (by simp; exact hpb))
  have HSV0 : Hid (Seven w pb po v) := hsv
  obtain ⟨L, hL⟩ : ∃ L, lgV v = L := ⟨_, rfl⟩
  have HL : Hid (lgV v = L) := hL
  rw [hL] at CL hl hbd hf
  have hL0 := hL
  unfold lgV at hL0
  rw [if_neg hk] at hL0
  have hkb : (v.kind == 2) = false := by simp [hk]
  have hU : pieceV v s.g q = ⟨v.kind, q, v.ao, v.m, v.cap, v.items, v.set, v.clr, v.goes, v.link⟩ := by
    unfold pieceV
    rw [if_neg hk]
  have HU : Hid ((pvC v).set 1 (.int .i64 q) = pvC (pieceV v s.g q)) := by show _ = _; rw [hU]; rfl
  rw [hU] at HU ⊢
  have HN : Hid (s.next v t q = ⟨some ⟨pb, po, none⟩, s.n, s.cap, v :: t, s.g + q⟩) := by
    show _ = _
    unfold RV.next
    rw [hL, if_neg hf, hao]
  obtain ⟨rao, rn, rcap, rvs, g⟩ := s
  obtain ⟨sao, sn, scap, svs, h⟩ := r
  simp only at *
  subst hao
  obtain ⟨gq, hgq⟩ : ∃ gq, g + q = gq := ⟨_, rfl⟩
  rw [hgq] at hgb
  obtain ⟨hw1, hw2⟩ := wrap_add hgq hgb
  rw [hgq] at HN hf
  have hfe : ((gq : Int) == L) = false := by simp [hf]
  have HG : Hid (g + q = gq) := hgq
  have hst := slice_tail pb po rn rcap hn
  obtain ⟨kind, vn, vao, m, vcap, items, st, cl, gs, lk⟩ := v
  simp only at *
  skip
  obtain ⟨e0, e1, e2, e3, e4, e5, e6⟩ := HSV0.out
  have b0 : w.cell? ⟨b, 2, none⟩ = some (.slice (some ⟨pb, po, none⟩) rn rcap) := hB.cell 2
  have b1 : w.cell? ⟨b, 2 + 1, none⟩ = some (.int .i64 g) := hB.cell 3
  have hn' : (0 : Int) < (rn : Int) := by omega
  clear hO hfb hgq hU hL hL0 hk hf hsv hB hpv HSV0
  go_enter Tryd.func60, Tryd.ntmps60
  go_upto_region 2 with fail
  change Code.wp Tryd.prog _ _ _ (boxp ⟨kind, vn, vao, m, vcap, items, st, cl, gs, lk⟩ (boxp pv0 w))
  generalize boxp ⟨kind, vn, vao, m, vcap, items, st, cl, gs, lk⟩ (boxp pv0 w) = W2 at *
  clear b0 b1 e0 e1 e2 e3 e4 e5 e6
  have p0 : W2.cell? ⟨w.heap.size + 1, 0, none⟩ = some (.int .i64 kind) := HT.out.pb.cell 0
  have p1 : W2.cell? ⟨w.heap.size + 1, 1, none⟩ = some (.int .i64 vn) := HT.out.pb.cell 1
  have f1 := HT.out.pb.frozen 1
  go_upto_region 5 with fail
  change Code.wp Tryd.prog _ _ _ (W2.setCell ⟨w.heap.size + 1, 1, none⟩ (.int .i64 q))
  have HT3 := HT.out.own hblt 1 _ HU.out
  generalize W2.setCell ⟨w.heap.size + 1, 1, none⟩ (.int .i64 q) = W3 at *
  clear p0 p1 f1 HT
  have HT3 : Hid _ := HT3
  have b1 : W3.cell? ⟨b, 2 + 1, none⟩ = some (.int .i64 g) := HT3.out.cb.cell 3
  have f1 := HT3.out.cb.frozen 3
  go_upto_region 6 with fail
  change Code.wp Tryd.prog _ _ _ (W3.setCell ⟨b, 3, none⟩ (.int .i64 gq))
  have HT4 := HT3.out.pair hblt 3 (.int .i64 gq)
  generalize W3.setCell ⟨b, 3, none⟩ (.int .i64 gq) = W4 at *
  have HT4 : Hid _ := HT4
  clear b1 f1 HT3
  have b0 : W4.cell? ⟨b, 2, none⟩ = some (.slice (some ⟨pb, po, none⟩) rn rcap) := HT4.out.cb.cell 2
  have b1 : W4.cell? ⟨b, 2 + 1, none⟩ = some (.int .i64 gq) := HT4.out.cb.cell 3
  obtain ⟨e0, e1, e2, e3, e4, e5, e6⟩ := HSV.out W4 HT4.out.kept
  go_region_with ((go_at_call 70; refine (CL.out _).mono ?_; rintro e w5 ⟨rfl, hb⟩; have HT5 := HT4.out.drew.under hb; have b2 : w5.cell? ⟨b, 2, none⟩ = some (.slice (some ⟨pb, po, none⟩) rn rcap) := HT5.cb.cell 2; have b3 : w5.cell? ⟨b, 2 + 1, none⟩ = some (.int .i64 gq) := HT5.cb.cell 3; clear hb))
  all_goals
    have HT5 : Hid _ := HT5
    clear b0 b1 e0 e1 e2 e3 e4 e5 e6 HT4
    go_upto_region 8 with fail
    have HT6 := HT5.out
    generalize w5 = W6 at *
    have HT6 : Hid _ := HT6
    clear b2 b3 HT5
    have p0 : W6.cell? ⟨w.heap.size + 1, 0, none⟩ = some (.int .i64 kind) := HT6.out.pb.cell 0
    have p1 : W6.cell? ⟨w.heap.size + 1, 1, none⟩ = some (.int .i64 q) := HT6.out.pb.cell 1
    have p2 : W6.cell? ⟨w.heap.size + 1, 2, none⟩ = some (.slice vao m vcap) := HT6.out.pb.cell 2
    have p3 : W6.cell? ⟨w.heap.size + 1, 3, none⟩ = some (.int .i64 st) := HT6.out.pb.cell 3
    have p4 : W6.cell? ⟨w.heap.size + 1, 4, none⟩ = some (.int .i64 cl) := HT6.out.pb.cell 4
    have p5 : W6.cell? ⟨w.heap.size + 1, 5, none⟩ = some (.bool gs) := HT6.out.pb.cell 5
    have p6 : W6.cell? ⟨w.heap.size + 1, 6, none⟩ = some (.string lk) := HT6.out.pb.cell 6
    have r0 : W6.cell? ⟨w.heap.size, 0, none⟩ = some (.int .i64 0) := HT6.out.rb.cell 0
    have r1 : W6.cell? ⟨w.heap.size, 1, none⟩ = some (.int .i64 0) := HT6.out.rb.cell 1
    have r2 : W6.cell? ⟨w.heap.size, 2, none⟩ = some (.slice none 0 0) := HT6.out.rb.cell 2
    have r3 : W6.cell? ⟨w.heap.size, 3, none⟩ = some (.int .i64 0) := HT6.out.rb.cell 3
    have r4 : W6.cell? ⟨w.heap.size, 4, none⟩ = some (.int .i64 0) := HT6.out.rb.cell 4
    have r5 : W6.cell? ⟨w.heap.size, 5, none⟩ = some (.bool false) := HT6.out.rb.cell 5
    have r6 : W6.cell? ⟨w.heap.size, 6, none⟩ = some (.string ⟨#[]⟩) := HT6.out.rb.cell 6
    have g0 := HT6.out.rb.frozen 0
    have g1 := HT6.out.rb.frozen 1
    have g2 := HT6.out.rb.frozen 2
    have g3 := HT6.out.rb.frozen 3
    have g4 := HT6.out.rb.frozen 4
    have g5 := HT6.out.rb.frozen 5
    have g6 := HT6.out.rb.frozen 6
    go_wp2
    change bodyPost Tryd.prog _ _ Exit.ret _ (putP W6 w.heap.size ⟨kind, q, vao, m, vcap, items, st, cl, gs, lk⟩)
    obtain ⟨d1, d2, d3⟩ := HT6.out.done hblt ⟨kind, q, vao, m, vcap, items, st, cl, gs, lk⟩
    exact bodyPost_ret (ret_part (k := ⟨kind, q, vao, m, vcap, items, st, cl, gs, lk⟩) rfl _ rfl d1) rfl ⟨rfl, by rw [HN.out]; exact d2, d3⟩

theorem take2_any (b : Nat) (r s : RV) (v : PV) (t : List PV) (q : Nat) (w : World) (hB : Blk w b (prC r s) 75) (hO : Ops w s.ao s.n s.cap (v :: t)) (hfb : ∀ a, s.ao = some a → a.block ≠ b) (hq : 1 ≤ q) (hl : ((s.g + q : Nat) : Int) ≤ lgV v) (hbd : lgV v ≤ 1000) :
    Calls Tryd.prog 60 #[.pointer (some ⟨b, 2, none⟩), .int .i64 q] w fun e w' => e = .returned (.agg #[.int .i64 (pieceV v s.g q).kind, .int .i64 (pieceV v s.g q).n, .slice (pieceV v s.g q).ao (pieceV v s.g q).m (pieceV v s.g q).cap, .int .i64 (pieceV v s.g q).set, .int .i64 (pieceV v s.g q).clr, .bool (pieceV v s.g q).goes, .string (pieceV v s.g q).link]) ∧ Blk w' b (prC r (s.next v t q)) 75 ∧ Kept w w' [b] := by
  by_cases hk : v.kind = 2
  · by_cases hf : ((s.g + q : Nat) : Int) = lgV v
    · exact take2pe b r s v t q w hB hO hfb hq hl hbd hk hf
    · exact take2pm b r s v t q w hB hO hfb hq hl hbd hk hf
  · by_cases hf : ((s.g + q : Nat) : Int) = lgV v
    · exact take2ne b r s v t q w hB hO hfb hq hl hbd hk hf
    · exact take2nm b r s v t q w hB hO hfb hq hl hbd hk hf
end Go.Proofs.YtaigleblmbblcaaDoor
