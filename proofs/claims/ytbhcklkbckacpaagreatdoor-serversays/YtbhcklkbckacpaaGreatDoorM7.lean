/-
  Texts of this proof, one behind the other.
-/
import Derived.Test.YtbhcklkbckacpaaGreatDoorM6

/-
  Package ot: the next items of the next part, taken: of the first one of a pair.
-/
namespace Go.Proofs.YtbhcklkbckacpaaGreatDoor
open Go.RowKit

set_option maxRecDepth 100000 in
set_option maxHeartbeats 3200000 in
theorem take0pe (b : Nat) (r s : RV) (v : PV) (t : List PV) (q : Nat) (w : World) (hB : Blk w b (prC r s) 272) (hO : Ops w r.ao r.n r.cap (v :: t)) (hfb : ∀ a, r.ao = some a → a.block ≠ b) (hq : 1 ≤ q) (hl : ((r.g + q : Nat) : Int) ≤ lgV v) (hbd : lgV v ≤ 1000)
    (hk : v.kind = 2) (hf : ((r.g + q : Nat) : Int) = lgV v) :
    Calls Tryz.prog 283 #[.pointer (some ⟨b, 0, none⟩), .int .i64 q] w fun e w' => e = .returned (.agg #[.int .i64 (pieceV v r.g q).kind, .int .i64 (pieceV v r.g q).n, .slice (pieceV v r.g q).ao (pieceV v r.g q).m (pieceV v r.g q).cap, .int .i64 (pieceV v r.g q).set, .int .i64 (pieceV v r.g q).clr, .bool (pieceV v r.g q).goes, .string (pieceV v r.g q).link]) ∧ Blk w' b (prC (r.next v t q) s) 272 ∧ Kept w w' [b] := by
  have hgb : r.g + q ≤ 1000 := by omega
  obtain ⟨pb, po, hao, hsv, hn, -⟩ := hO.head
  have hpv := hO.pts v (List.mem_cons_self ..)
  have hpb : pb ≠ b := hfb _ hao
  have hplt : pb < w.heap.size := cell_lt hsv.c0
  have hblt : b < w.heap.size := hB.lt
  have hbig := hO.row.big
  have hroom := hO.row.room
  have HT : Hid (Tk3 w (boxp v (boxp pv0 w)) b (prC r s) v) := Tk3.start hB v
  have CL : Hid (∀ w', Calls Tryz.prog 308 #[.agg #[.int .i64 v.kind, .int .i64 v.n, .slice v.ao v.m v.cap, .int .i64 v.set, .int .i64 v.clr, .bool v.goes, .string v.link]] w' fun e w'' => e = .returned (.int .i64 (lgV v)) ∧ Below w'.heap.size w' w'') := fun w' => longp_any v w'
  have HSV : Hid (∀ w' : World, Kept w w' [b] → Seven w' pb po v) := fun w' hk => hsv.same (hk.block pb hplt (by simp; exact hpb))
  have HSV0 : Hid (Seven w pb po v) := hsv
  obtain ⟨L, hL⟩ : ∃ L, lgV v = L := ⟨_, rfl⟩
  have HL : Hid (lgV v = L) := hL
  rw [hL] at CL hl hbd hf
  have hL0 := hL
  unfold lgV at hL0
  rw [if_pos hk] at hL0
  have hkb : (v.kind == 2) = true := by simp [hk]
  have hm0 : r.g + q ≤ v.m := by omega
  obtain ⟨ib, io, hvao, -⟩ := hpv.doc.lies (by omega)
  have hsl := slice_li ib io v.m v.cap r.g (r.g + q) (by omega) hm0 hpv.doc.room
  rw [Nat.add_sub_cancel_left] at hsl
  have hU : pieceV v r.g q = ⟨v.kind, v.n, some ⟨ib, io + r.g * 3, none⟩, q, v.cap - r.g, (v.items.drop r.g).take q, v.set, v.clr, v.goes, v.link⟩ := by
    unfold pieceV
    rw [if_pos hk, hvao, Option.map_some, add_off]
  have HU : Hid ((pvC v).set 2 (.slice (some ⟨ib, io + r.g * 3, none⟩) q (v.cap - r.g)) = pvC (pieceV v r.g q)) := by show _ = _; rw [hU]; rfl
  rw [hU] at HU ⊢
  have HN : Hid (r.next v t q = ⟨tailA (some ⟨pb, po, none⟩) r.cap, r.n - 1, r.cap - 1, t, 0⟩) := by
    show _ = _
    unfold RV.next
    rw [hL, if_pos hf, hao]
  obtain ⟨rao, rn, rcap, rvs, g⟩ := r
  obtain ⟨sao, sn, scap, svs, h⟩ := s
  simp only at *
  subst hao
  obtain ⟨gq, hgq⟩ : ∃ gq, g + q = gq := ⟨_, rfl⟩
  have hs0 : (0 : Int) ≤ (g : Int) := Int.natCast_nonneg _
  have hs1 : (g : Int) ≤ (gq : Int) := by omega
  have hs2 : (gq : Int) ≤ (v.cap : Int) := by have := hpv.doc.room; omega
  rw [hgq] at hgb
  obtain ⟨hw1, hw2⟩ := wrap_add hgq hgb
  rw [hgq] at hsl hf
  have hfe : ((gq : Int) == L) = true := by simp [hf]
  have HG : Hid (g + q = gq) := hgq
  have hst := slice_tail pb po rn rcap hn
  obtain ⟨kind, vn, vao, m, vcap, items, st, cl, gs, lk⟩ := v
  simp only at *
  subst hvao
  obtain ⟨e0, e1, e2, e3, e4, e5, e6⟩ := HSV0.out
  have b0 : w.cell? ⟨b, 0, none⟩ = some (.slice (some ⟨pb, po, none⟩) rn rcap) := hB.cell 0
  have b1 : w.cell? ⟨b, 0 + 1, none⟩ = some (.int .i64 g) := hB.cell 1
  have hn' : (0 : Int) < (rn : Int) := by omega
  clear hO hfb hgq hU hL hL0 hk hf hsv hB hpv hm0 HSV0
  go_enter Tryz.func283, Tryz.ntmps283
  go_upto_region 2 with fail
  change Code.wp Tryz.prog _ _ _ (boxp ⟨kind, vn, some ⟨ib, io, none⟩, m, vcap, items, st, cl, gs, lk⟩ (boxp pv0 w))
  generalize boxp ⟨kind, vn, some ⟨ib, io, none⟩, m, vcap, items, st, cl, gs, lk⟩ (boxp pv0 w) = W2 at *
  clear b0 b1 e0 e1 e2 e3 e4 e5 e6
  have p0 : W2.cell? ⟨w.heap.size + 1, 0, none⟩ = some (.int .i64 kind) := HT.out.pb.cell 0
  have p2 : W2.cell? ⟨w.heap.size + 1, 2, none⟩ = some (.slice (some ⟨ib, io, none⟩) m vcap) := HT.out.pb.cell 2
  have b1 : W2.cell? ⟨b, 0 + 1, none⟩ = some (.int .i64 g) := HT.out.cb.cell 1
  have f2 := HT.out.pb.frozen 2
  go_upto_region 3 with fail
  go_region
  change Exit.then _ _ Exit.normal _ (W2.drew.setCell ⟨w.heap.size + 1, 2, none⟩ (.slice (some ⟨ib, io + g * 3, none⟩) q (vcap - g)))
  have HT3 := HT.out.drew.own hblt 2 _ HU.out
  generalize W2.drew.setCell ⟨w.heap.size + 1, 2, none⟩ (.slice (some ⟨ib, io + g * 3, none⟩) q (vcap - g)) = W3 at *
  clear p0 p2 b1 f2 HT
  have HT3 : Hid _ := HT3
  have b1 : W3.cell? ⟨b, 0 + 1, none⟩ = some (.int .i64 g) := HT3.out.cb.cell 1
  have f1 := HT3.out.cb.frozen 1
  go_upto_region 6 with fail
  change Code.wp Tryz.prog _ _ _ (W3.setCell ⟨b, 1, none⟩ (.int .i64 gq))
  have HT4 := HT3.out.pair hblt 1 (.int .i64 gq)
  generalize W3.setCell ⟨b, 1, none⟩ (.int .i64 gq) = W4 at *
  have HT4 : Hid _ := HT4
  clear b1 f1 HT3
  have b0 : W4.cell? ⟨b, 0, none⟩ = some (.slice (some ⟨pb, po, none⟩) rn rcap) := HT4.out.cb.cell 0
  have b1 : W4.cell? ⟨b, 0 + 1, none⟩ = some (.int .i64 gq) := HT4.out.cb.cell 1
  obtain ⟨e0, e1, e2, e3, e4, e5, e6⟩ := HSV.out W4 HT4.out.kept
  go_region_with ((go_at_call 308; refine (CL.out _).mono ?_; rintro e w5 ⟨rfl, hb⟩; have HT5 := HT4.out.drew.under hb; have b2 : w5.cell? ⟨b, 0, none⟩ = some (.slice (some ⟨pb, po, none⟩) rn rcap) := HT5.cb.cell 0; have b3 : w5.cell? ⟨b, 0 + 1, none⟩ = some (.int .i64 gq) := HT5.cb.cell 1; clear hb))
  all_goals
    have HT5 : Hid _ := HT5
    clear b0 b1 e0 e1 e2 e3 e4 e5 e6 HT4
    have f0 := HT5.out.cb.frozen 0
    have f1 := HT5.out.cb.frozen 1
    go_upto_region 8 with fail
    change Code.wp Tryz.prog _ _ _ ((w5.setCell ⟨b, 0, none⟩ (.slice (tailA (some ⟨pb, po, none⟩) rcap) (rn - 1) (rcap - 1))).setCell ⟨b, 1, none⟩ (.int .i64 0))
    have HT6 := (HT5.out.pair hblt 0 (.slice (tailA (some ⟨pb, po, none⟩) rcap) (rn - 1) (rcap - 1))).pair hblt 1 (.int .i64 0)
    generalize (w5.setCell ⟨b, 0, none⟩ (.slice (tailA (some ⟨pb, po, none⟩) rcap) (rn - 1) (rcap - 1))).setCell ⟨b, 1, none⟩ (.int .i64 0) = W6 at *
    clear f0 f1
    have HT6 : Hid _ := HT6
    clear b2 b3 HT5
    have p0 : W6.cell? ⟨w.heap.size + 1, 0, none⟩ = some (.int .i64 kind) := HT6.out.pb.cell 0
    have p1 : W6.cell? ⟨w.heap.size + 1, 1, none⟩ = some (.int .i64 vn) := HT6.out.pb.cell 1
    have p2 : W6.cell? ⟨w.heap.size + 1, 2, none⟩ = some (.slice (some ⟨ib, io + g * 3, none⟩) q (vcap - g)) := HT6.out.pb.cell 2
    have p3 : W6.cell? ⟨w.heap.size + 1, 3, none⟩ = some (.int .i64 st) := HT6.out.pb.cell 3
    have p4 : W6.cell? ⟨w.heap.size + 1, 4, none⟩ = some (.int .i64 cl) := HT6.out.pb.cell 4
    have p5 : W6.cell? ⟨w.heap.size + 1, 5, none⟩ = some (.bool gs) := HT6.out.pb.cell 5
    have p6 : W6.cell? ⟨w.heap.size + 1, 6, none⟩ = some (.string lk) := HT6.out.pb.cell 6
    have r0 : W6.cell? ⟨w.heap.size, 0, none⟩ = some (.int .i64 0) := HT6.out.rb.cell 0
    have r1 : W6.cell? ⟨w.heap.size, 1, none⟩ = some (.int .i64 0) := HT6.out.rb.cell 1
    have r2 : W6.cell? ⟨w.heap.size, 2, none⟩ = some (.slice none 0 0) := HT6.out.rb.cell 2
    have r3 : W6.cell? ⟨w.heap.size, 3, none⟩ = some (.int .i64 0) := HT6.out.rb.cell 3
    have r4 : W6.cell? ⟨w.heap.size, 4, none⟩ = some (.int .i64 0) := HT6.out.rb.cell 4
    have r5 : W6.cell? ⟨w.heap.size, 5, none⟩ = some (.bool false) := HT6.out.rb.cell 5
    have r6 : W6.cell? ⟨w.heap.size, 6, none⟩ = some (.string ⟨#[]⟩) := HT6.out.rb.cell 6
    have g0 := HT6.out.rb.frozen 0
    have g1 := HT6.out.rb.frozen 1
    have g2 := HT6.out.rb.frozen 2
    have g3 := HT6.out.rb.frozen 3
    have g4 := HT6.out.rb.frozen 4
    have g5 := HT6.out.rb.frozen 5
    have g6 := HT6.out.rb.frozen 6
    go_wp2
    change bodyPost Tryz.prog _ _ Exit.ret _ (putP W6 w.heap.size ⟨kind, vn, some ⟨ib, io + g * 3, none⟩, q, vcap - g, (items.drop g).take q, st, cl, gs, lk⟩)
    obtain ⟨d1, d2, d3⟩ := HT6.out.done hblt ⟨kind, vn, some ⟨ib, io + g * 3, none⟩, q, vcap - g, (items.drop g).take q, st, cl, gs, lk⟩
    exact bodyPost_ret (ret_part (k := ⟨kind, vn, some ⟨ib, io + g * 3, none⟩, q, vcap - g, (items.drop g).take q, st, cl, gs, lk⟩) rfl _ rfl d1) rfl ⟨rfl, by rw [HN.out]; exact d2, d3⟩

set_option maxRecDepth 100000 in
set_option maxHeartbeats 3200000 in
theorem take0pm (b : Nat) (r s : RV) (v : PV) (t : List PV) (q : Nat) (w : World) (hB : Blk w b (prC r s) 272) (hO : Ops w r.ao r.n r.cap (v :: t)) (hfb : ∀ a, r.ao = some a → a.block ≠ b) (hq : 1 ≤ q) (hl : ((r.g + q : Nat) : Int) ≤ lgV v) (hbd : lgV v ≤ 1000)
    (hk : v.kind = 2) (hf : ¬ ((r.g + q : Nat) : Int) = lgV v) :
    Calls Tryz.prog 283 #[.pointer (some ⟨b, 0, none⟩), .int .i64 q] w fun e w' => e = .returned (.agg #[.int .i64 (pieceV v r.g q).kind, .int .i64 (pieceV v r.g q).n, .slice (pieceV v r.g q).ao (pieceV v r.g q).m (pieceV v r.g q).cap, .int .i64 (pieceV v r.g q).set, .int .i64 (pieceV v r.g q).clr, .bool (pieceV v r.g q).goes, .string (pieceV v r.g q).link]) ∧ Blk w' b (prC (r.next v t q) s) 272 ∧ Kept w w' [b] := by
  have hgb : r.g + q ≤ 1000 := by omega
  obtain ⟨pb, po, hao, hsv, hn, -⟩ := hO.head
  have hpv := hO.pts v (List.mem_cons_self ..)
  have hpb : pb ≠ b := hfb _ hao
  have hplt : pb < w.heap.size := cell_lt hsv.c0
  have hblt : b < w.heap.size := hB.lt
  have hbig := hO.row.big
  have hroom := hO.row.room
  have HT : Hid (Tk3 w (boxp v (boxp pv0 w)) b (prC r s) v) := Tk3.start hB v
  have CL : Hid (∀ w', Calls Tryz.prog 308 #[.agg #[.int .i64 v.kind, .int .i64 v.n, .slice v.ao v.m v.cap, .int .i64 v.set, .int .i64 v.clr, .bool v.goes, .string v.link]] w' fun e w'' => e = .returned (.int .i64 (lgV v)) ∧ Below w'.heap.size w' w'') := fun w' => longp_any v w'
  have HSV : Hid (∀ w' : World, Kept w w' [b] → Seven w' pb po v) := fun w' hk => hsv.same (hk.block pb hplt (by simp; exact hpb))
  have HSV0 : Hid (Seven w pb po v) := hsv
  obtain ⟨L, hL⟩ : ∃ L, lgV v = L := ⟨_, rfl⟩
  have HL : Hid (lgV v = L) := hL
  rw [hL] at CL hl hbd hf
  have hL0 := hL
  unfold lgV at hL0
  rw [if_pos hk] at hL0
  have hkb : (v.kind == 2) = true := by simp [hk]
  have hm0 : r.g + q ≤ v.m := by omega
  obtain ⟨ib, io, hvao, -⟩ := hpv.doc.lies (by omega)
  have hsl := slice_li ib io v.m v.cap r.g (r.g + q) (by omega) hm0 hpv.doc.room
  rw [Nat.add_sub_cancel_left] at hsl
  have hU : pieceV v r.g q = ⟨v.kind, v.n, some ⟨ib, io + r.g * 3, none⟩, q, v.cap - r.g, (v.items.drop r.g).take q, v.set, v.clr, v.goes, v.link⟩ := by
    unfold pieceV
    rw [if_pos hk, hvao, Option.map_some, add_off]
  have HU : Hid ((pvC v).set 2 (.slice (some ⟨ib, io + r.g * 3, none⟩) q (v.cap - r.g)) = pvC (pieceV v r.g q)) := by show _ = _; rw [hU]; rfl
  rw [hU] at HU ⊢
  have HN : Hid (r.next v t q = ⟨some ⟨pb, po, none⟩, r.n, r.cap, v :: t, r.g + q⟩) := by
    show _ = _
    unfold RV.next
    rw [hL, if_neg hf, hao]
  obtain ⟨rao, rn, rcap, rvs, g⟩ := r
  obtain ⟨sao, sn, scap, svs, h⟩ := s
  simp only at *
  subst hao
  obtain ⟨gq, hgq⟩ : ∃ gq, g + q = gq := ⟨_, rfl⟩
  have hs0 : (0 : Int) ≤ (g : Int) := Int.natCast_nonneg _
  have hs1 : (g : Int) ≤ (gq : Int) := by omega
  have hs2 : (gq : Int) ≤ (v.cap : Int) := by have := hpv.doc.room; omega
  rw [hgq] at hgb
  obtain ⟨hw1, hw2⟩ := wrap_add hgq hgb
  rw [hgq] at hsl HN hf
  have hfe : ((gq : Int) == L) = false := by simp [hf]
  have HG : Hid (g + q = gq) := hgq
  have hst := slice_tail pb po rn rcap hn
  obtain ⟨kind, vn, vao, m, vcap, items, st, cl, gs, lk⟩ := v
  simp only at *
  subst hvao
  obtain ⟨e0, e1, e2, e3, e4, e5, e6⟩ := HSV0.out
  have b0 : w.cell? ⟨b, 0, none⟩ = some (.slice (some ⟨pb, po, none⟩) rn rcap) := hB.cell 0
  have b1 : w.cell? ⟨b, 0 + 1, none⟩ = some (.int .i64 g) := hB.cell 1
  have hn' : (0 : Int) < (rn : Int) := by omega
  clear hO hfb hgq hU hL hL0 hk hf hsv hB hpv hm0 HSV0
  go_enter Tryz.func283, Tryz.ntmps283
  go_upto_region 2 with fail
  change Code.wp Tryz.prog _ _ _ (boxp ⟨kind, vn, some ⟨ib, io, none⟩, m, vcap, items, st, cl, gs, lk⟩ (boxp pv0 w))
  generalize boxp ⟨kind, vn, some ⟨ib, io, none⟩, m, vcap, items, st, cl, gs, lk⟩ (boxp pv0 w) = W2 at *
  clear b0 b1 e0 e1 e2 e3 e4 e5 e6
  have p0 : W2.cell? ⟨w.heap.size + 1, 0, none⟩ = some (.int .i64 kind) := HT.out.pb.cell 0
  have p2 : W2.cell? ⟨w.heap.size + 1, 2, none⟩ = some (.slice (some ⟨ib, io, none⟩) m vcap) := HT.out.pb.cell 2
  have b1 : W2.cell? ⟨b, 0 + 1, none⟩ = some (.int .i64 g) := HT.out.cb.cell 1
  have f2 := HT.out.pb.frozen 2
  go_upto_region 3 with fail
  go_region
  change Exit.then _ _ Exit.normal _ (W2.drew.setCell ⟨w.heap.size + 1, 2, none⟩ (.slice (some ⟨ib, io + g * 3, none⟩) q (vcap - g)))
  have HT3 := HT.out.drew.own hblt 2 _ HU.out
  generalize W2.drew.setCell ⟨w.heap.size + 1, 2, none⟩ (.slice (some ⟨ib, io + g * 3, none⟩) q (vcap - g)) = W3 at *
  clear p0 p2 b1 f2 HT
  have HT3 : Hid _ := HT3
  have b1 : W3.cell? ⟨b, 0 + 1, none⟩ = some (.int .i64 g) := HT3.out.cb.cell 1
  have f1 := HT3.out.cb.frozen 1
  go_upto_region 6 with fail
  change Code.wp Tryz.prog _ _ _ (W3.setCell ⟨b, 1, none⟩ (.int .i64 gq))
  have HT4 := HT3.out.pair hblt 1 (.int .i64 gq)
  generalize W3.setCell ⟨b, 1, none⟩ (.int .i64 gq) = W4 at *
  have HT4 : Hid _ := HT4
  clear b1 f1 HT3
  have b0 : W4.cell? ⟨b, 0, none⟩ = some (.slice (some ⟨pb, po, none⟩) rn rcap) := HT4.out.cb.cell 0
  have b1 : W4.cell? ⟨b, 0 + 1, none⟩ = some (.int .i64 gq) := HT4.out.cb.cell 1
  obtain ⟨e0, e1, e2, e3, e4, e5, e6⟩ := HSV.out W4 HT4.out.kept
  go_region_with ((go_at_call 308; refine (CL.out _).mono ?_; rintro e w5 ⟨rfl, hb⟩; have HT5 := HT4.out.drew.under hb; have b2 : w5.cell? ⟨b, 0, none⟩ = some (.slice (some ⟨pb, po, none⟩) rn rcap) := HT5.cb.cell 0; have b3 : w5.cell? ⟨b, 0 + 1, none⟩ = some (.int .i64 gq) := HT5.cb.cell 1; clear hb))
  all_goals
    have HT5 : Hid _ := HT5
    clear b0 b1 e0 e1 e2 e3 e4 e5 e6 HT4
    go_upto_region 8 with fail
    have HT6 := HT5.out
    generalize w5 = W6 at *
    have HT6 : Hid _ := HT6
    clear b2 b3 HT5
    have p0 : W6.cell? ⟨w.heap.size + 1, 0, none⟩ = some (.int .i64 kind) := HT6.out.pb.cell 0
    have p1 : W6.cell? ⟨w.heap.size + 1, 1, none⟩ = some (.int .i64 vn) := HT6.out.pb.cell 1
    have p2 : W6.cell? ⟨w.heap.size + 1, 2, none⟩ = some (.slice (some ⟨ib, io + g * 3, none⟩) q (vcap - g)) := HT6.out.pb.cell 2
    have p3 : W6.cell? ⟨w.heap.size + 1, 3, none⟩ = some (.int .i64 st) := HT6.out.pb.cell 3
    have p4 : W6.cell? ⟨w.heap.size + 1, 4, none⟩ = some (.int .i64 cl) := HT6.out.pb.cell 4
    have p5 : W6.cell? ⟨w.heap.size + 1, 5, none⟩ = some (.bool gs) := HT6.out.pb.cell 5
    have p6 : W6.cell? ⟨w.heap.size + 1, 6, none⟩ = some (.string lk) := HT6.out.pb.cell 6
    have r0 : W6.cell? ⟨w.heap.size, 0, none⟩ = some (.int .i64 0) := HT6.out.rb.cell 0
    have r1 : W6.cell? ⟨w.heap.size, 1, none⟩ = some (.int .i64 0) := HT6.out.rb.cell 1
    have r2 : W6.cell? ⟨w.heap.size, 2, none⟩ = some (.slice none 0 0) := HT6.out.rb.cell 2
    have r3 : W6.cell? ⟨w.heap.size, 3, none⟩ = some (.int .i64 0) := HT6.out.rb.cell 3
    have r4 : W6.cell? ⟨w.heap.size, 4, none⟩ = some (.int .i64 0) := HT6.out.rb.cell 4
    have r5 : W6.cell? ⟨w.heap.size, 5, none⟩ = some (.bool false) := HT6.out.rb.cell 5
    have r6 : W6.cell? ⟨w.heap.size, 6, none⟩ = some (.string ⟨#[]⟩) := HT6.out.rb.cell 6
    have g0 := HT6.out.rb.frozen 0
    have g1 := HT6.out.rb.frozen 1
    have g2 := HT6.out.rb.frozen 2
    have g3 := HT6.out.rb.frozen 3
    have g4 := HT6.out.rb.frozen 4
    have g5 := HT6.out.rb.frozen 5
    have g6 := HT6.out.rb.frozen 6
    go_wp2
    change bodyPost Tryz.prog _ _ Exit.ret _ (putP W6 w.heap.size ⟨kind, vn, some ⟨ib, io + g * 3, none⟩, q, vcap - g, (items.drop g).take q, st, cl, gs, lk⟩)
    obtain ⟨d1, d2, d3⟩ := HT6.out.done hblt ⟨kind, vn, some ⟨ib, io + g * 3, none⟩, q, vcap - g, (items.drop g).take q, st, cl, gs, lk⟩
    exact bodyPost_ret (ret_part (k := ⟨kind, vn, some ⟨ib, io + g * 3, none⟩, q, vcap - g, (items.drop g).take q, st, cl, gs, lk⟩) rfl _ rfl d1) rfl ⟨rfl, by rw [HN.out]; exact d2, d3⟩

set_option maxRecDepth 100000 in
set_option maxHeartbeats 3200000 in
theorem take0ne (b : Nat) (r s : RV) (v : PV) (t : List PV) (q : Nat) (w : World) (hB : Blk w b (prC r s) 272) (hO : Ops w r.ao r.n r.cap (v :: t)) (hfb : ∀ a, r.ao = some a → a.block ≠ b) (_hq : 1 ≤ q) (hl : ((r.g + q : Nat) : Int) ≤ lgV v) (hbd : lgV v ≤ 1000)
    (hk : ¬ v.kind = 2) (hf : ((r.g + q : Nat) : Int) = lgV v) :
    Calls Tryz.prog 283 #[.pointer (some ⟨b, 0, none⟩), .int .i64 q] w fun e w' => e = .returned (.agg #[.int .i64 (pieceV v r.g q).kind, .int .i64 (pieceV v r.g q).n, .slice (pieceV v r.g q).ao (pieceV v r.g q).m (pieceV v r.g q).cap, .int .i64 (pieceV v r.g q).set, .int .i64 (pieceV v r.g q).clr, .bool (pieceV v r.g q).goes, .string (pieceV v r.g q).link]) ∧ Blk w' b (prC (r.next v t q) s) 272 ∧ Kept w w' [b] := by
  have hgb : r.g + q ≤ 1000 := by omega
  obtain ⟨pb, po, hao, hsv, hn, -⟩ := hO.head
  have hpv := hO.pts v (List.mem_cons_self ..)
  have hpb : pb ≠ b := hfb _ hao
  have hplt : pb < w.heap.size := cell_lt hsv.c0
  have hblt : b < w.heap.size := hB.lt
  have hbig := hO.row.big
  have hroom := hO.row.room
  have HT : Hid (Tk3 w (boxp v (boxp pv0 w)) b (prC r s) v) := Tk3.start hB v
  have CL : Hid (∀ w', Calls Tryz.prog 308 #[.agg #[.int .i64 v.kind, .int .i64 v.n, .slice v.ao v.m v.cap, .int .i64 v.set, .int .i64 v.clr, .bool v.goes, .string v.link]] w' fun e w'' => e = .returned (.int .i64 (lgV v)) ∧ Below w'.heap.size w' w'') := fun w' => longp_any v w'
  have HSV : Hid (∀ w' : World, Kept w w' [b] → Seven w' pb po v) := fun w' hk => hsv.same (hk.block pb hplt (by simp; exact hpb))
  have HSV0 : Hid (Seven w pb po v) := hsv
  obtain ⟨L, hL⟩ : ∃ L, lgV v = L := ⟨_, rfl⟩
  have HL : Hid (lgV v = L) := hL
  rw [hL] at CL hl hbd hf
  have hL0 := hL
  unfold lgV at hL0
  rw [if_neg hk] at hL0
  have hkb : (v.kind == 2) = false := by simp [hk]
  have hU : pieceV v r.g q = ⟨v.kind, q, v.ao, v.m, v.cap, v.items, v.set, v.clr, v.goes, v.link⟩ := by
    unfold pieceV
    rw [if_neg hk]
  have HU : Hid ((pvC v).set 1 (.int .i64 q) = pvC (pieceV v r.g q)) := by show _ = _; rw [hU]; rfl
  rw [hU] at HU ⊢
  have HN : Hid (r.next v t q = ⟨tailA (some ⟨pb, po, none⟩) r.cap, r.n - 1, r.cap - 1, t, 0⟩) := by
    show _ = _
    unfold RV.next
    rw [hL, if_pos hf, hao]
  obtain ⟨rao, rn, rcap, rvs, g⟩ := r
  obtain ⟨sao, sn, scap, svs, h⟩ := s
  simp only at *
  subst hao
  obtain ⟨gq, hgq⟩ : ∃ gq, g + q = gq := ⟨_, rfl⟩
  rw [hgq] at hgb
  obtain ⟨hw1, hw2⟩ := wrap_add hgq hgb
  rw [hgq] at hf
  have hfe : ((gq : Int) == L) = true := by simp [hf]
  have HG : Hid (g + q = gq) := hgq
  have hst := slice_tail pb po rn rcap hn
  obtain ⟨kind, vn, vao, m, vcap, items, st, cl, gs, lk⟩ := v
  simp only at *
  skip
  obtain ⟨e0, e1, e2, e3, e4, e5, e6⟩ := HSV0.out
  have b0 : w.cell? ⟨b, 0, none⟩ = some (.slice (some ⟨pb, po, none⟩) rn rcap) := hB.cell 0
  have b1 : w.cell? ⟨b, 0 + 1, none⟩ = some (.int .i64 g) := hB.cell 1
  have hn' : (0 : Int) < (rn : Int) := by omega
  clear hO hfb hgq hU hL hL0 hk hf hsv hB hpv HSV0
  go_enter Tryz.func283, Tryz.ntmps283
  go_upto_region 2 with fail
  change Code.wp Tryz.prog _ _ _ (boxp ⟨kind, vn, vao, m, vcap, items, st, cl, gs, lk⟩ (boxp pv0 w))
  generalize boxp ⟨kind, vn, vao, m, vcap, items, st, cl, gs, lk⟩ (boxp pv0 w) = W2 at *
  clear b0 b1 e0 e1 e2 e3 e4 e5 e6
  have p0 : W2.cell? ⟨w.heap.size + 1, 0, none⟩ = some (.int .i64 kind) := HT.out.pb.cell 0
  have p1 : W2.cell? ⟨w.heap.size + 1, 1, none⟩ = some (.int .i64 vn) := HT.out.pb.cell 1
  have f1 := HT.out.pb.frozen 1
  go_upto_region 5 with fail
  change Code.wp Tryz.prog _ _ _ (W2.setCell ⟨w.heap.size + 1, 1, none⟩ (.int .i64 q))
  have HT3 := HT.out.own hblt 1 _ HU.out
  generalize W2.setCell ⟨w.heap.size + 1, 1, none⟩ (.int .i64 q) = W3 at *
  clear p0 p1 f1 HT
  have HT3 : Hid _ := HT3
  have b1 : W3.cell? ⟨b, 0 + 1, none⟩ = some (.int .i64 g) := HT3.out.cb.cell 1
  have f1 := HT3.out.cb.frozen 1
  go_upto_region 6 with fail
  change Code.wp Tryz.prog _ _ _ (W3.setCell ⟨b, 1, none⟩ (.int .i64 gq))
  have HT4 := HT3.out.pair hblt 1 (.int .i64 gq)
  generalize W3.setCell ⟨b, 1, none⟩ (.int .i64 gq) = W4 at *
  have HT4 : Hid _ := HT4
  clear b1 f1 HT3
  have b0 : W4.cell? ⟨b, 0, none⟩ = some (.slice (some ⟨pb, po, none⟩) rn rcap) := HT4.out.cb.cell 0
  have b1 : W4.cell? ⟨b, 0 + 1, none⟩ = some (.int .i64 gq) := HT4.out.cb.cell 1
  obtain ⟨e0, e1, e2, e3, e4, e5, e6⟩ := HSV.out W4 HT4.out.kept
  go_region_with ((go_at_call 308; refine (CL.out _).mono ?_; rintro e w5 ⟨rfl, hb⟩; have HT5 := HT4.out.drew.under hb; have b2 : w5.cell? ⟨b, 0, none⟩ = some (.slice (some ⟨pb, po, none⟩) rn rcap) := HT5.cb.cell 0; have b3 : w5.cell? ⟨b, 0 + 1, none⟩ = some (.int .i64 gq) := HT5.cb.cell 1; clear hb))
  all_goals
    have HT5 : Hid _ := HT5
    clear b0 b1 e0 e1 e2 e3 e4 e5 e6 HT4
    have f0 := HT5.out.cb.frozen 0
    have f1 := HT5.out.cb.frozen 1
    go_upto_region 8 with fail
    change Code.wp Tryz.prog _ _ _ ((w5.setCell ⟨b, 0, none⟩ (.slice (tailA (some ⟨pb, po, none⟩) rcap) (rn - 1) (rcap - 1))).setCell ⟨b, 1, none⟩ (.int .i64 0))
    have HT6 := (HT5.out.pair hblt 0 (.slice (tailA (some ⟨pb, po, none⟩) rcap) (rn - 1) (rcap - 1))).pair hblt 1 (.int .i64 0)
    generalize (w5.setCell ⟨b, 0, none⟩ (.slice (tailA (some ⟨pb, po, none⟩) rcap) (rn - 1) (rcap - 1))).setCell ⟨b, 1, none⟩ (.int .i64 0) = W6 at *
    clear f0 f1
    have HT6 : Hid _ := HT6
    clear b2 b3 HT5
    have p0 : W6.cell? ⟨w.heap.size + 1, 0, none⟩ = some (.int .i64 kind) := HT6.out.pb.cell 0
    have p1 : W6.cell? ⟨w.heap.size + 1, 1, none⟩ = some (.int .i64 q) := HT6.out.pb.cell 1
    have p2 : W6.cell? ⟨w.heap.size + 1, 2, none⟩ = some (.slice vao m vcap) := HT6.out.pb.cell 2
    have p3 : W6.cell? ⟨w.heap.size + 1, 3, none⟩ = some (.int .i64 st) := HT6.out.pb.cell 3
    have p4 : W6.cell? ⟨w.heap.size + 1, 4, none⟩ = some (.int .i64 cl) := HT6.out.pb.cell 4
    have p5 : W6.cell? ⟨w.heap.size + 1, 5, none⟩ = some (.bool gs) := HT6.out.pb.cell 5
    have p6 : W6.cell? ⟨w.heap.size + 1, 6, none⟩ = some (.string lk) := HT6.out.pb.cell 6
    have r0 : W6.cell? ⟨w.heap.size, 0, none⟩ = some (.int .i64 0) := HT6.out.rb.cell 0
    have r1 : W6.cell? ⟨w.heap.size, 1, none⟩ = some (.int .i64 0) := HT6.out.rb.cell 1
    have r2 : W6.cell? ⟨w.heap.size, 2, none⟩ = some (.slice none 0 0) := HT6.out.rb.cell 2
    have r3 : W6.cell? ⟨w.heap.size, 3, none⟩ = some (.int .i64 0) := HT6.out.rb.cell 3
    have r4 : W6.cell? ⟨w.heap.size, 4, none⟩ = some (.int .i64 0) := HT6.out.rb.cell 4
    have r5 : W6.cell? ⟨w.heap.size, 5, none⟩ = some (.bool false) := HT6.out.rb.cell 5
    have r6 : W6.cell? ⟨w.heap.size, 6, none⟩ = some (.string ⟨#[]⟩) := HT6.out.rb.cell 6
    have g0 := HT6.out.rb.frozen 0
    have g1 := HT6.out.rb.frozen 1
    have g2 := HT6.out.rb.frozen 2
    have g3 := HT6.out.rb.frozen 3
    have g4 := HT6.out.rb.frozen 4
    have g5 := HT6.out.rb.frozen 5
    have g6 := HT6.out.rb.frozen 6
    go_wp2
    change bodyPost Tryz.prog _ _ Exit.ret _ (putP W6 w.heap.size ⟨kind, q, vao, m, vcap, items, st, cl, gs, lk⟩)
    obtain ⟨d1, d2, d3⟩ := HT6.out.done hblt ⟨kind, q, vao, m, vcap, items, st, cl, gs, lk⟩
    exact bodyPost_ret (ret_part (k := ⟨kind, q, vao, m, vcap, items, st, cl, gs, lk⟩) rfl _ rfl d1) rfl ⟨rfl, by rw [HN.out]; exact d2, d3⟩

set_option maxRecDepth 100000 in
set_option maxHeartbeats 3200000 in
theorem take0nm (b : Nat) (r s : RV) (v : PV) (t : List PV) (q : Nat) (w : World) (hB : Blk w b (prC r s) 272) (hO : Ops w r.ao r.n r.cap (v :: t)) (hfb : ∀ a, r.ao = some a → a.block ≠ b) (_hq : 1 ≤ q) (hl : ((r.g + q : Nat) : Int) ≤ lgV v) (hbd : lgV v ≤ 1000)
    (hk : ¬ v.kind = 2) (hf : ¬ ((r.g + q : Nat) : Int) = lgV v) :
    Calls Tryz.prog 283 #[.pointer (some ⟨b, 0, none⟩), .int .i64 q] w fun e w' => e = .returned (.agg #[.int .i64 (pieceV v r.g q).kind, .int .i64 (pieceV v r.g q).n, .slice (pieceV v r.g q).ao (pieceV v r.g q).m (pieceV v r.g q).cap, .int .i64 (pieceV v r.g q).set, .int .i64 (pieceV v r.g q).clr, .bool (pieceV v r.g q).goes, .string (pieceV v r.g q).link]) ∧ Blk w' b (prC (r.next v t q) s) 272 ∧ Kept w w' [b] := by
  have hgb : r.g + q ≤ 1000 := by omega
  obtain ⟨pb, po, hao, hsv, hn, -⟩ := hO.head
  have hpv := hO.pts v (List.mem_cons_self ..)
  have hpb : pb ≠ b := hfb _ hao
  have hplt : pb < w.heap.size := cell_lt hsv.c0
  have hblt : b < w.heap.size := hB.lt
  have hbig := hO.row.big
  have hroom := hO.row.room
  have HT : Hid (Tk3 w (boxp v (boxp pv0 w)) b (prC r s) v) := Tk3.start hB v
  have CL : Hid (∀ w', Calls Tryz.prog 308 #[.agg #[.int .i64 v.kind, .int .i64 v.n, .slice v.ao v.m v.cap, .int .i64 v.set, .int .i64 v.clr, .bool v.goes, .string v.link]] w' fun e w'' => e = .returned (.int .i64 (lgV v)) ∧ Below w'.heap.size w' w'') := fun w' => longp_any v w'
  have HSV : Hid (∀ w' : World, Kept w w' [b] → Seven w' pb po v) := fun w' hk => hsv.same (hk.block pb hplt (by simp; exact hpb))
  have HSV0 : Hid (Seven w pb po v) := hsv
  obtain ⟨L, hL⟩ : ∃ L, lgV v = L := ⟨_, rfl⟩
  have HL : Hid (lgV v = L) := hL
  rw [hL] at CL hl hbd hf
  have hL0 := hL
  unfold lgV at hL0
  rw [if_neg hk] at hL0
  have hkb : (v.kind == 2) = false := by simp [hk]
  have hU : pieceV v r.g q = ⟨v.kind, q, v.ao, v.m, v.cap, v.items, v.set, v.clr, v.goes, v.link⟩ := by
    unfold pieceV
    rw [if_neg hk]
  have HU : Hid ((pvC v).set 1 (.int .i64 q) = pvC (pieceV v r.g q)) := by show _ = _; rw [hU]; rfl
  rw [hU] at HU ⊢
  have HN : Hid (r.next v t q = ⟨some ⟨pb, po, none⟩, r.n, r.cap, v :: t, r.g + q⟩) := by
    show _ = _
    unfold RV.next
    rw [hL, if_neg hf, hao]
  obtain ⟨rao, rn, rcap, rvs, g⟩ := r
  obtain ⟨sao, sn, scap, svs, h⟩ := s
  simp only at *
  subst hao
  obtain ⟨gq, hgq⟩ : ∃ gq, g + q = gq := ⟨_, rfl⟩
  rw [hgq] at hgb
  obtain ⟨hw1, hw2⟩ := wrap_add hgq hgb
  rw [hgq] at HN hf
  have hfe : ((gq : Int) == L) = false := by simp [hf]
  have HG : Hid (g + q = gq) := hgq
  have hst := slice_tail pb po rn rcap hn
  obtain ⟨kind, vn, vao, m, vcap, items, st, cl, gs, lk⟩ := v
  simp only at *
  skip
  obtain ⟨e0, e1, e2, e3, e4, e5, e6⟩ := HSV0.out
  have b0 : w.cell? ⟨b, 0, none⟩ = some (.slice (some ⟨pb, po, none⟩) rn rcap) := hB.cell 0
  have b1 : w.cell? ⟨b, 0 + 1, none⟩ = some (.int .i64 g) := hB.cell 1
  have hn' : (0 : Int) < (rn : Int) := by omega
  clear hO hfb hgq hU hL hL0 hk hf hsv hB hpv HSV0
  go_enter Tryz.func283, Tryz.ntmps283
  go_upto_region 2 with fail
  change Code.wp Tryz.prog _ _ _ (boxp ⟨kind, vn, vao, m, vcap, items, st, cl, gs, lk⟩ (boxp pv0 w))
  generalize boxp ⟨kind, vn, vao, m, vcap, items, st, cl, gs, lk⟩ (boxp pv0 w) = W2 at *
  clear b0 b1 e0 e1 e2 e3 e4 e5 e6
  have p0 : W2.cell? ⟨w.heap.size + 1, 0, none⟩ = some (.int .i64 kind) := HT.out.pb.cell 0
  have p1 : W2.cell? ⟨w.heap.size + 1, 1, none⟩ = some (.int .i64 vn) := HT.out.pb.cell 1
  have f1 := HT.out.pb.frozen 1
  go_upto_region 5 with fail
  change Code.wp Tryz.prog _ _ _ (W2.setCell ⟨w.heap.size + 1, 1, none⟩ (.int .i64 q))
  have HT3 := HT.out.own hblt 1 _ HU.out
  generalize W2.setCell ⟨w.heap.size + 1, 1, none⟩ (.int .i64 q) = W3 at *
  clear p0 p1 f1 HT
  have HT3 : Hid _ := HT3
  have b1 : W3.cell? ⟨b, 0 + 1, none⟩ = some (.int .i64 g) := HT3.out.cb.cell 1
  have f1 := HT3.out.cb.frozen 1
  go_upto_region 6 with fail
  change Code.wp Tryz.prog _ _ _ (W3.setCell ⟨b, 1, none⟩ (.int .i64 gq))
  have HT4 := HT3.out.pair hblt 1 (.int .i64 gq)
  generalize W3.setCell ⟨b, 1, none⟩ (.int .i64 gq) = W4 at *
  have HT4 : Hid _ := HT4
  clear b1 f1 HT3
  have b0 : W4.cell? ⟨b, 0, none⟩ = some (.slice (some ⟨pb, po, none⟩) rn rcap) := HT4.out.cb.cell 0
  have b1 : W4.cell? ⟨b, 0 + 1, none⟩ = some (.int .i64 gq) := HT4.out.cb.cell 1
  obtain ⟨e0, e1, e2, e3, e4, e5, e6⟩ := HSV.out W4 HT4.out.kept
  go_region_with ((go_at_call 308; refine (CL.out _).mono ?_; rintro e w5 ⟨rfl, hb⟩; have HT5 := HT4.out.drew.under hb; have b2 : w5.cell? ⟨b, 0, none⟩ = some (.slice (some ⟨pb, po, none⟩) rn rcap) := HT5.cb.cell 0; have b3 : w5.cell? ⟨b, 0 + 1, none⟩ = some (.int .i64 gq) := HT5.cb.cell 1; clear hb))
  all_goals
    have HT5 : Hid _ := HT5
    clear b0 b1 e0 e1 e2 e3 e4 e5 e6 HT4
    go_upto_region 8 with fail
    have HT6 := HT5.out
    generalize w5 = W6 at *
    have HT6 : Hid _ := HT6
    clear b2 b3 HT5
    have p0 : W6.cell? ⟨w.heap.size + 1, 0, none⟩ = some (.int .i64 kind) := HT6.out.pb.cell 0
    have p1 : W6.cell? ⟨w.heap.size + 1, 1, none⟩ = some (.int .i64 q) := HT6.out.pb.cell 1
    have p2 : W6.cell? ⟨w.heap.size + 1, 2, none⟩ = some (.slice vao m vcap) := HT6.out.pb.cell 2
    have p3 : W6.cell? ⟨w.heap.size + 1, 3, none⟩ = some (.int .i64 st) := HT6.out.pb.cell 3
    have p4 : W6.cell? ⟨w.heap.size + 1, 4, none⟩ = some (.int .i64 cl) := HT6.out.pb.cell 4
    have p5 : W6.cell? ⟨w.heap.size + 1, 5, none⟩ = some (.bool gs) := HT6.out.pb.cell 5
    have p6 : W6.cell? ⟨w.heap.size + 1, 6, none⟩ = some (.string lk) := HT6.out.pb.cell 6
    have r0 : W6.cell? ⟨w.heap.size, 0, none⟩ = some (.int .i64 0) := HT6.out.rb.cell 0
    have r1 : W6.cell? ⟨w.heap.size, 1, none⟩ = some (.int .i64 0) := HT6.out.rb.cell 1
    have r2 : W6.cell? ⟨w.heap.size, 2, none⟩ = some (.slice none 0 0) := HT6.out.rb.cell 2
    have r3 : W6.cell? ⟨w.heap.size, 3, none⟩ = some (.int .i64 0) := HT6.out.rb.cell 3
    have r4 : W6.cell? ⟨w.heap.size, 4, none⟩ = some (.int .i64 0) := HT6.out.rb.cell 4
    have r5 : W6.cell? ⟨w.heap.size, 5, none⟩ = some (.bool false) := HT6.out.rb.cell 5
    have r6 : W6.cell? ⟨w.heap.size, 6, none⟩ = some (.string ⟨#[]⟩) := HT6.out.rb.cell 6
    have g0 := HT6.out.rb.frozen 0
    have g1 := HT6.out.rb.frozen 1
    have g2 := HT6.out.rb.frozen 2
    have g3 := HT6.out.rb.frozen 3
    have g4 := HT6.out.rb.frozen 4
    have g5 := HT6.out.rb.frozen 5
    have g6 := HT6.out.rb.frozen 6
    go_wp2
    change bodyPost Tryz.prog _ _ Exit.ret _ (putP W6 w.heap.size ⟨kind, q, vao, m, vcap, items, st, cl, gs, lk⟩)
    obtain ⟨d1, d2, d3⟩ := HT6.out.done hblt ⟨kind, q, vao, m, vcap, items, st, cl, gs, lk⟩
    exact bodyPost_ret (ret_part (k := ⟨kind, q, vao, m, vcap, items, st, cl, gs, lk⟩) rfl _ rfl d1) rfl ⟨rfl, by rw [HN.out]; exact d2, d3⟩

theorem take0_any (b : Nat) (r s : RV) (v : PV) (t : List PV) (q : Nat) (w : World) (hB : Blk w b (prC r s) 272) (hO : Ops w r.ao r.n r.cap (v :: t)) (hfb : ∀ a, r.ao = some a → a.block ≠ b) (hq : 1 ≤ q) (hl : ((r.g + q : Nat) : Int) ≤ lgV v) (hbd : lgV v ≤ 1000) :
    Calls Tryz.prog 283 #[.pointer (some ⟨b, 0, none⟩), .int .i64 q] w fun e w' => e = .returned (.agg #[.int .i64 (pieceV v r.g q).kind, .int .i64 (pieceV v r.g q).n, .slice (pieceV v r.g q).ao (pieceV v r.g q).m (pieceV v r.g q).cap, .int .i64 (pieceV v r.g q).set, .int .i64 (pieceV v r.g q).clr, .bool (pieceV v r.g q).goes, .string (pieceV v r.g q).link]) ∧ Blk w' b (prC (r.next v t q) s) 272 ∧ Kept w w' [b] := by
  by_cases hk : v.kind = 2
  · by_cases hf : ((r.g + q : Nat) : Int) = lgV v
    · exact take0pe b r s v t q w hB hO hfb hq hl hbd hk hf
    · exact take0pm b r s v t q w hB hO hfb hq hl hbd hk hf
  · by_cases hf : ((r.g + q : Nat) : Int) = lgV v
    · exact take0ne b r s v t q w hB hO hfb hq hl hbd hk hf
    · exact take0nm b r s v t q w hB hO hfb hq hl hbd hk hf
end Go.Proofs.YtbhcklkbckacpaaGreatDoor

/-
  Package ot: the next items of the next part, taken: of the other one of a pair.
-/
namespace Go.Proofs.YtbhcklkbckacpaaGreatDoor
open Go.RowKit

set_option maxRecDepth 100000 in
set_option maxHeartbeats 3200000 in
theorem take2pe (b : Nat) (r s : RV) (v : PV) (t : List PV) (q : Nat) (w : World) (hB : Blk w b (prC r s) 272) (hO : Ops w s.ao s.n s.cap (v :: t)) (hfb : ∀ a, s.ao = some a → a.block ≠ b) (hq : 1 ≤ q) (hl : ((s.g + q : Nat) : Int) ≤ lgV v) (hbd : lgV v ≤ 1000)
    (hk : v.kind = 2) (hf : ((s.g + q : Nat) : Int) = lgV v) :
    Calls Tryz.prog 283 #[.pointer (some ⟨b, 2, none⟩), .int .i64 q] w fun e w' => e = .returned (.agg #[.int .i64 (pieceV v s.g q).kind, .int .i64 (pieceV v s.g q).n, .slice (pieceV v s.g q).ao (pieceV v s.g q).m (pieceV v s.g q).cap, .int .i64 (pieceV v s.g q).set, .int .i64 (pieceV v s.g q).clr, .bool (pieceV v s.g q).goes, .string (pieceV v s.g q).link]) ∧ Blk w' b (prC r (s.next v t q)) 272 ∧ Kept w w' [b] := by
  have hgb : s.g + q ≤ 1000 := by omega
  obtain ⟨pb, po, hao, hsv, hn, -⟩ := hO.head
  have hpv := hO.pts v (List.mem_cons_self ..)
  have hpb : pb ≠ b := hfb _ hao
  have hplt : pb < w.heap.size := cell_lt hsv.c0
  have hblt : b < w.heap.size := hB.lt
  have hbig := hO.row.big
  have hroom := hO.row.room
  have HT : Hid (Tk3 w (boxp v (boxp pv0 w)) b (prC r s) v) := Tk3.start hB v
  have CL : Hid (∀ w', Calls Tryz.prog 308 #[.agg #[.int .i64 v.kind, .int .i64 v.n, .slice v.ao v.m v.cap, .int .i64 v.set, .int .i64 v.clr, .bool v.goes, .string v.link]] w' fun e w'' => e = .returned (.int .i64 (lgV v)) ∧ Below w'.heap.size w' w'') := fun w' => longp_any v w'
  have HSV : Hid (∀ w' : World, Kept w w' [b] → Seven w' pb po v) := fun w' hk => hsv.same (hk.block pb hplt (by simp; exact hpb))
  have HSV0 : Hid (Seven w pb po v) := hsv
  obtain ⟨L, hL⟩ : ∃ L, lgV v = L := ⟨_, rfl⟩
  have HL : Hid (lgV v = L) := hL
  rw [hL] at CL hl hbd hf
  have hL0 := hL
  unfold lgV at hL0
  rw [if_pos hk] at hL0
  have hkb : (v.kind == 2) = true := by simp [hk]
  have hm0 : s.g + q ≤ v.m := by omega
  obtain ⟨ib, io, hvao, -⟩ := hpv.doc.lies (by omega)
  have hsl := slice_li ib io v.m v.cap s.g (s.g + q) (by omega) hm0 hpv.doc.room
  rw [Nat.add_sub_cancel_left] at hsl
  have hU : pieceV v s.g q = ⟨v.kind, v.n, some ⟨ib, io + s.g * 3, none⟩, q, v.cap - s.g, (v.items.drop s.g).take q, v.set, v.clr, v.goes, v.link⟩ := by
    unfold pieceV
    rw [if_pos hk, hvao, Option.map_some, add_off]
  have HU : Hid ((pvC v).set 2 (.slice (some ⟨ib, io + s.g * 3, none⟩) q (v.cap - s.g)) = pvC (pieceV v s.g q)) := by show _ = _; rw [hU]; rfl
  rw [hU] at HU ⊢
  have HN : Hid (s.next v t q = ⟨tailA (some ⟨pb, po, none⟩) s.cap, s.n - 1, s.cap - 1, t, 0⟩) := by
    show _ = _
    unfold RV.next
    rw [hL, if_pos hf, hao]
  obtain ⟨rao, rn, rcap, rvs, g⟩ := s
  obtain ⟨sao, sn, scap, svs, h⟩ := r
  simp only at *
  subst hao
  obtain ⟨gq, hgq⟩ : ∃ gq, g + q = gq := ⟨_, rfl⟩
  have hs0 : (0 : Int) ≤ (g : Int) := Int.natCast_nonneg _
  have hs1 : (g : Int) ≤ (gq : Int) := by omega
  have hs2 : (gq : Int) ≤ (v.cap : Int) := by have := hpv.doc.room; omega
  rw [hgq] at hgb
  obtain ⟨hw1, hw2⟩ := wrap_add hgq hgb
  rw [hgq] at hsl hf
  have hfe : ((gq : Int) == L) = true := by simp [hf]
  have HG : Hid (g + q = gq) := hgq
  have hst := slice_tail pb po rn rcap hn
  obtain ⟨kind, vn, vao, m, vcap, items, st, cl, gs, lk⟩ := v
  simp only at *
  subst hvao
  obtain ⟨e0, e1, e2, e3, e4, e5, e6⟩ := HSV0.out
  have b0 : w.cell? ⟨b, 2, none⟩ = some (.slice (some ⟨pb, po, none⟩) rn rcap) := hB.cell 2
  have b1 : w.cell? ⟨b, 2 + 1, none⟩ = some (.int .i64 g) := hB.cell 3
  have hn' : (0 : Int) < (rn : Int) := by omega
  clear hO hfb hgq hU hL hL0 hk hf hsv hB hpv hm0 HSV0
  go_enter Tryz.func283, Tryz.ntmps283
  go_upto_region 2 with fail
  change Code.wp Tryz.prog _ _ _ (boxp ⟨kind, vn, some ⟨ib, io, none⟩, m, vcap, items, st, cl, gs, lk⟩ (boxp pv0 w))
  generalize boxp ⟨kind, vn, some ⟨ib, io, none⟩, m, vcap, items, st, cl, gs, lk⟩ (boxp pv0 w) = W2 at *
  clear b0 b1 e0 e1 e2 e3 e4 e5 e6
  have p0 : W2.cell? ⟨w.heap.size + 1, 0, none⟩ = some (.int .i64 kind) := HT.out.pb.cell 0
  have p2 : W2.cell? ⟨w.heap.size + 1, 2, none⟩ = some (.slice (some ⟨ib, io, none⟩) m vcap) := HT.out.pb.cell 2
  have b1 : W2.cell? ⟨b, 2 + 1, none⟩ = some (.int .i64 g) := HT.out.cb.cell 3
  have f2 := HT.out.pb.frozen 2
  go_upto_region 3 with fail
  go_region
  change Exit.then _ _ Exit.normal _ (W2.drew.setCell ⟨w.heap.size + 1, 2, none⟩ (.slice (some ⟨ib, io + g * 3, none⟩) q (vcap - g)))
  have HT3 := HT.out.drew.own hblt 2 _ HU.out
  generalize W2.drew.setCell ⟨w.heap.size + 1, 2, none⟩ (.slice (some ⟨ib, io + g * 3, none⟩) q (vcap - g)) = W3 at *
  clear p0 p2 b1 f2 HT
  have HT3 : Hid _ := HT3
  have b1 : W3.cell? ⟨b, 2 + 1, none⟩ = some (.int .i64 g) := HT3.out.cb.cell 3
  have f1 := HT3.out.cb.frozen 3
  go_upto_region 6 with fail
  change Code.wp Tryz.prog _ _ _ (W3.setCell ⟨b, 3, none⟩ (.int .i64 gq))
  have HT4 := HT3.out.pair hblt 3 (.int .i64 gq)
  generalize W3.setCell ⟨b, 3, none⟩ (.int .i64 gq) = W4 at *
  have HT4 : Hid _ := HT4
  clear b1 f1 HT3
  have b0 : W4.cell? ⟨b, 2, none⟩ = some (.slice (some ⟨pb, po, none⟩) rn rcap) := HT4.out.cb.cell 2
  have b1 : W4.cell? ⟨b, 2 + 1, none⟩ = some (.int .i64 gq) := HT4.out.cb.cell 3
  obtain ⟨e0, e1, e2, e3, e4, e5, e6⟩ := HSV.out W4 HT4.out.kept
  go_region_with ((go_at_call 308; refine (CL.out _).mono ?_; rintro e w5 ⟨rfl, hb⟩; have HT5 := HT4.out.drew.under hb; have b2 : w5.cell? ⟨b, 2, none⟩ = some (.slice (some ⟨pb, po, none⟩) rn rcap) := HT5.cb.cell 2; have b3 : w5.cell? ⟨b, 2 + 1, none⟩ = some (.int .i64 gq) := HT5.cb.cell 3; clear hb))
  all_goals
    have HT5 : Hid _ := HT5
    clear b0 b1 e0 e1 e2 e3 e4 e5 e6 HT4
    have f0 := HT5.out.cb.frozen 2
    have f1 := HT5.out.cb.frozen 3
    go_upto_region 8 with fail
    change Code.wp Tryz.prog _ _ _ ((w5.setCell ⟨b, 2, none⟩ (.slice (tailA (some ⟨pb, po, none⟩) rcap) (rn - 1) (rcap - 1))).setCell ⟨b, 3, none⟩ (.int .i64 0))
    have HT6 := (HT5.out.pair hblt 2 (.slice (tailA (some ⟨pb, po, none⟩) rcap) (rn - 1) (rcap - 1))).pair hblt 3 (.int .i64 0)
    generalize (w5.setCell ⟨b, 2, none⟩ (.slice (tailA (some ⟨pb, po, none⟩) rcap) (rn - 1) (rcap - 1))).setCell ⟨b, 3, none⟩ (.int .i64 0) = W6 at *
    clear f0 f1
    have HT6 : Hid _ := HT6
    clear b2 b3 HT5
    have p0 : W6.cell? ⟨w.heap.size + 1, 0, none⟩ = some (.int .i64 kind) := HT6.out.pb.cell 0
    have p1 : W6.cell? ⟨w.heap.size + 1, 1, none⟩ = some (.int .i64 vn) := HT6.out.pb.cell 1
    have p2 : W6.cell? ⟨w.heap.size + 1, 2, none⟩ = some (.slice (some ⟨ib, io + g * 3, none⟩) q (vcap - g)) := HT6.out.pb.cell 2
    have p3 : W6.cell? ⟨w.heap.size + 1, 3, none⟩ = some (.int .i64 st) := HT6.out.pb.cell 3
    have p4 : W6.cell? ⟨w.heap.size + 1, 4, none⟩ = some (.int .i64 cl) := HT6.out.pb.cell 4
    have p5 : W6.cell? ⟨w.heap.size + 1, 5, none⟩ = some (.bool gs) := HT6.out.pb.cell 5
    have p6 : W6.cell? ⟨w.heap.size + 1, 6, none⟩ = some (.string lk) := HT6.out.pb.cell 6
    have r0 : W6.cell? ⟨w.heap.size, 0, none⟩ = some (.int .i64 0) := HT6.out.rb.cell 0
    have r1 : W6.cell? ⟨w.heap.size, 1, none⟩ = some (.int .i64 0) := HT6.out.rb.cell 1
    have r2 : W6.cell? ⟨w.heap.size, 2, none⟩ = some (.slice none 0 0) := HT6.out.rb.cell 2
    have r3 : W6.cell? ⟨w.heap.size, 3, none⟩ = some (.int .i64 0) := HT6.out.rb.cell 3
    have r4 : W6.cell? ⟨w.heap.size, 4, none⟩ = some (.int .i64 0) := HT6.out.rb.cell 4
    have r5 : W6.cell? ⟨w.heap.size, 5, none⟩ = some (.bool false) := HT6.out.rb.cell 5
    have r6 : W6.cell? ⟨w.heap.size, 6, none⟩ = some (.string ⟨#[]⟩) := HT6.out.rb.cell 6
    have g0 := HT6.out.rb.frozen 0
    have g1 := HT6.out.rb.frozen 1
    have g2 := HT6.out.rb.frozen 2
    have g3 := HT6.out.rb.frozen 3
    have g4 := HT6.out.rb.frozen 4
    have g5 := HT6.out.rb.frozen 5
    have g6 := HT6.out.rb.frozen 6
    go_wp2
    change bodyPost Tryz.prog _ _ Exit.ret _ (putP W6 w.heap.size ⟨kind, vn, some ⟨ib, io + g * 3, none⟩, q, vcap - g, (items.drop g).take q, st, cl, gs, lk⟩)
    obtain ⟨d1, d2, d3⟩ := HT6.out.done hblt ⟨kind, vn, some ⟨ib, io + g * 3, none⟩, q, vcap - g, (items.drop g).take q, st, cl, gs, lk⟩
    exact bodyPost_ret (ret_part (k := ⟨kind, vn, some ⟨ib, io + g * 3, none⟩, q, vcap - g, (items.drop g).take q, st, cl, gs, lk⟩) rfl _ rfl d1) rfl ⟨rfl, by rw [HN.out]; exact d2, d3⟩

set_option maxRecDepth 100000 in
set_option maxHeartbeats 3200000 in
theorem take2pm (b : Nat) (r s : RV) (v : PV) (t : List PV) (q : Nat) (w : World) (hB : Blk w b (prC r s) 272) (hO : Ops w s.ao s.n s.cap (v :: t)) (hfb : ∀ a, s.ao = some a → a.block ≠ b) (hq : 1 ≤ q) (hl : ((s.g + q : Nat) : Int) ≤ lgV v) (hbd : lgV v ≤ 1000)
    (hk : v.kind = 2) (hf : ¬ ((s.g + q : Nat) : Int) = lgV v) :
    Calls Tryz.prog 283 #[.pointer (some ⟨b, 2, none⟩), .int .i64 q] w fun e w' => e = .returned (.agg #[.int .i64 (pieceV v s.g q).kind, .int .i64 (pieceV v s.g q).n, .slice (pieceV v s.g q).ao (pieceV v s.g q).m (pieceV v s.g q).cap, .int .i64 (pieceV v s.g q).set, .int .i64 (pieceV v s.g q).clr, .bool (pieceV v s.g q).goes, .string (pieceV v s.g q).link]) ∧ Blk w' b (prC r (s.next v t q)) 272 ∧ Kept w w' [b] := by
  have hgb : s.g + q ≤ 1000 := by omega
  obtain ⟨pb, po, hao, hsv, hn, -⟩ := hO.head
  have hpv := hO.pts v (List.mem_cons_self ..)
  have hpb : pb ≠ b := hfb _ hao
  have hplt : pb < w.heap.size := cell_lt hsv.c0
  have hblt : b < w.heap.size := hB.lt
  have hbig := hO.row.big
  have hroom := hO.row.room
  have HT : Hid (Tk3 w (boxp v (boxp pv0 w)) b (prC r s) v) := Tk3.start hB v
  have CL : Hid (∀ w', Calls Tryz.prog 308 #[.agg #[.int .i64 v.kind, .int .i64 v.n, .slice v.ao v.m v.cap, .int .i64 v.set, .int .i64 v.clr, .bool v.goes, .string v.link]] w' fun e w'' => e = .returned (.int .i64 (lgV v)) ∧ Below w'.heap.size w' w'') := fun w' => longp_any v w'
  have HSV : Hid (∀ w' : World, Kept w w' [b] → Seven w' pb po v) := fun w' hk => hsv.same (hk.block pb hplt (by simp; exact hpb))
  have HSV0 : Hid (Seven w pb po v) := hsv
  obtain ⟨L, hL⟩ : ∃ L, lgV v = L := ⟨_, rfl⟩
  have HL : Hid (lgV v = L) := hL
  rw [hL] at CL hl hbd hf
  have hL0 := hL
  unfold lgV at hL0
  rw [if_pos hk] at hL0
  have hkb : (v.kind == 2) = true := by simp [hk]
  have hm0 : s.g + q ≤ v.m := by omega
  obtain ⟨ib, io, hvao, -⟩ := hpv.doc.lies (by omega)
  have hsl := slice_li ib io v.m v.cap s.g (s.g + q) (by omega) hm0 hpv.doc.room
  rw [Nat.add_sub_cancel_left] at hsl
  have hU : pieceV v s.g q = ⟨v.kind, v.n, some ⟨ib, io + s.g * 3, none⟩, q, v.cap - s.g, (v.items.drop s.g).take q, v.set, v.clr, v.goes, v.link⟩ := by
    unfold pieceV
    rw [if_pos hk, hvao, Option.map_some, add_off]
  have HU : Hid ((pvC v).set 2 (.slice (some ⟨ib, io + s.g * 3, none⟩) q (v.cap - s.g)) = pvC (pieceV v s.g q)) := by show _ = _; rw [hU]; rfl
  rw [hU] at HU ⊢
  have HN : Hid (s.next v t q = ⟨some ⟨pb, po, none⟩, s.n, s.cap, v :: t, s.g + q⟩) := by
    show _ = _
    unfold RV.next
    rw [hL, if_neg hf, hao]
  obtain ⟨rao, rn, rcap, rvs, g⟩ := s
  obtain ⟨sao, sn, scap, svs, h⟩ := r
  simp only at *
  subst hao
  obtain ⟨gq, hgq⟩ : ∃ gq, g + q = gq := ⟨_, rfl⟩
  have hs0 : (0 : Int) ≤ (g : Int) := Int.natCast_nonneg _
  have hs1 : (g : Int) ≤ (gq : Int) := by omega
  have hs2 : (gq : Int) ≤ (v.cap : Int) := by have := hpv.doc.room; omega
  rw [hgq] at hgb
  obtain ⟨hw1, hw2⟩ := wrap_add hgq hgb
  rw [hgq] at hsl HN hf
  have hfe : ((gq : Int) == L) = false := by simp [hf]
  have HG : Hid (g + q = gq) := hgq
  have hst := slice_tail pb po rn rcap hn
  obtain ⟨kind, vn, vao, m, vcap, items, st, cl, gs, lk⟩ := v
  simp only at *
  subst hvao
  obtain ⟨e0, e1, e2, e3, e4, e5, e6⟩ := HSV0.out
  have b0 : w.cell? ⟨b, 2, none⟩ = some (.slice (some ⟨pb, po, none⟩) rn rcap) := hB.cell 2
  have b1 : w.cell? ⟨b, 2 + 1, none⟩ = some (.int .i64 g) := hB.cell 3
  have hn' : (0 : Int) < (rn : Int) := by omega
  clear hO hfb hgq hU hL hL0 hk hf hsv hB hpv hm0 HSV0
  go_enter Tryz.func283, Tryz.ntmps283
  go_upto_region 2 with fail
  change Code.wp Tryz.prog _ _ _ (boxp ⟨kind, vn, some ⟨ib, io, none⟩, m, vcap, items, st, cl, gs, lk⟩ (boxp pv0 w))
  generalize boxp ⟨kind, vn, some ⟨ib, io, none⟩, m, vcap, items, st, cl, gs, lk⟩ (boxp pv0 w) = W2 at *
  clear b0 b1 e0 e1 e2 e3 e4 e5 e6
  have p0 : W2.cell? ⟨w.heap.size + 1, 0, none⟩ = some (.int .i64 kind) := HT.out.pb.cell 0
  have p2 : W2.cell? ⟨w.heap.size + 1, 2, none⟩ = some (.slice (some ⟨ib, io, none⟩) m vcap) := HT.out.pb.cell 2
  have b1 : W2.cell? ⟨b, 2 + 1, none⟩ = some (.int .i64 g) := HT.out.cb.cell 3
  have f2 := HT.out.pb.frozen 2
  go_upto_region 3 with fail
  go_region
  change Exit.then _ _ Exit.normal _ (W2.drew.setCell ⟨w.heap.size + 1, 2, none⟩ (.slice (some ⟨ib, io + g * 3, none⟩) q (vcap - g)))
  have HT3 := HT.out.drew.own hblt 2 _ HU.out
  generalize W2.drew.setCell ⟨w.heap.size + 1, 2, none⟩ (.slice (some ⟨ib, io + g * 3, none⟩) q (vcap - g)) = W3 at *
  clear p0 p2 b1 f2 HT
  have HT3 : Hid _ := HT3
  have b1 : W3.cell? ⟨b, 2 + 1, none⟩ = some (.int .i64 g) := HT3.out.cb.cell 3
  have f1 := HT3.out.cb.frozen 3
  go_upto_region 6 with fail
  change Code.wp Tryz.prog _ _ _ (W3.setCell ⟨b, 3, none⟩ (.int .i64 gq))
  have HT4 := HT3.out.pair hblt 3 (.int .i64 gq)
  generalize W3.setCell ⟨b, 3, none⟩ (.int .i64 gq) = W4 at *
  have HT4 : Hid _ := HT4
  clear b1 f1 HT3
  have b0 : W4.cell? ⟨b, 2, none⟩ = some (.slice (some ⟨pb, po, none⟩) rn rcap) := HT4.out.cb.cell 2
  have b1 : W4.cell? ⟨b, 2 + 1, none⟩ = some (.int .i64 gq) := HT4.out.cb.cell 3
  obtain ⟨e0, e1, e2, e3, e4, e5, e6⟩ := HSV.out W4 HT4.out.kept
  go_region_with ((go_at_call 308; refine (CL.out _).mono ?_; rintro e w5 ⟨rfl, hb⟩; have HT5 := HT4.out.drew.under hb; have b2 : w5.cell? ⟨b, 2, none⟩ = some (.slice (some ⟨pb, po, none⟩) rn rcap) := HT5.cb.cell 2; have b3 : w5.cell? ⟨b, 2 + 1, none⟩ = some (.int .i64 gq) := HT5.cb.cell 3; clear hb))
  all_goals
    have HT5 : Hid _ := HT5
    clear b0 b1 e0 e1 e2 e3 e4 e5 e6 HT4
    go_upto_region 8 with fail
    have HT6 := HT5.out
    generalize w5 = W6 at *
    have HT6 : Hid _ := HT6
    clear b2 b3 HT5
    have p0 : W6.cell? ⟨w.heap.size + 1, 0, none⟩ = some (.int .i64 kind) := HT6.out.pb.cell 0
    have p1 : W6.cell? ⟨w.heap.size + 1, 1, none⟩ = some (.int .i64 vn) := HT6.out.pb.cell 1
    have p2 : W6.cell? ⟨w.heap.size + 1, 2, none⟩ = some (.slice (some ⟨ib, io + g * 3, none⟩) q (vcap - g)) := HT6.out.pb.cell 2
    have p3 : W6.cell? ⟨w.heap.size + 1, 3, none⟩ = some (.int .i64 st) := HT6.out.pb.cell 3
    have p4 : W6.cell? ⟨w.heap.size + 1, 4, none⟩ = some (.int .i64 cl) := HT6.out.pb.cell 4
    have p5 : W6.cell? ⟨w.heap.size + 1, 5, none⟩ = some (.bool gs) := HT6.out.pb.cell 5
    have p6 : W6.cell? ⟨w.heap.size + 1, 6, none⟩ = some (.string lk) := HT6.out.pb.cell 6
    have r0 : W6.cell? ⟨w.heap.size, 0, none⟩ = some (.int .i64 0) := HT6.out.rb.cell 0
    have r1 : W6.cell? ⟨w.heap.size, 1, none⟩ = some (.int .i64 0) := HT6.out.rb.cell 1
    have r2 : W6.cell? ⟨w.heap.size, 2, none⟩ = some (.slice none 0 0) := HT6.out.rb.cell 2
    have r3 : W6.cell? ⟨w.heap.size, 3, none⟩ = some (.int .i64 0) := HT6.out.rb.cell 3
    have r4 : W6.cell? ⟨w.heap.size, 4, none⟩ = some (.int .i64 0) := HT6.out.rb.cell 4
    have r5 : W6.cell? ⟨w.heap.size, 5, none⟩ = some (.bool false) := HT6.out.rb.cell 5
    have r6 : W6.cell? ⟨w.heap.size, 6, none⟩ = some (.string ⟨#[]⟩) := HT6.out.rb.cell 6
    have g0 := HT6.out.rb.frozen 0
    have g1 := HT6.out.rb.frozen 1
    have g2 := HT6.out.rb.frozen 2
    have g3 := HT6.out.rb.frozen 3
    have g4 := HT6.out.rb.frozen 4
    have g5 := HT6.out.rb.frozen 5
    have g6 := HT6.out.rb.frozen 6
    go_wp2
    change bodyPost Tryz.prog _ _ Exit.ret _ (putP W6 w.heap.size ⟨kind, vn, some ⟨ib, io + g * 3, none⟩, q, vcap - g, (items.drop g).take q, st, cl, gs, lk⟩)
    obtain ⟨d1, d2, d3⟩ := HT6.out.done hblt ⟨kind, vn, some ⟨ib, io + g * 3, none⟩, q, vcap - g, (items.drop g).take q, st, cl, gs, lk⟩
    exact bodyPost_ret (ret_part (k := ⟨kind, vn, some ⟨ib, io + g * 3, none⟩, q, vcap - g, (items.drop g).take q, st, cl, gs, lk⟩) rfl _ rfl d1) rfl ⟨rfl, by rw [HN.out]; exact d2, d3⟩

set_option maxRecDepth 100000 in
set_option maxHeartbeats 3200000 in
theorem take2ne (b : Nat) (r s : RV) (v : PV) (t : List PV) (q : Nat) (w : World) (hB : Blk w b (prC r s) 272) (hO : Ops w s.ao s.n s.cap (v :: t)) (hfb : ∀ a, s.ao = some a → a.block ≠ b) (_hq : 1 ≤ q) (hl : ((s.g + q : Nat) : Int) ≤ lgV v) (hbd : lgV v ≤ 1000)
    (hk : ¬ v.kind = 2) (hf : ((s.g + q : Nat) : Int) = lgV v) :
    Calls Tryz.prog 283 #[.pointer (some ⟨b, 2, none⟩), .int .i64 q] w fun e w' => e = .returned (.agg #[.int .i64 (pieceV v s.g q).kind, .int .i64 (pieceV v s.g q).n, .slice (pieceV v s.g q).ao (pieceV v s.g q).m (pieceV v s.g q).cap, .int .i64 (pieceV v s.g q).set, .int .i64 (pieceV v s.g q).clr, .bool (pieceV v s.g q).goes, .string (pieceV v s.g q).link]) ∧ Blk w' b (prC r (s.next v t q)) 272 ∧ Kept w w' [b] := by
  have hgb : s.g + q ≤ 1000 := by omega
  obtain ⟨pb, po, hao, hsv, hn, -⟩ := hO.head
  have hpv := hO.pts v (List.mem_cons_self ..)
  have hpb : pb ≠ b := hfb _ hao
  have hplt : pb < w.heap.size := cell_lt hsv.c0
  have hblt : b < w.heap.size := hB.lt
  have hbig := hO.row.big
  have hroom := hO.row.room
  have HT : Hid (Tk3 w (boxp v (boxp pv0 w)) b (prC r s) v) := Tk3.start hB v
  have CL : Hid (∀ w', Calls Tryz.prog 308 #[.agg #[.int .i64 v.kind, .int .i64 v.n, .slice v.ao v.m v.cap, .int .i64 v.set, .int .i64 v.clr, .bool v.goes, .string v.link]] w' fun e w'' => e = .returned (.int .i64 (lgV v)) ∧ Below w'.heap.size w' w'') := fun w' => longp_any v w'
  have HSV : Hid (∀ w' : World, Kept w w' [b] → Seven w' pb po v) := fun w' hk => hsv.same (hk.block pb hplt (by simp; exact hpb))
  have HSV0 : Hid (Seven w pb po v) := hsv
  obtain ⟨L, hL⟩ : ∃ L, lgV v = L := ⟨_, rfl⟩
  have HL : Hid (lgV v = L) := hL
  rw [hL] at CL hl hbd hf
  have hL0 := hL
  unfold lgV at hL0
  rw [if_neg hk] at hL0
  have hkb : (v.kind == 2) = false := by simp [hk]
  have hU : pieceV v s.g q = ⟨v.kind, q, v.ao, v.m, v.cap, v.items, v.set, v.clr, v.goes, v.link⟩ := by
    unfold pieceV
    rw [if_neg hk]
  have HU : Hid ((pvC v).set 1 (.int .i64 q) = pvC (pieceV v s.g q)) := by show _ = _; rw [hU]; rfl
  rw [hU] at HU ⊢
  have HN : Hid (s.next v t q = ⟨tailA (some ⟨pb, po, none⟩) s.cap, s.n - 1, s.cap - 1, t, 0⟩) := by
    show _ = _
    unfold RV.next
    rw [hL, if_pos hf, hao]
  obtain ⟨rao, rn, rcap, rvs, g⟩ := s
  obtain ⟨sao, sn, scap, svs, h⟩ := r
  simp only at *
  subst hao
  obtain ⟨gq, hgq⟩ : ∃ gq, g + q = gq := ⟨_, rfl⟩
  rw [hgq] at hgb
  obtain ⟨hw1, hw2⟩ := wrap_add hgq hgb
  rw [hgq] at hf
  have hfe : ((gq : Int) == L) = true := by simp [hf]
  have HG : Hid (g + q = gq) := hgq
  have hst := slice_tail pb po rn rcap hn
  obtain ⟨kind, vn, vao, m, vcap, items, st, cl, gs, lk⟩ := v
  simp only at *
  skip
  obtain ⟨e0, e1, e2, e3, e4, e5, e6⟩ := HSV0.out
  have b0 : w.cell? ⟨b, 2, none⟩ = some (.slice (some ⟨pb, po, none⟩) rn rcap) := hB.cell 2
  have b1 : w.cell? ⟨b, 2 + 1, none⟩ = some (.int .i64 g) := hB.cell 3
  have hn' : (0 : Int) < (rn : Int) := by omega
  clear hO hfb hgq hU hL hL0 hk hf hsv hB hpv HSV0
  go_enter Tryz.func283, Tryz.ntmps283
  go_upto_region 2 with fail
  change Code.wp Tryz.prog _ _ _ (boxp ⟨kind, vn, vao, m, vcap, items, st, cl, gs, lk⟩ (boxp pv0 w))
  generalize boxp ⟨kind, vn, vao, m, vcap, items, st, cl, gs, lk⟩ (boxp pv0 w) = W2 at *
  clear b0 b1 e0 e1 e2 e3 e4 e5 e6
  have p0 : W2.cell? ⟨w.heap.size + 1, 0, none⟩ = some (.int .i64 kind) := HT.out.pb.cell 0
  have p1 : W2.cell? ⟨w.heap.size + 1, 1, none⟩ = some (.int .i64 vn) := HT.out.pb.cell 1
  have f1 := HT.out.pb.frozen 1
  go_upto_region 5 with fail
  change Code.wp Tryz.prog _ _ _ (W2.setCell ⟨w.heap.size + 1, 1, none⟩ (.int .i64 q))
  have HT3 := HT.out.own hblt 1 _ HU.out
  generalize W2.setCell ⟨w.heap.size + 1, 1, none⟩ (.int .i64 q) = W3 at *
  clear p0 p1 f1 HT
  have HT3 : Hid _ := HT3
  have b1 : W3.cell? ⟨b, 2 + 1, none⟩ = some (.int .i64 g) := HT3.out.cb.cell 3
  have f1 := HT3.out.cb.frozen 3
  go_upto_region 6 with fail
  change Code.wp Tryz.prog _ _ _ (W3.setCell ⟨b, 3, none⟩ (.int .i64 gq))
  have HT4 := HT3.out.pair hblt 3 (.int .i64 gq)
  generalize W3.setCell ⟨b, 3, none⟩ (.int .i64 gq) = W4 at *
  have HT4 : Hid _ := HT4
  clear b1 f1 HT3
  have b0 : W4.cell? ⟨b, 2, none⟩ = some (.slice (some ⟨pb, po, none⟩) rn rcap) := HT4.out.cb.cell 2
  have b1 : W4.cell? ⟨b, 2 + 1, none⟩ = some (.int .i64 gq) := HT4.out.cb.cell 3
  obtain ⟨e0, e1, e2, e3, e4, e5, e6⟩ := HSV.out W4 HT4.out.kept
  go_region_with ((go_at_call 308; refine (CL.out _).mono ?_; rintro e w5 ⟨rfl, hb⟩; have HT5 := HT4.out.drew.under hb; have b2 : w5.cell? ⟨b, 2, none⟩ = some (.slice (some ⟨pb, po, none⟩) rn rcap) := HT5.cb.cell 2; have b3 : w5.cell? ⟨b, 2 + 1, none⟩ = some (.int .i64 gq) := HT5.cb.cell 3; clear hb))
  all_goals
    have HT5 : Hid _ := HT5
    clear b0 b1 e0 e1 e2 e3 e4 e5 e6 HT4
    have f0 := HT5.out.cb.frozen 2
    have f1 := HT5.out.cb.frozen 3
    go_upto_region 8 with fail
    change Code.wp Tryz.prog _ _ _ ((w5.setCell ⟨b, 2, none⟩ (.slice (tailA (some ⟨pb, po, none⟩) rcap) (rn - 1) (rcap - 1))).setCell ⟨b, 3, none⟩ (.int .i64 0))
    have HT6 := (HT5.out.pair hblt 2 (.slice (tailA (some ⟨pb, po, none⟩) rcap) (rn - 1) (rcap - 1))).pair hblt 3 (.int .i64 0)
    generalize (w5.setCell ⟨b, 2, none⟩ (.slice (tailA (some ⟨pb, po, none⟩) rcap) (rn - 1) (rcap - 1))).setCell ⟨b, 3, none⟩ (.int .i64 0) = W6 at *
    clear f0 f1
    have HT6 : Hid _ := HT6
    clear b2 b3 HT5
    have p0 : W6.cell? ⟨w.heap.size + 1, 0, none⟩ = some (.int .i64 kind) := HT6.out.pb.cell 0
    have p1 : W6.cell? ⟨w.heap.size + 1, 1, none⟩ = some (.int .i64 q) := HT6.out.pb.cell 1
    have p2 : W6.cell? ⟨w.heap.size + 1, 2, none⟩ = some (.slice vao m vcap) := HT6.out.pb.cell 2
    have p3 : W6.cell? ⟨w.heap.size + 1, 3, none⟩ = some (.int .i64 st) := HT6.out.pb.cell 3
    have p4 : W6.cell? ⟨w.heap.size + 1, 4, none⟩ = some (.int .i64 cl) := HT6.out.pb.cell 4
    have p5 : W6.cell? ⟨w.heap.size + 1, 5, none⟩ = some (.bool gs) := HT6.out.pb.cell 5
    have p6 : W6.cell? ⟨w.heap.size + 1, 6, none⟩ = some (.string lk) := HT6.out.pb.cell 6
    have r0 : W6.cell? ⟨w.heap.size, 0, none⟩ = some (.int .i64 0) := HT6.out.rb.cell 0
    have r1 : W6.cell? ⟨w.heap.size, 1, none⟩ = some (.int .i64 0) := HT6.out.rb.cell 1
    have r2 : W6.cell? ⟨w.heap.size, 2, none⟩ = some (.slice none 0 0) := HT6.out.rb.cell 2
    have r3 : W6.cell? ⟨w.heap.size, 3, none⟩ = some (.int .i64 0) := HT6.out.rb.cell 3
    have r4 : W6.cell? ⟨w.heap.size, 4, none⟩ = some (.int .i64 0) := HT6.out.rb.cell 4
    have r5 : W6.cell? ⟨w.heap.size, 5, none⟩ = some (.bool false) := HT6.out.rb.cell 5
    have r6 : W6.cell? ⟨w.heap.size, 6, none⟩ = some (.string ⟨#[]⟩) := HT6.out.rb.cell 6
    have g0 := HT6.out.rb.frozen 0
    have g1 := HT6.out.rb.frozen 1
    have g2 := HT6.out.rb.frozen 2
    have g3 := HT6.out.rb.frozen 3
    have g4 := HT6.out.rb.frozen 4
    have g5 := HT6.out.rb.frozen 5
    have g6 := HT6.out.rb.frozen 6
    go_wp2
    change bodyPost Tryz.prog _ _ Exit.ret _ (putP W6 w.heap.size ⟨kind, q, vao, m, vcap, items, st, cl, gs, lk⟩)
    obtain ⟨d1, d2, d3⟩ := HT6.out.done hblt ⟨kind, q, vao, m, vcap, items, st, cl, gs, lk⟩
    exact bodyPost_ret (ret_part (k := ⟨kind, q, vao, m, vcap, items, st, cl, gs, lk⟩) rfl _ rfl d1) rfl ⟨rfl, by rw [HN.out]; exact d2, d3⟩

set_option maxRecDepth 100000 in
set_option maxHeartbeats 3200000 in
theorem take2nm (b : Nat) (r s : RV) (v : PV) (t : List PV) (q : Nat) (w : World) (hB : Blk w b (prC r s) 272) (hO : Ops w s.ao s.n s.cap (v :: t)) (hfb : ∀ a, s.ao = some a → a.block ≠ b) (_hq : 1 ≤ q) (hl : ((s.g + q : Nat) : Int) ≤ lgV v) (hbd : lgV v ≤ 1000)
    (hk : ¬ v.kind = 2) (hf : ¬ ((s.g + q : Nat) : Int) = lgV v) :
    Calls Tryz.prog 283 #[.pointer (some ⟨b, 2, none⟩), .int .i64 q] w fun e w' => e = .returned (.agg #[.int .i64 (pieceV v s.g q).kind, .int .i64 (pieceV v s.g q).n, .slice (pieceV v s.g q).ao (pieceV v s.g q).m (pieceV v s.g q).cap, .int .i64 (pieceV v s.g q).set, .int .i64 (pieceV v s.g q).clr, .bool (pieceV v s.g q).goes, .string (pieceV v s.g q).link]) ∧ Blk w' b (prC r (s.next v t q)) 272 ∧ Kept w w' [b] := by
  have hgb : s.g + q ≤ 1000 := by omega
  obtain ⟨pb, po, hao, hsv, hn, -⟩ := hO.head
  have hpv := hO.pts v (List.mem_cons_self ..)
  have hpb : pb ≠ b := hfb _ hao
  have hplt : pb < w.heap.size := cell_lt hsv.c0
  have hblt : b < w.heap.size := hB.lt
  have hbig := hO.row.big
  have hroom := hO.row.room
  have HT : Hid (Tk3 w (boxp v (boxp pv0 w)) b (prC r s) v) := Tk3.start hB v
  have CL : Hid (∀ w', Calls Tryz.prog 308 #[.agg #[.int .i64 v.kind, .int .i64 v.n, .slice v.ao v.m v.cap, .int .i64 v.set, .int .i64 v.clr, .bool v.goes, .string v.link]] w' fun e w'' => e = .returned (.int .i64 (lgV v)) ∧ Below w'.heap.size w' w'') := fun w' => longp_any v w'
  have HSV : Hid (∀ w' : World, Kept w w' [b] → Seven w' pb po v) := fun w' hk => hsv.same (hk.block pb hplt (by simp; exact hpb))
  have HSV0 : Hid (Seven w pb po v) := hsv
  obtain ⟨L, hL⟩ : ∃ L, lgV v = L := ⟨_, rfl⟩
  have HL : Hid (lgV v = L) := hL
  rw [hL] at CL hl hbd hf
  have hL0 := hL
  unfold lgV at hL0
  rw [if_neg hk] at hL0
  have hkb : (v.kind == 2) = false := by simp [hk]
  have hU : pieceV v s.g q = ⟨v.kind, q, v.ao, v.m, v.cap, v.items, v.set, v.clr, v.goes, v.link⟩ := by
    unfold pieceV
    rw [if_neg hk]
  have HU : Hid ((pvC v).set 1 (.int .i64 q) = pvC (pieceV v s.g q)) := by show _ = _; rw [hU]; rfl
  rw [hU] at HU ⊢
  have HN : Hid (s.next v t q = ⟨some ⟨pb, po, none⟩, s.n, s.cap, v :: t, s.g + q⟩) := by
    show _ = _
    unfold RV.next
    rw [hL, if_neg hf, hao]
  obtain ⟨rao, rn, rcap, rvs, g⟩ := s
  obtain ⟨sao, sn, scap, svs, h⟩ := r
  simp only at *
  subst hao
  obtain ⟨gq, hgq⟩ : ∃ gq, g + q = gq := ⟨_, rfl⟩
  rw [hgq] at hgb
  obtain ⟨hw1, hw2⟩ := wrap_add hgq hgb
  rw [hgq] at HN hf
  have hfe : ((gq : Int) == L) = false := by simp [hf]
  have HG : Hid (g + q = gq) := hgq
  have hst := slice_tail pb po rn rcap hn
  obtain ⟨kind, vn, vao, m, vcap, items, st, cl, gs, lk⟩ := v
  simp only at *
  skip
  obtain ⟨e0, e1, e2, e3, e4, e5, e6⟩ := HSV0.out
  have b0 : w.cell? ⟨b, 2, none⟩ = some (.slice (some ⟨pb, po, none⟩) rn rcap) := hB.cell 2
  have b1 : w.cell? ⟨b, 2 + 1, none⟩ = some (.int .i64 g) := hB.cell 3
  have hn' : (0 : Int) < (rn : Int) := by omega
  clear hO hfb hgq hU hL hL0 hk hf hsv hB hpv HSV0
  go_enter Tryz.func283, Tryz.ntmps283
  go_upto_region 2 with fail
  change Code.wp Tryz.prog _ _ _ (boxp ⟨kind, vn, vao, m, vcap, items, st, cl, gs, lk⟩ (boxp pv0 w))
  generalize boxp ⟨kind, vn, vao, m, vcap, items, st, cl, gs, lk⟩ (boxp pv0 w) = W2 at *
  clear b0 b1 e0 e1 e2 e3 e4 e5 e6
  have p0 : W2.cell? ⟨w.heap.size + 1, 0, none⟩ = some (.int .i64 kind) := HT.out.pb.cell 0
  have p1 : W2.cell? ⟨w.heap.size + 1, 1, none⟩ = some (.int .i64 vn) := HT.out.pb.cell 1
  have f1 := HT.out.pb.frozen 1
  go_upto_region 5 with fail
  change Code.wp Tryz.prog _ _ _ (W2.setCell ⟨w.heap.size + 1, 1, none⟩ (.int .i64 q))
  have HT3 := HT.out.own hblt 1 _ HU.out
  generalize W2.setCell ⟨w.heap.size + 1, 1, none⟩ (.int .i64 q) = W3 at *
  clear p0 p1 f1 HT
  have HT3 : Hid _ := HT3
  have b1 : W3.cell? ⟨b, 2 + 1, none⟩ = some (.int .i64 g) := HT3.out.cb.cell 3
  have f1 := HT3.out.cb.frozen 3
  go_upto_region 6 with fail
  change Code.wp Tryz.prog _ _ _ (W3.setCell ⟨b, 3, none⟩ (.int .i64 gq))
  have HT4 := HT3.out.pair hblt 3 (.int .i64 gq)
  generalize W3.setCell ⟨b, 3, none⟩ (.int .i64 gq) = W4 at *
  have HT4 : Hid _ := HT4
  clear b1 f1 HT3
  have b0 : W4.cell? ⟨b, 2, none⟩ = some (.slice (some ⟨pb, po, none⟩) rn rcap) := HT4.out.cb.cell 2
  have b1 : W4.cell? ⟨b, 2 + 1, none⟩ = some (.int .i64 gq) := HT4.out.cb.cell 3
  obtain ⟨e0, e1, e2, e3, e4, e5, e6⟩ := HSV.out W4 HT4.out.kept
  go_region_with ((go_at_call 308; refine (CL.out _).mono ?_; rintro e w5 ⟨rfl, hb⟩; have HT5 := HT4.out.drew.under hb; have b2 : w5.cell? ⟨b, 2, none⟩ = some (.slice (some ⟨pb, po, none⟩) rn rcap) := HT5.cb.cell 2; have b3 : w5.cell? ⟨b, 2 + 1, none⟩ = some (.int .i64 gq) := HT5.cb.cell 3; clear hb))
  all_goals
    have HT5 : Hid _ := HT5
    clear b0 b1 e0 e1 e2 e3 e4 e5 e6 HT4
    go_upto_region 8 with fail
    have HT6 := HT5.out
    generalize w5 = W6 at *
    have HT6 : Hid _ := HT6
    clear b2 b3 HT5
    have p0 : W6.cell? ⟨w.heap.size + 1, 0, none⟩ = some (.int .i64 kind) := HT6.out.pb.cell 0
    have p1 : W6.cell? ⟨w.heap.size + 1, 1, none⟩ = some (.int .i64 q) := HT6.out.pb.cell 1
    have p2 : W6.cell? ⟨w.heap.size + 1, 2, none⟩ = some (.slice vao m vcap) := HT6.out.pb.cell 2
    have p3 : W6.cell? ⟨w.heap.size + 1, 3, none⟩ = some (.int .i64 st) := HT6.out.pb.cell 3
    have p4 : W6.cell? ⟨w.heap.size + 1, 4, none⟩ = some (.int .i64 cl) := HT6.out.pb.cell 4
    have p5 : W6.cell? ⟨w.heap.size + 1, 5, none⟩ = some (.bool gs) := HT6.out.pb.cell 5
    have p6 : W6.cell? ⟨w.heap.size + 1, 6, none⟩ = some (.string lk) := HT6.out.pb.cell 6
    have r0 : W6.cell? ⟨w.heap.size, 0, none⟩ = some (.int .i64 0) := HT6.out.rb.cell 0
    have r1 : W6.cell? ⟨w.heap.size, 1, none⟩ = some (.int .i64 0) := HT6.out.rb.cell 1
    have r2 : W6.cell? ⟨w.heap.size, 2, none⟩ = some (.slice none 0 0) := HT6.out.rb.cell 2
    have r3 : W6.cell? ⟨w.heap.size, 3, none⟩ = some (.int .i64 0) := HT6.out.rb.cell 3
    have r4 : W6.cell? ⟨w.heap.size, 4, none⟩ = some (.int .i64 0) := HT6.out.rb.cell 4
    have r5 : W6.cell? ⟨w.heap.size, 5, none⟩ = some (.bool false) := HT6.out.rb.cell 5
    have r6 : W6.cell? ⟨w.heap.size, 6, none⟩ = some (.string ⟨#[]⟩) := HT6.out.rb.cell 6
    have g0 := HT6.out.rb.frozen 0
    have g1 := HT6.out.rb.frozen 1
    have g2 := HT6.out.rb.frozen 2
    have g3 := HT6.out.rb.frozen 3
    have g4 := HT6.out.rb.frozen 4
    have g5 := HT6.out.rb.frozen 5
    have g6 := HT6.out.rb.frozen 6
    go_wp2
    change bodyPost Tryz.prog _ _ Exit.ret _ (putP W6 w.heap.size ⟨kind, q, vao, m, vcap, items, st, cl, gs, lk⟩)
    obtain ⟨d1, d2, d3⟩ := HT6.out.done hblt ⟨kind, q, vao, m, vcap, items, st, cl, gs, lk⟩
    exact bodyPost_ret (ret_part (k := ⟨kind, q, vao, m, vcap, items, st, cl, gs, lk⟩) rfl _ rfl d1) rfl ⟨rfl, by rw [HN.out]; exact d2, d3⟩

theorem take2_any (b : Nat) (r s : RV) (v : PV) (t : List PV) (q : Nat) (w : World) (hB : Blk w b (prC r s) 272) (hO : Ops w s.ao s.n s.cap (v :: t)) (hfb : ∀ a, s.ao = some a → a.block ≠ b) (hq : 1 ≤ q) (hl : ((s.g + q : Nat) : Int) ≤ lgV v) (hbd : lgV v ≤ 1000) :
    Calls Tryz.prog 283 #[.pointer (some ⟨b, 2, none⟩), .int .i64 q] w fun e w' => e = .returned (.agg #[.int .i64 (pieceV v s.g q).kind, .int .i64 (pieceV v s.g q).n, .slice (pieceV v s.g q).ao (pieceV v s.g q).m (pieceV v s.g q).cap, .int .i64 (pieceV v s.g q).set, .int .i64 (pieceV v s.g q).clr, .bool (pieceV v s.g q).goes, .string (pieceV v s.g q).link]) ∧ Blk w' b (prC r (s.next v t q)) 272 ∧ Kept w w' [b] := by
  by_cases hk : v.kind = 2
  · by_cases hf : ((s.g + q : Nat) : Int) = lgV v
    · exact take2pe b r s v t q w hB hO hfb hq hl hbd hk hf
    · exact take2pm b r s v t q w hB hO hfb hq hl hbd hk hf
  · by_cases hf : ((s.g + q : Nat) : Int) = lgV v
    · exact take2ne b r s v t q w hB hO hfb hq hl hbd hk hf
    · exact take2nm b r s v t q w hB hO hfb hq hl hbd hk hf
end Go.Proofs.YtbhcklkbckacpaaGreatDoor

/-
  Package ot: whether something is left, who is at a Put, a whole part taken.
-/
namespace Go.Proofs.YtbhcklkbckacpaaGreatDoor
open Go.RowKit

set_option maxRecDepth 100000 in
set_option maxHeartbeats 1600000 in
theorem isLeft_any (b : Nat) (r s : RV) (w : World) (x : Bool) (hx : decide (0 < r.n) = x) (hB : Blk w b (prC r s) 272) :
    Calls Tryz.prog 257 #[.pointer (some ⟨b, 0, none⟩)] w fun e w' => e = .returned (.bool x) ∧ w' = w := by
  have b0 : w.cell? ⟨b, 0, none⟩ = some (.slice r.ao r.n r.cap) := hB.cell 0
  clear hB
  cases x
  · have hn : r.n = 0 := by simpa using hx
    rw [hn] at b0
    clear hx hn
    go_enter Tryz.func257, Tryz.ntmps257
    go_wp2
    go_ret
    exact ⟨rfl, rfl⟩
  · have hn : 0 < r.n := by simpa using hx
    have hn' : (0 : Int) < (r.n : Int) := by omega
    go_enter Tryz.func257, Tryz.ntmps257
    go_wp2
    go_ret
    exact ⟨rfl, rfl⟩

set_option maxRecDepth 100000 in
set_option maxHeartbeats 1600000 in
theorem putting_a (b : Nat) (r s : RV) (w : World) (hB : Blk w b (prC r s) 272) (hr : RV.ok w r) (hs : RV.ok w s) (h1 : atK r.vs 2 = true) :
    Calls Tryz.prog 258 #[.pointer (some ⟨b, 0, none⟩)] w fun e w' => e = .returned (.tuple #[.int .i64 0, .bool true]) ∧ w' = w := by
  have C0 := isAt_any b 0 r.ao r.n r.cap r.vs 2 w (hB.cell 0) hr
  have C1 := isAt_any b 2 s.ao s.n s.cap s.vs 2 w (hB.cell 2) hs
  rw [h1] at C0
  skip
  have C0 : Hid _ := C0
  have C1 : Hid _ := C1
  clear hB hr hs h1
  go_enter Tryz.func258, Tryz.ntmps258
  go_wp2_with fail
  refine wp_loop_rounds 3 ?_
  rw [rounds_succ]
  go_wp2_with fail
  refine Calls.mono C0.out ?_
  rintro e w1 ⟨rfl, rfl⟩
  go_wp2_with fail
  go_ret2
  exact ⟨rfl, rfl⟩

set_option maxRecDepth 100000 in
set_option maxHeartbeats 1600000 in
theorem putting_b (b : Nat) (r s : RV) (w : World) (hB : Blk w b (prC r s) 272) (hr : RV.ok w r) (hs : RV.ok w s) (h1 : atK r.vs 2 = false) (h2 : atK s.vs 2 = true) :
    Calls Tryz.prog 258 #[.pointer (some ⟨b, 0, none⟩)] w fun e w' => e = .returned (.tuple #[.int .i64 1, .bool true]) ∧ w' = w := by
  have C0 := isAt_any b 0 r.ao r.n r.cap r.vs 2 w (hB.cell 0) hr
  have C1 := isAt_any b 2 s.ao s.n s.cap s.vs 2 w (hB.cell 2) hs
  rw [h1] at C0
  rw [h2] at C1
  have C0 : Hid _ := C0
  have C1 : Hid _ := C1
  clear hB hr hs h1
  go_enter Tryz.func258, Tryz.ntmps258
  go_wp2_with fail
  refine wp_loop_rounds 3 ?_
  rw [rounds_succ]
  go_wp2_with fail
  refine Calls.mono C0.out ?_
  rintro e w1 ⟨rfl, rfl⟩
  go_wp2_with fail
  rw [rounds_succ]
  go_wp2_with fail
  refine Calls.mono C1.out ?_
  rintro e w1 ⟨rfl, rfl⟩
  go_wp2_with fail
  go_ret2
  exact ⟨rfl, rfl⟩

set_option maxRecDepth 100000 in
set_option maxHeartbeats 1600000 in
theorem putting_c (b : Nat) (r s : RV) (w : World) (hB : Blk w b (prC r s) 272) (hr : RV.ok w r) (hs : RV.ok w s) (h1 : atK r.vs 2 = false) (h2 : atK s.vs 2 = false) :
    Calls Tryz.prog 258 #[.pointer (some ⟨b, 0, none⟩)] w fun e w' => e = .returned (.tuple #[.int .i64 0, .bool false]) ∧ w' = w := by
  have C0 := isAt_any b 0 r.ao r.n r.cap r.vs 2 w (hB.cell 0) hr
  have C1 := isAt_any b 2 s.ao s.n s.cap s.vs 2 w (hB.cell 2) hs
  rw [h1] at C0
  rw [h2] at C1
  have C0 : Hid _ := C0
  have C1 : Hid _ := C1
  clear hB hr hs h1
  go_enter Tryz.func258, Tryz.ntmps258
  go_wp2_with fail
  refine wp_loop_rounds 3 ?_
  rw [rounds_succ]
  go_wp2_with fail
  refine Calls.mono C0.out ?_
  rintro e w1 ⟨rfl, rfl⟩
  go_wp2_with fail
  rw [rounds_succ]
  go_wp2_with fail
  refine Calls.mono C1.out ?_
  rintro e w1 ⟨rfl, rfl⟩
  go_wp2_with fail
  rw [rounds_succ]
  go_wp2
  go_ret2
  exact ⟨rfl, rfl⟩

set_option maxRecDepth 100000 in
set_option maxHeartbeats 1600000 in
theorem takePart0_any (b : Nat) (r s : RV) (v : PV) (t : List PV) (q : Nat) (w : World) (hB : Blk w b (prC r s) 272) (hO : Ops w r.ao r.n r.cap (v :: t)) (hfb : ∀ a, r.ao = some a → a.block ≠ b) (hq : 1 ≤ q) (hl : lgV v = ((r.g + q : Nat) : Int)) (hbd : lgV v ≤ 1000) :
    Calls Tryz.prog 259 #[.pointer (some ⟨b, 0, none⟩)] w fun e w' => e = .returned (.agg #[.int .i64 (pieceV v r.g q).kind, .int .i64 (pieceV v r.g q).n, .slice (pieceV v r.g q).ao (pieceV v r.g q).m (pieceV v r.g q).cap, .int .i64 (pieceV v r.g q).set, .int .i64 (pieceV v r.g q).clr, .bool (pieceV v r.g q).goes, .string (pieceV v r.g q).link]) ∧ Blk w' b (prC (r.next v t q) s) 272 ∧ Kept w w' [b] := by
  have hblt := hB.lt
  have H1 : Hid (Below w.heap.size w (boxp pv0 w)) := boxp_below pv0 w
  have HR1 : Hid (Blk (boxp pv0 w) w.heap.size (pvC pv0) 162) := boxp_blk pv0 w
  have HB1 : Hid (Blk (boxp pv0 w) b (prC r s) 272) := hB.alloc _
  have CL := left_any b 0 r.ao r.n r.cap v t r.g (boxp pv0 w) (HB1.out.cell 0) (HB1.out.cell 1) (hO.below H1.out) (by omega) hbd
  rw [hl, show ((r.g + q : Nat) : Int) - (r.g : Int) = (q : Int) by omega] at CL
  have CL : Hid _ := CL
  have HO : Hid (Ops w r.ao r.n r.cap (v :: t)) := hO
  have CT : Hid (∀ w', Blk w' b (prC r s) 272 → Ops w' r.ao r.n r.cap (v :: t) → Calls Tryz.prog 283 #[.pointer (some ⟨b, 0, none⟩), .int .i64 q] w' fun e w'' => e = .returned (.agg #[.int .i64 (pieceV v r.g q).kind, .int .i64 (pieceV v r.g q).n, .slice (pieceV v r.g q).ao (pieceV v r.g q).m (pieceV v r.g q).cap, .int .i64 (pieceV v r.g q).set, .int .i64 (pieceV v r.g q).clr, .bool (pieceV v r.g q).goes, .string (pieceV v r.g q).link]) ∧ Blk w'' b (prC (r.next v t q) s) 272 ∧ Kept w' w'' [b]) := fun w' h1 h2 => take0_any b r s v t q w' h1 h2 hfb hq (by omega) hbd
  clear hB hO hfb hl hbd hq
  generalize pieceV v r.g q = u at *
  generalize r.next v t q = nx at *
  go_enter Tryz.func259, Tryz.ntmps259
  go_upto_region 1 with fail
  change Code.wp Tryz.prog _ _ _ (boxp pv0 w)
  generalize boxp pv0 w = W at *
  go_wp2_with fail
  refine Calls.mono CL.out ?_
  rintro e w1 ⟨rfl, hb⟩
  have HB2 : Hid (Blk w1 b (prC r s) 272) := (hb.block _ HB1.out.lt).trans HB1.out
  have HR2 : Hid (Blk w1 w.heap.size (pvC pv0) 162) := (hb.block _ HR1.out.lt).trans HR1.out
  have H2 : Hid (Below w.heap.size w w1) := H1.out.trans (hb.mono H1.out.size)
  clear hb CL
  go_wp2_with fail
  refine (CT.out _ HB2.out (HO.out.below H2.out)).mono ?_
  rintro e w2 ⟨rfl, hb3, hk3⟩
  have HB3 : Hid (Blk w2 b (prC nx s) 272) := hb3
  have HR3 : Hid (Blk w2 w.heap.size (pvC pv0) 162) := hk3.blk HR2.out (by simp; omega)
  have HK : Hid (Kept w (putP w2 w.heap.size u) [b]) := (((kept_of_below H2.out).mono (fun x hx => by cases hx)).trans hk3).trans_new (putP_kept w2 w.heap.size u [w.heap.size] (by simp)) (fun x hx => by rw [List.mem_singleton.1 hx]; exact .inr (Nat.le_refl _))
  have HBF : Hid (Blk (putP w2 w.heap.size u) b (prC nx s) 272) := (putP_kept w2 w.heap.size u [w.heap.size] (by simp)).blk hb3 (by simp; omega)
  have r0 : w2.cell? ⟨w.heap.size, 0, none⟩ = some (.int .i64 0) := HR3.out.cell 0
  have g0 := HR3.out.frozen 0
  have r1 : w2.cell? ⟨w.heap.size, 1, none⟩ = some (.int .i64 0) := HR3.out.cell 1
  have g1 := HR3.out.frozen 1
  have r2 : w2.cell? ⟨w.heap.size, 2, none⟩ = some (.slice none 0 0) := HR3.out.cell 2
  have g2 := HR3.out.frozen 2
  have r3 : w2.cell? ⟨w.heap.size, 3, none⟩ = some (.int .i64 0) := HR3.out.cell 3
  have g3 := HR3.out.frozen 3
  have r4 : w2.cell? ⟨w.heap.size, 4, none⟩ = some (.int .i64 0) := HR3.out.cell 4
  have g4 := HR3.out.frozen 4
  have r5 : w2.cell? ⟨w.heap.size, 5, none⟩ = some (.bool false) := HR3.out.cell 5
  have g5 := HR3.out.frozen 5
  have r6 : w2.cell? ⟨w.heap.size, 6, none⟩ = some (.string ⟨#[]⟩) := HR3.out.cell 6
  have g6 := HR3.out.frozen 6
  clear hb3 hk3 CT
  go_wp2
  change bodyPost Tryz.prog _ _ Exit.ret _ (putP w2 w.heap.size u)
  exact bodyPost_ret (ret_part (k := u) rfl _ rfl (putP_blk HR3.out)) rfl ⟨rfl, HBF.out, HK.out⟩

set_option maxRecDepth 100000 in
set_option maxHeartbeats 1600000 in
theorem takePart2_any (b : Nat) (r s : RV) (v : PV) (t : List PV) (q : Nat) (w : World) (hB : Blk w b (prC r s) 272) (hO : Ops w s.ao s.n s.cap (v :: t)) (hfb : ∀ a, s.ao = some a → a.block ≠ b) (hq : 1 ≤ q) (hl : lgV v = ((s.g + q : Nat) : Int)) (hbd : lgV v ≤ 1000) :
    Calls Tryz.prog 259 #[.pointer (some ⟨b, 2, none⟩)] w fun e w' => e = .returned (.agg #[.int .i64 (pieceV v s.g q).kind, .int .i64 (pieceV v s.g q).n, .slice (pieceV v s.g q).ao (pieceV v s.g q).m (pieceV v s.g q).cap, .int .i64 (pieceV v s.g q).set, .int .i64 (pieceV v s.g q).clr, .bool (pieceV v s.g q).goes, .string (pieceV v s.g q).link]) ∧ Blk w' b (prC r (s.next v t q)) 272 ∧ Kept w w' [b] := by
  have hblt := hB.lt
  have H1 : Hid (Below w.heap.size w (boxp pv0 w)) := boxp_below pv0 w
  have HR1 : Hid (Blk (boxp pv0 w) w.heap.size (pvC pv0) 162) := boxp_blk pv0 w
  have HB1 : Hid (Blk (boxp pv0 w) b (prC r s) 272) := hB.alloc _
  have CL := left_any b 2 s.ao s.n s.cap v t s.g (boxp pv0 w) (HB1.out.cell 2) (HB1.out.cell 3) (hO.below H1.out) (by omega) hbd
  rw [hl, show ((s.g + q : Nat) : Int) - (s.g : Int) = (q : Int) by omega] at CL
  have CL : Hid _ := CL
  have HO : Hid (Ops w s.ao s.n s.cap (v :: t)) := hO
  have CT : Hid (∀ w', Blk w' b (prC r s) 272 → Ops w' s.ao s.n s.cap (v :: t) → Calls Tryz.prog 283 #[.pointer (some ⟨b, 2, none⟩), .int .i64 q] w' fun e w'' => e = .returned (.agg #[.int .i64 (pieceV v s.g q).kind, .int .i64 (pieceV v s.g q).n, .slice (pieceV v s.g q).ao (pieceV v s.g q).m (pieceV v s.g q).cap, .int .i64 (pieceV v s.g q).set, .int .i64 (pieceV v s.g q).clr, .bool (pieceV v s.g q).goes, .string (pieceV v s.g q).link]) ∧ Blk w'' b (prC r (s.next v t q)) 272 ∧ Kept w' w'' [b]) := fun w' h1 h2 => take2_any b r s v t q w' h1 h2 hfb hq (by omega) hbd
  clear hB hO hfb hl hbd hq
  generalize pieceV v s.g q = u at *
  generalize s.next v t q = nx at *
  go_enter Tryz.func259, Tryz.ntmps259
  go_upto_region 1 with fail
  change Code.wp Tryz.prog _ _ _ (boxp pv0 w)
  generalize boxp pv0 w = W at *
  go_wp2_with fail
  refine Calls.mono CL.out ?_
  rintro e w1 ⟨rfl, hb⟩
  have HB2 : Hid (Blk w1 b (prC r s) 272) := (hb.block _ HB1.out.lt).trans HB1.out
  have HR2 : Hid (Blk w1 w.heap.size (pvC pv0) 162) := (hb.block _ HR1.out.lt).trans HR1.out
  have H2 : Hid (Below w.heap.size w w1) := H1.out.trans (hb.mono H1.out.size)
  clear hb CL
  go_wp2_with fail
  refine (CT.out _ HB2.out (HO.out.below H2.out)).mono ?_
  rintro e w2 ⟨rfl, hb3, hk3⟩
  have HB3 : Hid (Blk w2 b (prC r nx) 272) := hb3
  have HR3 : Hid (Blk w2 w.heap.size (pvC pv0) 162) := hk3.blk HR2.out (by simp; omega)
  have HK : Hid (Kept w (putP w2 w.heap.size u) [b]) := (((kept_of_below H2.out).mono (fun x hx => by cases hx)).trans hk3).trans_new (putP_kept w2 w.heap.size u [w.heap.size] (by simp)) (fun x hx => by rw [List.mem_singleton.1 hx]; exact .inr (Nat.le_refl _))
  have HBF : Hid (Blk (putP w2 w.heap.size u) b (prC r nx) 272) := (putP_kept w2 w.heap.size u [w.heap.size] (by simp)).blk hb3 (by simp; omega)
  have r0 : w2.cell? ⟨w.heap.size, 0, none⟩ = some (.int .i64 0) := HR3.out.cell 0
  have g0 := HR3.out.frozen 0
  have r1 : w2.cell? ⟨w.heap.size, 1, none⟩ = some (.int .i64 0) := HR3.out.cell 1
  have g1 := HR3.out.frozen 1
  have r2 : w2.cell? ⟨w.heap.size, 2, none⟩ = some (.slice none 0 0) := HR3.out.cell 2
  have g2 := HR3.out.frozen 2
  have r3 : w2.cell? ⟨w.heap.size, 3, none⟩ = some (.int .i64 0) := HR3.out.cell 3
  have g3 := HR3.out.frozen 3
  have r4 : w2.cell? ⟨w.heap.size, 4, none⟩ = some (.int .i64 0) := HR3.out.cell 4
  have g4 := HR3.out.frozen 4
  have r5 : w2.cell? ⟨w.heap.size, 5, none⟩ = some (.bool false) := HR3.out.cell 5
  have g5 := HR3.out.frozen 5
  have r6 : w2.cell? ⟨w.heap.size, 6, none⟩ = some (.string ⟨#[]⟩) := HR3.out.cell 6
  have g6 := HR3.out.frozen 6
  clear hb3 hk3 CT
  go_wp2
  change bodyPost Tryz.prog _ _ Exit.ret _ (putP w2 w.heap.size u)
  exact bodyPost_ret (ret_part (k := u) rfl _ rfl (putP_blk HR3.out)) rfl ⟨rfl, HBF.out, HK.out⟩
end Go.Proofs.YtbhcklkbckacpaaGreatDoor

/-
  Package ot: a Keep without what another one has a say in; a Keep that does one, and then another one.
-/
namespace Go.Proofs.YtbhcklkbckacpaaGreatDoor
open Go.RowKit

def yieldV (p f : PV) : PV := { p with set := Ac.less p.set (Ac.both f.set f.clr), clr := Ac.less p.clr (Ac.both f.set f.clr), goes := p.goes && !f.goes, link := if f.goes then ⟨#[]⟩ else p.link }
structure Bx3 (w0 w : World) (u v r : PV) : Prop where
  ub : Blk w w0.heap.size (pvC u) 162
  vb : Blk w (w0.heap.size + 1) (pvC v) 162
  rb : Blk w (w0.heap.size + 2) (pvC r) 162
  blw : Below w0.heap.size w0 w
theorem Bx3.start (u v : PV) (w : World) : Bx3 w (boxp pv0 (boxp v (boxp u w))) u v pv0 := by
  refine ⟨((boxp_blk u w).alloc _).alloc _, ?_, ?_, (boxp2_below u v w).trans ((boxp_below pv0 _).mono (by rw [boxp_size, boxp_size]; omega))⟩
  · have := (boxp_blk v (boxp u w)).alloc (.cells #[.int .i64 0, .int .i64 0, .slice none 0 0, .int .i64 0, .int .i64 0, .bool false, .string ⟨#[]⟩] 162)
    rw [boxp_size] at this
    exact this
  · have := boxp_blk pv0 (boxp v (boxp u w))
    rw [boxp_size, boxp_size] at this
    exact this
theorem Bx3.setU {w0 w : World} {u v r : PV} (h : Bx3 w0 w u v r) (j : Nat) (x : Value) {u' : PV} (e : (pvC u).set j x = pvC u') : Bx3 w0 (w.setCell ⟨w0.heap.size, j, none⟩ x) u' v r :=
  ⟨by have := h.ub.set j x; rw [e] at this; exact this, h.vb.other _ _ (by simp), h.rb.other _ _ (by simp), h.blw.setCell (Nat.le_refl _) _⟩

set_option maxRecDepth 100000 in
set_option maxHeartbeats 3200000 in
theorem yield_any (p f : PV) (w : World) (h1 : Ac.m4 p.set) (h2 : Ac.m4 p.clr) (h3 : Ac.m4 f.set) (h4 : Ac.m4 f.clr) :
    Calls Tryz.prog 285 #[.agg #[.int .i64 p.kind, .int .i64 p.n, .slice p.ao p.m p.cap, .int .i64 p.set, .int .i64 p.clr, .bool p.goes, .string p.link], .agg #[.int .i64 f.kind, .int .i64 f.n, .slice f.ao f.m f.cap, .int .i64 f.set, .int .i64 f.clr, .bool f.goes, .string f.link]] w fun e w' => e = .returned (.agg #[.int .i64 (yieldV p f).kind, .int .i64 (yieldV p f).n, .slice (yieldV p f).ao (yieldV p f).m (yieldV p f).cap, .int .i64 (yieldV p f).set, .int .i64 (yieldV p f).clr, .bool (yieldV p f).goes, .string (yieldV p f).link]) ∧ Below w.heap.size w w' := by
  have HT : Hid (Bx3 w (boxp pv0 (boxp f (boxp p w))) p f pv0) := Bx3.start p f w
  have q1 := bits_or h3 h4
  have q2 := bits_anot h1 (Ac.both_m4 h3 h4)
  have q3 := bits_anot h2 (Ac.both_m4 h3 h4)
  obtain ⟨u, hu⟩ : ∃ u, yieldV p f = u := ⟨_, rfl⟩
  rw [hu]
  have HU : Hid (yieldV p f = u) := hu
  obtain ⟨kind, vn, vao, m, vcap, items, st, cl, gs, lk⟩ := p
  obtain ⟨kind', vn', vao', m', vcap', items', st', cl', gs', lk'⟩ := f
  simp only at *
  clear hu h1 h2 h3 h4
  go_enter Tryz.func285, Tryz.ntmps285
  go_upto_region 1 with fail
  change Code.wp Tryz.prog _ _ _ (boxp pv0 (boxp ⟨kind', vn', vao', m', vcap', items', st', cl', gs', lk'⟩ (boxp ⟨kind, vn, vao, m, vcap, items, st, cl, gs, lk⟩ w)))
  generalize boxp pv0 (boxp ⟨kind', vn', vao', m', vcap', items', st', cl', gs', lk'⟩ (boxp ⟨kind, vn, vao, m, vcap, items, st, cl, gs, lk⟩ w)) = W at *
  have v3 : W.cell? ⟨w.heap.size + 1, 3, none⟩ = some (.int .i64 st') := HT.out.vb.cell 3
  have v4 : W.cell? ⟨w.heap.size + 1, 4, none⟩ = some (.int .i64 cl') := HT.out.vb.cell 4
  have u3 : W.cell? ⟨w.heap.size, 3, none⟩ = some (.int .i64 st) := HT.out.ub.cell 3
  have f3 := HT.out.ub.frozen 3
  go_upto_region 3 with fail
  change Code.wp Tryz.prog _ _ _ (W.setCell ⟨w.heap.size, 3, none⟩ (.int .i64 (Ac.less st (Ac.both st' cl'))))
  have HT2 := HT.out.setU 3 (.int .i64 (Ac.less st (Ac.both st' cl'))) (u' := ⟨kind, vn, vao, m, vcap, items, Ac.less st (Ac.both st' cl'), cl, gs, lk⟩) rfl
  generalize W.setCell ⟨w.heap.size, 3, none⟩ (.int .i64 (Ac.less st (Ac.both st' cl'))) = W2 at *
  have HT2 : Hid _ := HT2
  clear v3 v4 u3 f3 HT
  have u4 : W2.cell? ⟨w.heap.size, 4, none⟩ = some (.int .i64 cl) := HT2.out.ub.cell 4
  have f4 := HT2.out.ub.frozen 4
  go_upto_region 4 with fail
  change Code.wp Tryz.prog _ _ _ (W2.setCell ⟨w.heap.size, 4, none⟩ (.int .i64 (Ac.less cl (Ac.both st' cl'))))
  have HT3 := HT2.out.setU 4 (.int .i64 (Ac.less cl (Ac.both st' cl'))) (u' := ⟨kind, vn, vao, m, vcap, items, Ac.less st (Ac.both st' cl'), Ac.less cl (Ac.both st' cl'), gs, lk⟩) rfl
  generalize W2.setCell ⟨w.heap.size, 4, none⟩ (.int .i64 (Ac.less cl (Ac.both st' cl'))) = W3 at *
  have HT3 : Hid _ := HT3
  clear u4 f4 HT2 q1 q2 q3
  have v5 : W3.cell? ⟨w.heap.size + 1, 5, none⟩ = some (.bool gs') := HT3.out.vb.cell 5
  cases gs'
  · obtain rfl : u = ⟨kind, vn, vao, m, vcap, items, (Ac.less st (Ac.both st' cl')), (Ac.less cl (Ac.both st' cl')), gs, lk⟩ := by rw [← HU.out]; unfold yieldV; simp
    clear HU
    have z0 : W3.cell? ⟨w.heap.size, 0, none⟩ = some (.int .i64 kind) := HT3.out.ub.cell 0
    have z1 : W3.cell? ⟨w.heap.size, 1, none⟩ = some (.int .i64 vn) := HT3.out.ub.cell 1
    have z2 : W3.cell? ⟨w.heap.size, 2, none⟩ = some (.slice vao m vcap) := HT3.out.ub.cell 2
    have z3 : W3.cell? ⟨w.heap.size, 3, none⟩ = some (.int .i64 (Ac.less st (Ac.both st' cl'))) := HT3.out.ub.cell 3
    have z4 : W3.cell? ⟨w.heap.size, 4, none⟩ = some (.int .i64 (Ac.less cl (Ac.both st' cl'))) := HT3.out.ub.cell 4
    have z5 : W3.cell? ⟨w.heap.size, 5, none⟩ = some (.bool gs) := HT3.out.ub.cell 5
    have z6 : W3.cell? ⟨w.heap.size, 6, none⟩ = some (.string lk) := HT3.out.ub.cell 6
    have r0 : W3.cell? ⟨w.heap.size + 2, 0, none⟩ = some (.int .i64 0) := HT3.out.rb.cell 0
    have r1 : W3.cell? ⟨w.heap.size + 2, 1, none⟩ = some (.int .i64 0) := HT3.out.rb.cell 1
    have r2 : W3.cell? ⟨w.heap.size + 2, 2, none⟩ = some (.slice none 0 0) := HT3.out.rb.cell 2
    have r3 : W3.cell? ⟨w.heap.size + 2, 3, none⟩ = some (.int .i64 0) := HT3.out.rb.cell 3
    have r4 : W3.cell? ⟨w.heap.size + 2, 4, none⟩ = some (.int .i64 0) := HT3.out.rb.cell 4
    have r5 : W3.cell? ⟨w.heap.size + 2, 5, none⟩ = some (.bool false) := HT3.out.rb.cell 5
    have r6 : W3.cell? ⟨w.heap.size + 2, 6, none⟩ = some (.string ⟨#[]⟩) := HT3.out.rb.cell 6
    have g0 := HT3.out.rb.frozen 0
    have g1 := HT3.out.rb.frozen 1
    have g2 := HT3.out.rb.frozen 2
    have g3 := HT3.out.rb.frozen 3
    have g4 := HT3.out.rb.frozen 4
    have g5 := HT3.out.rb.frozen 5
    have g6 := HT3.out.rb.frozen 6
    go_wp2
    change bodyPost Tryz.prog _ _ Exit.ret _ (putP W3 (w.heap.size + 2) ⟨kind, vn, vao, m, vcap, items, (Ac.less st (Ac.both st' cl')), (Ac.less cl (Ac.both st' cl')), gs, lk⟩)
    exact bodyPost_ret (ret_part (k := ⟨kind, vn, vao, m, vcap, items, (Ac.less st (Ac.both st' cl')), (Ac.less cl (Ac.both st' cl')), gs, lk⟩) rfl _ rfl (putP_blk HT3.out.rb)) rfl ⟨rfl, HT3.out.blw.trans ((putP_below _ _ _).mono (by omega))⟩
  · obtain rfl : u = ⟨kind, vn, vao, m, vcap, items, (Ac.less st (Ac.both st' cl')), (Ac.less cl (Ac.both st' cl')), false, ⟨#[]⟩⟩ := by rw [← HU.out]; unfold yieldV; simp
    clear HU
    have u5 : W3.cell? ⟨w.heap.size, 5, none⟩ = some (.bool gs) := HT3.out.ub.cell 5
    have u6 : W3.cell? ⟨w.heap.size, 6, none⟩ = some (.string lk) := HT3.out.ub.cell 6
    have f5 := HT3.out.ub.frozen 5
    have f6 := HT3.out.ub.frozen 6
    go_upto_region 6 with fail
    change Code.wp Tryz.prog _ _ _ ((W3.setCell ⟨w.heap.size, 5, none⟩ (.bool false)).setCell ⟨w.heap.size, 6, none⟩ (.string ⟨#[]⟩))
    have HT4 := (HT3.out.setU 5 (.bool false) (u' := ⟨kind, vn, vao, m, vcap, items, (Ac.less st (Ac.both st' cl')), (Ac.less cl (Ac.both st' cl')), false, lk⟩) rfl).setU 6 (.string ⟨#[]⟩) (u' := ⟨kind, vn, vao, m, vcap, items, (Ac.less st (Ac.both st' cl')), (Ac.less cl (Ac.both st' cl')), false, ⟨#[]⟩⟩) rfl
    generalize (W3.setCell ⟨w.heap.size, 5, none⟩ (.bool false)).setCell ⟨w.heap.size, 6, none⟩ (.string ⟨#[]⟩) = W4 at *
    have HT4 : Hid _ := HT4
    clear v5 u5 u6 f5 f6 HT3
    have z0 : W4.cell? ⟨w.heap.size, 0, none⟩ = some (.int .i64 kind) := HT4.out.ub.cell 0
    have z1 : W4.cell? ⟨w.heap.size, 1, none⟩ = some (.int .i64 vn) := HT4.out.ub.cell 1
    have z2 : W4.cell? ⟨w.heap.size, 2, none⟩ = some (.slice vao m vcap) := HT4.out.ub.cell 2
    have z3 : W4.cell? ⟨w.heap.size, 3, none⟩ = some (.int .i64 (Ac.less st (Ac.both st' cl'))) := HT4.out.ub.cell 3
    have z4 : W4.cell? ⟨w.heap.size, 4, none⟩ = some (.int .i64 (Ac.less cl (Ac.both st' cl'))) := HT4.out.ub.cell 4
    have z5 : W4.cell? ⟨w.heap.size, 5, none⟩ = some (.bool false) := HT4.out.ub.cell 5
    have z6 : W4.cell? ⟨w.heap.size, 6, none⟩ = some (.string ⟨#[]⟩) := HT4.out.ub.cell 6
    have r0 : W4.cell? ⟨w.heap.size + 2, 0, none⟩ = some (.int .i64 0) := HT4.out.rb.cell 0
    have r1 : W4.cell? ⟨w.heap.size + 2, 1, none⟩ = some (.int .i64 0) := HT4.out.rb.cell 1
    have r2 : W4.cell? ⟨w.heap.size + 2, 2, none⟩ = some (.slice none 0 0) := HT4.out.rb.cell 2
    have r3 : W4.cell? ⟨w.heap.size + 2, 3, none⟩ = some (.int .i64 0) := HT4.out.rb.cell 3
    have r4 : W4.cell? ⟨w.heap.size + 2, 4, none⟩ = some (.int .i64 0) := HT4.out.rb.cell 4
    have r5 : W4.cell? ⟨w.heap.size + 2, 5, none⟩ = some (.bool false) := HT4.out.rb.cell 5
    have r6 : W4.cell? ⟨w.heap.size + 2, 6, none⟩ = some (.string ⟨#[]⟩) := HT4.out.rb.cell 6
    have g0 := HT4.out.rb.frozen 0
    have g1 := HT4.out.rb.frozen 1
    have g2 := HT4.out.rb.frozen 2
    have g3 := HT4.out.rb.frozen 3
    have g4 := HT4.out.rb.frozen 4
    have g5 := HT4.out.rb.frozen 5
    have g6 := HT4.out.rb.frozen 6
    go_wp2
    change bodyPost Tryz.prog _ _ Exit.ret _ (putP W4 (w.heap.size + 2) ⟨kind, vn, vao, m, vcap, items, (Ac.less st (Ac.both st' cl')), (Ac.less cl (Ac.both st' cl')), false, ⟨#[]⟩⟩)
    exact bodyPost_ret (ret_part (k := ⟨kind, vn, vao, m, vcap, items, (Ac.less st (Ac.both st' cl')), (Ac.less cl (Ac.both st' cl')), false, ⟨#[]⟩⟩) rfl _ rfl (putP_blk HT4.out.rb)) rfl ⟨rfl, HT4.out.blw.trans ((putP_below _ _ _).mono (by omega))⟩

end Go.Proofs.YtbhcklkbckacpaaGreatDoor
