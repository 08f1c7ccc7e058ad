/-
  Package server: Take, case by case.
-/
import Derived.Test.YtbhcklkbckacpaaGreatDoorVf
import Derived.Test.YtbhcklkbckacpaaGreatDoorVh1
namespace Go.Proofs.YtbhcklkbckacpaaGreatDoor
open Go.RowKit
theorem boxe_row (v : EV) (w : World) : Row (boxe v w) (some ⟨w.heap.size, 0, none⟩) 1 1 3 (evC v) :=
  ⟨rfl, Nat.le_refl _, by decide, fun _ => ⟨_, 0, rfl, fun j u hu => by rw [Nat.zero_add]; exact ((boxe_blk v w).cell j).trans hu⟩⟩

set_option maxRecDepth 100000 in
set_option maxHeartbeats 3200000 in
theorem take_bad (s : SV) (rev : Int) (x : EV) (w : World) (hV : Srv w s) (hO : Ops w x.ao x.n x.cap x.vs) (hS : Sch w) (q : Int) (hq : (if Sv.srvE s.se = 0 then Sv.entE x.en else Sv.srvE s.se) = q) (hz : ¬ q = 0) :
    Calls Tryz.prog 18 #[.agg #[.slice s.fa s.fn s.fc, .slice s.la s.ln s.lc, .slice s.na s.nn s.nc], .int .i64 rev, .agg #[.int .i64 x.who, .int .i64 x.seq, .slice x.ao x.n x.cap]] w fun e w' => (∃ t, e = .returned (.tuple #[svA t, .int .i64 q]) ∧ Srv w' t ∧ t.se = ⟨[], [], []⟩) ∧ Below w.heap.size w w' := by
  have H1 : Hid (Below w.heap.size w (boxs sv0 (boxe x (boxs s w)))) := (boxs_below s w).trans (((boxe_below x _).trans ((boxs_below sv0 _).mono (boxe_below x _).size)).mono (boxs_below s w).size)
  have HS0 : Hid (Blk (boxs sv0 (boxe x (boxs s w))) (w.heap.size) (svC s) 42) := ((boxs_blk s w).alloc _).alloc _
  have HX0 : Hid (Blk (boxs sv0 (boxe x (boxs s w))) (w.heap.size + 1) (evC x) 46) := by have := (boxe_blk x (boxs s w)).alloc (.cells #[.slice none 0 0, .slice none 0 0, .slice none 0 0] 42); rw [boxs_size] at this; exact this
  have HR0 : Hid (Blk (boxs sv0 (boxe x (boxs s w))) (w.heap.size + 2) (svC sv0) 42) := by have := boxs_blk sv0 (boxe x (boxs s w)); rw [boxe_size, boxs_size] at this; exact this
  have CT : Hid (Calls Tryz.prog 76 #[.agg #[.slice s.fa s.fn s.fc, .slice s.la s.ln s.lc, .slice s.na s.nn s.nc], .agg #[.int .i64 x.who, .int .i64 x.seq, .slice x.ao x.n x.cap]] (boxs sv0 (boxe x (boxs s w))) fun e w' => e = .returned (.int .i64 q) ∧ Below (boxs sv0 (boxe x (boxs s w))).heap.size (boxs sv0 (boxe x (boxs s w))) w') := by have := checkTake_any s x (boxs sv0 (boxe x (boxs s w))) (hV.below H1.out) (hO.below H1.out) (hS.below H1.out); rw [hq] at this; exact this
  have hne : (q != 0) = true := by simp [hz]
  clear hV hO hS hq hz
  go_enter Tryz.func18, Tryz.ntmps18
  go_upto_region 1 with fail
  change Code.wp Tryz.prog _ _ _ (boxs sv0 (boxe x (boxs s w)))
  generalize (boxs sv0 (boxe x (boxs s w))) = W0 at *
  have p0 : W0.cell? ⟨w.heap.size, 0, none⟩ = some (.slice s.fa s.fn s.fc) := HS0.out.cell 0
  have p1 : W0.cell? ⟨w.heap.size, 1, none⟩ = some (.slice s.la s.ln s.lc) := HS0.out.cell 1
  have p2 : W0.cell? ⟨w.heap.size, 2, none⟩ = some (.slice s.na s.nn s.nc) := HS0.out.cell 2
  have a0 : W0.cell? ⟨w.heap.size + 1, 0, none⟩ = some (.int .i64 x.who) := HX0.out.cell 0
  have a1 : W0.cell? ⟨w.heap.size + 1, 1, none⟩ = some (.int .i64 x.seq) := HX0.out.cell 1
  have a2 : W0.cell? ⟨w.heap.size + 1, 2, none⟩ = some (.slice x.ao x.n x.cap) := HX0.out.cell 2
  go_wp2_with fail
  refine CT.out.mono ?_
  rintro e w1 ⟨rfl, hb⟩
  have H2 : Hid (Below W0.heap.size W0 w1) := hb
  clear hb p0 p1 p2 a0 a1 a2
  have hR1 : Blk w1 (w.heap.size + 2) (svC sv0) 42 := (H2.out.block _ HR0.out.lt).trans HR0.out
  have r0 : w1.cell? ⟨w.heap.size + 2, 0, none⟩ = some (.slice none 0 0) := hR1.cell 0
  have r1 : w1.cell? ⟨w.heap.size + 2, 1, none⟩ = some (.slice none 0 0) := hR1.cell 1
  have r2 : w1.cell? ⟨w.heap.size + 2, 2, none⟩ = some (.slice none 0 0) := hR1.cell 2
  have g0 := hR1.frozen 0
  have g1 := hR1.frozen 1
  have g2 := hR1.frozen 2
  have hbw : Below w.heap.size w w1 := H1.out.trans (H2.out.mono H1.out.size)
  go_wp2
  change bodyPost Tryz.prog _ _ Exit.ret _ (putS w1 (w.heap.size + 2) sv0)
  exact bodyPost_ret (ret_srv2 (t := sv0) rfl _ rfl rfl (putS_blk hR1)) rfl ⟨⟨sv0, rfl, (SrvFrom.nil 0 _).srv, rfl⟩, hbw.trans ((putS_below _ _ _).mono (by omega))⟩

set_option maxRecDepth 100000 in
set_option maxHeartbeats 3200000 in
theorem take_hasP (s : SV) (rev : Int) (x : EV) (w : World) (hV : Srv w s) (hO : Ops w x.ao x.n x.cap x.vs) (hS : Sch w) (h1 : Sv.srvE s.se = 0) (h2 : Sv.entE x.en = 0) (hh : Sv.has s.se x.who x.seq = true) :
    Calls Tryz.prog 18 #[.agg #[.slice s.fa s.fn s.fc, .slice s.la s.ln s.lc, .slice s.na s.nn s.nc], .int .i64 rev, .agg #[.int .i64 x.who, .int .i64 x.seq, .slice x.ao x.n x.cap]] w fun e w' => (∃ t, e = .returned (.tuple #[svA t, .int .i64 0]) ∧ Srv w' t ∧ t.se = s.se) ∧ Below w.heap.size w w' := by
  have H1 : Hid (Below w.heap.size w (boxs sv0 (boxe x (boxs s w)))) := (boxs_below s w).trans (((boxe_below x _).trans ((boxs_below sv0 _).mono (boxe_below x _).size)).mono (boxs_below s w).size)
  have HS0 : Hid (Blk (boxs sv0 (boxe x (boxs s w))) (w.heap.size) (svC s) 42) := ((boxs_blk s w).alloc _).alloc _
  have HX0 : Hid (Blk (boxs sv0 (boxe x (boxs s w))) (w.heap.size + 1) (evC x) 46) := by have := (boxe_blk x (boxs s w)).alloc (.cells #[.slice none 0 0, .slice none 0 0, .slice none 0 0] 42); rw [boxs_size] at this; exact this
  have HR0 : Hid (Blk (boxs sv0 (boxe x (boxs s w))) (w.heap.size + 2) (svC sv0) 42) := by have := boxs_blk sv0 (boxe x (boxs s w)); rw [boxe_size, boxs_size] at this; exact this
  have CT : Hid (Calls Tryz.prog 76 #[.agg #[.slice s.fa s.fn s.fc, .slice s.la s.ln s.lc, .slice s.na s.nn s.nc], .agg #[.int .i64 x.who, .int .i64 x.seq, .slice x.ao x.n x.cap]] (boxs sv0 (boxe x (boxs s w))) fun e w' => e = .returned (.int .i64 0) ∧ Below (boxs sv0 (boxe x (boxs s w))).heap.size (boxs sv0 (boxe x (boxs s w))) w') := by have := checkTake_any s x (boxs sv0 (boxe x (boxs s w))) (hV.below H1.out) (hO.below H1.out) (hS.below H1.out); rw [h1, if_pos rfl, h2] at this; exact this
  obtain ⟨f1, f2, f3, f4⟩ := srv_few hV h1
  have CP : Hid (∀ w', Below (boxs sv0 (boxe x (boxs s w))).heap.size (boxs sv0 (boxe x (boxs s w))) w' → Calls Tryz.prog 75 #[.agg #[.slice s.fa s.fn s.fc, .slice s.la s.ln s.lc, .slice s.na s.nn s.nc]] w' fun e w'' => (∃ t, e = .returned (.agg #[.slice t.fa t.fn t.fc, .slice t.la t.ln t.lc, .slice t.na t.nn t.nc]) ∧ Cpy w'.heap.size w'' t ∧ t.se = s.se ∧ t.fn = s.fn ∧ t.ln = s.ln ∧ t.nn = s.nn) ∧ Below w'.heap.size w' w'') := fun w' hb => copyOf_any s w' ((hV.below H1.out).below hb) f1 f2 f3 f4
  have HSC : Hid (∀ w', Below w.heap.size w w' → Sch w') := fun w' hb => hS.below hb
  have HXO : Hid (∀ w', Below w.heap.size w w' → Ops w' x.ao x.n x.cap x.vs) := fun w' hb => hO.below hb
  have HXF : Hid (0 < x.n ∧ x.n ≤ 40 ∧ ∀ u ∈ x.vs, u.m ≤ 80) := ops_few hO (ent_chk h2)
  have HSL60 : Hid (s.ln ≤ 60) := f3
  have HSL : Hid (s.se.log.length = s.ln) := by show (s.log.map EV.en).length = s.ln; rw [List.length_map]; exact hV.log.len
  clear hV hO hS f1 f2 f3 f4 h1 h2
  go_enter Tryz.func18, Tryz.ntmps18
  go_upto_region 1 with fail
  change Code.wp Tryz.prog _ _ _ (boxs sv0 (boxe x (boxs s w)))
  generalize (boxs sv0 (boxe x (boxs s w))) = W0 at *
  have p0 : W0.cell? ⟨w.heap.size, 0, none⟩ = some (.slice s.fa s.fn s.fc) := HS0.out.cell 0
  have p1 : W0.cell? ⟨w.heap.size, 1, none⟩ = some (.slice s.la s.ln s.lc) := HS0.out.cell 1
  have p2 : W0.cell? ⟨w.heap.size, 2, none⟩ = some (.slice s.na s.nn s.nc) := HS0.out.cell 2
  have a0 : W0.cell? ⟨w.heap.size + 1, 0, none⟩ = some (.int .i64 x.who) := HX0.out.cell 0
  have a1 : W0.cell? ⟨w.heap.size + 1, 1, none⟩ = some (.int .i64 x.seq) := HX0.out.cell 1
  have a2 : W0.cell? ⟨w.heap.size + 1, 2, none⟩ = some (.slice x.ao x.n x.cap) := HX0.out.cell 2
  go_wp2_with fail
  refine CT.out.mono ?_
  rintro e w1 ⟨rfl, hb⟩
  have H2 : Hid (Below W0.heap.size W0 w1) := hb
  clear hb p0 p1 p2 a0 a1 a2
  have hS1 : Blk w1 (w.heap.size) (svC s) 42 := (H2.out.block _ HS0.out.lt).trans HS0.out
  have p0 : w1.cell? ⟨w.heap.size, 0, none⟩ = some (.slice s.fa s.fn s.fc) := hS1.cell 0
  have p1 : w1.cell? ⟨w.heap.size, 1, none⟩ = some (.slice s.la s.ln s.lc) := hS1.cell 1
  have p2 : w1.cell? ⟨w.heap.size, 2, none⟩ = some (.slice s.na s.nn s.nc) := hS1.cell 2
  go_wp2_with fail
  refine (CP.out _ H2.out).mono ?_
  rintro e w2 ⟨⟨t, rfl, hc, hse, hfn, hln, hnn⟩, hb⟩
  have HT3 : Hid (Tak w x w1.heap.size t (putS w2 w.heap.size t)) := Tak.start HS0.out HX0.out HR0.out H1.out H2.out hb hc
  have hS2 : Blk w2 (w.heap.size) (svC s) 42 := (hb.block _ hS1.lt).trans hS1
  have HSE : Hid (t.se = s.se) := hse
  have HLN : Hid (t.ln = s.ln) := hln
  clear p0 p1 p2 hc hse hln hfn hnn
  have p0 : w2.cell? ⟨w.heap.size, 0, none⟩ = some (.slice s.fa s.fn s.fc) := hS2.cell 0
  have p1 : w2.cell? ⟨w.heap.size, 1, none⟩ = some (.slice s.la s.ln s.lc) := hS2.cell 1
  have p2 : w2.cell? ⟨w.heap.size, 2, none⟩ = some (.slice s.na s.nn s.nc) := hS2.cell 2
  have f0 := hS2.frozen 0
  have f1 := hS2.frozen 1
  have f2 := hS2.frozen 2
  go_upto_region 5 with fail
  change Code.wp Tryz.prog _ _ _ (putS w2 w.heap.size t)
  generalize putS w2 w.heap.size t = W3 at *
  clear p0 p1 p2 f0 f1 f2 hS1 hS2 hb
  generalize w1.heap.size = B at *
  have p0 : W3.cell? ⟨w.heap.size, 0, none⟩ = some (.slice t.fa t.fn t.fc) := HT3.out.hS.cell 0
  have p1 : W3.cell? ⟨w.heap.size, 1, none⟩ = some (.slice t.la t.ln t.lc) := HT3.out.hS.cell 1
  have p2 : W3.cell? ⟨w.heap.size, 2, none⟩ = some (.slice t.na t.nn t.nc) := HT3.out.hS.cell 2
  have a0 : W3.cell? ⟨w.heap.size + 1, 0, none⟩ = some (.int .i64 x.who) := HT3.out.hX.cell 0
  have a1 : W3.cell? ⟨w.heap.size + 1, 1, none⟩ = some (.int .i64 x.seq) := HT3.out.hX.cell 1
  have a2 : W3.cell? ⟨w.heap.size + 1, 2, none⟩ = some (.slice x.ao x.n x.cap) := HT3.out.hX.cell 2
  have CH : Calls Tryz.prog 29 #[.agg #[.slice t.fa t.fn t.fc, .slice t.la t.ln t.lc, .slice t.na t.nn t.nc], .int .i64 x.who, .int .i64 x.seq] W3 fun e w' => e = .returned (.bool true) ∧ Below W3.heap.size W3 w' := by have := has_any t x.who x.seq W3 HT3.out.cpy.srv; rw [HSE.out, hh] at this; exact this
  clear hh
  go_wp2_with fail
  refine CH.mono ?_
  rintro e w4 ⟨rfl, hb⟩
  have HT4 : Hid (Tak w x B t w4) := HT3.out.under hb
  clear hb CH p0 p1 p2 a0 a1 a2 HT3
  have hsz := HT4.out.lo
  have hrm := HT4.out.cpy.srv.log.row.room
  have hbg := HT4.out.cpy.srv.log.row.big
  have p0 : w4.cell? ⟨w.heap.size, 0, none⟩ = some (.slice t.fa t.fn t.fc) := HT4.out.hS.cell 0
  have p1 : w4.cell? ⟨w.heap.size, 1, none⟩ = some (.slice t.la t.ln t.lc) := HT4.out.hS.cell 1
  have p2 : w4.cell? ⟨w.heap.size, 2, none⟩ = some (.slice t.na t.nn t.nc) := HT4.out.hS.cell 2
  have a0 : w4.cell? ⟨w.heap.size + 1, 0, none⟩ = some (.int .i64 x.who) := HT4.out.hX.cell 0
  have a1 : w4.cell? ⟨w.heap.size + 1, 1, none⟩ = some (.int .i64 x.seq) := HT4.out.hX.cell 1
  have a2 : w4.cell? ⟨w.heap.size + 1, 2, none⟩ = some (.slice x.ao x.n x.cap) := HT4.out.hX.cell 2
  have r0 : w4.cell? ⟨w.heap.size + 2, 0, none⟩ = some (.slice none 0 0) := HT4.out.hR.cell 0
  have r1 : w4.cell? ⟨w.heap.size + 2, 1, none⟩ = some (.slice none 0 0) := HT4.out.hR.cell 1
  have r2 : w4.cell? ⟨w.heap.size + 2, 2, none⟩ = some (.slice none 0 0) := HT4.out.hR.cell 2
  have g0 := HT4.out.hR.frozen 0
  have g1 := HT4.out.hR.frozen 1
  have g2 := HT4.out.hR.frozen 2
  go_wp2
  change bodyPost Tryz.prog _ _ Exit.ret _ (putS w4 (w.heap.size + 2) t)
  exact bodyPost_ret (ret_srv2 (t := t) rfl _ rfl rfl (putS_blk HT4.out.hR)) rfl ⟨⟨t, rfl, (HT4.out.cpy.kept (putS_kept _ _ _) (fun k hk => by simp at hk; omega)).srv, HSE.out⟩, HT4.out.blw.trans ((putS_below _ _ _).mono (by omega))⟩

set_option maxRecDepth 100000 in
set_option maxHeartbeats 3200000 in
theorem take_neg (s : SV) (rev : Int) (x : EV) (w : World) (hV : Srv w s) (hO : Ops w x.ao x.n x.cap x.vs) (hS : Sch w) (h1 : Sv.srvE s.se = 0) (h2 : Sv.entE x.en = 0) (hh : Sv.has s.se x.who x.seq = false) (hr : rev < 0) :
    Calls Tryz.prog 18 #[.agg #[.slice s.fa s.fn s.fc, .slice s.la s.ln s.lc, .slice s.na s.nn s.nc], .int .i64 rev, .agg #[.int .i64 x.who, .int .i64 x.seq, .slice x.ao x.n x.cap]] w fun e w' => (∃ t, e = .returned (.tuple #[svA t, .int .i64 6]) ∧ Srv w' t ∧ t.se = ⟨[], [], []⟩) ∧ Below w.heap.size w w' := by
  have H1 : Hid (Below w.heap.size w (boxs sv0 (boxe x (boxs s w)))) := (boxs_below s w).trans (((boxe_below x _).trans ((boxs_below sv0 _).mono (boxe_below x _).size)).mono (boxs_below s w).size)
  have HS0 : Hid (Blk (boxs sv0 (boxe x (boxs s w))) (w.heap.size) (svC s) 42) := ((boxs_blk s w).alloc _).alloc _
  have HX0 : Hid (Blk (boxs sv0 (boxe x (boxs s w))) (w.heap.size + 1) (evC x) 46) := by have := (boxe_blk x (boxs s w)).alloc (.cells #[.slice none 0 0, .slice none 0 0, .slice none 0 0] 42); rw [boxs_size] at this; exact this
  have HR0 : Hid (Blk (boxs sv0 (boxe x (boxs s w))) (w.heap.size + 2) (svC sv0) 42) := by have := boxs_blk sv0 (boxe x (boxs s w)); rw [boxe_size, boxs_size] at this; exact this
  have CT : Hid (Calls Tryz.prog 76 #[.agg #[.slice s.fa s.fn s.fc, .slice s.la s.ln s.lc, .slice s.na s.nn s.nc], .agg #[.int .i64 x.who, .int .i64 x.seq, .slice x.ao x.n x.cap]] (boxs sv0 (boxe x (boxs s w))) fun e w' => e = .returned (.int .i64 0) ∧ Below (boxs sv0 (boxe x (boxs s w))).heap.size (boxs sv0 (boxe x (boxs s w))) w') := by have := checkTake_any s x (boxs sv0 (boxe x (boxs s w))) (hV.below H1.out) (hO.below H1.out) (hS.below H1.out); rw [h1, if_pos rfl, h2] at this; exact this
  obtain ⟨f1, f2, f3, f4⟩ := srv_few hV h1
  have CP : Hid (∀ w', Below (boxs sv0 (boxe x (boxs s w))).heap.size (boxs sv0 (boxe x (boxs s w))) w' → Calls Tryz.prog 75 #[.agg #[.slice s.fa s.fn s.fc, .slice s.la s.ln s.lc, .slice s.na s.nn s.nc]] w' fun e w'' => (∃ t, e = .returned (.agg #[.slice t.fa t.fn t.fc, .slice t.la t.ln t.lc, .slice t.na t.nn t.nc]) ∧ Cpy w'.heap.size w'' t ∧ t.se = s.se ∧ t.fn = s.fn ∧ t.ln = s.ln ∧ t.nn = s.nn) ∧ Below w'.heap.size w' w'') := fun w' hb => copyOf_any s w' ((hV.below H1.out).below hb) f1 f2 f3 f4
  have HSC : Hid (∀ w', Below w.heap.size w w' → Sch w') := fun w' hb => hS.below hb
  have HXO : Hid (∀ w', Below w.heap.size w w' → Ops w' x.ao x.n x.cap x.vs) := fun w' hb => hO.below hb
  have HXF : Hid (0 < x.n ∧ x.n ≤ 40 ∧ ∀ u ∈ x.vs, u.m ≤ 80) := ops_few hO (ent_chk h2)
  have HSL60 : Hid (s.ln ≤ 60) := f3
  have HSL : Hid (s.se.log.length = s.ln) := by show (s.log.map EV.en).length = s.ln; rw [List.length_map]; exact hV.log.len
  clear hV hO hS f1 f2 f3 f4 h1 h2
  go_enter Tryz.func18, Tryz.ntmps18
  go_upto_region 1 with fail
  change Code.wp Tryz.prog _ _ _ (boxs sv0 (boxe x (boxs s w)))
  generalize (boxs sv0 (boxe x (boxs s w))) = W0 at *
  have p0 : W0.cell? ⟨w.heap.size, 0, none⟩ = some (.slice s.fa s.fn s.fc) := HS0.out.cell 0
  have p1 : W0.cell? ⟨w.heap.size, 1, none⟩ = some (.slice s.la s.ln s.lc) := HS0.out.cell 1
  have p2 : W0.cell? ⟨w.heap.size, 2, none⟩ = some (.slice s.na s.nn s.nc) := HS0.out.cell 2
  have a0 : W0.cell? ⟨w.heap.size + 1, 0, none⟩ = some (.int .i64 x.who) := HX0.out.cell 0
  have a1 : W0.cell? ⟨w.heap.size + 1, 1, none⟩ = some (.int .i64 x.seq) := HX0.out.cell 1
  have a2 : W0.cell? ⟨w.heap.size + 1, 2, none⟩ = some (.slice x.ao x.n x.cap) := HX0.out.cell 2
  go_wp2_with fail
  refine CT.out.mono ?_
  rintro e w1 ⟨rfl, hb⟩
  have H2 : Hid (Below W0.heap.size W0 w1) := hb
  clear hb p0 p1 p2 a0 a1 a2
  have hS1 : Blk w1 (w.heap.size) (svC s) 42 := (H2.out.block _ HS0.out.lt).trans HS0.out
  have p0 : w1.cell? ⟨w.heap.size, 0, none⟩ = some (.slice s.fa s.fn s.fc) := hS1.cell 0
  have p1 : w1.cell? ⟨w.heap.size, 1, none⟩ = some (.slice s.la s.ln s.lc) := hS1.cell 1
  have p2 : w1.cell? ⟨w.heap.size, 2, none⟩ = some (.slice s.na s.nn s.nc) := hS1.cell 2
  go_wp2_with fail
  refine (CP.out _ H2.out).mono ?_
  rintro e w2 ⟨⟨t, rfl, hc, hse, hfn, hln, hnn⟩, hb⟩
  have HT3 : Hid (Tak w x w1.heap.size t (putS w2 w.heap.size t)) := Tak.start HS0.out HX0.out HR0.out H1.out H2.out hb hc
  have hS2 : Blk w2 (w.heap.size) (svC s) 42 := (hb.block _ hS1.lt).trans hS1
  have HSE : Hid (t.se = s.se) := hse
  have HLN : Hid (t.ln = s.ln) := hln
  clear p0 p1 p2 hc hse hln hfn hnn
  have p0 : w2.cell? ⟨w.heap.size, 0, none⟩ = some (.slice s.fa s.fn s.fc) := hS2.cell 0
  have p1 : w2.cell? ⟨w.heap.size, 1, none⟩ = some (.slice s.la s.ln s.lc) := hS2.cell 1
  have p2 : w2.cell? ⟨w.heap.size, 2, none⟩ = some (.slice s.na s.nn s.nc) := hS2.cell 2
  have f0 := hS2.frozen 0
  have f1 := hS2.frozen 1
  have f2 := hS2.frozen 2
  go_upto_region 5 with fail
  change Code.wp Tryz.prog _ _ _ (putS w2 w.heap.size t)
  generalize putS w2 w.heap.size t = W3 at *
  clear p0 p1 p2 f0 f1 f2 hS1 hS2 hb
  generalize w1.heap.size = B at *
  have p0 : W3.cell? ⟨w.heap.size, 0, none⟩ = some (.slice t.fa t.fn t.fc) := HT3.out.hS.cell 0
  have p1 : W3.cell? ⟨w.heap.size, 1, none⟩ = some (.slice t.la t.ln t.lc) := HT3.out.hS.cell 1
  have p2 : W3.cell? ⟨w.heap.size, 2, none⟩ = some (.slice t.na t.nn t.nc) := HT3.out.hS.cell 2
  have a0 : W3.cell? ⟨w.heap.size + 1, 0, none⟩ = some (.int .i64 x.who) := HT3.out.hX.cell 0
  have a1 : W3.cell? ⟨w.heap.size + 1, 1, none⟩ = some (.int .i64 x.seq) := HT3.out.hX.cell 1
  have a2 : W3.cell? ⟨w.heap.size + 1, 2, none⟩ = some (.slice x.ao x.n x.cap) := HT3.out.hX.cell 2
  have CH : Calls Tryz.prog 29 #[.agg #[.slice t.fa t.fn t.fc, .slice t.la t.ln t.lc, .slice t.na t.nn t.nc], .int .i64 x.who, .int .i64 x.seq] W3 fun e w' => e = .returned (.bool false) ∧ Below W3.heap.size W3 w' := by have := has_any t x.who x.seq W3 HT3.out.cpy.srv; rw [HSE.out, hh] at this; exact this
  clear hh
  go_wp2_with fail
  refine CH.mono ?_
  rintro e w4 ⟨rfl, hb⟩
  have HT4 : Hid (Tak w x B t w4) := HT3.out.under hb
  clear hb CH p0 p1 p2 a0 a1 a2 HT3
  have hsz := HT4.out.lo
  have hrm := HT4.out.cpy.srv.log.row.room
  have hbg := HT4.out.cpy.srv.log.row.big
  have p0 : w4.cell? ⟨w.heap.size, 0, none⟩ = some (.slice t.fa t.fn t.fc) := HT4.out.hS.cell 0
  have p1 : w4.cell? ⟨w.heap.size, 1, none⟩ = some (.slice t.la t.ln t.lc) := HT4.out.hS.cell 1
  have p2 : w4.cell? ⟨w.heap.size, 2, none⟩ = some (.slice t.na t.nn t.nc) := HT4.out.hS.cell 2
  have a0 : w4.cell? ⟨w.heap.size + 1, 0, none⟩ = some (.int .i64 x.who) := HT4.out.hX.cell 0
  have a1 : w4.cell? ⟨w.heap.size + 1, 1, none⟩ = some (.int .i64 x.seq) := HT4.out.hX.cell 1
  have a2 : w4.cell? ⟨w.heap.size + 1, 2, none⟩ = some (.slice x.ao x.n x.cap) := HT4.out.hX.cell 2
  have r0 : w4.cell? ⟨w.heap.size + 2, 0, none⟩ = some (.slice none 0 0) := HT4.out.hR.cell 0
  have r1 : w4.cell? ⟨w.heap.size + 2, 1, none⟩ = some (.slice none 0 0) := HT4.out.hR.cell 1
  have r2 : w4.cell? ⟨w.heap.size + 2, 2, none⟩ = some (.slice none 0 0) := HT4.out.hR.cell 2
  have g0 := HT4.out.hR.frozen 0
  have g1 := HT4.out.hR.frozen 1
  have g2 := HT4.out.hR.frozen 2
  go_wp2
  change bodyPost Tryz.prog _ _ Exit.ret _ (putS w4 (w.heap.size + 2) sv0)
  exact bodyPost_ret (ret_srv2 (t := sv0) rfl _ rfl rfl (putS_blk HT4.out.hR)) rfl ⟨⟨sv0, rfl, (SrvFrom.nil 0 _).srv, rfl⟩, HT4.out.blw.trans ((putS_below _ _ _).mono (by omega))⟩

set_option maxRecDepth 100000 in
set_option maxHeartbeats 3200000 in
theorem take_over (s : SV) (rev : Int) (x : EV) (w : World) (hV : Srv w s) (hO : Ops w x.ao x.n x.cap x.vs) (hS : Sch w) (h1 : Sv.srvE s.se = 0) (h2 : Sv.entE x.en = 0) (hh : Sv.has s.se x.who x.seq = false) (hr : ¬ rev < 0) (hr2 : (s.ln : Int) < rev) :
    Calls Tryz.prog 18 #[.agg #[.slice s.fa s.fn s.fc, .slice s.la s.ln s.lc, .slice s.na s.nn s.nc], .int .i64 rev, .agg #[.int .i64 x.who, .int .i64 x.seq, .slice x.ao x.n x.cap]] w fun e w' => (∃ t, e = .returned (.tuple #[svA t, .int .i64 6]) ∧ Srv w' t ∧ t.se = ⟨[], [], []⟩) ∧ Below w.heap.size w w' := by
  have H1 : Hid (Below w.heap.size w (boxs sv0 (boxe x (boxs s w)))) := (boxs_below s w).trans (((boxe_below x _).trans ((boxs_below sv0 _).mono (boxe_below x _).size)).mono (boxs_below s w).size)
  have HS0 : Hid (Blk (boxs sv0 (boxe x (boxs s w))) (w.heap.size) (svC s) 42) := ((boxs_blk s w).alloc _).alloc _
  have HX0 : Hid (Blk (boxs sv0 (boxe x (boxs s w))) (w.heap.size + 1) (evC x) 46) := by have := (boxe_blk x (boxs s w)).alloc (.cells #[.slice none 0 0, .slice none 0 0, .slice none 0 0] 42); rw [boxs_size] at this; exact this
  have HR0 : Hid (Blk (boxs sv0 (boxe x (boxs s w))) (w.heap.size + 2) (svC sv0) 42) := by have := boxs_blk sv0 (boxe x (boxs s w)); rw [boxe_size, boxs_size] at this; exact this
  have CT : Hid (Calls Tryz.prog 76 #[.agg #[.slice s.fa s.fn s.fc, .slice s.la s.ln s.lc, .slice s.na s.nn s.nc], .agg #[.int .i64 x.who, .int .i64 x.seq, .slice x.ao x.n x.cap]] (boxs sv0 (boxe x (boxs s w))) fun e w' => e = .returned (.int .i64 0) ∧ Below (boxs sv0 (boxe x (boxs s w))).heap.size (boxs sv0 (boxe x (boxs s w))) w') := by have := checkTake_any s x (boxs sv0 (boxe x (boxs s w))) (hV.below H1.out) (hO.below H1.out) (hS.below H1.out); rw [h1, if_pos rfl, h2] at this; exact this
  obtain ⟨f1, f2, f3, f4⟩ := srv_few hV h1
  have CP : Hid (∀ w', Below (boxs sv0 (boxe x (boxs s w))).heap.size (boxs sv0 (boxe x (boxs s w))) w' → Calls Tryz.prog 75 #[.agg #[.slice s.fa s.fn s.fc, .slice s.la s.ln s.lc, .slice s.na s.nn s.nc]] w' fun e w'' => (∃ t, e = .returned (.agg #[.slice t.fa t.fn t.fc, .slice t.la t.ln t.lc, .slice t.na t.nn t.nc]) ∧ Cpy w'.heap.size w'' t ∧ t.se = s.se ∧ t.fn = s.fn ∧ t.ln = s.ln ∧ t.nn = s.nn) ∧ Below w'.heap.size w' w'') := fun w' hb => copyOf_any s w' ((hV.below H1.out).below hb) f1 f2 f3 f4
  have HSC : Hid (∀ w', Below w.heap.size w w' → Sch w') := fun w' hb => hS.below hb
  have HXO : Hid (∀ w', Below w.heap.size w w' → Ops w' x.ao x.n x.cap x.vs) := fun w' hb => hO.below hb
  have HXF : Hid (0 < x.n ∧ x.n ≤ 40 ∧ ∀ u ∈ x.vs, u.m ≤ 80) := ops_few hO (ent_chk h2)
  have HSL60 : Hid (s.ln ≤ 60) := f3
  have HSL : Hid (s.se.log.length = s.ln) := by show (s.log.map EV.en).length = s.ln; rw [List.length_map]; exact hV.log.len
  clear hV hO hS f1 f2 f3 f4 h1 h2
  go_enter Tryz.func18, Tryz.ntmps18
  go_upto_region 1 with fail
  change Code.wp Tryz.prog _ _ _ (boxs sv0 (boxe x (boxs s w)))
  generalize (boxs sv0 (boxe x (boxs s w))) = W0 at *
  have p0 : W0.cell? ⟨w.heap.size, 0, none⟩ = some (.slice s.fa s.fn s.fc) := HS0.out.cell 0
  have p1 : W0.cell? ⟨w.heap.size, 1, none⟩ = some (.slice s.la s.ln s.lc) := HS0.out.cell 1
  have p2 : W0.cell? ⟨w.heap.size, 2, none⟩ = some (.slice s.na s.nn s.nc) := HS0.out.cell 2
  have a0 : W0.cell? ⟨w.heap.size + 1, 0, none⟩ = some (.int .i64 x.who) := HX0.out.cell 0
  have a1 : W0.cell? ⟨w.heap.size + 1, 1, none⟩ = some (.int .i64 x.seq) := HX0.out.cell 1
  have a2 : W0.cell? ⟨w.heap.size + 1, 2, none⟩ = some (.slice x.ao x.n x.cap) := HX0.out.cell 2
  go_wp2_with fail
  refine CT.out.mono ?_
  rintro e w1 ⟨rfl, hb⟩
  have H2 : Hid (Below W0.heap.size W0 w1) := hb
  clear hb p0 p1 p2 a0 a1 a2
  have hS1 : Blk w1 (w.heap.size) (svC s) 42 := (H2.out.block _ HS0.out.lt).trans HS0.out
  have p0 : w1.cell? ⟨w.heap.size, 0, none⟩ = some (.slice s.fa s.fn s.fc) := hS1.cell 0
  have p1 : w1.cell? ⟨w.heap.size, 1, none⟩ = some (.slice s.la s.ln s.lc) := hS1.cell 1
  have p2 : w1.cell? ⟨w.heap.size, 2, none⟩ = some (.slice s.na s.nn s.nc) := hS1.cell 2
  go_wp2_with fail
  refine (CP.out _ H2.out).mono ?_
  rintro e w2 ⟨⟨t, rfl, hc, hse, hfn, hln, hnn⟩, hb⟩
  have HT3 : Hid (Tak w x w1.heap.size t (putS w2 w.heap.size t)) := Tak.start HS0.out HX0.out HR0.out H1.out H2.out hb hc
  have hS2 : Blk w2 (w.heap.size) (svC s) 42 := (hb.block _ hS1.lt).trans hS1
  have HSE : Hid (t.se = s.se) := hse
  have HLN : Hid (t.ln = s.ln) := hln
  clear p0 p1 p2 hc hse hln hfn hnn
  have p0 : w2.cell? ⟨w.heap.size, 0, none⟩ = some (.slice s.fa s.fn s.fc) := hS2.cell 0
  have p1 : w2.cell? ⟨w.heap.size, 1, none⟩ = some (.slice s.la s.ln s.lc) := hS2.cell 1
  have p2 : w2.cell? ⟨w.heap.size, 2, none⟩ = some (.slice s.na s.nn s.nc) := hS2.cell 2
  have f0 := hS2.frozen 0
  have f1 := hS2.frozen 1
  have f2 := hS2.frozen 2
  go_upto_region 5 with fail
  change Code.wp Tryz.prog _ _ _ (putS w2 w.heap.size t)
  generalize putS w2 w.heap.size t = W3 at *
  clear p0 p1 p2 f0 f1 f2 hS1 hS2 hb
  generalize w1.heap.size = B at *
  have p0 : W3.cell? ⟨w.heap.size, 0, none⟩ = some (.slice t.fa t.fn t.fc) := HT3.out.hS.cell 0
  have p1 : W3.cell? ⟨w.heap.size, 1, none⟩ = some (.slice t.la t.ln t.lc) := HT3.out.hS.cell 1
  have p2 : W3.cell? ⟨w.heap.size, 2, none⟩ = some (.slice t.na t.nn t.nc) := HT3.out.hS.cell 2
  have a0 : W3.cell? ⟨w.heap.size + 1, 0, none⟩ = some (.int .i64 x.who) := HT3.out.hX.cell 0
  have a1 : W3.cell? ⟨w.heap.size + 1, 1, none⟩ = some (.int .i64 x.seq) := HT3.out.hX.cell 1
  have a2 : W3.cell? ⟨w.heap.size + 1, 2, none⟩ = some (.slice x.ao x.n x.cap) := HT3.out.hX.cell 2
  have CH : Calls Tryz.prog 29 #[.agg #[.slice t.fa t.fn t.fc, .slice t.la t.ln t.lc, .slice t.na t.nn t.nc], .int .i64 x.who, .int .i64 x.seq] W3 fun e w' => e = .returned (.bool false) ∧ Below W3.heap.size W3 w' := by have := has_any t x.who x.seq W3 HT3.out.cpy.srv; rw [HSE.out, hh] at this; exact this
  clear hh
  go_wp2_with fail
  refine CH.mono ?_
  rintro e w4 ⟨rfl, hb⟩
  have HT4 : Hid (Tak w x B t w4) := HT3.out.under hb
  clear hb CH p0 p1 p2 a0 a1 a2 HT3
  have hsz := HT4.out.lo
  have hrm := HT4.out.cpy.srv.log.row.room
  have hbg := HT4.out.cpy.srv.log.row.big
  rw [← HLN.out] at hr2
  have p0 : w4.cell? ⟨w.heap.size, 0, none⟩ = some (.slice t.fa t.fn t.fc) := HT4.out.hS.cell 0
  have p1 : w4.cell? ⟨w.heap.size, 1, none⟩ = some (.slice t.la t.ln t.lc) := HT4.out.hS.cell 1
  have p2 : w4.cell? ⟨w.heap.size, 2, none⟩ = some (.slice t.na t.nn t.nc) := HT4.out.hS.cell 2
  have a0 : w4.cell? ⟨w.heap.size + 1, 0, none⟩ = some (.int .i64 x.who) := HT4.out.hX.cell 0
  have a1 : w4.cell? ⟨w.heap.size + 1, 1, none⟩ = some (.int .i64 x.seq) := HT4.out.hX.cell 1
  have a2 : w4.cell? ⟨w.heap.size + 1, 2, none⟩ = some (.slice x.ao x.n x.cap) := HT4.out.hX.cell 2
  have r0 : w4.cell? ⟨w.heap.size + 2, 0, none⟩ = some (.slice none 0 0) := HT4.out.hR.cell 0
  have r1 : w4.cell? ⟨w.heap.size + 2, 1, none⟩ = some (.slice none 0 0) := HT4.out.hR.cell 1
  have r2 : w4.cell? ⟨w.heap.size + 2, 2, none⟩ = some (.slice none 0 0) := HT4.out.hR.cell 2
  have g0 := HT4.out.hR.frozen 0
  have g1 := HT4.out.hR.frozen 1
  have g2 := HT4.out.hR.frozen 2
  go_wp2
  change bodyPost Tryz.prog _ _ Exit.ret _ (putS w4 (w.heap.size + 2) sv0)
  exact bodyPost_ret (ret_srv2 (t := sv0) rfl _ rfl rfl (putS_blk HT4.out.hR)) rfl ⟨⟨sv0, rfl, (SrvFrom.nil 0 _).srv, rfl⟩, HT4.out.blw.trans ((putS_below _ _ _).mono (by omega))⟩

set_option maxRecDepth 100000 in
set_option maxHeartbeats 3200000 in
theorem take_many (s : SV) (rev : Int) (x : EV) (w : World) (hV : Srv w s) (hO : Ops w x.ao x.n x.cap x.vs) (hS : Sch w) (h1 : Sv.srvE s.se = 0) (h2 : Sv.entE x.en = 0) (hh : Sv.has s.se x.who x.seq = false) (hr : ¬ rev < 0) (hr2 : ¬ (s.ln : Int) < rev) (h60 : s.ln = 60) :
    Calls Tryz.prog 18 #[.agg #[.slice s.fa s.fn s.fc, .slice s.la s.ln s.lc, .slice s.na s.nn s.nc], .int .i64 rev, .agg #[.int .i64 x.who, .int .i64 x.seq, .slice x.ao x.n x.cap]] w fun e w' => (∃ t, e = .returned (.tuple #[svA t, .int .i64 2]) ∧ Srv w' t ∧ t.se = ⟨[], [], []⟩) ∧ Below w.heap.size w w' := by
  have H60 : Hid (s.ln = 60) := h60
  clear h60
  have H1 : Hid (Below w.heap.size w (boxs sv0 (boxe x (boxs s w)))) := (boxs_below s w).trans (((boxe_below x _).trans ((boxs_below sv0 _).mono (boxe_below x _).size)).mono (boxs_below s w).size)
  have HS0 : Hid (Blk (boxs sv0 (boxe x (boxs s w))) (w.heap.size) (svC s) 42) := ((boxs_blk s w).alloc _).alloc _
  have HX0 : Hid (Blk (boxs sv0 (boxe x (boxs s w))) (w.heap.size + 1) (evC x) 46) := by have := (boxe_blk x (boxs s w)).alloc (.cells #[.slice none 0 0, .slice none 0 0, .slice none 0 0] 42); rw [boxs_size] at this; exact this
  have HR0 : Hid (Blk (boxs sv0 (boxe x (boxs s w))) (w.heap.size + 2) (svC sv0) 42) := by have := boxs_blk sv0 (boxe x (boxs s w)); rw [boxe_size, boxs_size] at this; exact this
  have CT : Hid (Calls Tryz.prog 76 #[.agg #[.slice s.fa s.fn s.fc, .slice s.la s.ln s.lc, .slice s.na s.nn s.nc], .agg #[.int .i64 x.who, .int .i64 x.seq, .slice x.ao x.n x.cap]] (boxs sv0 (boxe x (boxs s w))) fun e w' => e = .returned (.int .i64 0) ∧ Below (boxs sv0 (boxe x (boxs s w))).heap.size (boxs sv0 (boxe x (boxs s w))) w') := by have := checkTake_any s x (boxs sv0 (boxe x (boxs s w))) (hV.below H1.out) (hO.below H1.out) (hS.below H1.out); rw [h1, if_pos rfl, h2] at this; exact this
  obtain ⟨f1, f2, f3, f4⟩ := srv_few hV h1
  have CP : Hid (∀ w', Below (boxs sv0 (boxe x (boxs s w))).heap.size (boxs sv0 (boxe x (boxs s w))) w' → Calls Tryz.prog 75 #[.agg #[.slice s.fa s.fn s.fc, .slice s.la s.ln s.lc, .slice s.na s.nn s.nc]] w' fun e w'' => (∃ t, e = .returned (.agg #[.slice t.fa t.fn t.fc, .slice t.la t.ln t.lc, .slice t.na t.nn t.nc]) ∧ Cpy w'.heap.size w'' t ∧ t.se = s.se ∧ t.fn = s.fn ∧ t.ln = s.ln ∧ t.nn = s.nn) ∧ Below w'.heap.size w' w'') := fun w' hb => copyOf_any s w' ((hV.below H1.out).below hb) f1 f2 f3 f4
  have HSC : Hid (∀ w', Below w.heap.size w w' → Sch w') := fun w' hb => hS.below hb
  have HXO : Hid (∀ w', Below w.heap.size w w' → Ops w' x.ao x.n x.cap x.vs) := fun w' hb => hO.below hb
  have HXF : Hid (0 < x.n ∧ x.n ≤ 40 ∧ ∀ u ∈ x.vs, u.m ≤ 80) := ops_few hO (ent_chk h2)
  have HSL60 : Hid (s.ln ≤ 60) := f3
  have HSL : Hid (s.se.log.length = s.ln) := by show (s.log.map EV.en).length = s.ln; rw [List.length_map]; exact hV.log.len
  clear hV hO hS f1 f2 f3 f4 h1 h2
  go_enter Tryz.func18, Tryz.ntmps18
  go_upto_region 1 with fail
  change Code.wp Tryz.prog _ _ _ (boxs sv0 (boxe x (boxs s w)))
  generalize (boxs sv0 (boxe x (boxs s w))) = W0 at *
  have p0 : W0.cell? ⟨w.heap.size, 0, none⟩ = some (.slice s.fa s.fn s.fc) := HS0.out.cell 0
  have p1 : W0.cell? ⟨w.heap.size, 1, none⟩ = some (.slice s.la s.ln s.lc) := HS0.out.cell 1
  have p2 : W0.cell? ⟨w.heap.size, 2, none⟩ = some (.slice s.na s.nn s.nc) := HS0.out.cell 2
  have a0 : W0.cell? ⟨w.heap.size + 1, 0, none⟩ = some (.int .i64 x.who) := HX0.out.cell 0
  have a1 : W0.cell? ⟨w.heap.size + 1, 1, none⟩ = some (.int .i64 x.seq) := HX0.out.cell 1
  have a2 : W0.cell? ⟨w.heap.size + 1, 2, none⟩ = some (.slice x.ao x.n x.cap) := HX0.out.cell 2
  go_wp2_with fail
  refine CT.out.mono ?_
  rintro e w1 ⟨rfl, hb⟩
  have H2 : Hid (Below W0.heap.size W0 w1) := hb
  clear hb p0 p1 p2 a0 a1 a2
  have hS1 : Blk w1 (w.heap.size) (svC s) 42 := (H2.out.block _ HS0.out.lt).trans HS0.out
  have p0 : w1.cell? ⟨w.heap.size, 0, none⟩ = some (.slice s.fa s.fn s.fc) := hS1.cell 0
  have p1 : w1.cell? ⟨w.heap.size, 1, none⟩ = some (.slice s.la s.ln s.lc) := hS1.cell 1
  have p2 : w1.cell? ⟨w.heap.size, 2, none⟩ = some (.slice s.na s.nn s.nc) := hS1.cell 2
  go_wp2_with fail
  refine (CP.out _ H2.out).mono ?_
  rintro e w2 ⟨⟨t, rfl, hc, hse, hfn, hln, hnn⟩, hb⟩
  have HT3 : Hid (Tak w x w1.heap.size t (putS w2 w.heap.size t)) := Tak.start HS0.out HX0.out HR0.out H1.out H2.out hb hc
  have hS2 : Blk w2 (w.heap.size) (svC s) 42 := (hb.block _ hS1.lt).trans hS1
  have HSE : Hid (t.se = s.se) := hse
  have HLN : Hid (t.ln = s.ln) := hln
  clear p0 p1 p2 hc hse hln hfn hnn
  have p0 : w2.cell? ⟨w.heap.size, 0, none⟩ = some (.slice s.fa s.fn s.fc) := hS2.cell 0
  have p1 : w2.cell? ⟨w.heap.size, 1, none⟩ = some (.slice s.la s.ln s.lc) := hS2.cell 1
  have p2 : w2.cell? ⟨w.heap.size, 2, none⟩ = some (.slice s.na s.nn s.nc) := hS2.cell 2
  have f0 := hS2.frozen 0
  have f1 := hS2.frozen 1
  have f2 := hS2.frozen 2
  go_upto_region 5 with fail
  change Code.wp Tryz.prog _ _ _ (putS w2 w.heap.size t)
  generalize putS w2 w.heap.size t = W3 at *
  clear p0 p1 p2 f0 f1 f2 hS1 hS2 hb
  generalize w1.heap.size = B at *
  have p0 : W3.cell? ⟨w.heap.size, 0, none⟩ = some (.slice t.fa t.fn t.fc) := HT3.out.hS.cell 0
  have p1 : W3.cell? ⟨w.heap.size, 1, none⟩ = some (.slice t.la t.ln t.lc) := HT3.out.hS.cell 1
  have p2 : W3.cell? ⟨w.heap.size, 2, none⟩ = some (.slice t.na t.nn t.nc) := HT3.out.hS.cell 2
  have a0 : W3.cell? ⟨w.heap.size + 1, 0, none⟩ = some (.int .i64 x.who) := HT3.out.hX.cell 0
  have a1 : W3.cell? ⟨w.heap.size + 1, 1, none⟩ = some (.int .i64 x.seq) := HT3.out.hX.cell 1
  have a2 : W3.cell? ⟨w.heap.size + 1, 2, none⟩ = some (.slice x.ao x.n x.cap) := HT3.out.hX.cell 2
  have CH : Calls Tryz.prog 29 #[.agg #[.slice t.fa t.fn t.fc, .slice t.la t.ln t.lc, .slice t.na t.nn t.nc], .int .i64 x.who, .int .i64 x.seq] W3 fun e w' => e = .returned (.bool false) ∧ Below W3.heap.size W3 w' := by have := has_any t x.who x.seq W3 HT3.out.cpy.srv; rw [HSE.out, hh] at this; exact this
  clear hh
  go_wp2_with fail
  refine CH.mono ?_
  rintro e w4 ⟨rfl, hb⟩
  have HT4 : Hid (Tak w x B t w4) := HT3.out.under hb
  clear hb CH p0 p1 p2 a0 a1 a2 HT3
  have hsz := HT4.out.lo
  have hrm := HT4.out.cpy.srv.log.row.room
  have hbg := HT4.out.cpy.srv.log.row.big
  rw [← HLN.out] at hr2
  have hb60 : ((t.ln : Int) == 60) = true := by rw [HLN.out, H60.out]; rfl
  have p0 : w4.cell? ⟨w.heap.size, 0, none⟩ = some (.slice t.fa t.fn t.fc) := HT4.out.hS.cell 0
  have p1 : w4.cell? ⟨w.heap.size, 1, none⟩ = some (.slice t.la t.ln t.lc) := HT4.out.hS.cell 1
  have p2 : w4.cell? ⟨w.heap.size, 2, none⟩ = some (.slice t.na t.nn t.nc) := HT4.out.hS.cell 2
  have a0 : w4.cell? ⟨w.heap.size + 1, 0, none⟩ = some (.int .i64 x.who) := HT4.out.hX.cell 0
  have a1 : w4.cell? ⟨w.heap.size + 1, 1, none⟩ = some (.int .i64 x.seq) := HT4.out.hX.cell 1
  have a2 : w4.cell? ⟨w.heap.size + 1, 2, none⟩ = some (.slice x.ao x.n x.cap) := HT4.out.hX.cell 2
  have r0 : w4.cell? ⟨w.heap.size + 2, 0, none⟩ = some (.slice none 0 0) := HT4.out.hR.cell 0
  have r1 : w4.cell? ⟨w.heap.size + 2, 1, none⟩ = some (.slice none 0 0) := HT4.out.hR.cell 1
  have r2 : w4.cell? ⟨w.heap.size + 2, 2, none⟩ = some (.slice none 0 0) := HT4.out.hR.cell 2
  have g0 := HT4.out.hR.frozen 0
  have g1 := HT4.out.hR.frozen 1
  have g2 := HT4.out.hR.frozen 2
  go_wp2
  change bodyPost Tryz.prog _ _ Exit.ret _ (putS w4 (w.heap.size + 2) sv0)
  exact bodyPost_ret (ret_srv2 (t := sv0) rfl _ rfl rfl (putS_blk HT4.out.hR)) rfl ⟨⟨sv0, rfl, (SrvFrom.nil 0 _).srv, rfl⟩, HT4.out.blw.trans ((putS_below _ _ _).mono (by omega))⟩

set_option maxRecDepth 100000 in
set_option maxHeartbeats 3200000 in
theorem take_beh (s : SV) (rev : Int) (x : EV) (w : World) (hV : Srv w s) (hO : Ops w x.ao x.n x.cap x.vs) (hS : Sch w) (h1 : Sv.srvE s.se = 0) (h2 : Sv.entE x.en = 0) (hh : Sv.has s.se x.who x.seq = false) (hr : ¬ rev < 0) (hr2 : ¬ (s.ln : Int) < rev) (h60 : ¬ s.ln = 60) (E : Int) (HB : Sv.behE (s.se.log.drop rev.toNat) x.en.o = E) (hE : ¬ E = 0) :
    Calls Tryz.prog 18 #[.agg #[.slice s.fa s.fn s.fc, .slice s.la s.ln s.lc, .slice s.na s.nn s.nc], .int .i64 rev, .agg #[.int .i64 x.who, .int .i64 x.seq, .slice x.ao x.n x.cap]] w fun e w' => (∃ t, e = .returned (.tuple #[svA t, .int .i64 E]) ∧ Srv w' t ∧ t.se = ⟨[], [], []⟩) ∧ Below w.heap.size w w' := by
  have hne : (E != 0) = true := by simp [hE]
  clear hE
  have H1 : Hid (Below w.heap.size w (boxs sv0 (boxe x (boxs s w)))) := (boxs_below s w).trans (((boxe_below x _).trans ((boxs_below sv0 _).mono (boxe_below x _).size)).mono (boxs_below s w).size)
  have HS0 : Hid (Blk (boxs sv0 (boxe x (boxs s w))) (w.heap.size) (svC s) 42) := ((boxs_blk s w).alloc _).alloc _
  have HX0 : Hid (Blk (boxs sv0 (boxe x (boxs s w))) (w.heap.size + 1) (evC x) 46) := by have := (boxe_blk x (boxs s w)).alloc (.cells #[.slice none 0 0, .slice none 0 0, .slice none 0 0] 42); rw [boxs_size] at this; exact this
  have HR0 : Hid (Blk (boxs sv0 (boxe x (boxs s w))) (w.heap.size + 2) (svC sv0) 42) := by have := boxs_blk sv0 (boxe x (boxs s w)); rw [boxe_size, boxs_size] at this; exact this
  have CT : Hid (Calls Tryz.prog 76 #[.agg #[.slice s.fa s.fn s.fc, .slice s.la s.ln s.lc, .slice s.na s.nn s.nc], .agg #[.int .i64 x.who, .int .i64 x.seq, .slice x.ao x.n x.cap]] (boxs sv0 (boxe x (boxs s w))) fun e w' => e = .returned (.int .i64 0) ∧ Below (boxs sv0 (boxe x (boxs s w))).heap.size (boxs sv0 (boxe x (boxs s w))) w') := by have := checkTake_any s x (boxs sv0 (boxe x (boxs s w))) (hV.below H1.out) (hO.below H1.out) (hS.below H1.out); rw [h1, if_pos rfl, h2] at this; exact this
  obtain ⟨f1, f2, f3, f4⟩ := srv_few hV h1
  have CP : Hid (∀ w', Below (boxs sv0 (boxe x (boxs s w))).heap.size (boxs sv0 (boxe x (boxs s w))) w' → Calls Tryz.prog 75 #[.agg #[.slice s.fa s.fn s.fc, .slice s.la s.ln s.lc, .slice s.na s.nn s.nc]] w' fun e w'' => (∃ t, e = .returned (.agg #[.slice t.fa t.fn t.fc, .slice t.la t.ln t.lc, .slice t.na t.nn t.nc]) ∧ Cpy w'.heap.size w'' t ∧ t.se = s.se ∧ t.fn = s.fn ∧ t.ln = s.ln ∧ t.nn = s.nn) ∧ Below w'.heap.size w' w'') := fun w' hb => copyOf_any s w' ((hV.below H1.out).below hb) f1 f2 f3 f4
  have HSC : Hid (∀ w', Below w.heap.size w w' → Sch w') := fun w' hb => hS.below hb
  have HXO : Hid (∀ w', Below w.heap.size w w' → Ops w' x.ao x.n x.cap x.vs) := fun w' hb => hO.below hb
  have HXF : Hid (0 < x.n ∧ x.n ≤ 40 ∧ ∀ u ∈ x.vs, u.m ≤ 80) := ops_few hO (ent_chk h2)
  have HSL60 : Hid (s.ln ≤ 60) := f3
  have HSL : Hid (s.se.log.length = s.ln) := by show (s.log.map EV.en).length = s.ln; rw [List.length_map]; exact hV.log.len
  clear hV hO hS f1 f2 f3 f4 h1 h2
  go_enter Tryz.func18, Tryz.ntmps18
  go_upto_region 1 with fail
  change Code.wp Tryz.prog _ _ _ (boxs sv0 (boxe x (boxs s w)))
  generalize (boxs sv0 (boxe x (boxs s w))) = W0 at *
  have p0 : W0.cell? ⟨w.heap.size, 0, none⟩ = some (.slice s.fa s.fn s.fc) := HS0.out.cell 0
  have p1 : W0.cell? ⟨w.heap.size, 1, none⟩ = some (.slice s.la s.ln s.lc) := HS0.out.cell 1
  have p2 : W0.cell? ⟨w.heap.size, 2, none⟩ = some (.slice s.na s.nn s.nc) := HS0.out.cell 2
  have a0 : W0.cell? ⟨w.heap.size + 1, 0, none⟩ = some (.int .i64 x.who) := HX0.out.cell 0
  have a1 : W0.cell? ⟨w.heap.size + 1, 1, none⟩ = some (.int .i64 x.seq) := HX0.out.cell 1
  have a2 : W0.cell? ⟨w.heap.size + 1, 2, none⟩ = some (.slice x.ao x.n x.cap) := HX0.out.cell 2
  go_wp2_with fail
  refine CT.out.mono ?_
  rintro e w1 ⟨rfl, hb⟩
  have H2 : Hid (Below W0.heap.size W0 w1) := hb
  clear hb p0 p1 p2 a0 a1 a2
  have hS1 : Blk w1 (w.heap.size) (svC s) 42 := (H2.out.block _ HS0.out.lt).trans HS0.out
  have p0 : w1.cell? ⟨w.heap.size, 0, none⟩ = some (.slice s.fa s.fn s.fc) := hS1.cell 0
  have p1 : w1.cell? ⟨w.heap.size, 1, none⟩ = some (.slice s.la s.ln s.lc) := hS1.cell 1
  have p2 : w1.cell? ⟨w.heap.size, 2, none⟩ = some (.slice s.na s.nn s.nc) := hS1.cell 2
  go_wp2_with fail
  refine (CP.out _ H2.out).mono ?_
  rintro e w2 ⟨⟨t, rfl, hc, hse, hfn, hln, hnn⟩, hb⟩
  have HT3 : Hid (Tak w x w1.heap.size t (putS w2 w.heap.size t)) := Tak.start HS0.out HX0.out HR0.out H1.out H2.out hb hc
  have hS2 : Blk w2 (w.heap.size) (svC s) 42 := (hb.block _ hS1.lt).trans hS1
  have HSE : Hid (t.se = s.se) := hse
  have HLN : Hid (t.ln = s.ln) := hln
  clear p0 p1 p2 hc hse hln hfn hnn
  have p0 : w2.cell? ⟨w.heap.size, 0, none⟩ = some (.slice s.fa s.fn s.fc) := hS2.cell 0
  have p1 : w2.cell? ⟨w.heap.size, 1, none⟩ = some (.slice s.la s.ln s.lc) := hS2.cell 1
  have p2 : w2.cell? ⟨w.heap.size, 2, none⟩ = some (.slice s.na s.nn s.nc) := hS2.cell 2
  have f0 := hS2.frozen 0
  have f1 := hS2.frozen 1
  have f2 := hS2.frozen 2
  go_upto_region 5 with fail
  change Code.wp Tryz.prog _ _ _ (putS w2 w.heap.size t)
  generalize putS w2 w.heap.size t = W3 at *
  clear p0 p1 p2 f0 f1 f2 hS1 hS2 hb
  generalize w1.heap.size = B at *
  have p0 : W3.cell? ⟨w.heap.size, 0, none⟩ = some (.slice t.fa t.fn t.fc) := HT3.out.hS.cell 0
  have p1 : W3.cell? ⟨w.heap.size, 1, none⟩ = some (.slice t.la t.ln t.lc) := HT3.out.hS.cell 1
  have p2 : W3.cell? ⟨w.heap.size, 2, none⟩ = some (.slice t.na t.nn t.nc) := HT3.out.hS.cell 2
  have a0 : W3.cell? ⟨w.heap.size + 1, 0, none⟩ = some (.int .i64 x.who) := HT3.out.hX.cell 0
  have a1 : W3.cell? ⟨w.heap.size + 1, 1, none⟩ = some (.int .i64 x.seq) := HT3.out.hX.cell 1
  have a2 : W3.cell? ⟨w.heap.size + 1, 2, none⟩ = some (.slice x.ao x.n x.cap) := HT3.out.hX.cell 2
  have CH : Calls Tryz.prog 29 #[.agg #[.slice t.fa t.fn t.fc, .slice t.la t.ln t.lc, .slice t.na t.nn t.nc], .int .i64 x.who, .int .i64 x.seq] W3 fun e w' => e = .returned (.bool false) ∧ Below W3.heap.size W3 w' := by have := has_any t x.who x.seq W3 HT3.out.cpy.srv; rw [HSE.out, hh] at this; exact this
  clear hh
  go_wp2_with fail
  refine CH.mono ?_
  rintro e w4 ⟨rfl, hb⟩
  have HT4 : Hid (Tak w x B t w4) := HT3.out.under hb
  clear hb CH p0 p1 p2 a0 a1 a2 HT3
  have hsz := HT4.out.lo
  have hrm := HT4.out.cpy.srv.log.row.room
  have hbg := HT4.out.cpy.srv.log.row.big
  obtain ⟨r, rfl⟩ : ∃ r : Nat, rev = r := ⟨rev.toNat, by omega⟩
  have hrl : r ≤ t.ln := by rw [HLN.out]; omega
  have n1 : ¬ (r : Int) < 0 := by omega
  have n2 : ¬ (t.ln : Int) < (r : Int) := by omega
  have n3 : ((t.ln : Int) == 60) = false := by rw [HLN.out]; simp; omega
  have hsl := slice_ents t.la t.ln t.lc r hrl
  have hdr : (t.log.drop r).map EV.en = s.se.log.drop (r : Int).toNat := by
    rw [← HSE.out]
    show _ = (t.log.map EV.en).drop r
    rw [List.map_drop]
  have CB : Hid (∀ w', Below w4.heap.size w4 w' → Calls Tryz.prog 77 #[.slice (subE t.la r t.lc) (t.ln - r) (t.lc - r), .slice x.ao x.n x.cap] w' fun e w'' => (∃ a n' c us, e = .returned (.tuple #[.slice a n' c, .int .i64 (Sv.behE (s.se.log.drop (r : Int).toNat) x.en.o)]) ∧ OpsFrom w'.heap.size w'' a n' c us ∧ us.map PV.pt = Sv.behO (s.se.log.drop (r : Int).toNat) x.en.o) ∧ Below w'.heap.size w' w'') := fun w' hb => by
    have hT := HT4.out.under hb
    have := behind_any (subE t.la r t.lc) (t.ln - r) (t.lc - r) (t.log.drop r) x.ao x.n x.cap x.vs w' (hT.cpy.srv.log.drop r hrl) (HXO.out _ hT.blw) (HSC.out _ hT.blw) HXF.out.1 HXF.out.2.1 HXF.out.2.2
    rw [hdr] at this
    exact this
  clear hdr
  have HBE : Hid (Sv.behE (s.se.log.drop (r : Int).toNat) x.en.o = E) := HB
  rw [HBE.out] at CB
  obtain ⟨BO, hBO⟩ : ∃ BO, Sv.behO (s.se.log.drop (r : Int).toNat) x.en.o = BO := ⟨_, rfl⟩
  rw [hBO] at CB
  have HBO : Hid (Sv.behO (s.se.log.drop (r : Int).toNat) x.en.o = BO) := hBO
  clear hBO
  clear HB
  have q1 : (0 : Int) ≤ (r : Int) := by omega
  have q2 : (r : Int) ≤ (t.ln : Int) := by omega
  have p0 : w4.cell? ⟨w.heap.size, 0, none⟩ = some (.slice t.fa t.fn t.fc) := HT4.out.hS.cell 0
  have p1 : w4.cell? ⟨w.heap.size, 1, none⟩ = some (.slice t.la t.ln t.lc) := HT4.out.hS.cell 1
  have p2 : w4.cell? ⟨w.heap.size, 2, none⟩ = some (.slice t.na t.nn t.nc) := HT4.out.hS.cell 2
  have a0 : w4.cell? ⟨w.heap.size + 1, 0, none⟩ = some (.int .i64 x.who) := HT4.out.hX.cell 0
  have a1 : w4.cell? ⟨w.heap.size + 1, 1, none⟩ = some (.int .i64 x.seq) := HT4.out.hX.cell 1
  have a2 : w4.cell? ⟨w.heap.size + 1, 2, none⟩ = some (.slice x.ao x.n x.cap) := HT4.out.hX.cell 2
  have r0 : w4.cell? ⟨w.heap.size + 2, 0, none⟩ = some (.slice none 0 0) := HT4.out.hR.cell 0
  have r1 : w4.cell? ⟨w.heap.size + 2, 1, none⟩ = some (.slice none 0 0) := HT4.out.hR.cell 1
  have r2 : w4.cell? ⟨w.heap.size + 2, 2, none⟩ = some (.slice none 0 0) := HT4.out.hR.cell 2
  have g0 := HT4.out.hR.frozen 0
  have g1 := HT4.out.hR.frozen 1
  have g2 := HT4.out.hR.frozen 2
  go_upto_region 11 with fail
  have HCC : Hid (∀ w5, Below w4.heap.size w4 w5 → Blk w5 (w.heap.size) (svC t) 42 ∧ Blk w5 (w.heap.size + 1) (evC x) 46) := fun w5 hb => ⟨(HT4.out.under hb).hS, (HT4.out.under hb).hX⟩
  go_region_with (go_at_call 77; refine (CB.out _ ?_).mono ?_; exact (Below.refl _ _).drew; rintro e w5 ⟨⟨oa, on, oc, us, rfl, ho, hp⟩, hb⟩; have HB5 := drew_step hb; have HT5 : Hid (Tak w x B t w5) := HT4.out.under HB5; have HOF : Hid (OpsFrom w4.heap.size w5 oa on oc us) := (by rw [World.size_drew] at ho; exact ho); have HPU : Hid (us.map PV.pt = BO) := hp; clear hb ho hp)
  all_goals
    clear p0 p1 p2 a0 a1 a2 r0 r1 r2 g0 g1 g2 HB5 hsl
    have p0 : w5.cell? ⟨w.heap.size, 0, none⟩ = some (.slice t.fa t.fn t.fc) := HT5.out.hS.cell 0
    have p1 : w5.cell? ⟨w.heap.size, 1, none⟩ = some (.slice t.la t.ln t.lc) := HT5.out.hS.cell 1
    have p2 : w5.cell? ⟨w.heap.size, 2, none⟩ = some (.slice t.na t.nn t.nc) := HT5.out.hS.cell 2
    have f0 := HT5.out.hS.frozen 0
    have f1 := HT5.out.hS.frozen 1
    have f2 := HT5.out.hS.frozen 2
    have a0 : w5.cell? ⟨w.heap.size + 1, 0, none⟩ = some (.int .i64 x.who) := HT5.out.hX.cell 0
    have a1 : w5.cell? ⟨w.heap.size + 1, 1, none⟩ = some (.int .i64 x.seq) := HT5.out.hX.cell 1
    have a2 : w5.cell? ⟨w.heap.size + 1, 2, none⟩ = some (.slice x.ao x.n x.cap) := HT5.out.hX.cell 2
    have r0 : w5.cell? ⟨w.heap.size + 2, 0, none⟩ = some (.slice none 0 0) := HT5.out.hR.cell 0
    have r1 : w5.cell? ⟨w.heap.size + 2, 1, none⟩ = some (.slice none 0 0) := HT5.out.hR.cell 1
    have r2 : w5.cell? ⟨w.heap.size + 2, 2, none⟩ = some (.slice none 0 0) := HT5.out.hR.cell 2
    have g0 := HT5.out.hR.frozen 0
    have g1 := HT5.out.hR.frozen 1
    have g2 := HT5.out.hR.frozen 2
    go_wp2
    change bodyPost Tryz.prog _ _ Exit.ret _ (putS w5 (w.heap.size + 2) sv0)
    exact bodyPost_ret (ret_srv2 (t := sv0) rfl _ rfl rfl (putS_blk HT5.out.hR)) rfl ⟨⟨sv0, rfl, (SrvFrom.nil 0 _).srv, rfl⟩, HT5.out.blw.trans ((putS_below _ _ _).mono (by omega))⟩

set_option maxRecDepth 100000 in
set_option maxHeartbeats 3200000 in
theorem take_fit (s : SV) (rev : Int) (x : EV) (w : World) (hV : Srv w s) (hO : Ops w x.ao x.n x.cap x.vs) (hS : Sch w) (h1 : Sv.srvE s.se = 0) (h2 : Sv.entE x.en = 0) (hh : Sv.has s.se x.who x.seq = false) (hr : ¬ rev < 0) (hr2 : ¬ (s.ln : Int) < rev) (h60 : ¬ s.ln = 60) (HB : Sv.behE (s.se.log.drop rev.toNat) x.en.o = 0) (E : Int) (HE : Ac.fitE s.now (Sv.behO (s.se.log.drop rev.toNat) x.en.o) = E) (hE : ¬ E = 0) :
    Calls Tryz.prog 18 #[.agg #[.slice s.fa s.fn s.fc, .slice s.la s.ln s.lc, .slice s.na s.nn s.nc], .int .i64 rev, .agg #[.int .i64 x.who, .int .i64 x.seq, .slice x.ao x.n x.cap]] w fun e w' => (∃ t, e = .returned (.tuple #[svA t, .int .i64 E]) ∧ Srv w' t ∧ t.se = ⟨[], [], []⟩) ∧ Below w.heap.size w w' := by
  have hne : (E != 0) = true := by simp [hE]
  have HNE : Hid (¬ E = 0) := hE
  clear hE
  have H1 : Hid (Below w.heap.size w (boxs sv0 (boxe x (boxs s w)))) := (boxs_below s w).trans (((boxe_below x _).trans ((boxs_below sv0 _).mono (boxe_below x _).size)).mono (boxs_below s w).size)
  have HS0 : Hid (Blk (boxs sv0 (boxe x (boxs s w))) (w.heap.size) (svC s) 42) := ((boxs_blk s w).alloc _).alloc _
  have HX0 : Hid (Blk (boxs sv0 (boxe x (boxs s w))) (w.heap.size + 1) (evC x) 46) := by have := (boxe_blk x (boxs s w)).alloc (.cells #[.slice none 0 0, .slice none 0 0, .slice none 0 0] 42); rw [boxs_size] at this; exact this
  have HR0 : Hid (Blk (boxs sv0 (boxe x (boxs s w))) (w.heap.size + 2) (svC sv0) 42) := by have := boxs_blk sv0 (boxe x (boxs s w)); rw [boxe_size, boxs_size] at this; exact this
  have CT : Hid (Calls Tryz.prog 76 #[.agg #[.slice s.fa s.fn s.fc, .slice s.la s.ln s.lc, .slice s.na s.nn s.nc], .agg #[.int .i64 x.who, .int .i64 x.seq, .slice x.ao x.n x.cap]] (boxs sv0 (boxe x (boxs s w))) fun e w' => e = .returned (.int .i64 0) ∧ Below (boxs sv0 (boxe x (boxs s w))).heap.size (boxs sv0 (boxe x (boxs s w))) w') := by have := checkTake_any s x (boxs sv0 (boxe x (boxs s w))) (hV.below H1.out) (hO.below H1.out) (hS.below H1.out); rw [h1, if_pos rfl, h2] at this; exact this
  obtain ⟨f1, f2, f3, f4⟩ := srv_few hV h1
  have CP : Hid (∀ w', Below (boxs sv0 (boxe x (boxs s w))).heap.size (boxs sv0 (boxe x (boxs s w))) w' → Calls Tryz.prog 75 #[.agg #[.slice s.fa s.fn s.fc, .slice s.la s.ln s.lc, .slice s.na s.nn s.nc]] w' fun e w'' => (∃ t, e = .returned (.agg #[.slice t.fa t.fn t.fc, .slice t.la t.ln t.lc, .slice t.na t.nn t.nc]) ∧ Cpy w'.heap.size w'' t ∧ t.se = s.se ∧ t.fn = s.fn ∧ t.ln = s.ln ∧ t.nn = s.nn) ∧ Below w'.heap.size w' w'') := fun w' hb => copyOf_any s w' ((hV.below H1.out).below hb) f1 f2 f3 f4
  have HSC : Hid (∀ w', Below w.heap.size w w' → Sch w') := fun w' hb => hS.below hb
  have HXO : Hid (∀ w', Below w.heap.size w w' → Ops w' x.ao x.n x.cap x.vs) := fun w' hb => hO.below hb
  have HXF : Hid (0 < x.n ∧ x.n ≤ 40 ∧ ∀ u ∈ x.vs, u.m ≤ 80) := ops_few hO (ent_chk h2)
  have HSL60 : Hid (s.ln ≤ 60) := f3
  have HSL : Hid (s.se.log.length = s.ln) := by show (s.log.map EV.en).length = s.ln; rw [List.length_map]; exact hV.log.len
  clear hV hO hS f1 f2 f3 f4 h1 h2
  go_enter Tryz.func18, Tryz.ntmps18
  go_upto_region 1 with fail
  change Code.wp Tryz.prog _ _ _ (boxs sv0 (boxe x (boxs s w)))
  generalize (boxs sv0 (boxe x (boxs s w))) = W0 at *
  have p0 : W0.cell? ⟨w.heap.size, 0, none⟩ = some (.slice s.fa s.fn s.fc) := HS0.out.cell 0
  have p1 : W0.cell? ⟨w.heap.size, 1, none⟩ = some (.slice s.la s.ln s.lc) := HS0.out.cell 1
  have p2 : W0.cell? ⟨w.heap.size, 2, none⟩ = some (.slice s.na s.nn s.nc) := HS0.out.cell 2
  have a0 : W0.cell? ⟨w.heap.size + 1, 0, none⟩ = some (.int .i64 x.who) := HX0.out.cell 0
  have a1 : W0.cell? ⟨w.heap.size + 1, 1, none⟩ = some (.int .i64 x.seq) := HX0.out.cell 1
  have a2 : W0.cell? ⟨w.heap.size + 1, 2, none⟩ = some (.slice x.ao x.n x.cap) := HX0.out.cell 2
  go_wp2_with fail
  refine CT.out.mono ?_
  rintro e w1 ⟨rfl, hb⟩
  have H2 : Hid (Below W0.heap.size W0 w1) := hb
  clear hb p0 p1 p2 a0 a1 a2
  have hS1 : Blk w1 (w.heap.size) (svC s) 42 := (H2.out.block _ HS0.out.lt).trans HS0.out
  have p0 : w1.cell? ⟨w.heap.size, 0, none⟩ = some (.slice s.fa s.fn s.fc) := hS1.cell 0
  have p1 : w1.cell? ⟨w.heap.size, 1, none⟩ = some (.slice s.la s.ln s.lc) := hS1.cell 1
  have p2 : w1.cell? ⟨w.heap.size, 2, none⟩ = some (.slice s.na s.nn s.nc) := hS1.cell 2
  go_wp2_with fail
  refine (CP.out _ H2.out).mono ?_
  rintro e w2 ⟨⟨t, rfl, hc, hse, hfn, hln, hnn⟩, hb⟩
  have HT3 : Hid (Tak w x w1.heap.size t (putS w2 w.heap.size t)) := Tak.start HS0.out HX0.out HR0.out H1.out H2.out hb hc
  have hS2 : Blk w2 (w.heap.size) (svC s) 42 := (hb.block _ hS1.lt).trans hS1
  have HSE : Hid (t.se = s.se) := hse
  have HLN : Hid (t.ln = s.ln) := hln
  clear p0 p1 p2 hc hse hln hfn hnn
  have p0 : w2.cell? ⟨w.heap.size, 0, none⟩ = some (.slice s.fa s.fn s.fc) := hS2.cell 0
  have p1 : w2.cell? ⟨w.heap.size, 1, none⟩ = some (.slice s.la s.ln s.lc) := hS2.cell 1
  have p2 : w2.cell? ⟨w.heap.size, 2, none⟩ = some (.slice s.na s.nn s.nc) := hS2.cell 2
  have f0 := hS2.frozen 0
  have f1 := hS2.frozen 1
  have f2 := hS2.frozen 2
  go_upto_region 5 with fail
  change Code.wp Tryz.prog _ _ _ (putS w2 w.heap.size t)
  generalize putS w2 w.heap.size t = W3 at *
  clear p0 p1 p2 f0 f1 f2 hS1 hS2 hb
  generalize w1.heap.size = B at *
  have p0 : W3.cell? ⟨w.heap.size, 0, none⟩ = some (.slice t.fa t.fn t.fc) := HT3.out.hS.cell 0
  have p1 : W3.cell? ⟨w.heap.size, 1, none⟩ = some (.slice t.la t.ln t.lc) := HT3.out.hS.cell 1
  have p2 : W3.cell? ⟨w.heap.size, 2, none⟩ = some (.slice t.na t.nn t.nc) := HT3.out.hS.cell 2
  have a0 : W3.cell? ⟨w.heap.size + 1, 0, none⟩ = some (.int .i64 x.who) := HT3.out.hX.cell 0
  have a1 : W3.cell? ⟨w.heap.size + 1, 1, none⟩ = some (.int .i64 x.seq) := HT3.out.hX.cell 1
  have a2 : W3.cell? ⟨w.heap.size + 1, 2, none⟩ = some (.slice x.ao x.n x.cap) := HT3.out.hX.cell 2
  have CH : Calls Tryz.prog 29 #[.agg #[.slice t.fa t.fn t.fc, .slice t.la t.ln t.lc, .slice t.na t.nn t.nc], .int .i64 x.who, .int .i64 x.seq] W3 fun e w' => e = .returned (.bool false) ∧ Below W3.heap.size W3 w' := by have := has_any t x.who x.seq W3 HT3.out.cpy.srv; rw [HSE.out, hh] at this; exact this
  clear hh
  go_wp2_with fail
  refine CH.mono ?_
  rintro e w4 ⟨rfl, hb⟩
  have HT4 : Hid (Tak w x B t w4) := HT3.out.under hb
  clear hb CH p0 p1 p2 a0 a1 a2 HT3
  have hsz := HT4.out.lo
  have hrm := HT4.out.cpy.srv.log.row.room
  have hbg := HT4.out.cpy.srv.log.row.big
  obtain ⟨r, rfl⟩ : ∃ r : Nat, rev = r := ⟨rev.toNat, by omega⟩
  have hrl : r ≤ t.ln := by rw [HLN.out]; omega
  have n1 : ¬ (r : Int) < 0 := by omega
  have n2 : ¬ (t.ln : Int) < (r : Int) := by omega
  have n3 : ((t.ln : Int) == 60) = false := by rw [HLN.out]; simp; omega
  have hsl := slice_ents t.la t.ln t.lc r hrl
  have hdr : (t.log.drop r).map EV.en = s.se.log.drop (r : Int).toNat := by
    rw [← HSE.out]
    show _ = (t.log.map EV.en).drop r
    rw [List.map_drop]
  have CB : Hid (∀ w', Below w4.heap.size w4 w' → Calls Tryz.prog 77 #[.slice (subE t.la r t.lc) (t.ln - r) (t.lc - r), .slice x.ao x.n x.cap] w' fun e w'' => (∃ a n' c us, e = .returned (.tuple #[.slice a n' c, .int .i64 (Sv.behE (s.se.log.drop (r : Int).toNat) x.en.o)]) ∧ OpsFrom w'.heap.size w'' a n' c us ∧ us.map PV.pt = Sv.behO (s.se.log.drop (r : Int).toNat) x.en.o) ∧ Below w'.heap.size w' w'') := fun w' hb => by
    have hT := HT4.out.under hb
    have := behind_any (subE t.la r t.lc) (t.ln - r) (t.lc - r) (t.log.drop r) x.ao x.n x.cap x.vs w' (hT.cpy.srv.log.drop r hrl) (HXO.out _ hT.blw) (HSC.out _ hT.blw) HXF.out.1 HXF.out.2.1 HXF.out.2.2
    rw [hdr] at this
    exact this
  clear hdr
  have HBE : Hid (Sv.behE (s.se.log.drop (r : Int).toNat) x.en.o = 0) := HB
  rw [HBE.out] at CB
  have HFE : Hid (Ac.fitE s.now (Sv.behO (s.se.log.drop (r : Int).toNat) x.en.o) = E) := HE
  clear HE
  obtain ⟨BO, hBO⟩ : ∃ BO, Sv.behO (s.se.log.drop (r : Int).toNat) x.en.o = BO := ⟨_, rfl⟩
  rw [hBO] at CB HFE
  have HBO : Hid (Sv.behO (s.se.log.drop (r : Int).toNat) x.en.o = BO) := hBO
  clear hBO
  clear HB
  have q1 : (0 : Int) ≤ (r : Int) := by omega
  have q2 : (r : Int) ≤ (t.ln : Int) := by omega
  have p0 : w4.cell? ⟨w.heap.size, 0, none⟩ = some (.slice t.fa t.fn t.fc) := HT4.out.hS.cell 0
  have p1 : w4.cell? ⟨w.heap.size, 1, none⟩ = some (.slice t.la t.ln t.lc) := HT4.out.hS.cell 1
  have p2 : w4.cell? ⟨w.heap.size, 2, none⟩ = some (.slice t.na t.nn t.nc) := HT4.out.hS.cell 2
  have a0 : w4.cell? ⟨w.heap.size + 1, 0, none⟩ = some (.int .i64 x.who) := HT4.out.hX.cell 0
  have a1 : w4.cell? ⟨w.heap.size + 1, 1, none⟩ = some (.int .i64 x.seq) := HT4.out.hX.cell 1
  have a2 : w4.cell? ⟨w.heap.size + 1, 2, none⟩ = some (.slice x.ao x.n x.cap) := HT4.out.hX.cell 2
  have r0 : w4.cell? ⟨w.heap.size + 2, 0, none⟩ = some (.slice none 0 0) := HT4.out.hR.cell 0
  have r1 : w4.cell? ⟨w.heap.size + 2, 1, none⟩ = some (.slice none 0 0) := HT4.out.hR.cell 1
  have r2 : w4.cell? ⟨w.heap.size + 2, 2, none⟩ = some (.slice none 0 0) := HT4.out.hR.cell 2
  have g0 := HT4.out.hR.frozen 0
  have g1 := HT4.out.hR.frozen 1
  have g2 := HT4.out.hR.frozen 2
  go_upto_region 11 with fail
  have HCC : Hid (∀ w5, Below w4.heap.size w4 w5 → Blk w5 (w.heap.size) (svC t) 42 ∧ Blk w5 (w.heap.size + 1) (evC x) 46) := fun w5 hb => ⟨(HT4.out.under hb).hS, (HT4.out.under hb).hX⟩
  go_region_with (go_at_call 77; refine (CB.out _ ?_).mono ?_; exact (Below.refl _ _).drew; rintro e w5 ⟨⟨oa, on, oc, us, rfl, ho, hp⟩, hb⟩; have HB5 := drew_step hb; have HT5 : Hid (Tak w x B t w5) := HT4.out.under HB5; have HOF : Hid (OpsFrom w4.heap.size w5 oa on oc us) := (by rw [World.size_drew] at ho; exact ho); have HPU : Hid (us.map PV.pt = BO) := hp; clear hb ho hp)
  all_goals
    clear p0 p1 p2 a0 a1 a2 r0 r1 r2 g0 g1 g2 HB5 hsl
    have hnw : t.now = s.now := congrArg Sv.Se.now HSE.out
    have CA : Calls Tryz.prog 78 #[.slice t.na t.nn t.nc, .slice oa on oc] w5 fun e w' => e = .returned (.tuple #[.slice none 0 0, .int .i64 E]) ∧ Below w5.heap.size w5 w' := by
      have := apply_bad t.na oa t.nn t.nc on oc t.now us w5 HT5.out.cpy.now HOF.out.ops (HSC.out _ HT5.out.blw) (by rw [hnw, HPU.out, HFE.out]; exact HNE.out)
      rw [hnw, HPU.out, HFE.out] at this
      exact this
    have p0 : w5.cell? ⟨w.heap.size, 0, none⟩ = some (.slice t.fa t.fn t.fc) := HT5.out.hS.cell 0
    have p1 : w5.cell? ⟨w.heap.size, 1, none⟩ = some (.slice t.la t.ln t.lc) := HT5.out.hS.cell 1
    have p2 : w5.cell? ⟨w.heap.size, 2, none⟩ = some (.slice t.na t.nn t.nc) := HT5.out.hS.cell 2
    have f0 := HT5.out.hS.frozen 0
    have f1 := HT5.out.hS.frozen 1
    have f2 := HT5.out.hS.frozen 2
    have a0 : w5.cell? ⟨w.heap.size + 1, 0, none⟩ = some (.int .i64 x.who) := HT5.out.hX.cell 0
    have a1 : w5.cell? ⟨w.heap.size + 1, 1, none⟩ = some (.int .i64 x.seq) := HT5.out.hX.cell 1
    have a2 : w5.cell? ⟨w.heap.size + 1, 2, none⟩ = some (.slice x.ao x.n x.cap) := HT5.out.hX.cell 2
    have r0 : w5.cell? ⟨w.heap.size + 2, 0, none⟩ = some (.slice none 0 0) := HT5.out.hR.cell 0
    have r1 : w5.cell? ⟨w.heap.size + 2, 1, none⟩ = some (.slice none 0 0) := HT5.out.hR.cell 1
    have r2 : w5.cell? ⟨w.heap.size + 2, 2, none⟩ = some (.slice none 0 0) := HT5.out.hR.cell 2
    have g0 := HT5.out.hR.frozen 0
    have g1 := HT5.out.hR.frozen 1
    have g2 := HT5.out.hR.frozen 2
    go_wp2_with fail
    refine CA.mono ?_
    rintro e w6 ⟨rfl, hb⟩
    have HT6 : Hid (Tak w x B t w6) := HT5.out.under hb
    clear hb CA p0 p1 p2 a0 a1 a2 r0 r1 r2 f0 f1 f2 g0 g1 g2
    have HT7 : Tak w x B (nowS t none 0 0 []) (w6.setCell ⟨w.heap.size, 2, none⟩ (.slice none 0 0)) := HT6.out.now (Below.refl _ _) (doc_none w6) (fun ad e => by cases e)
    have p0 : w6.cell? ⟨w.heap.size, 0, none⟩ = some (.slice t.fa t.fn t.fc) := HT6.out.hS.cell 0
    have p1 : w6.cell? ⟨w.heap.size, 1, none⟩ = some (.slice t.la t.ln t.lc) := HT6.out.hS.cell 1
    have p2 : w6.cell? ⟨w.heap.size, 2, none⟩ = some (.slice t.na t.nn t.nc) := HT6.out.hS.cell 2
    have f0 := HT6.out.hS.frozen 0
    have f1 := HT6.out.hS.frozen 1
    have f2 := HT6.out.hS.frozen 2
    go_upto_region 15 with fail
    change Code.wp Tryz.prog _ _ _ (w6.setCell ⟨w.heap.size, 2, none⟩ (.slice none 0 0))
    generalize w6.setCell ⟨w.heap.size, 2, none⟩ (.slice none 0 0) = W7 at *
    clear p0 p1 p2 f0 f1 f2
    have r0 : W7.cell? ⟨w.heap.size + 2, 0, none⟩ = some (.slice none 0 0) := HT7.hR.cell 0
    have r1 : W7.cell? ⟨w.heap.size + 2, 1, none⟩ = some (.slice none 0 0) := HT7.hR.cell 1
    have r2 : W7.cell? ⟨w.heap.size + 2, 2, none⟩ = some (.slice none 0 0) := HT7.hR.cell 2
    have g0 := HT7.hR.frozen 0
    have g1 := HT7.hR.frozen 1
    have g2 := HT7.hR.frozen 2
    go_wp2
    change bodyPost Tryz.prog _ _ Exit.ret _ (putS W7 (w.heap.size + 2) sv0)
    exact bodyPost_ret (ret_srv2 (t := sv0) rfl _ rfl rfl (putS_blk HT7.hR)) rfl ⟨⟨sv0, rfl, (SrvFrom.nil 0 _).srv, rfl⟩, HT7.blw.trans ((putS_below _ _ _).mono (by omega))⟩

set_option maxRecDepth 100000 in
set_option maxHeartbeats 3200000 in
theorem take_ok (s : SV) (rev : Int) (x : EV) (w : World) (hV : Srv w s) (hO : Ops w x.ao x.n x.cap x.vs) (hS : Sch w) (h1 : Sv.srvE s.se = 0) (h2 : Sv.entE x.en = 0) (hh : Sv.has s.se x.who x.seq = false) (hr : ¬ rev < 0) (hr2 : ¬ (s.ln : Int) < rev) (h60 : ¬ s.ln = 60) (HB : Sv.behE (s.se.log.drop rev.toNat) x.en.o = 0) (HE : Ac.fitE s.now (Sv.behO (s.se.log.drop rev.toNat) x.en.o) = 0) :
    Calls Tryz.prog 18 #[.agg #[.slice s.fa s.fn s.fc, .slice s.la s.ln s.lc, .slice s.na s.nn s.nc], .int .i64 rev, .agg #[.int .i64 x.who, .int .i64 x.seq, .slice x.ao x.n x.cap]] w fun e w' => (∃ t, e = .returned (.tuple #[svA t, .int .i64 0]) ∧ Srv w' t ∧ t.se = ⟨s.first, s.se.log ++ [⟨x.who, x.seq, (Sv.behO (s.se.log.drop rev.toNat) x.en.o)⟩], Ac.done s.now (Sv.behO (s.se.log.drop rev.toNat) x.en.o)⟩) ∧ Below w.heap.size w w' := by
  obtain ⟨i0, hi, hz0, hz1, hz2⟩ := info_parts Tryz.infE
  have H1 : Hid (Below w.heap.size w (boxs sv0 (boxe x (boxs s w)))) := (boxs_below s w).trans (((boxe_below x _).trans ((boxs_below sv0 _).mono (boxe_below x _).size)).mono (boxs_below s w).size)
  have HS0 : Hid (Blk (boxs sv0 (boxe x (boxs s w))) (w.heap.size) (svC s) 42) := ((boxs_blk s w).alloc _).alloc _
  have HX0 : Hid (Blk (boxs sv0 (boxe x (boxs s w))) (w.heap.size + 1) (evC x) 46) := by have := (boxe_blk x (boxs s w)).alloc (.cells #[.slice none 0 0, .slice none 0 0, .slice none 0 0] 42); rw [boxs_size] at this; exact this
  have HR0 : Hid (Blk (boxs sv0 (boxe x (boxs s w))) (w.heap.size + 2) (svC sv0) 42) := by have := boxs_blk sv0 (boxe x (boxs s w)); rw [boxe_size, boxs_size] at this; exact this
  have CT : Hid (Calls Tryz.prog 76 #[.agg #[.slice s.fa s.fn s.fc, .slice s.la s.ln s.lc, .slice s.na s.nn s.nc], .agg #[.int .i64 x.who, .int .i64 x.seq, .slice x.ao x.n x.cap]] (boxs sv0 (boxe x (boxs s w))) fun e w' => e = .returned (.int .i64 0) ∧ Below (boxs sv0 (boxe x (boxs s w))).heap.size (boxs sv0 (boxe x (boxs s w))) w') := by have := checkTake_any s x (boxs sv0 (boxe x (boxs s w))) (hV.below H1.out) (hO.below H1.out) (hS.below H1.out); rw [h1, if_pos rfl, h2] at this; exact this
  obtain ⟨f1, f2, f3, f4⟩ := srv_few hV h1
  have CP : Hid (∀ w', Below (boxs sv0 (boxe x (boxs s w))).heap.size (boxs sv0 (boxe x (boxs s w))) w' → Calls Tryz.prog 75 #[.agg #[.slice s.fa s.fn s.fc, .slice s.la s.ln s.lc, .slice s.na s.nn s.nc]] w' fun e w'' => (∃ t, e = .returned (.agg #[.slice t.fa t.fn t.fc, .slice t.la t.ln t.lc, .slice t.na t.nn t.nc]) ∧ Cpy w'.heap.size w'' t ∧ t.se = s.se ∧ t.fn = s.fn ∧ t.ln = s.ln ∧ t.nn = s.nn) ∧ Below w'.heap.size w' w'') := fun w' hb => copyOf_any s w' ((hV.below H1.out).below hb) f1 f2 f3 f4
  have HSC : Hid (∀ w', Below w.heap.size w w' → Sch w') := fun w' hb => hS.below hb
  have HXO : Hid (∀ w', Below w.heap.size w w' → Ops w' x.ao x.n x.cap x.vs) := fun w' hb => hO.below hb
  have HXF : Hid (0 < x.n ∧ x.n ≤ 40 ∧ ∀ u ∈ x.vs, u.m ≤ 80) := ops_few hO (ent_chk h2)
  have HSL60 : Hid (s.ln ≤ 60) := f3
  have HSL : Hid (s.se.log.length = s.ln) := by show (s.log.map EV.en).length = s.ln; rw [List.length_map]; exact hV.log.len
  clear hV hO hS f1 f2 f3 f4 h1 h2
  go_enter Tryz.func18, Tryz.ntmps18
  go_upto_region 1 with fail
  change Code.wp Tryz.prog _ _ _ (boxs sv0 (boxe x (boxs s w)))
  generalize (boxs sv0 (boxe x (boxs s w))) = W0 at *
  have p0 : W0.cell? ⟨w.heap.size, 0, none⟩ = some (.slice s.fa s.fn s.fc) := HS0.out.cell 0
  have p1 : W0.cell? ⟨w.heap.size, 1, none⟩ = some (.slice s.la s.ln s.lc) := HS0.out.cell 1
  have p2 : W0.cell? ⟨w.heap.size, 2, none⟩ = some (.slice s.na s.nn s.nc) := HS0.out.cell 2
  have a0 : W0.cell? ⟨w.heap.size + 1, 0, none⟩ = some (.int .i64 x.who) := HX0.out.cell 0
  have a1 : W0.cell? ⟨w.heap.size + 1, 1, none⟩ = some (.int .i64 x.seq) := HX0.out.cell 1
  have a2 : W0.cell? ⟨w.heap.size + 1, 2, none⟩ = some (.slice x.ao x.n x.cap) := HX0.out.cell 2
  go_wp2_with fail
  refine CT.out.mono ?_
  rintro e w1 ⟨rfl, hb⟩
  have H2 : Hid (Below W0.heap.size W0 w1) := hb
  clear hb p0 p1 p2 a0 a1 a2
  have hS1 : Blk w1 (w.heap.size) (svC s) 42 := (H2.out.block _ HS0.out.lt).trans HS0.out
  have p0 : w1.cell? ⟨w.heap.size, 0, none⟩ = some (.slice s.fa s.fn s.fc) := hS1.cell 0
  have p1 : w1.cell? ⟨w.heap.size, 1, none⟩ = some (.slice s.la s.ln s.lc) := hS1.cell 1
  have p2 : w1.cell? ⟨w.heap.size, 2, none⟩ = some (.slice s.na s.nn s.nc) := hS1.cell 2
  go_wp2_with fail
  refine (CP.out _ H2.out).mono ?_
  rintro e w2 ⟨⟨t, rfl, hc, hse, hfn, hln, hnn⟩, hb⟩
  have HT3 : Hid (Tak w x w1.heap.size t (putS w2 w.heap.size t)) := Tak.start HS0.out HX0.out HR0.out H1.out H2.out hb hc
  have hS2 : Blk w2 (w.heap.size) (svC s) 42 := (hb.block _ hS1.lt).trans hS1
  have HSE : Hid (t.se = s.se) := hse
  have HLN : Hid (t.ln = s.ln) := hln
  clear p0 p1 p2 hc hse hln hfn hnn
  have p0 : w2.cell? ⟨w.heap.size, 0, none⟩ = some (.slice s.fa s.fn s.fc) := hS2.cell 0
  have p1 : w2.cell? ⟨w.heap.size, 1, none⟩ = some (.slice s.la s.ln s.lc) := hS2.cell 1
  have p2 : w2.cell? ⟨w.heap.size, 2, none⟩ = some (.slice s.na s.nn s.nc) := hS2.cell 2
  have f0 := hS2.frozen 0
  have f1 := hS2.frozen 1
  have f2 := hS2.frozen 2
  go_upto_region 5 with fail
  change Code.wp Tryz.prog _ _ _ (putS w2 w.heap.size t)
  generalize putS w2 w.heap.size t = W3 at *
  clear p0 p1 p2 f0 f1 f2 hS1 hS2 hb
  generalize w1.heap.size = B at *
  have p0 : W3.cell? ⟨w.heap.size, 0, none⟩ = some (.slice t.fa t.fn t.fc) := HT3.out.hS.cell 0
  have p1 : W3.cell? ⟨w.heap.size, 1, none⟩ = some (.slice t.la t.ln t.lc) := HT3.out.hS.cell 1
  have p2 : W3.cell? ⟨w.heap.size, 2, none⟩ = some (.slice t.na t.nn t.nc) := HT3.out.hS.cell 2
  have a0 : W3.cell? ⟨w.heap.size + 1, 0, none⟩ = some (.int .i64 x.who) := HT3.out.hX.cell 0
  have a1 : W3.cell? ⟨w.heap.size + 1, 1, none⟩ = some (.int .i64 x.seq) := HT3.out.hX.cell 1
  have a2 : W3.cell? ⟨w.heap.size + 1, 2, none⟩ = some (.slice x.ao x.n x.cap) := HT3.out.hX.cell 2
  have CH : Calls Tryz.prog 29 #[.agg #[.slice t.fa t.fn t.fc, .slice t.la t.ln t.lc, .slice t.na t.nn t.nc], .int .i64 x.who, .int .i64 x.seq] W3 fun e w' => e = .returned (.bool false) ∧ Below W3.heap.size W3 w' := by have := has_any t x.who x.seq W3 HT3.out.cpy.srv; rw [HSE.out, hh] at this; exact this
  clear hh
  go_wp2_with fail
  refine CH.mono ?_
  rintro e w4 ⟨rfl, hb⟩
  have HT4 : Hid (Tak w x B t w4) := HT3.out.under hb
  clear hb CH p0 p1 p2 a0 a1 a2 HT3
  have hsz := HT4.out.lo
  have hrm := HT4.out.cpy.srv.log.row.room
  have hbg := HT4.out.cpy.srv.log.row.big
  obtain ⟨r, rfl⟩ : ∃ r : Nat, rev = r := ⟨rev.toNat, by omega⟩
  have hrl : r ≤ t.ln := by rw [HLN.out]; omega
  have n1 : ¬ (r : Int) < 0 := by omega
  have n2 : ¬ (t.ln : Int) < (r : Int) := by omega
  have n3 : ((t.ln : Int) == 60) = false := by rw [HLN.out]; simp; omega
  have hsl := slice_ents t.la t.ln t.lc r hrl
  have hdr : (t.log.drop r).map EV.en = s.se.log.drop (r : Int).toNat := by
    rw [← HSE.out]
    show _ = (t.log.map EV.en).drop r
    rw [List.map_drop]
  have CB : Hid (∀ w', Below w4.heap.size w4 w' → Calls Tryz.prog 77 #[.slice (subE t.la r t.lc) (t.ln - r) (t.lc - r), .slice x.ao x.n x.cap] w' fun e w'' => (∃ a n' c us, e = .returned (.tuple #[.slice a n' c, .int .i64 (Sv.behE (s.se.log.drop (r : Int).toNat) x.en.o)]) ∧ OpsFrom w'.heap.size w'' a n' c us ∧ us.map PV.pt = Sv.behO (s.se.log.drop (r : Int).toNat) x.en.o) ∧ Below w'.heap.size w' w'') := fun w' hb => by
    have hT := HT4.out.under hb
    have := behind_any (subE t.la r t.lc) (t.ln - r) (t.lc - r) (t.log.drop r) x.ao x.n x.cap x.vs w' (hT.cpy.srv.log.drop r hrl) (HXO.out _ hT.blw) (HSC.out _ hT.blw) HXF.out.1 HXF.out.2.1 HXF.out.2.2
    rw [hdr] at this
    exact this
  clear hdr
  have HBE : Hid (Sv.behE (s.se.log.drop (r : Int).toNat) x.en.o = 0) := HB
  rw [HBE.out] at CB
  have HFE : Hid (Ac.fitE s.now (Sv.behO (s.se.log.drop (r : Int).toNat) x.en.o) = 0) := HE
  clear HE
  obtain ⟨BO, hBO⟩ : ∃ BO, Sv.behO (s.se.log.drop (r : Int).toNat) x.en.o = BO := ⟨_, rfl⟩
  rw [hBO] at CB HFE
  have HBO : Hid (Sv.behO (s.se.log.drop (r : Int).toNat) x.en.o = BO) := hBO
  clear hBO
  clear HB
  have q1 : (0 : Int) ≤ (r : Int) := by omega
  have q2 : (r : Int) ≤ (t.ln : Int) := by omega
  have p0 : w4.cell? ⟨w.heap.size, 0, none⟩ = some (.slice t.fa t.fn t.fc) := HT4.out.hS.cell 0
  have p1 : w4.cell? ⟨w.heap.size, 1, none⟩ = some (.slice t.la t.ln t.lc) := HT4.out.hS.cell 1
  have p2 : w4.cell? ⟨w.heap.size, 2, none⟩ = some (.slice t.na t.nn t.nc) := HT4.out.hS.cell 2
  have a0 : w4.cell? ⟨w.heap.size + 1, 0, none⟩ = some (.int .i64 x.who) := HT4.out.hX.cell 0
  have a1 : w4.cell? ⟨w.heap.size + 1, 1, none⟩ = some (.int .i64 x.seq) := HT4.out.hX.cell 1
  have a2 : w4.cell? ⟨w.heap.size + 1, 2, none⟩ = some (.slice x.ao x.n x.cap) := HT4.out.hX.cell 2
  have r0 : w4.cell? ⟨w.heap.size + 2, 0, none⟩ = some (.slice none 0 0) := HT4.out.hR.cell 0
  have r1 : w4.cell? ⟨w.heap.size + 2, 1, none⟩ = some (.slice none 0 0) := HT4.out.hR.cell 1
  have r2 : w4.cell? ⟨w.heap.size + 2, 2, none⟩ = some (.slice none 0 0) := HT4.out.hR.cell 2
  have g0 := HT4.out.hR.frozen 0
  have g1 := HT4.out.hR.frozen 1
  have g2 := HT4.out.hR.frozen 2
  go_upto_region 11 with fail
  have HCC : Hid (∀ w5, Below w4.heap.size w4 w5 → Blk w5 (w.heap.size) (svC t) 42 ∧ Blk w5 (w.heap.size + 1) (evC x) 46) := fun w5 hb => ⟨(HT4.out.under hb).hS, (HT4.out.under hb).hX⟩
  go_region_with (go_at_call 77; refine (CB.out _ ?_).mono ?_; exact (Below.refl _ _).drew; rintro e w5 ⟨⟨oa, on, oc, us, rfl, ho, hp⟩, hb⟩; have HB5 := drew_step hb; have HT5 : Hid (Tak w x B t w5) := HT4.out.under HB5; have HOF : Hid (OpsFrom w4.heap.size w5 oa on oc us) := (by rw [World.size_drew] at ho; exact ho); have HPU : Hid (us.map PV.pt = BO) := hp; clear hb ho hp)
  all_goals
    clear p0 p1 p2 a0 a1 a2 r0 r1 r2 g0 g1 g2 HB5 hsl
    have hnw : t.now = s.now := congrArg Sv.Se.now HSE.out
    have CA : Calls Tryz.prog 78 #[.slice t.na t.nn t.nc, .slice oa on oc] w5 fun e w' => (∃ a n c, e = .returned (.tuple #[.slice a n c, .int .i64 0]) ∧ Doc w' a n c (Ac.done s.now BO) ∧ ∀ ad : Addr, a = some ad → w5.heap.size ≤ ad.block) ∧ Below w5.heap.size w5 w' := by
      have h0 := HFE.out
      have hdn : Ac.done s.now BO = (Ac.mk s.now BO).1 := if_pos h0
      rw [← hnw, ← HPU.out] at h0
      refine (apply_okF t.na oa t.nn t.nc on oc t.now us w5 HT5.out.cpy.now HOF.out.ops (HSC.out _ HT5.out.blw) h0).mono ?_
      rintro e w' ⟨⟨a, c, h1, h2, h3⟩, hb⟩
      rw [hnw, HPU.out] at h1 h2
      rw [hdn]
      exact ⟨⟨a, _, c, h1, h2, h3⟩, hb⟩
    have p0 : w5.cell? ⟨w.heap.size, 0, none⟩ = some (.slice t.fa t.fn t.fc) := HT5.out.hS.cell 0
    have p1 : w5.cell? ⟨w.heap.size, 1, none⟩ = some (.slice t.la t.ln t.lc) := HT5.out.hS.cell 1
    have p2 : w5.cell? ⟨w.heap.size, 2, none⟩ = some (.slice t.na t.nn t.nc) := HT5.out.hS.cell 2
    have f0 := HT5.out.hS.frozen 0
    have f1 := HT5.out.hS.frozen 1
    have f2 := HT5.out.hS.frozen 2
    have a0 : w5.cell? ⟨w.heap.size + 1, 0, none⟩ = some (.int .i64 x.who) := HT5.out.hX.cell 0
    have a1 : w5.cell? ⟨w.heap.size + 1, 1, none⟩ = some (.int .i64 x.seq) := HT5.out.hX.cell 1
    have a2 : w5.cell? ⟨w.heap.size + 1, 2, none⟩ = some (.slice x.ao x.n x.cap) := HT5.out.hX.cell 2
    have r0 : w5.cell? ⟨w.heap.size + 2, 0, none⟩ = some (.slice none 0 0) := HT5.out.hR.cell 0
    have r1 : w5.cell? ⟨w.heap.size + 2, 1, none⟩ = some (.slice none 0 0) := HT5.out.hR.cell 1
    have r2 : w5.cell? ⟨w.heap.size + 2, 2, none⟩ = some (.slice none 0 0) := HT5.out.hR.cell 2
    have g0 := HT5.out.hR.frozen 0
    have g1 := HT5.out.hR.frozen 1
    have g2 := HT5.out.hR.frozen 2
    go_wp2_with fail
    refine CA.mono ?_
    rintro e w6 ⟨⟨da, dn, dc, rfl, hd, hfr⟩, hb⟩
    have HT6 : Hid (Tak w x B t w6) := HT5.out.under hb
    have HT7 : Hid (Tak w x B (nowS t da dn dc (Ac.done s.now BO)) (w6.setCell ⟨w.heap.size, 2, none⟩ (.slice da dn dc))) := HT5.out.now hb hd hfr
    have HOF7 : Hid (OpsFrom w4.heap.size (w6.setCell ⟨w.heap.size, 2, none⟩ (.slice da dn dc)) oa on oc us) := (HOF.out.below hb).kept (kept_set _ _ _ _ [w.heap.size] (by simp)) (fun k hk => by simp at hk; have := HT4.out.hi; omega)
    clear hb CA hd hfr p0 p1 p2 a0 a1 a2 r0 r1 r2 f0 f1 f2 g0 g1 g2
    obtain ⟨DN, hDN⟩ : ∃ DN, Ac.done s.now BO = DN := ⟨_, rfl⟩
    have HDN : Hid (Ac.done s.now BO = DN) := hDN
    rw [hDN] at HT7
    clear hDN
    have p0 : w6.cell? ⟨w.heap.size, 0, none⟩ = some (.slice t.fa t.fn t.fc) := HT6.out.hS.cell 0
    have p1 : w6.cell? ⟨w.heap.size, 1, none⟩ = some (.slice t.la t.ln t.lc) := HT6.out.hS.cell 1
    have p2 : w6.cell? ⟨w.heap.size, 2, none⟩ = some (.slice t.na t.nn t.nc) := HT6.out.hS.cell 2
    have f0 := HT6.out.hS.frozen 0
    have f1 := HT6.out.hS.frozen 1
    have f2 := HT6.out.hS.frozen 2
    go_upto_region 15 with fail
    change Code.wp Tryz.prog _ _ _ (w6.setCell ⟨w.heap.size, 2, none⟩ (.slice da dn dc))
    generalize w6.setCell ⟨w.heap.size, 2, none⟩ (.slice da dn dc) = W7 at *
    clear p0 p1 p2 f0 f1 f2
    have hl60 : t.ln ≤ 60 := by have := HSL60.out; rw [HLN.out]; exact this
    have HN : Hid (∃ nt, nowS t da dn dc DN = nt) := ⟨_, rfl⟩
    have p0 : W7.cell? ⟨w.heap.size, 0, none⟩ = some (.slice t.fa t.fn t.fc) := HT7.out.hS.cell 0
    have p1 : W7.cell? ⟨w.heap.size, 1, none⟩ = some (.slice t.la t.ln t.lc) := HT7.out.hS.cell 1
    have p2 : W7.cell? ⟨w.heap.size, 2, none⟩ = some (.slice da dn dc) := HT7.out.hS.cell 2
    have a0 : W7.cell? ⟨w.heap.size + 1, 0, none⟩ = some (.int .i64 x.who) := HT7.out.hX.cell 0
    have a1 : W7.cell? ⟨w.heap.size + 1, 1, none⟩ = some (.int .i64 x.seq) := HT7.out.hX.cell 1
    have a2 : W7.cell? ⟨w.heap.size + 1, 2, none⟩ = some (.slice x.ao x.n x.cap) := HT7.out.hX.cell 2
    have HT8 : Hid (Tak w x B (nowS t da dn dc DN) (boxe ⟨x.who, x.seq, oa, on, oc, us⟩ W7)) := HT7.out.under (boxe_below _ _)
    have HRW8 : Hid (Row (boxe ⟨x.who, x.seq, oa, on, oc, us⟩ W7) (some ⟨W7.heap.size, 0, none⟩) 1 1 3 (evC ⟨x.who, x.seq, oa, on, oc, us⟩)) := boxe_row _ _
    go_wp2_with (at_builtin; refine wpList_append_row (boxe ⟨x.who, x.seq, oa, on, oc, us⟩ W7) rfl (.tmp 71) (.tmp 78) 40 rfl B 46 i0 (.agg #[.int .i64 0, .int .i64 0, .slice none 0 0]) 3 40 Tryz.underlying40 hi hz0 hz1 hz2 rfl (by decide) (.slice t.la t.ln t.lc) t.ln (evCells t.log) rfl HT8.out.cpy.own (some ⟨W7.heap.size, 0, none⟩) 1 1 (evC ⟨x.who, x.seq, oa, on, oc, us⟩) rfl HRW8.out (by rw [← evCells_one]; exact evCells_oneCell _) (by unfold maxLen; omega) (by omega) HT8.out.hi ?_)
    intro av w9 hown9 hg9 hat9
    obtain ⟨na, ncp, rfl, -, -, -⟩ := own_slice hown9
    obtain ⟨hS9, hR9, hF9, hB9⟩ := HT7.out.log (v := ⟨x.who, x.seq, oa, on, oc, us⟩) HOF7.out HT4.out.hi (fun bd e => (HT4.out.cpy.own.lt bd.block (by have e2 : t.la = some bd := e; rw [e2]; rfl)).2) hown9 hg9
    have HS9 : Hid (Blk w9 w.heap.size (svC (nowS t da dn dc DN)) 42) := hS9
    have HR9 : Hid (Blk w9 (w.heap.size + 2) (svC sv0) 42) := hR9
    have HF9 : Hid (SrvFrom B w9 (logS (nowS t da dn dc DN) na ncp ⟨x.who, x.seq, oa, on, oc, us⟩)) := hF9
    have HB9 : Hid (Below w.heap.size w w9) := hB9
    clear hown9 hg9 hat9 hS9 hR9 hF9 hB9 p0 p1 p2 a0 a1 a2
    have p0 : w9.cell? ⟨w.heap.size, 0, none⟩ = some (.slice t.fa t.fn t.fc) := HS9.out.cell 0
    have p1 : w9.cell? ⟨w.heap.size, 1, none⟩ = some (.slice t.la t.ln t.lc) := HS9.out.cell 1
    have p2 : w9.cell? ⟨w.heap.size, 2, none⟩ = some (.slice da dn dc) := HS9.out.cell 2
    have f0 := HS9.out.frozen 0
    have f1 := HS9.out.frozen 1
    have f2 := HS9.out.frozen 2
    have HS10 : Hid (Blk (w9.setCell ⟨w.heap.size, 1, none⟩ (.slice na (t.ln + 1) ncp)) w.heap.size (svC (logS (nowS t da dn dc DN) na ncp ⟨x.who, x.seq, oa, on, oc, us⟩)) 42) := HS9.out.set 1 _
    have hk10 : Kept w9 (w9.setCell ⟨w.heap.size, 1, none⟩ (.slice na (t.ln + 1) ncp)) [w.heap.size] := kept_set _ _ _ _ _ (by simp)
    have HR10 : Hid (Blk (w9.setCell ⟨w.heap.size, 1, none⟩ (.slice na (t.ln + 1) ncp)) (w.heap.size + 2) (svC sv0) 42) := hk10.blk HR9.out (by simp)
    have HF10 : Hid (SrvFrom B (w9.setCell ⟨w.heap.size, 1, none⟩ (.slice na (t.ln + 1) ncp)) (logS (nowS t da dn dc DN) na ncp ⟨x.who, x.seq, oa, on, oc, us⟩)) := HF9.out.kept hk10 (fun k hk => by simp at hk; omega)
    have HB10 : Hid (Below w.heap.size w (w9.setCell ⟨w.heap.size, 1, none⟩ (.slice na (t.ln + 1) ncp))) := HB9.out.setCell (Nat.le_refl _) _
    clear hk10
    go_upto_region 18 with fail
    change Code.wp Tryz.prog _ _ _ (w9.setCell ⟨w.heap.size, 1, none⟩ (.slice na (t.ln + 1) ncp))
    generalize w9.setCell ⟨w.heap.size, 1, none⟩ (.slice na (t.ln + 1) ncp) = W10 at *
    clear p0 p1 p2 f0 f1 f2
    have p0 : W10.cell? ⟨w.heap.size, 0, none⟩ = some (.slice t.fa t.fn t.fc) := HS10.out.cell 0
    have p1 : W10.cell? ⟨w.heap.size, 1, none⟩ = some (.slice na (t.ln + 1) ncp) := HS10.out.cell 1
    have p2 : W10.cell? ⟨w.heap.size, 2, none⟩ = some (.slice da dn dc) := HS10.out.cell 2
    have r0 : W10.cell? ⟨w.heap.size + 2, 0, none⟩ = some (.slice none 0 0) := HR10.out.cell 0
    have r1 : W10.cell? ⟨w.heap.size + 2, 1, none⟩ = some (.slice none 0 0) := HR10.out.cell 1
    have r2 : W10.cell? ⟨w.heap.size + 2, 2, none⟩ = some (.slice none 0 0) := HR10.out.cell 2
    have g0 := HR10.out.frozen 0
    have g1 := HR10.out.frozen 1
    have g2 := HR10.out.frozen 2
    go_wp2
    change bodyPost Tryz.prog _ _ Exit.ret _ (putS W10 (w.heap.size + 2) (logS (nowS t da dn dc DN) na ncp ⟨x.who, x.seq, oa, on, oc, us⟩))
    refine bodyPost_ret (ret_srv2 (t := logS (nowS t da dn dc DN) na ncp ⟨x.who, x.seq, oa, on, oc, us⟩) rfl _ rfl rfl (putS_blk HR10.out)) rfl ⟨⟨_, rfl, (HF10.out.kept (putS_kept _ _ _) (fun k hk => by simp at hk; omega)).srv, ?_⟩, HB10.out.trans ((putS_below _ _ _).mono (by omega))⟩
    show (⟨t.first, (t.log ++ [_]).map EV.en, DN⟩ : Sv.Se) = _
    rw [List.map_append, show t.log.map EV.en = s.se.log from congrArg Sv.Se.log HSE.out, show t.first = s.first from congrArg Sv.Se.first HSE.out]
    show (⟨s.first, s.se.log ++ [⟨x.who, x.seq, us.map PV.pt⟩], DN⟩ : Sv.Se) = _
    rw [HPU.out, HBO.out, HDN.out]
end Go.Proofs.YtbhcklkbckacpaaGreatDoor
