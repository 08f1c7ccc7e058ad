/-
  The statement ServerFolds: a server that takes something stays one.
-/
import Derived.Test.YtbhcklkbckacpaaDoorVl0
import Derived.Deep.RegionHeldLaw
import Derived.Deep.RegionHeld3
namespace Go.Proofs.YtbhcklkbckacpaaDoor
open Go.RowKit

set_option maxRecDepth 100000 in
set_option maxHeartbeats 12800000 in
theorem folds_any (s : SV) (rev : Int) (x : EV) (w : World) (hV : Srv w s) (hO : Ops w x.ao x.n x.cap x.vs) (hS : Sch w) :
    Calls Tryd.prog 4 #[.agg #[.slice s.fa s.fn s.fc, .slice s.la s.ln s.lc, .slice s.na s.nn s.nc], .int .i64 rev, .agg #[.int .i64 x.who, .int .i64 x.seq, .slice x.ao x.n x.cap]] w fun e w' => e = .returned (.bool true) ∧ Below w.heap.size w w' := by
  have H0 : Hid (Below w.heap.size w (boxe x (boxs s w))) := (boxs_below s w).trans ((boxe_below x _).mono (boxs_below s w).size)
  have HS0 : Hid (Blk (boxe x (boxs s w)) w.heap.size (svC s) 35) := (boxs_blk s w).alloc _
  have HX0 : Hid (Blk (boxe x (boxs s w)) (w.heap.size + 1) (evC x) 37) := by have := boxe_blk x (boxs s w); rw [boxs_size] at this; exact this
  have CT : Hid (Calls Tryd.prog 15 #[.agg #[.slice s.fa s.fn s.fc, .slice s.la s.ln s.lc, .slice s.na s.nn s.nc], .int .i64 rev, .agg #[.int .i64 x.who, .int .i64 x.seq, .slice x.ao x.n x.cap]] (boxe x (boxs s w)) fun e w' => (∃ t, e = .returned (.tuple #[.agg #[.slice t.fa t.fn t.fc, .slice t.la t.ln t.lc, .slice t.na t.nn t.nc], .int .i64 (Sv.takE s.se rev x.en)]) ∧ Srv w' t ∧ t.se = Sv.takS s.se rev x.en) ∧ Below (boxe x (boxs s w)).heap.size (boxe x (boxs s w)) w') := take_any s rev x _ (hV.below H0.out) (hO.below H0.out) (hS.below H0.out)
  have HSC : Hid (∀ w', Below w.heap.size w w' → Sch w') := fun w' hb => hS.below hb
  have HXO : Hid (∀ w', Below w.heap.size w w' → Ops w' x.ao x.n x.cap x.vs) := fun w' hb => hO.below hb
  have HSV : Hid (∀ w', Below w.heap.size w w' → Srv w' s) := fun w' hb => hV.below hb
  clear hV hO hS
  obtain ⟨r, hr⟩ : ∃ r, Sv.takE s.se rev x.en = r := ⟨_, rfl⟩
  rw [hr] at CT
  have HE : Hid (Sv.takE s.se rev x.en = r) := hr
  clear hr
  by_cases hz : r = 0
  · have HE0 : Hid (Sv.takE s.se rev x.en = 0) := HE.out.trans hz
    subst hz
    go_enter Tryd.func4, Tryd.ntmps4
    go_upto_region 1 with fail
    change Code.wp Tryd.prog _ _ _ (boxe x (boxs s w))
    generalize (boxe x (boxs s w)) = W0 at *
    have p0 : W0.cell? ⟨w.heap.size, 0, none⟩ = some (.slice s.fa s.fn s.fc) := HS0.out.cell 0
    have p1 : W0.cell? ⟨w.heap.size, 1, none⟩ = some (.slice s.la s.ln s.lc) := HS0.out.cell 1
    have p2 : W0.cell? ⟨w.heap.size, 2, none⟩ = some (.slice s.na s.nn s.nc) := HS0.out.cell 2
    have a0 : W0.cell? ⟨w.heap.size + 1, 0, none⟩ = some (.int .i64 x.who) := HX0.out.cell 0
    have a1 : W0.cell? ⟨w.heap.size + 1, 1, none⟩ = some (.int .i64 x.seq) := HX0.out.cell 1
    have a2 : W0.cell? ⟨w.heap.size + 1, 2, none⟩ = some (.slice x.ao x.n x.cap) := HX0.out.cell 2
    go_wp2_with fail
    refine CT.out.mono ?_
    rintro e w1 ⟨⟨t, rfl, hT, hse⟩, hb⟩
    have HB1 : Hid (Below W0.heap.size W0 (boxs t w1)) := hb.trans ((boxs_below t w1).mono hb.size)
    have HTB : Hid (Blk (boxs t w1) w1.heap.size (svC t) 35) := boxs_blk t w1
    have HTS : Hid (Srv (boxs t w1) t) := hT.below (boxs_below t w1)
    have HSE : Hid (t.se = Sv.takS s.se rev x.en) := hse
    clear hT hse hb p0 p1 p2 a0 a1 a2 CT
    go_upto_region 2 with fail
    change Code.wp Tryd.prog _ _ _ (boxs t w1)
    generalize boxs t w1 = W1 at *
    generalize w1.heap.size = tb at *
    have HW1 : Hid (Below w.heap.size w W1) := H0.out.trans (HB1.out.mono H0.out.size)
    go_wp2_with fail
    refine (served_any W1 (HSC.out _ HW1.out)).mono ?_
    rintro e W ⟨rfl, hb⟩
    have HB2 : Hid (Below W1.heap.size W1 W) := hb
    have HW : Hid (Below w.heap.size w W) := HW1.out.trans (hb.mono HW1.out.size)
    clear hb
    have HF : Hid (Sv.Folds s.se t.se rev x.en) := by rw [HSE.out]; exact Sv.folds HE0.out
    have HBT : Hid (Blk W tb (svC t) 35) := (HB2.out.block _ HTB.out.lt).trans HTB.out
    have HBS : Hid (Blk W w.heap.size (svC s) 35) := by
      have h1 : Blk W1 w.heap.size (svC s) 35 := (HB1.out.block _ HS0.out.lt).trans HS0.out
      exact (HB2.out.block _ h1.lt).trans h1
    have HBX : Hid (Blk W (w.heap.size + 1) (evC x) 37) := by
      have h1 : Blk W1 (w.heap.size + 1) (evC x) 37 := (HB1.out.block _ HX0.out.lt).trans HX0.out
      exact (HB2.out.block _ h1.lt).trans h1
    have HT2 : Hid (Srv W t) := HTS.out.below HB2.out
    have HS2 : Hid (Srv W s) := HSV.out _ HW.out
    have lt_ : t.se.log.length = t.ln := by show (t.log.map EV.en).length = t.ln; rw [List.length_map]; exact HT2.out.log.len
    have ls_ : s.se.log.length = s.ln := by show (s.log.map EV.en).length = s.ln; rw [List.length_map]; exact HS2.out.log.len
    have hlo : s.ln ≤ t.ln := by have := HF.out.lo; omega
    have hhi : t.ln ≤ s.ln + 1 := by have := HF.out.hi; omega
    have hs60 : s.ln ≤ 60 := by have := (Sv.srv_0 (Sv.take_0 HE0.out).1).1; omega
    have n1 : ¬ (t.ln : Int) < (s.ln : Int) := by omega
    have n2 : ¬ (s.ln : Int) + 1 < (t.ln : Int) := by omega
    have n3 : decide ((t.ln : Int) < (s.ln : Int)) = false := by simp; omega
    have n4 : decide ((s.ln : Int) + 1 < (t.ln : Int)) = false := by simp; omega
    have n7 : decide (t.ln < s.ln) = false := by simp; omega
    have n8 : decide (s.ln + 1 < t.ln) = false := by simp; omega
    have n9 : ¬ t.ln < s.ln := by omega
    have n10 : ¬ s.ln + 1 < t.ln := by omega
    have n5 : wrap64 ((s.ln : Int) + 1) = (s.ln : Int) + 1 := by unfold wrap64; omega
    have n6 : IntKind.i64.wrap ((s.ln : Int) + 1) = (s.ln : Int) + 1 := IntWalk.i64_in _ ⟨by omega, by omega⟩
    have htr := HT2.out.log.row.room
    have htg := HT2.out.log.row.big
    have hsl := slice_entsH t.la t.ln t.lc s.ln hlo htr
    have K1 : Hid (∀ w', Below W.heap.size W w' → Calls Tryd.prog 17 #[.agg #[.slice t.fa t.fn t.fc, .slice t.la t.ln t.lc, .slice t.na t.nn t.nc]] w' fun e w'' => e = .returned (.int .i64 0) ∧ Below W.heap.size W w'') := fun w' hb => (srvE_any t w' (HT2.out.below hb) (HSC.out _ (HW.out.trans (hb.mono HW.out.size)))).mono fun e w'' ⟨h, hb2⟩ => ⟨by rw [h, HF.out.srv], hb.trans (hb2.mono hb.size)⟩
    have K2 : Hid (∀ w', Below W.heap.size W w' → Calls Tryd.prog 18 #[.slice (subE t.la 0 t.lc) s.ln t.lc, .slice s.la s.ln s.lc, .func (.func 19) #[] #[]] w' fun e w'' => e = .returned (.bool true) ∧ Below W.heap.size W w'') := fun w' hb => (eqFuncE_any _ _ _ _ _ _ (t.log.take s.ln) s.log w' ((HT2.out.log.take s.ln hlo).below hb) (HS2.out.log.below hb)).mono fun e w'' ⟨h, hb2⟩ => ⟨by
      have h2 := HF.out.old
      rw [ls_] at h2
      rw [h, List.map_take]
      exact congrArg (fun b => Ending.returned (Value.bool b)) h2, hb.trans (hb2.mono hb.size)⟩
    have K3 : Hid (∀ w', Below W.heap.size W w' → Calls Tryd.prog 20 #[.agg #[.slice t.fa t.fn t.fc, .slice t.la t.ln t.lc, .slice t.na t.nn t.nc], .int .i64 x.who, .int .i64 x.seq] w' fun e w'' => e = .returned (.bool true) ∧ Below W.heap.size W w'') := fun w' hb => (has_any t x.who x.seq w' (HT2.out.below hb)).mono fun e w'' ⟨h, hb2⟩ => ⟨by rw [h]; exact congrArg (fun b => Ending.returned (Value.bool b)) HF.out.has, hb.trans (hb2.mono hb.size)⟩
    have K4 : Hid (t.ln = s.ln → ∀ w', Below W.heap.size W w' → Calls Tryd.prog 21 #[.agg #[.slice t.fa t.fn t.fc, .slice t.la t.ln t.lc, .slice t.na t.nn t.nc], .agg #[.slice s.fa s.fn s.fc, .slice s.la s.ln s.lc, .slice s.na s.nn s.nc]] w' fun e w'' => e = .returned (.bool true) ∧ Below W.heap.size W w'') := fun hl w' hb => (sameS_any t s w' (HT2.out.below hb) (HS2.out.below hb)).mono fun e w'' ⟨h, hb2⟩ => ⟨by rw [h, HF.out.eq (by omega)], hb.trans (hb2.mono hb.size)⟩
    have CT2 : Hid (∀ w', Below W.heap.size W w' → Calls Tryd.prog 15 #[.agg #[.slice t.fa t.fn t.fc, .slice t.la t.ln t.lc, .slice t.na t.nn t.nc], .int .i64 rev, .agg #[.int .i64 x.who, .int .i64 x.seq, .slice x.ao x.n x.cap]] w' fun e w'' => (∃ u, e = .returned (.tuple #[.agg #[.slice u.fa u.fn u.fc, .slice u.la u.ln u.lc, .slice u.na u.nn u.nc], .int .i64 0]) ∧ Srv w'' u ∧ u.se = t.se) ∧ Below w'.heap.size w' w'') := fun w' hb => by
      have hw := HW.out.trans (hb.mono HW.out.size)
      have := take_any t rev x w' (HT2.out.below hb) (HXO.out _ hw) (HSC.out _ hw)
      rw [HF.out.again, HF.out.same] at this
      exact this
    have CF : Hid (∀ w', Below W.heap.size W w' → Calls Tryd.prog 22 #[.slice t.fa t.fn t.fc, .slice t.la t.ln t.lc] w' fun e w'' => (∃ a n' c, e = .returned (.tuple #[.slice a n' c, .int .i64 0]) ∧ Doc w'' a n' c t.now) ∧ Below w'.heap.size w' w'') := fun w' hb => by
      have hw := HW.out.trans (hb.mono HW.out.size)
      have := fold_any t.fa t.fn t.fc t.first t.la t.ln t.lc t.log w' (HT2.out.below hb).first (HT2.out.below hb).log (HSC.out _ hw)
      rw [show Sv.fldE t.first (t.log.map EV.en) = 0 from HF.out.fE, show Sv.fldD t.first (t.log.map EV.en) = t.now from HF.out.fD] at this
      exact this
    have HNW : Hid (∀ w', Below W.heap.size W w' → Doc w' t.na t.nn t.nc t.now) := fun w' hb => HT2.out.now.below hb
    have HTW : Hid (∀ w', Below W.heap.size W w' → Srv w' t) := fun w' hb => HT2.out.below hb
    have HALL : Hid (∀ w', Below W.heap.size W w' → w'.cell? ⟨tb, 0, none⟩ = some (.slice t.fa t.fn t.fc) ∧ w'.cell? ⟨tb, 1, none⟩ = some (.slice t.la t.ln t.lc) ∧ w'.cell? ⟨tb, 2, none⟩ = some (.slice t.na t.nn t.nc) ∧ w'.cell? ⟨w.heap.size, 0, none⟩ = some (.slice s.fa s.fn s.fc) ∧ w'.cell? ⟨w.heap.size, 1, none⟩ = some (.slice s.la s.ln s.lc) ∧ w'.cell? ⟨w.heap.size, 2, none⟩ = some (.slice s.na s.nn s.nc) ∧ w'.cell? ⟨w.heap.size + 1, 0, none⟩ = some (.int .i64 x.who) ∧ w'.cell? ⟨w.heap.size + 1, 1, none⟩ = some (.int .i64 x.seq) ∧ w'.cell? ⟨w.heap.size + 1, 2, none⟩ = some (.slice x.ao x.n x.cap) ∧ Below W.heap.size W w') := fun w' hb => ⟨cell_below (HBT.out.cell 0) hb, cell_below (HBT.out.cell 1) hb, cell_below (HBT.out.cell 2) hb, cell_below (HBS.out.cell 0) hb, cell_below (HBS.out.cell 1) hb, cell_below (HBS.out.cell 2) hb, cell_below (HBX.out.cell 0) hb, cell_below (HBX.out.cell 1) hb, cell_below (HBX.out.cell 2) hb, hb⟩
    clear HF HSE HE0 HB2 HB1 HTB HS0 HX0 HTS HS2 HT2 HXO HSV lt_ ls_
    obtain ⟨t0, t1, t2, s0, s1, s2, x0, x1, x2, -⟩ := HALL.out W (Below.refl _ _)
    by_cases hq : t.ln = s.ln
    · have K4 : Hid _ := K4.out hq
      have hqi : ((t.ln : Int) == (s.ln : Int)) = true := by simp [hq]
      have hqn : (t.ln == s.ln) = true := by simp [hq]
      have hqd : decide (t.ln = s.ln) = true := by simp [hq]
      have hqe : decide ((t.ln : Int) = (s.ln : Int)) = true := by simp [hq]
      clear hq
      go_upto_region 5 with fail
      go_region_held3 (fun w' => w'.cell? ⟨tb, 0, none⟩ = some (.slice t.fa t.fn t.fc) ∧ w'.cell? ⟨tb, 1, none⟩ = some (.slice t.la t.ln t.lc) ∧ w'.cell? ⟨tb, 2, none⟩ = some (.slice t.na t.nn t.nc) ∧ w'.cell? ⟨w.heap.size, 0, none⟩ = some (.slice s.fa s.fn s.fc) ∧ w'.cell? ⟨w.heap.size, 1, none⟩ = some (.slice s.la s.ln s.lc) ∧ w'.cell? ⟨w.heap.size, 2, none⟩ = some (.slice s.na s.nn s.nc) ∧ w'.cell? ⟨w.heap.size + 1, 0, none⟩ = some (.int .i64 x.who) ∧ w'.cell? ⟨w.heap.size + 1, 1, none⟩ = some (.int .i64 x.seq) ∧ w'.cell? ⟨w.heap.size + 1, 2, none⟩ = some (.slice x.ao x.n x.cap) ∧ Below W.heap.size W w') (first | exact HALL.out _ (Below.refl _ _).drew | exact HALL.out _ (by assumption)) (first | (go_at_call 17; refine (K1.out _ ?_).mono ?_; exact (by assumption : _ ∧ _ ∧ _ ∧ _ ∧ _ ∧ _ ∧ _ ∧ _ ∧ _ ∧ Below W.heap.size W _).2.2.2.2.2.2.2.2.2; rintro e w7 ⟨rfl, hb⟩) | (go_at_call 18; refine (K2.out _ ?_).mono ?_; exact (by assumption : _ ∧ _ ∧ _ ∧ _ ∧ _ ∧ _ ∧ _ ∧ _ ∧ _ ∧ Below W.heap.size W _).2.2.2.2.2.2.2.2.2; rintro e w7 ⟨rfl, hb⟩) | (go_at_call 20; refine (K3.out _ ?_).mono ?_; exact (by assumption : _ ∧ _ ∧ _ ∧ _ ∧ _ ∧ _ ∧ _ ∧ _ ∧ _ ∧ Below W.heap.size W _).2.2.2.2.2.2.2.2.2; rintro e w7 ⟨rfl, hb⟩) | (go_at_call 21; refine (K4.out _ ?_).mono ?_; exact (by assumption : _ ∧ _ ∧ _ ∧ _ ∧ _ ∧ _ ∧ _ ∧ _ ∧ _ ∧ Below W.heap.size W _).2.2.2.2.2.2.2.2.2; rintro e w7 ⟨rfl, hb⟩))
      all_goals
        have HB7 : Below W.heap.size W _ := (by assumption : _ ∧ _ ∧ _ ∧ _ ∧ _ ∧ _ ∧ _ ∧ _ ∧ _ ∧ Below W.heap.size W _).2.2.2.2.2.2.2.2.2
        clear t0 t1 t2 s0 s1 s2 x0 x1 x2
        obtain ⟨t0, t1, t2, s0, s1, s2, x0, x1, x2, -⟩ := HALL.out _ HB7
        go_wp2_with fail
        refine (CT2.out _ HB7).mono ?_
        rintro e w8 ⟨⟨u, rfl, hU, hue⟩, hb⟩
        have HU : Hid (Srv (boxs u w8) u) := hU.below (boxs_below u w8)
        have HUE : Hid (u.se = t.se) := hue
        have HUB : Hid (Blk (boxs u w8) w8.heap.size (svC u) 35) := boxs_blk u w8
        have HB9 : Hid (Below W.heap.size W (boxs u w8)) := (HB7.trans (hb.mono HB7.size)).trans ((boxs_below u w8).mono (Nat.le_trans HB7.size hb.size))
        clear hb hU hue t0 t1 t2 s0 s1 s2 x0 x1 x2
        go_upto_region 8 with fail
        change Code.wp Tryd.prog _ _ _ (boxs u w8)
        generalize boxs u w8 = W9 at *
        generalize w8.heap.size = ub at *
        obtain ⟨t0, t1, t2, s0, s1, s2, x0, x1, x2, -⟩ := HALL.out _ HB9.out
        have v0 : W9.cell? ⟨ub, 0, none⟩ = some (.slice u.fa u.fn u.fc) := HUB.out.cell 0
        have v1 : W9.cell? ⟨ub, 1, none⟩ = some (.slice u.la u.ln u.lc) := HUB.out.cell 1
        have v2 : W9.cell? ⟨ub, 2, none⟩ = some (.slice u.na u.nn u.nc) := HUB.out.cell 2
        have CS : Calls Tryd.prog 21 #[.agg #[.slice u.fa u.fn u.fc, .slice u.la u.ln u.lc, .slice u.na u.nn u.nc], .agg #[.slice t.fa t.fn t.fc, .slice t.la t.ln t.lc, .slice t.na t.nn t.nc]] W9 fun e w'' => e = .returned (.bool true) ∧ Below W9.heap.size W9 w'' := (sameS_any u t W9 HU.out (HTW.out _ HB9.out)).mono fun e w'' ⟨h, hb2⟩ => ⟨by rw [h, HUE.out, Sv.sameS_self], hb2⟩
        go_wp2_with fail
        refine CS.mono ?_
        rintro e w10 ⟨rfl, hb⟩
        have HB10 : Hid (Below W.heap.size W w10) := HB9.out.trans (hb.mono HB9.out.size)
        clear hb CS t0 t1 t2 s0 s1 s2 x0 x1 x2 v0 v1 v2
        obtain ⟨t0, t1, t2, s0, s1, s2, x0, x1, x2, -⟩ := HALL.out _ HB10.out
        go_wp2_with fail
        refine (CF.out _ HB10.out).mono ?_
        rintro e w11 ⟨⟨da, dn, dc, rfl, hD⟩, hb⟩
        have HB11 : Hid (Below W.heap.size W w11) := HB10.out.trans (hb.mono HB10.out.size)
        have CD : Calls Tryd.prog 23 #[.slice da dn dc, .slice t.na t.nn t.nc] w11 fun e w'' => e = .returned (.bool true) ∧ Below w11.heap.size w11 w'' := (same_any _ _ _ _ _ _ _ _ _ hD (HNW.out _ HB11.out)).mono fun e w'' ⟨h, m, hm⟩ => ⟨by rw [h, Sv.its_self], by rw [hm]; exact drewN_blw _ m⟩
        clear hb hD t0 t1 t2 s0 s1 s2 x0 x1 x2
        obtain ⟨t0, t1, t2, s0, s1, s2, x0, x1, x2, -⟩ := HALL.out _ HB11.out
        go_wp2_with fail
        refine CD.mono ?_
        rintro e w12 ⟨rfl, hb⟩
        have HB12 : Hid (Below W.heap.size W w12) := HB11.out.trans (hb.mono HB11.out.size)
        clear hb CD
        go_wp2
        go_ret
        exact ⟨rfl, HW.out.trans (HB12.out.mono HW.out.size)⟩
    · have hqi : ((t.ln : Int) == (s.ln : Int)) = false := by simp; omega
      have hqn : (t.ln == s.ln) = false := by simp; omega
      have hqd : decide (t.ln = s.ln) = false := by simp; omega
      have hqe : decide ((t.ln : Int) = (s.ln : Int)) = false := by simp; omega
      go_upto_region 5 with fail
      refine wp_region_held_drew (S := fun w' => w'.cell? ⟨tb, 0, none⟩ = some (.slice t.fa t.fn t.fc) ∧ w'.cell? ⟨tb, 1, none⟩ = some (.slice t.la t.ln t.lc) ∧ w'.cell? ⟨tb, 2, none⟩ = some (.slice t.na t.nn t.nc) ∧ w'.cell? ⟨w.heap.size, 0, none⟩ = some (.slice s.fa s.fn s.fc) ∧ w'.cell? ⟨w.heap.size, 1, none⟩ = some (.slice s.la s.ln s.lc) ∧ w'.cell? ⟨w.heap.size, 2, none⟩ = some (.slice s.na s.nn s.nc) ∧ w'.cell? ⟨w.heap.size + 1, 0, none⟩ = some (.int .i64 x.who) ∧ w'.cell? ⟨w.heap.size + 1, 1, none⟩ = some (.int .i64 x.seq) ∧ w'.cell? ⟨w.heap.size + 1, 2, none⟩ = some (.slice x.ao x.n x.cap) ∧ Below W.heap.size W w') (by kernel_rfl) (HALL.out _ (Below.refl _ _).drew) (fun hHeld => ?_)
      refine wpAnyH_take (i := 0) (oi := ⟨some 29, _, _, _, _, _⟩) (v := ?_) rfl (by kernel_rfl) (by kernel_rfl) (by kernel_rfl) (fun _ _ _ h => h) (Or.inl ⟨by rfl, ?_⟩) hHeld ?_
      rotate_left
      · intro w' hSw
        try dsimp only at hSw
        go_simp
        try with_reducible rfl
      simp only [Act.put, List.setIfInBounds_toArray, List.set_cons_zero, List.set_cons_succ]
      refine wpAnyH_ready (rs := [1]) (by kernel_rfl) (by simp) ?_
      refine AllReadyH.cons rfl (fun K hK => ?_) AllReadyH.nil
      go_simp
      go_at_call 17
      refine (K1.out _ hHeld.2.2.2.2.2.2.2.2.2).mono ?_
      rintro e w7 ⟨rfl, hb⟩
      go_wp2_with fail
      refine hK.out _ _ (HALL.out _ hb) (fun hHeld2 => ?_)
      clear hK K hHeld
      have hHeld := hHeld2
      clear hHeld2
      refine wpAnyH_take (i := 2) (oi := ⟨some 31, _, _, _, _, _⟩) (v := ?_) rfl (by kernel_rfl) (by kernel_rfl) (by kernel_rfl) (fun _ _ _ h => h) (Or.inl ⟨by rfl, ?_⟩) hHeld ?_
      rotate_left
      · intro w' hSw
        try dsimp only at hSw
        go_simp
        try with_reducible rfl
      simp only [Act.put, List.setIfInBounds_toArray, List.set_cons_zero, List.set_cons_succ]
      refine wpAnyH_take (i := 3) (oi := ⟨some 32, _, _, _, _, _⟩) (v := ?_) rfl (by kernel_rfl) (by kernel_rfl) (by kernel_rfl) (fun _ _ _ h => h) (Or.inl ⟨by rfl, ?_⟩) hHeld ?_
      rotate_left
      · intro w' hSw
        try dsimp only at hSw
        go_simp
        try with_reducible rfl
      simp only [Act.put, List.setIfInBounds_toArray, List.set_cons_zero, List.set_cons_succ]
      refine wpAnyH_take (i := 4) (oi := ⟨some 33, _, _, _, _, _⟩) (v := ?_) rfl (by kernel_rfl) (by kernel_rfl) (by kernel_rfl) (fun _ _ _ h => h) (Or.inl ⟨by rfl, ?_⟩) hHeld ?_
      rotate_left
      · intro w' hSw
        try dsimp only at hSw
        go_simp
        try with_reducible rfl
      simp only [Act.put, List.setIfInBounds_toArray, List.set_cons_zero, List.set_cons_succ]
      refine wpAnyH_take (i := 5) (oi := ⟨some 34, _, _, _, _, _⟩) (v := ?_) rfl (by kernel_rfl) (by kernel_rfl) (by kernel_rfl) (fun _ _ _ h => h) (Or.inl ⟨by rfl, ?_⟩) hHeld ?_
      rotate_left
      · intro w' hSw
        try dsimp only at hSw
        go_simp
        try with_reducible rfl
      simp only [Act.put, List.setIfInBounds_toArray, List.set_cons_zero, List.set_cons_succ]
      refine wpAnyH_take (i := 6) (oi := ⟨some 35, _, _, _, _, _⟩) (v := ?_) rfl (by kernel_rfl) (by kernel_rfl) (by kernel_rfl) (fun _ _ _ h => h) (Or.inl ⟨by rfl, ?_⟩) hHeld ?_
      rotate_left
      · intro w' hSw
        try dsimp only at hSw
        go_simp
        try with_reducible rfl
      simp only [Act.put, List.setIfInBounds_toArray, List.set_cons_zero, List.set_cons_succ]
      refine wpAnyH_take (i := 7) (oi := ⟨some 36, _, _, _, _, _⟩) (v := ?_) rfl (by kernel_rfl) (by kernel_rfl) (by kernel_rfl) (fun _ _ _ h => h) (Or.inl ⟨by rfl, ?_⟩) hHeld ?_
      rotate_left
      · intro w' hSw
        try dsimp only at hSw
        go_simp
        try with_reducible rfl
      simp only [Act.put, List.setIfInBounds_toArray, List.set_cons_zero, List.set_cons_succ]
      refine wpAnyH_take (i := 8) (oi := ⟨some 37, _, _, _, _, _⟩) (v := ?_) rfl (by kernel_rfl) (by kernel_rfl) (by kernel_rfl) (fun _ _ _ h => h) (Or.inl ⟨by rfl, ?_⟩) hHeld ?_
      rotate_left
      · intro w' hSw
        try dsimp only at hSw
        go_simp
        try with_reducible rfl
      simp only [Act.put, List.setIfInBounds_toArray, List.set_cons_zero, List.set_cons_succ]
      refine wpAnyH_take (i := 9) (oi := ⟨some 38, _, _, _, _, _⟩) (v := ?_) rfl (by kernel_rfl) (by kernel_rfl) (by kernel_rfl) (fun _ _ _ h => h) (Or.inl ⟨by rfl, ?_⟩) hHeld ?_
      rotate_left
      · intro w' hSw
        try dsimp only at hSw
        go_simp
        try with_reducible rfl
      simp only [Act.put, List.setIfInBounds_toArray, List.set_cons_zero, List.set_cons_succ]
      refine wpAnyH_take (i := 10) (oi := ⟨some 39, _, _, _, _, _⟩) (v := ?_) rfl (by kernel_rfl) (by kernel_rfl) (by kernel_rfl) (fun _ _ _ h => h) (Or.inl ⟨by rfl, ?_⟩) hHeld ?_
      rotate_left
      · intro w' hSw
        try dsimp only at hSw
        go_simp
        try with_reducible rfl
      simp only [Act.put, List.setIfInBounds_toArray, List.set_cons_zero, List.set_cons_succ]
      refine wpAnyH_take (i := 11) (oi := ⟨some 40, _, _, _, _, _⟩) (v := ?_) rfl (by kernel_rfl) (by kernel_rfl) (by kernel_rfl) (fun _ _ _ h => h) (Or.inl ⟨by rfl, ?_⟩) hHeld ?_
      rotate_left
      · intro w' hSw
        try dsimp only at hSw
        go_simp
        try with_reducible rfl
      simp only [Act.put, List.setIfInBounds_toArray, List.set_cons_zero, List.set_cons_succ]
      refine wpAnyH_take (i := 12) (oi := ⟨some 41, _, _, _, _, _⟩) (v := ?_) rfl (by kernel_rfl) (by kernel_rfl) (by kernel_rfl) (fun _ _ _ h => h) (Or.inl ⟨by rfl, ?_⟩) hHeld ?_
      rotate_left
      · intro w' hSw
        try dsimp only at hSw
        go_simp
        try with_reducible rfl
      simp only [Act.put, List.setIfInBounds_toArray, List.set_cons_zero, List.set_cons_succ]
      refine wpAnyH_take (i := 13) (oi := ⟨some 42, _, _, _, _, _⟩) (v := ?_) rfl (by kernel_rfl) (by kernel_rfl) (by kernel_rfl) (fun _ _ _ h => h) (Or.inl ⟨by rfl, ?_⟩) hHeld ?_
      rotate_left
      · intro w' hSw
        try dsimp only at hSw
        go_simp
        try with_reducible rfl
      simp only [Act.put, List.setIfInBounds_toArray, List.set_cons_zero, List.set_cons_succ]
      refine wpAnyH_take (i := 14) (oi := ⟨some 43, _, _, _, _, _⟩) (v := ?_) rfl (by kernel_rfl) (by kernel_rfl) (by kernel_rfl) (fun _ _ _ h => h) (Or.inl ⟨by rfl, ?_⟩) hHeld ?_
      rotate_left
      · intro w' hSw
        try dsimp only at hSw
        go_simp
        try with_reducible rfl
      simp only [Act.put, List.setIfInBounds_toArray, List.set_cons_zero, List.set_cons_succ]
      refine wpAnyH_take (i := 15) (oi := ⟨some 44, _, _, _, _, _⟩) (v := ?_) rfl (by kernel_rfl) (by kernel_rfl) (by kernel_rfl) (fun _ _ _ h => h) (Or.inl ⟨by rfl, ?_⟩) hHeld ?_
      rotate_left
      · intro w' hSw
        try dsimp only at hSw
        go_simp
        try with_reducible rfl
      simp only [Act.put, List.setIfInBounds_toArray, List.set_cons_zero, List.set_cons_succ]
      refine wpAnyH_take (i := 16) (oi := ⟨some 45, _, _, _, _, _⟩) (v := ?_) rfl (by kernel_rfl) (by kernel_rfl) (by kernel_rfl) (fun _ _ _ h => h) (Or.inl ⟨by rfl, ?_⟩) hHeld ?_
      rotate_left
      · intro w' hSw
        try dsimp only at hSw
        go_simp
        try with_reducible rfl
      simp only [Act.put, List.setIfInBounds_toArray, List.set_cons_zero, List.set_cons_succ]
      refine wpAnyH_take (i := 17) (oi := ⟨some 46, _, _, _, _, _⟩) (v := ?_) rfl (by kernel_rfl) (by kernel_rfl) (by kernel_rfl) (fun _ _ _ h => h) (Or.inl ⟨by rfl, ?_⟩) hHeld ?_
      rotate_left
      · intro w' hSw
        try dsimp only at hSw
        go_simp
        try with_reducible rfl
      simp only [Act.put, List.setIfInBounds_toArray, List.set_cons_zero, List.set_cons_succ]
      refine wpAnyH_take (i := 18) (oi := ⟨some 47, _, _, _, _, _⟩) (v := ?_) rfl (by kernel_rfl) (by kernel_rfl) (by kernel_rfl) (fun _ _ _ h => h) (Or.inl ⟨by rfl, ?_⟩) hHeld ?_
      rotate_left
      · intro w' hSw
        try dsimp only at hSw
        go_simp
        try with_reducible rfl
      simp only [Act.put, List.setIfInBounds_toArray, List.set_cons_zero, List.set_cons_succ]
      refine wpAnyH_take (i := 19) (oi := ⟨some 48, _, _, _, _, _⟩) (v := ?_) rfl (by kernel_rfl) (by kernel_rfl) (by kernel_rfl) (fun _ _ _ h => h) (Or.inl ⟨by rfl, ?_⟩) hHeld ?_
      rotate_left
      · intro w' hSw
        try dsimp only at hSw
        go_simp
        try with_reducible rfl
      simp only [Act.put, List.setIfInBounds_toArray, List.set_cons_zero, List.set_cons_succ]
      refine wpAnyH_take (i := 20) (oi := ⟨some 49, _, _, _, _, _⟩) (v := ?_) rfl (by kernel_rfl) (by kernel_rfl) (by kernel_rfl) (fun _ _ _ h => h) (Or.inl ⟨by rfl, ?_⟩) hHeld ?_
      rotate_left
      · intro w' hSw
        try dsimp only at hSw
        go_simp
        try with_reducible rfl
      simp only [Act.put, List.setIfInBounds_toArray, List.set_cons_zero, List.set_cons_succ]
      refine wpAnyH_take (i := 21) (oi := ⟨some 50, _, _, _, _, _⟩) (v := ?_) rfl (by kernel_rfl) (by kernel_rfl) (by kernel_rfl) (fun _ _ _ h => h) (Or.inl ⟨by rfl, ?_⟩) hHeld ?_
      rotate_left
      · intro w' hSw
        try dsimp only at hSw
        go_simp
        try with_reducible rfl
      simp only [Act.put, List.setIfInBounds_toArray, List.set_cons_zero, List.set_cons_succ]
      refine wpAnyH_take (i := 22) (oi := ⟨some 51, _, _, _, _, _⟩) (v := ?_) rfl (by kernel_rfl) (by kernel_rfl) (by kernel_rfl) (fun _ _ _ h => h) (Or.inl ⟨by rfl, ?_⟩) hHeld ?_
      rotate_left
      · intro w' hSw
        try dsimp only at hSw
        go_simp
        try with_reducible rfl
      simp only [Act.put, List.setIfInBounds_toArray, List.set_cons_zero, List.set_cons_succ]
      refine wpAnyH_take (i := 23) (oi := ⟨some 52, _, _, _, _, _⟩) (v := ?_) rfl (by kernel_rfl) (by kernel_rfl) (by kernel_rfl) (fun _ _ _ h => h) (Or.inl ⟨by rfl, ?_⟩) hHeld ?_
      rotate_left
      · intro w' hSw
        try dsimp only at hSw
        go_simp
        try with_reducible rfl
      simp only [Act.put, List.setIfInBounds_toArray, List.set_cons_zero, List.set_cons_succ]
      refine wpAnyH_take (i := 24) (oi := ⟨some 53, _, _, _, _, _⟩) (v := ?_) rfl (by kernel_rfl) (by kernel_rfl) (by kernel_rfl) (fun _ _ _ h => h) (Or.inl ⟨by rfl, ?_⟩) hHeld ?_
      rotate_left
      · intro w' hSw
        try dsimp only at hSw
        go_simp
        try with_reducible rfl
      simp only [Act.put, List.setIfInBounds_toArray, List.set_cons_zero, List.set_cons_succ]
      refine wpAnyH_ready (rs := [25]) (by kernel_rfl) (by simp) ?_
      refine AllReadyH.cons rfl (fun K hK => ?_) AllReadyH.nil
      go_simp
      go_at_call 18
      refine (K2.out _ hHeld.2.2.2.2.2.2.2.2.2).mono ?_
      rintro e w8 ⟨rfl, hb⟩
      go_wp2_with fail
      refine hK.out _ _ (HALL.out _ hb) (fun hHeld2 => ?_)
      clear hK K hHeld
      have hHeld := hHeld2
      clear hHeld2
      refine wpAnyH_take (i := 26) (oi := ⟨some 55, _, _, _, _, _⟩) (v := ?_) rfl (by kernel_rfl) (by kernel_rfl) (by kernel_rfl) (fun _ _ _ h => h) (Or.inl ⟨by rfl, ?_⟩) hHeld ?_
      rotate_left
      · intro w' hSw
        try dsimp only at hSw
        go_simp
        try with_reducible rfl
      simp only [Act.put, List.setIfInBounds_toArray, List.set_cons_zero, List.set_cons_succ]
      refine wpAnyH_take (i := 27) (oi := ⟨some 56, _, _, _, _, _⟩) (v := ?_) rfl (by kernel_rfl) (by kernel_rfl) (by kernel_rfl) (fun _ _ _ h => h) (Or.inl ⟨by rfl, ?_⟩) hHeld ?_
      rotate_left
      · intro w' hSw
        try dsimp only at hSw
        go_simp
        try with_reducible rfl
      simp only [Act.put, List.setIfInBounds_toArray, List.set_cons_zero, List.set_cons_succ]
      refine wpAnyH_take (i := 28) (oi := ⟨some 57, _, _, _, _, _⟩) (v := ?_) rfl (by kernel_rfl) (by kernel_rfl) (by kernel_rfl) (fun _ _ _ h => h) (Or.inl ⟨by rfl, ?_⟩) hHeld ?_
      rotate_left
      · intro w' hSw
        try dsimp only at hSw
        go_simp
        try with_reducible rfl
      simp only [Act.put, List.setIfInBounds_toArray, List.set_cons_zero, List.set_cons_succ]
      refine wpAnyH_take (i := 29) (oi := ⟨some 58, _, _, _, _, _⟩) (v := ?_) rfl (by kernel_rfl) (by kernel_rfl) (by kernel_rfl) (fun _ _ _ h => h) (Or.inl ⟨by rfl, ?_⟩) hHeld ?_
      rotate_left
      · intro w' hSw
        try dsimp only at hSw
        go_simp
        try with_reducible rfl
      simp only [Act.put, List.setIfInBounds_toArray, List.set_cons_zero, List.set_cons_succ]
      refine wpAnyH_take (i := 30) (oi := ⟨some 59, _, _, _, _, _⟩) (v := ?_) rfl (by kernel_rfl) (by kernel_rfl) (by kernel_rfl) (fun _ _ _ h => h) (Or.inl ⟨by rfl, ?_⟩) hHeld ?_
      rotate_left
      · intro w' hSw
        try dsimp only at hSw
        go_simp
        try with_reducible rfl
      simp only [Act.put, List.setIfInBounds_toArray, List.set_cons_zero, List.set_cons_succ]
      refine wpAnyH_take (i := 31) (oi := ⟨some 60, _, _, _, _, _⟩) (v := ?_) rfl (by kernel_rfl) (by kernel_rfl) (by kernel_rfl) (fun _ _ _ h => h) (Or.inl ⟨by rfl, ?_⟩) hHeld ?_
      rotate_left
      · intro w' hSw
        try dsimp only at hSw
        go_simp
        try with_reducible rfl
      simp only [Act.put, List.setIfInBounds_toArray, List.set_cons_zero, List.set_cons_succ]
      refine wpAnyH_take (i := 32) (oi := ⟨some 61, _, _, _, _, _⟩) (v := ?_) rfl (by kernel_rfl) (by kernel_rfl) (by kernel_rfl) (fun _ _ _ h => h) (Or.inl ⟨by rfl, ?_⟩) hHeld ?_
      rotate_left
      · intro w' hSw
        try dsimp only at hSw
        go_simp
        try with_reducible rfl
      simp only [Act.put, List.setIfInBounds_toArray, List.set_cons_zero, List.set_cons_succ]
      refine wpAnyH_take (i := 33) (oi := ⟨some 62, _, _, _, _, _⟩) (v := ?_) rfl (by kernel_rfl) (by kernel_rfl) (by kernel_rfl) (fun _ _ _ h => h) (Or.inl ⟨by rfl, ?_⟩) hHeld ?_
      rotate_left
      · intro w' hSw
        try dsimp only at hSw
        go_simp
        try with_reducible rfl
      simp only [Act.put, List.setIfInBounds_toArray, List.set_cons_zero, List.set_cons_succ]
      refine wpAnyH_ready (rs := [34]) (by kernel_rfl) (by simp) ?_
      refine AllReadyH.cons rfl (fun K hK => ?_) AllReadyH.nil
      go_simp
      go_at_call 20
      refine (K3.out _ hHeld.2.2.2.2.2.2.2.2.2).mono ?_
      rintro e w9 ⟨rfl, hb⟩
      go_wp2_with fail
      refine hK.out _ _ (HALL.out _ hb) (fun hHeld2 => ?_)
      clear hK K hHeld
      have hHeld := hHeld2
      clear hHeld2
      refine wpAnyH_take (i := 35) (oi := ⟨some 64, _, _, _, _, _⟩) (v := ?_) rfl (by kernel_rfl) (by kernel_rfl) (by kernel_rfl) (fun _ _ _ h => h) (Or.inl ⟨by rfl, ?_⟩) hHeld ?_
      rotate_left
      · intro w' hSw
        try dsimp only at hSw
        go_simp
        try with_reducible rfl
      simp only [Act.put, List.setIfInBounds_toArray, List.set_cons_zero, List.set_cons_succ]
      refine wpAnyH_take (i := 36) (oi := ⟨some 65, _, _, _, _, _⟩) (v := ?_) rfl (by kernel_rfl) (by kernel_rfl) (by kernel_rfl) (fun _ _ _ h => h) (Or.inl ⟨by rfl, ?_⟩) hHeld ?_
      rotate_left
      · intro w' hSw
        try dsimp only at hSw
        go_simp
        try with_reducible rfl
      simp only [Act.put, List.setIfInBounds_toArray, List.set_cons_zero, List.set_cons_succ]
      refine wpAnyH_take (i := 37) (oi := ⟨some 66, _, _, _, _, _⟩) (v := ?_) rfl (by kernel_rfl) (by kernel_rfl) (by kernel_rfl) (fun _ _ _ h => h) (Or.inl ⟨by rfl, ?_⟩) hHeld ?_
      rotate_left
      · intro w' hSw
        try dsimp only at hSw
        go_simp
        try with_reducible rfl
      simp only [Act.put, List.setIfInBounds_toArray, List.set_cons_zero, List.set_cons_succ]
      refine wpAnyH_take (i := 38) (oi := ⟨some 67, _, _, _, _, _⟩) (v := ?_) rfl (by kernel_rfl) (by kernel_rfl) (by kernel_rfl) (fun _ _ _ h => h) (Or.inl ⟨by rfl, ?_⟩) hHeld ?_
      rotate_left
      · intro w' hSw
        try dsimp only at hSw
        go_simp
        try with_reducible rfl
      simp only [Act.put, List.setIfInBounds_toArray, List.set_cons_zero, List.set_cons_succ]
      refine wpAnyH_take (i := 39) (oi := ⟨some 68, _, _, _, _, _⟩) (v := ?_) rfl (by kernel_rfl) (by kernel_rfl) (by kernel_rfl) (fun _ _ _ h => h) (Or.inl ⟨by rfl, ?_⟩) hHeld ?_
      rotate_left
      · intro w' hSw
        try dsimp only at hSw
        go_simp
        try with_reducible rfl
      simp only [Act.put, List.setIfInBounds_toArray, List.set_cons_zero, List.set_cons_succ]
      refine wpAnyH_take (i := 40) (oi := ⟨some 69, _, _, _, _, _⟩) (v := ?_) rfl (by kernel_rfl) (by kernel_rfl) (by kernel_rfl) (fun _ _ _ h => h) (Or.inl ⟨by rfl, ?_⟩) hHeld ?_
      rotate_left
      · intro w' hSw
        try dsimp only at hSw
        go_simp
        try with_reducible rfl
      simp only [Act.put, List.setIfInBounds_toArray, List.set_cons_zero, List.set_cons_succ]
      refine wpAnyH_take (i := 41) (oi := ⟨some 70, _, _, _, _, _⟩) (v := ?_) rfl (by kernel_rfl) (by kernel_rfl) (by kernel_rfl) (fun _ _ _ h => h) (Or.inl ⟨by rfl, ?_⟩) hHeld ?_
      rotate_left
      · intro w' hSw
        try dsimp only at hSw
        go_simp
        try with_reducible rfl
      simp only [Act.put, List.setIfInBounds_toArray, List.set_cons_zero, List.set_cons_succ]
      refine wpAnyH_take (i := 42) (oi := ⟨some 71, _, _, _, _, _⟩) (v := ?_) rfl (by kernel_rfl) (by kernel_rfl) (by kernel_rfl) (fun _ _ _ h => h) (Or.inl ⟨by rfl, ?_⟩) hHeld ?_
      rotate_left
      · intro w' hSw
        try dsimp only at hSw
        go_simp
        try with_reducible rfl
      simp only [Act.put, List.setIfInBounds_toArray, List.set_cons_zero, List.set_cons_succ]
      refine wpAnyH_take (i := 43) (oi := ⟨some 72, _, _, _, _, _⟩) (v := ?_) rfl (by kernel_rfl) (by kernel_rfl) (by kernel_rfl) (fun _ _ _ h => h) (Or.inl ⟨by rfl, ?_⟩) hHeld ?_
      rotate_left
      · intro w' hSw
        try dsimp only at hSw
        go_simp
        try with_reducible rfl
      simp only [Act.put, List.setIfInBounds_toArray, List.set_cons_zero, List.set_cons_succ]
      refine wpAnyH_take (i := 44) (oi := ⟨some 73, _, _, _, _, _⟩) (v := undef) rfl (by kernel_rfl) (by kernel_rfl) (by kernel_rfl) (fun _ _ _ h => h) (Or.inr ⟨by rfl, rfl⟩) hHeld ?_
      simp only [Act.put, List.setIfInBounds_toArray, List.set_cons_zero, List.set_cons_succ]
      refine wpAnyH_take (i := 45) (oi := ⟨some 74, _, _, _, _, _⟩) (v := undef) rfl (by kernel_rfl) (by kernel_rfl) (by kernel_rfl) (fun _ _ _ h => h) (Or.inr ⟨by rfl, rfl⟩) hHeld ?_
      simp only [Act.put, List.setIfInBounds_toArray, List.set_cons_zero, List.set_cons_succ]
      refine wpAnyH_take (i := 46) (oi := ⟨some 75, _, _, _, _, _⟩) (v := undef) rfl (by kernel_rfl) (by kernel_rfl) (by kernel_rfl) (fun _ _ _ h => h) (Or.inr ⟨by rfl, rfl⟩) hHeld ?_
      simp only [Act.put, List.setIfInBounds_toArray, List.set_cons_zero, List.set_cons_succ]
      refine wpAnyH_take (i := 47) (oi := ⟨some 76, _, _, _, _, _⟩) (v := undef) rfl (by kernel_rfl) (by kernel_rfl) (by kernel_rfl) (fun _ _ _ h => h) (Or.inr ⟨by rfl, rfl⟩) hHeld ?_
      simp only [Act.put, List.setIfInBounds_toArray, List.set_cons_zero, List.set_cons_succ]
      refine wpAnyH_take (i := 48) (oi := ⟨some 77, _, _, _, _, _⟩) (v := ?_) rfl (by kernel_rfl) (by kernel_rfl) (by kernel_rfl) (fun _ _ _ h => h) (Or.inl ⟨by rfl, ?_⟩) hHeld ?_
      rotate_left
      · intro w' hSw
        try dsimp only at hSw
        go_simp
        try with_reducible rfl
      simp only [Act.put, List.setIfInBounds_toArray, List.set_cons_zero, List.set_cons_succ]
      refine wpAnyH_take (i := 49) (oi := ⟨some 78, _, _, _, _, _⟩) (v := ?_) rfl (by kernel_rfl) (by kernel_rfl) (by kernel_rfl) (fun _ _ _ h => h) (Or.inl ⟨by rfl, ?_⟩) hHeld ?_
      rotate_left
      · intro w' hSw
        try dsimp only at hSw
        go_simp
        try with_reducible rfl
      simp only [Act.put, List.setIfInBounds_toArray, List.set_cons_zero, List.set_cons_succ]
      refine wpAnyH_done (by kernel_rfl) ?_ _
      have HB7 := hHeld.2.2.2.2.2.2.2.2.2
      clear t0 t1 t2 s0 s1 s2 x0 x1 x2
      obtain ⟨t0, t1, t2, s0, s1, s2, x0, x1, x2, -⟩ := HALL.out _ HB7
      go_wp2_with fail
      refine (CT2.out _ HB7).mono ?_
      rintro e w8 ⟨⟨u, rfl, hU, hue⟩, hb⟩
      have HU : Hid (Srv (boxs u w8) u) := hU.below (boxs_below u w8)
      have HUE : Hid (u.se = t.se) := hue
      have HUB : Hid (Blk (boxs u w8) w8.heap.size (svC u) 35) := boxs_blk u w8
      have HB9 : Hid (Below W.heap.size W (boxs u w8)) := (HB7.trans (hb.mono HB7.size)).trans ((boxs_below u w8).mono (Nat.le_trans HB7.size hb.size))
      clear hb hU hue t0 t1 t2 s0 s1 s2 x0 x1 x2
      go_upto_region 8 with fail
      change Code.wp Tryd.prog _ _ _ (boxs u w8)
      generalize boxs u w8 = W9 at *
      generalize w8.heap.size = ub at *
      obtain ⟨t0, t1, t2, s0, s1, s2, x0, x1, x2, -⟩ := HALL.out _ HB9.out
      have v0 : W9.cell? ⟨ub, 0, none⟩ = some (.slice u.fa u.fn u.fc) := HUB.out.cell 0
      have v1 : W9.cell? ⟨ub, 1, none⟩ = some (.slice u.la u.ln u.lc) := HUB.out.cell 1
      have v2 : W9.cell? ⟨ub, 2, none⟩ = some (.slice u.na u.nn u.nc) := HUB.out.cell 2
      have CS : Calls Tryd.prog 21 #[.agg #[.slice u.fa u.fn u.fc, .slice u.la u.ln u.lc, .slice u.na u.nn u.nc], .agg #[.slice t.fa t.fn t.fc, .slice t.la t.ln t.lc, .slice t.na t.nn t.nc]] W9 fun e w'' => e = .returned (.bool true) ∧ Below W9.heap.size W9 w'' := (sameS_any u t W9 HU.out (HTW.out _ HB9.out)).mono fun e w'' ⟨h, hb2⟩ => ⟨by rw [h, HUE.out, Sv.sameS_self], hb2⟩
      go_wp2_with fail
      refine CS.mono ?_
      rintro e w10 ⟨rfl, hb⟩
      have HB10 : Hid (Below W.heap.size W w10) := HB9.out.trans (hb.mono HB9.out.size)
      clear hb CS t0 t1 t2 s0 s1 s2 x0 x1 x2 v0 v1 v2
      obtain ⟨t0, t1, t2, s0, s1, s2, x0, x1, x2, -⟩ := HALL.out _ HB10.out
      go_wp2_with fail
      refine (CF.out _ HB10.out).mono ?_
      rintro e w11 ⟨⟨da, dn, dc, rfl, hD⟩, hb⟩
      have HB11 : Hid (Below W.heap.size W w11) := HB10.out.trans (hb.mono HB10.out.size)
      have CD : Calls Tryd.prog 23 #[.slice da dn dc, .slice t.na t.nn t.nc] w11 fun e w'' => e = .returned (.bool true) ∧ Below w11.heap.size w11 w'' := (same_any _ _ _ _ _ _ _ _ _ hD (HNW.out _ HB11.out)).mono fun e w'' ⟨h, m, hm⟩ => ⟨by rw [h, Sv.its_self], by rw [hm]; exact drewN_blw _ m⟩
      clear hb hD t0 t1 t2 s0 s1 s2 x0 x1 x2
      obtain ⟨t0, t1, t2, s0, s1, s2, x0, x1, x2, -⟩ := HALL.out _ HB11.out
      go_wp2_with fail
      refine CD.mono ?_
      rintro e w12 ⟨rfl, hb⟩
      have HB12 : Hid (Below W.heap.size W w12) := HB11.out.trans (hb.mono HB11.out.size)
      clear hb CD
      go_wp2
      go_ret
      exact ⟨rfl, HW.out.trans (HB12.out.mono HW.out.size)⟩
  · have hne : (r != 0) = true := by simp [hz]
    clear hz
    go_enter Tryd.func4, Tryd.ntmps4
    go_upto_region 1 with fail
    change Code.wp Tryd.prog _ _ _ (boxe x (boxs s w))
    generalize (boxe x (boxs s w)) = W0 at *
    have p0 : W0.cell? ⟨w.heap.size, 0, none⟩ = some (.slice s.fa s.fn s.fc) := HS0.out.cell 0
    have p1 : W0.cell? ⟨w.heap.size, 1, none⟩ = some (.slice s.la s.ln s.lc) := HS0.out.cell 1
    have p2 : W0.cell? ⟨w.heap.size, 2, none⟩ = some (.slice s.na s.nn s.nc) := HS0.out.cell 2
    have a0 : W0.cell? ⟨w.heap.size + 1, 0, none⟩ = some (.int .i64 x.who) := HX0.out.cell 0
    have a1 : W0.cell? ⟨w.heap.size + 1, 1, none⟩ = some (.int .i64 x.seq) := HX0.out.cell 1
    have a2 : W0.cell? ⟨w.heap.size + 1, 2, none⟩ = some (.slice x.ao x.n x.cap) := HX0.out.cell 2
    go_wp2_with fail
    refine CT.out.mono ?_
    rintro e w1 ⟨⟨t, rfl, hT, hse⟩, hb⟩
    have HB1 : Hid (Below W0.heap.size W0 (boxs t w1)) := hb.trans ((boxs_below t w1).mono hb.size)
    have HTB : Hid (Blk (boxs t w1) w1.heap.size (svC t) 35) := boxs_blk t w1
    have HTS : Hid (Srv (boxs t w1) t) := hT.below (boxs_below t w1)
    have HSE : Hid (t.se = Sv.takS s.se rev x.en) := hse
    clear hT hse hb p0 p1 p2 a0 a1 a2 CT
    go_upto_region 2 with fail
    change Code.wp Tryd.prog _ _ _ (boxs t w1)
    generalize boxs t w1 = W1 at *
    generalize w1.heap.size = tb at *
    have HW1 : Hid (Below w.heap.size w W1) := H0.out.trans (HB1.out.mono H0.out.size)
    go_wp2_with fail
    refine (served_any W1 (HSC.out _ HW1.out)).mono ?_
    rintro e W ⟨rfl, hb⟩
    have HB2 : Hid (Below W1.heap.size W1 W) := hb
    have HW : Hid (Below w.heap.size w W) := HW1.out.trans (hb.mono HW1.out.size)
    clear hb
    go_wp2_with fail
    refine (served_any W (HSC.out _ HW.out)).mono ?_
    rintro e w3 ⟨rfl, hb⟩
    have HW3 : Hid (Below w.heap.size w w3) := HW.out.trans (hb.mono HW.out.size)
    clear hb
    go_wp2
    go_ret
    exact ⟨rfl, HW3.out⟩
end Go.Proofs.YtbhcklkbckacpaaDoor
