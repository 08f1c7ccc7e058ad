/-
  The reference's ServerTakes, of a right server, case by case.
-/
import Derived.Test.YtbhcklkbckacpaaGreatDoorWb
import Derived.Test.YtbhcklkbckacpaaGreatDoorWc
namespace Go.Proofs.YtbhcklkbckacpaaGreatDoor
open Go.RowKit

set_option maxRecDepth 100000 in
set_option maxHeartbeats 3200000 in
theorem rtake_bad (s : SV) (rev : Int) (x : EV) (w : World) (hV : Srv w s) (hO : Ops w x.ao x.n x.cap x.vs) (q : Int) (hq : Sv.entE x.en = q) (hz : ¬ q = 0) :
    Calls Tryz.prog 32 #[.agg #[.slice s.fa s.fn s.fc, .slice s.la s.ln s.lc, .slice s.na s.nn s.nc], .int .i64 rev, .agg #[.int .i64 x.who, .int .i64 x.seq, .slice x.ao x.n x.cap]] w fun e w' => (∃ t, e = .returned (.tuple #[svA t, .int .i64 q]) ∧ Srv w' t ∧ t.se = ⟨[], [], []⟩) ∧ Below w.heap.size w w' := by
  have H1 : Hid (Below w.heap.size w (boxs sv0 (boxe x (boxs s w)))) := (boxs_below s w).trans (((boxe_below x _).trans ((boxs_below sv0 _).mono (boxe_below x _).size)).mono (boxs_below s w).size)
  have HS0 : Hid (Blk (boxs sv0 (boxe x (boxs s w))) (w.heap.size) (svC s) 42) := ((boxs_blk s w).alloc _).alloc _
  have HX0 : Hid (Blk (boxs sv0 (boxe x (boxs s w))) (w.heap.size + 1) (evC x) 46) := by have := (boxe_blk x (boxs s w)).alloc (.cells #[.slice none 0 0, .slice none 0 0, .slice none 0 0] 42); rw [boxs_size] at this; exact this
  have HR0 : Hid (Blk (boxs sv0 (boxe x (boxs s w))) (w.heap.size + 2) (svC sv0) 42) := by have := boxs_blk sv0 (boxe x (boxs s w)); rw [boxe_size, boxs_size] at this; exact this
  have CE : Hid (Calls Tryz.prog 83 #[.agg #[.int .i64 x.who, .int .i64 x.seq, .slice x.ao x.n x.cap]] (boxs sv0 (boxe x (boxs s w))) fun e w' => e = .returned (.int .i64 (Sv.entE x.en)) ∧ Below (boxs sv0 (boxe x (boxs s w))).heap.size (boxs sv0 (boxe x (boxs s w))) w') := entR_any x _ (hO.below H1.out)
  have HV : Hid (∀ w', Below w.heap.size w w' → Srv w' s) := fun w' hb => hV.below hb
  have HN : Hid (s.log.length = s.ln) := hV.log.len
  have hrm := hV.log.row.room
  have hbg := hV.log.row.big
  clear hV hO
  rw [hq] at CE
  have hne : (q != 0) = true := by simp [hz]
  clear hq hz
  go_enter Tryz.func32, Tryz.ntmps32
  go_upto_region 2 with fail
  change Code.wp Tryz.prog _ _ _ (boxs sv0 (boxe x (boxs s w)))
  generalize (boxs sv0 (boxe x (boxs s w))) = W0 at *
  have a0 : W0.cell? ⟨w.heap.size + 1, 0, none⟩ = some (.int .i64 x.who) := HX0.out.cell 0
  have a1 : W0.cell? ⟨w.heap.size + 1, 1, none⟩ = some (.int .i64 x.seq) := HX0.out.cell 1
  have a2 : W0.cell? ⟨w.heap.size + 1, 2, none⟩ = some (.slice x.ao x.n x.cap) := HX0.out.cell 2
  go_wp2_with fail
  refine CE.out.mono ?_
  rintro e w1 ⟨rfl, hb⟩
  have HB1 : Hid (Below W0.heap.size W0 w1) := hb
  have HW1 : Hid (Below w.heap.size w w1) := H1.out.trans (hb.mono H1.out.size)
  have HS1 : Hid (Blk w1 (w.heap.size) (svC s) 42) := (hb.block _ HS0.out.lt).trans HS0.out
  have HX1 : Hid (Blk w1 (w.heap.size + 1) (evC x) 46) := (hb.block _ HX0.out.lt).trans HX0.out
  have HR1 : Hid (Blk w1 (w.heap.size + 2) (svC sv0) 42) := (hb.block _ HR0.out.lt).trans HR0.out
  clear hb a0 a1 a2 HS0 HX0 HR0 CE H1 HB1
  have hsz : w.heap.size + 2 < w1.heap.size := HR1.out.lt
  go_wp2_with fail
  refine (failR_any q w1).mono ?_
  rintro e wf ⟨rfl, hb⟩
  have hRf : Blk wf (w.heap.size + 2) (svC sv0) 42 := (hb.block _ HR1.out.lt).trans HR1.out
  have hWf : Below w.heap.size w wf := HW1.out.trans (hb.mono HW1.out.size)
  clear hb
  have r0 : wf.cell? ⟨w.heap.size + 2, 0, none⟩ = some (.slice none 0 0) := hRf.cell 0
  have r1 : wf.cell? ⟨w.heap.size + 2, 1, none⟩ = some (.slice none 0 0) := hRf.cell 1
  have r2 : wf.cell? ⟨w.heap.size + 2, 2, none⟩ = some (.slice none 0 0) := hRf.cell 2
  have g0 := hRf.frozen 0
  have g1 := hRf.frozen 1
  have g2 := hRf.frozen 2
  go_wp2
  change bodyPost Tryz.prog _ _ Exit.ret _ (putS wf (w.heap.size + 2) sv0)
  exact bodyPost_ret (ret_srv2 (t := sv0) rfl _ rfl rfl (putS_blk hRf)) rfl ⟨⟨sv0, rfl, (SrvFrom.nil 0 _).srv, rfl⟩, hWf.trans ((putS_below _ _ _).mono (by omega))⟩

set_option maxRecDepth 100000 in
set_option maxHeartbeats 3200000 in
theorem rtake_has (s : SV) (rev : Int) (x : EV) (w : World) (hV : Srv w s) (hO : Ops w x.ao x.n x.cap x.vs) (h2 : Sv.entE x.en = 0) (hh : Sv.has s.se x.who x.seq = true) :
    Calls Tryz.prog 32 #[.agg #[.slice s.fa s.fn s.fc, .slice s.la s.ln s.lc, .slice s.na s.nn s.nc], .int .i64 rev, .agg #[.int .i64 x.who, .int .i64 x.seq, .slice x.ao x.n x.cap]] w fun e w' => (∃ t, e = .returned (.tuple #[svA t, .int .i64 0]) ∧ Srv w' t ∧ t.se = s.se) ∧ Below w.heap.size w w' := by
  have H1 : Hid (Below w.heap.size w (boxs sv0 (boxe x (boxs s w)))) := (boxs_below s w).trans (((boxe_below x _).trans ((boxs_below sv0 _).mono (boxe_below x _).size)).mono (boxs_below s w).size)
  have HS0 : Hid (Blk (boxs sv0 (boxe x (boxs s w))) (w.heap.size) (svC s) 42) := ((boxs_blk s w).alloc _).alloc _
  have HX0 : Hid (Blk (boxs sv0 (boxe x (boxs s w))) (w.heap.size + 1) (evC x) 46) := by have := (boxe_blk x (boxs s w)).alloc (.cells #[.slice none 0 0, .slice none 0 0, .slice none 0 0] 42); rw [boxs_size] at this; exact this
  have HR0 : Hid (Blk (boxs sv0 (boxe x (boxs s w))) (w.heap.size + 2) (svC sv0) 42) := by have := boxs_blk sv0 (boxe x (boxs s w)); rw [boxe_size, boxs_size] at this; exact this
  have CE : Hid (Calls Tryz.prog 83 #[.agg #[.int .i64 x.who, .int .i64 x.seq, .slice x.ao x.n x.cap]] (boxs sv0 (boxe x (boxs s w))) fun e w' => e = .returned (.int .i64 (Sv.entE x.en)) ∧ Below (boxs sv0 (boxe x (boxs s w))).heap.size (boxs sv0 (boxe x (boxs s w))) w') := entR_any x _ (hO.below H1.out)
  have HV : Hid (∀ w', Below w.heap.size w w' → Srv w' s) := fun w' hb => hV.below hb
  have HN : Hid (s.log.length = s.ln) := hV.log.len
  have hrm := hV.log.row.room
  have hbg := hV.log.row.big
  clear hV hO
  rw [h2] at CE
  have HH : Hid ((s.log.map EV.en).any (Sv.isE x.who x.seq) = true) := hh
  clear h2 hh
  go_enter Tryz.func32, Tryz.ntmps32
  go_upto_region 2 with fail
  change Code.wp Tryz.prog _ _ _ (boxs sv0 (boxe x (boxs s w)))
  generalize (boxs sv0 (boxe x (boxs s w))) = W0 at *
  have a0 : W0.cell? ⟨w.heap.size + 1, 0, none⟩ = some (.int .i64 x.who) := HX0.out.cell 0
  have a1 : W0.cell? ⟨w.heap.size + 1, 1, none⟩ = some (.int .i64 x.seq) := HX0.out.cell 1
  have a2 : W0.cell? ⟨w.heap.size + 1, 2, none⟩ = some (.slice x.ao x.n x.cap) := HX0.out.cell 2
  go_wp2_with fail
  refine CE.out.mono ?_
  rintro e w1 ⟨rfl, hb⟩
  have HB1 : Hid (Below W0.heap.size W0 w1) := hb
  have HW1 : Hid (Below w.heap.size w w1) := H1.out.trans (hb.mono H1.out.size)
  have HS1 : Hid (Blk w1 (w.heap.size) (svC s) 42) := (hb.block _ HS0.out.lt).trans HS0.out
  have HX1 : Hid (Blk w1 (w.heap.size + 1) (evC x) 46) := (hb.block _ HX0.out.lt).trans HX0.out
  have HR1 : Hid (Blk w1 (w.heap.size + 2) (svC sv0) 42) := (hb.block _ HR0.out.lt).trans HR0.out
  clear hb a0 a1 a2 HS0 HX0 HR0 CE H1 HB1
  have hsz : w.heap.size + 2 < w1.heap.size := HR1.out.lt
  have p0 : w1.cell? ⟨w.heap.size, 0, none⟩ = some (.slice s.fa s.fn s.fc) := HS1.out.cell 0
  have p1 : w1.cell? ⟨w.heap.size, 1, none⟩ = some (.slice s.la s.ln s.lc) := HS1.out.cell 1
  have p2 : w1.cell? ⟨w.heap.size, 2, none⟩ = some (.slice s.na s.nn s.nc) := HS1.out.cell 2
  go_wp2
  go_loopw [30] (fun i wr => ∃ k : Nat, k ≤ s.ln ∧ i = .int .i64 k ∧ Below w1.heap.size w1 wr ∧ ((s.log.map EV.en).drop k).any (Sv.isE x.who x.seq) = true) (fun i _ => s.ln - (intOf i).toNat)
  case atStart => exact ⟨0, Nat.zero_le _, rfl, Below.refl _ _, HH.out⟩
  case round =>
    obtain ⟨k, hk, rfl, hbr, hsm⟩ := hrel
    have HM : Hid (((s.log.map EV.en).drop k).any (Sv.isE x.who x.seq) = true) := hsm
    have HBR : Hid (Below w1.heap.size w1 wr) := hbr
    clear hsm hbr p0 p1 p2
    by_cases hlt : k < s.ln
    · have hE := (HV.out _ (HW1.out.trans (HBR.out.mono HW1.out.size))).log
      obtain ⟨b, off, hla, hGt⟩ := hE.get (by omega)
      have hkl : k < s.log.length := by rw [HN.out]; exact hlt
      have HXX : Hid (((s.log.map EV.en).drop k).any (Sv.isE x.who x.seq) = (Sv.isE x.who x.seq s.log[k].en || ((s.log.map EV.en).drop (k + 1)).any (Sv.isE x.who x.seq))) := by
        show _ = _
        rw [List.drop_eq_getElem_cons (by rw [List.length_map]; exact hkl), List.any_cons, List.getElem_map]
      obtain ⟨a0, a1, a2⟩ := hGt k hkl
      have HB8 : Hid (Below w1.heap.size w1 (boxe s.log[k] wr)) := HBR.out.trans ((boxe_below _ wr).mono HBR.out.size)
      have HT : Hid (Thr (boxe s.log[k] wr) wr.heap.size 0 s.log[k]) := boxe_at s.log[k] wr
      clear hGt hE
      generalize s.log[k] = v at *
      rw [hla]
      go_upto_region 8 with fail
      change Code.wp Tryz.prog _ _ _ (boxe v wr)
      generalize boxe v wr = W8 at *
      clear a0 a1 a2
      obtain ⟨a0, a1, a2⟩ := HT.out
      simp only [Nat.zero_add] at a0 a1 a2
      have HX8 : Blk W8 (w.heap.size + 1) (evC x) 46 := (HB8.out.block _ HX1.out.lt).trans HX1.out
      have HS8 : Blk W8 (w.heap.size) (svC s) 42 := (HB8.out.block _ HS1.out.lt).trans HS1.out
      have HR8 : Blk W8 (w.heap.size + 2) (svC sv0) 42 := (HB8.out.block _ HR1.out.lt).trans HR1.out
      have HW8 : Below w.heap.size w W8 := HW1.out.trans (HB8.out.mono HW1.out.size)
      have x0 : W8.cell? ⟨w.heap.size + 1, 0, none⟩ = some (.int .i64 x.who) := HX8.cell 0
      have x1 : W8.cell? ⟨w.heap.size + 1, 1, none⟩ = some (.int .i64 x.seq) := HX8.cell 1
      have x2 : W8.cell? ⟨w.heap.size + 1, 2, none⟩ = some (.slice x.ao x.n x.cap) := HX8.cell 2
      cases hal : Sv.isE x.who x.seq v.en
      · have HM2 : Hid (((s.log.map EV.en).drop (k + 1)).any (Sv.isE x.who x.seq) = true) := by show _ = _; rw [← HM.out, HXX.out, hal, Bool.false_or]
        cases h1 : (v.who == x.who)
        · go_wp2
          go_roundw
          case rel => exact ⟨k + 1, by omega, by go_num, HB8.out, HM2.out⟩
          case measure => simp [intOf]; omega
        · have h2 : (v.seq == x.seq) = false := by have h := hal; unfold Sv.isE at h; simp only [EV.en] at h; rw [h1] at h; exact h
          go_wp2
          go_roundw
          case rel => exact ⟨k + 1, by omega, by go_num, HB8.out, HM2.out⟩
          case measure => simp [intOf]; omega
      · have q0 : W8.cell? ⟨w.heap.size, 0, none⟩ = some (.slice s.fa s.fn s.fc) := HS8.cell 0
        have q1 : W8.cell? ⟨w.heap.size, 1, none⟩ = some (.slice s.la s.ln s.lc) := HS8.cell 1
        have q2 : W8.cell? ⟨w.heap.size, 2, none⟩ = some (.slice s.na s.nn s.nc) := HS8.cell 2
        have r0 : W8.cell? ⟨w.heap.size + 2, 0, none⟩ = some (.slice none 0 0) := HR8.cell 0
        have r1 : W8.cell? ⟨w.heap.size + 2, 1, none⟩ = some (.slice none 0 0) := HR8.cell 1
        have r2 : W8.cell? ⟨w.heap.size + 2, 2, none⟩ = some (.slice none 0 0) := HR8.cell 2
        have g0 := HR8.frozen 0
        have g1 := HR8.frozen 1
        have g2 := HR8.frozen 2
        have h1 : (v.who == x.who) = true := by have h := hal; unfold Sv.isE at h; simp only [EV.en] at h; exact (Bool.and_eq_true_iff.1 h).1
        have h2 : (v.seq == x.seq) = true := by have h := hal; unfold Sv.isE at h; simp only [EV.en] at h; rw [h1] at h; exact h
        go_wp2
        rw [← hla]
        change bodyPost Tryz.prog _ _ Exit.ret _ (putS W8 (w.heap.size + 2) s)
        exact bodyPost_ret (ret_srv2 (t := s) rfl _ rfl rfl (putS_blk HR8)) rfl ⟨⟨s, rfl, HV.out _ (HW8.trans ((putS_below _ _ _).mono (by omega))), rfl⟩, HW8.trans ((putS_below _ _ _).mono (by omega))⟩
    · obtain rfl : k = s.ln := by omega
      have h := HM.out
      rw [List.drop_eq_nil_of_le (by rw [List.length_map, HN.out]; exact Nat.le_refl _)] at h
      cases h

set_option maxRecDepth 100000 in
set_option maxHeartbeats 3200000 in
theorem rtake_neg (s : SV) (rev : Int) (x : EV) (w : World) (hV : Srv w s) (hO : Ops w x.ao x.n x.cap x.vs) (h2 : Sv.entE x.en = 0) (hh : Sv.has s.se x.who x.seq = false) (hr : rev < 0) :
    Calls Tryz.prog 32 #[.agg #[.slice s.fa s.fn s.fc, .slice s.la s.ln s.lc, .slice s.na s.nn s.nc], .int .i64 rev, .agg #[.int .i64 x.who, .int .i64 x.seq, .slice x.ao x.n x.cap]] w fun e w' => (∃ t, e = .returned (.tuple #[svA t, .int .i64 6]) ∧ Srv w' t ∧ t.se = ⟨[], [], []⟩) ∧ Below w.heap.size w w' := by
  have H1 : Hid (Below w.heap.size w (boxs sv0 (boxe x (boxs s w)))) := (boxs_below s w).trans (((boxe_below x _).trans ((boxs_below sv0 _).mono (boxe_below x _).size)).mono (boxs_below s w).size)
  have HS0 : Hid (Blk (boxs sv0 (boxe x (boxs s w))) (w.heap.size) (svC s) 42) := ((boxs_blk s w).alloc _).alloc _
  have HX0 : Hid (Blk (boxs sv0 (boxe x (boxs s w))) (w.heap.size + 1) (evC x) 46) := by have := (boxe_blk x (boxs s w)).alloc (.cells #[.slice none 0 0, .slice none 0 0, .slice none 0 0] 42); rw [boxs_size] at this; exact this
  have HR0 : Hid (Blk (boxs sv0 (boxe x (boxs s w))) (w.heap.size + 2) (svC sv0) 42) := by have := boxs_blk sv0 (boxe x (boxs s w)); rw [boxe_size, boxs_size] at this; exact this
  have CE : Hid (Calls Tryz.prog 83 #[.agg #[.int .i64 x.who, .int .i64 x.seq, .slice x.ao x.n x.cap]] (boxs sv0 (boxe x (boxs s w))) fun e w' => e = .returned (.int .i64 (Sv.entE x.en)) ∧ Below (boxs sv0 (boxe x (boxs s w))).heap.size (boxs sv0 (boxe x (boxs s w))) w') := entR_any x _ (hO.below H1.out)
  have HV : Hid (∀ w', Below w.heap.size w w' → Srv w' s) := fun w' hb => hV.below hb
  have HN : Hid (s.log.length = s.ln) := hV.log.len
  have hrm := hV.log.row.room
  have hbg := hV.log.row.big
  clear hV hO
  rw [h2] at CE
  have HH : Hid ((s.log.map EV.en).any (Sv.isE x.who x.seq) = false) := hh
  clear h2 hh
  go_enter Tryz.func32, Tryz.ntmps32
  go_upto_region 2 with fail
  change Code.wp Tryz.prog _ _ _ (boxs sv0 (boxe x (boxs s w)))
  generalize (boxs sv0 (boxe x (boxs s w))) = W0 at *
  have a0 : W0.cell? ⟨w.heap.size + 1, 0, none⟩ = some (.int .i64 x.who) := HX0.out.cell 0
  have a1 : W0.cell? ⟨w.heap.size + 1, 1, none⟩ = some (.int .i64 x.seq) := HX0.out.cell 1
  have a2 : W0.cell? ⟨w.heap.size + 1, 2, none⟩ = some (.slice x.ao x.n x.cap) := HX0.out.cell 2
  go_wp2_with fail
  refine CE.out.mono ?_
  rintro e w1 ⟨rfl, hb⟩
  have HB1 : Hid (Below W0.heap.size W0 w1) := hb
  have HW1 : Hid (Below w.heap.size w w1) := H1.out.trans (hb.mono H1.out.size)
  have HS1 : Hid (Blk w1 (w.heap.size) (svC s) 42) := (hb.block _ HS0.out.lt).trans HS0.out
  have HX1 : Hid (Blk w1 (w.heap.size + 1) (evC x) 46) := (hb.block _ HX0.out.lt).trans HX0.out
  have HR1 : Hid (Blk w1 (w.heap.size + 2) (svC sv0) 42) := (hb.block _ HR0.out.lt).trans HR0.out
  clear hb a0 a1 a2 HS0 HX0 HR0 CE H1 HB1
  have hsz : w.heap.size + 2 < w1.heap.size := HR1.out.lt
  have p0 : w1.cell? ⟨w.heap.size, 0, none⟩ = some (.slice s.fa s.fn s.fc) := HS1.out.cell 0
  have p1 : w1.cell? ⟨w.heap.size, 1, none⟩ = some (.slice s.la s.ln s.lc) := HS1.out.cell 1
  have p2 : w1.cell? ⟨w.heap.size, 2, none⟩ = some (.slice s.na s.nn s.nc) := HS1.out.cell 2
  go_wp2
  go_loopw [30] (fun i wr => ∃ k : Nat, k ≤ s.ln ∧ i = .int .i64 k ∧ Below w1.heap.size w1 wr ∧ ((s.log.map EV.en).drop k).any (Sv.isE x.who x.seq) = false) (fun i _ => s.ln - (intOf i).toNat)
  case atStart => exact ⟨0, Nat.zero_le _, rfl, Below.refl _ _, HH.out⟩
  case round =>
    obtain ⟨k, hk, rfl, hbr, hsm⟩ := hrel
    have HM : Hid (((s.log.map EV.en).drop k).any (Sv.isE x.who x.seq) = false) := hsm
    have HBR : Hid (Below w1.heap.size w1 wr) := hbr
    clear hsm hbr p0 p1 p2
    by_cases hlt : k < s.ln
    · have hE := (HV.out _ (HW1.out.trans (HBR.out.mono HW1.out.size))).log
      obtain ⟨b, off, hla, hGt⟩ := hE.get (by omega)
      have hkl : k < s.log.length := by rw [HN.out]; exact hlt
      have HXX : Hid (((s.log.map EV.en).drop k).any (Sv.isE x.who x.seq) = (Sv.isE x.who x.seq s.log[k].en || ((s.log.map EV.en).drop (k + 1)).any (Sv.isE x.who x.seq))) := by
        show _ = _
        rw [List.drop_eq_getElem_cons (by rw [List.length_map]; exact hkl), List.any_cons, List.getElem_map]
      obtain ⟨a0, a1, a2⟩ := hGt k hkl
      have HB8 : Hid (Below w1.heap.size w1 (boxe s.log[k] wr)) := HBR.out.trans ((boxe_below _ wr).mono HBR.out.size)
      have HT : Hid (Thr (boxe s.log[k] wr) wr.heap.size 0 s.log[k]) := boxe_at s.log[k] wr
      clear hGt hE
      generalize s.log[k] = v at *
      rw [hla]
      go_upto_region 8 with fail
      change Code.wp Tryz.prog _ _ _ (boxe v wr)
      generalize boxe v wr = W8 at *
      clear a0 a1 a2
      obtain ⟨a0, a1, a2⟩ := HT.out
      simp only [Nat.zero_add] at a0 a1 a2
      have HX8 : Blk W8 (w.heap.size + 1) (evC x) 46 := (HB8.out.block _ HX1.out.lt).trans HX1.out
      have HS8 : Blk W8 (w.heap.size) (svC s) 42 := (HB8.out.block _ HS1.out.lt).trans HS1.out
      have HR8 : Blk W8 (w.heap.size + 2) (svC sv0) 42 := (HB8.out.block _ HR1.out.lt).trans HR1.out
      have HW8 : Below w.heap.size w W8 := HW1.out.trans (HB8.out.mono HW1.out.size)
      have x0 : W8.cell? ⟨w.heap.size + 1, 0, none⟩ = some (.int .i64 x.who) := HX8.cell 0
      have x1 : W8.cell? ⟨w.heap.size + 1, 1, none⟩ = some (.int .i64 x.seq) := HX8.cell 1
      have x2 : W8.cell? ⟨w.heap.size + 1, 2, none⟩ = some (.slice x.ao x.n x.cap) := HX8.cell 2
      cases hal : Sv.isE x.who x.seq v.en
      · have HM2 : Hid (((s.log.map EV.en).drop (k + 1)).any (Sv.isE x.who x.seq) = false) := by show _ = _; rw [← HM.out, HXX.out, hal, Bool.false_or]
        cases h1 : (v.who == x.who)
        · go_wp2
          go_roundw
          case rel => exact ⟨k + 1, by omega, by go_num, HB8.out, HM2.out⟩
          case measure => simp [intOf]; omega
        · have h2 : (v.seq == x.seq) = false := by have h := hal; unfold Sv.isE at h; simp only [EV.en] at h; rw [h1] at h; exact h
          go_wp2
          go_roundw
          case rel => exact ⟨k + 1, by omega, by go_num, HB8.out, HM2.out⟩
          case measure => simp [intOf]; omega
      · have h := HM.out
        rw [HXX.out, hal] at h
        cases h
    · obtain rfl : k = s.ln := by omega
      have HSr : Hid (Blk wr (w.heap.size) (svC s) 42) := (HBR.out.block _ HS1.out.lt).trans HS1.out
      have HXr : Hid (Blk wr (w.heap.size + 1) (evC x) 46) := (HBR.out.block _ HX1.out.lt).trans HX1.out
      have HRr : Hid (Blk wr (w.heap.size + 2) (svC sv0) 42) := (HBR.out.block _ HR1.out.lt).trans HR1.out
      have HWr : Hid (Below w.heap.size w wr) := HW1.out.trans (HBR.out.mono HW1.out.size)
      clear HM HBR HS1 HX1 HR1 HW1 HH
      have p0 : wr.cell? ⟨w.heap.size, 0, none⟩ = some (.slice s.fa s.fn s.fc) := HSr.out.cell 0
      have p1 : wr.cell? ⟨w.heap.size, 1, none⟩ = some (.slice s.la s.ln s.lc) := HSr.out.cell 1
      have p2 : wr.cell? ⟨w.heap.size, 2, none⟩ = some (.slice s.na s.nn s.nc) := HSr.out.cell 2
      go_wp2_with fail
      refine (failR_any 6 wr).mono ?_
      rintro e wf ⟨rfl, hb⟩
      have hRf : Blk wf (w.heap.size + 2) (svC sv0) 42 := (hb.block _ HRr.out.lt).trans HRr.out
      have hWf : Below w.heap.size w wf := HWr.out.trans (hb.mono HWr.out.size)
      clear hb
      have r0 : wf.cell? ⟨w.heap.size + 2, 0, none⟩ = some (.slice none 0 0) := hRf.cell 0
      have r1 : wf.cell? ⟨w.heap.size + 2, 1, none⟩ = some (.slice none 0 0) := hRf.cell 1
      have r2 : wf.cell? ⟨w.heap.size + 2, 2, none⟩ = some (.slice none 0 0) := hRf.cell 2
      have g0 := hRf.frozen 0
      have g1 := hRf.frozen 1
      have g2 := hRf.frozen 2
      go_wp2
      change bodyPost Tryz.prog _ _ Exit.ret _ (putS wf (w.heap.size + 2) sv0)
      exact bodyPost_ret (ret_srv2 (t := sv0) rfl _ rfl rfl (putS_blk hRf)) rfl ⟨⟨sv0, rfl, (SrvFrom.nil 0 _).srv, rfl⟩, hWf.trans ((putS_below _ _ _).mono (by omega))⟩

set_option maxRecDepth 100000 in
set_option maxHeartbeats 3200000 in
theorem rtake_over (s : SV) (rev : Int) (x : EV) (w : World) (hV : Srv w s) (hO : Ops w x.ao x.n x.cap x.vs) (h2 : Sv.entE x.en = 0) (hh : Sv.has s.se x.who x.seq = false) (hr : ¬ rev < 0) (hr2 : (s.ln : Int) < rev) :
    Calls Tryz.prog 32 #[.agg #[.slice s.fa s.fn s.fc, .slice s.la s.ln s.lc, .slice s.na s.nn s.nc], .int .i64 rev, .agg #[.int .i64 x.who, .int .i64 x.seq, .slice x.ao x.n x.cap]] w fun e w' => (∃ t, e = .returned (.tuple #[svA t, .int .i64 6]) ∧ Srv w' t ∧ t.se = ⟨[], [], []⟩) ∧ Below w.heap.size w w' := by
  have H1 : Hid (Below w.heap.size w (boxs sv0 (boxe x (boxs s w)))) := (boxs_below s w).trans (((boxe_below x _).trans ((boxs_below sv0 _).mono (boxe_below x _).size)).mono (boxs_below s w).size)
  have HS0 : Hid (Blk (boxs sv0 (boxe x (boxs s w))) (w.heap.size) (svC s) 42) := ((boxs_blk s w).alloc _).alloc _
  have HX0 : Hid (Blk (boxs sv0 (boxe x (boxs s w))) (w.heap.size + 1) (evC x) 46) := by have := (boxe_blk x (boxs s w)).alloc (.cells #[.slice none 0 0, .slice none 0 0, .slice none 0 0] 42); rw [boxs_size] at this; exact this
  have HR0 : Hid (Blk (boxs sv0 (boxe x (boxs s w))) (w.heap.size + 2) (svC sv0) 42) := by have := boxs_blk sv0 (boxe x (boxs s w)); rw [boxe_size, boxs_size] at this; exact this
  have CE : Hid (Calls Tryz.prog 83 #[.agg #[.int .i64 x.who, .int .i64 x.seq, .slice x.ao x.n x.cap]] (boxs sv0 (boxe x (boxs s w))) fun e w' => e = .returned (.int .i64 (Sv.entE x.en)) ∧ Below (boxs sv0 (boxe x (boxs s w))).heap.size (boxs sv0 (boxe x (boxs s w))) w') := entR_any x _ (hO.below H1.out)
  have HV : Hid (∀ w', Below w.heap.size w w' → Srv w' s) := fun w' hb => hV.below hb
  have HN : Hid (s.log.length = s.ln) := hV.log.len
  have hrm := hV.log.row.room
  have hbg := hV.log.row.big
  clear hV hO
  rw [h2] at CE
  have HH : Hid ((s.log.map EV.en).any (Sv.isE x.who x.seq) = false) := hh
  clear h2 hh
  go_enter Tryz.func32, Tryz.ntmps32
  go_upto_region 2 with fail
  change Code.wp Tryz.prog _ _ _ (boxs sv0 (boxe x (boxs s w)))
  generalize (boxs sv0 (boxe x (boxs s w))) = W0 at *
  have a0 : W0.cell? ⟨w.heap.size + 1, 0, none⟩ = some (.int .i64 x.who) := HX0.out.cell 0
  have a1 : W0.cell? ⟨w.heap.size + 1, 1, none⟩ = some (.int .i64 x.seq) := HX0.out.cell 1
  have a2 : W0.cell? ⟨w.heap.size + 1, 2, none⟩ = some (.slice x.ao x.n x.cap) := HX0.out.cell 2
  go_wp2_with fail
  refine CE.out.mono ?_
  rintro e w1 ⟨rfl, hb⟩
  have HB1 : Hid (Below W0.heap.size W0 w1) := hb
  have HW1 : Hid (Below w.heap.size w w1) := H1.out.trans (hb.mono H1.out.size)
  have HS1 : Hid (Blk w1 (w.heap.size) (svC s) 42) := (hb.block _ HS0.out.lt).trans HS0.out
  have HX1 : Hid (Blk w1 (w.heap.size + 1) (evC x) 46) := (hb.block _ HX0.out.lt).trans HX0.out
  have HR1 : Hid (Blk w1 (w.heap.size + 2) (svC sv0) 42) := (hb.block _ HR0.out.lt).trans HR0.out
  clear hb a0 a1 a2 HS0 HX0 HR0 CE H1 HB1
  have hsz : w.heap.size + 2 < w1.heap.size := HR1.out.lt
  have p0 : w1.cell? ⟨w.heap.size, 0, none⟩ = some (.slice s.fa s.fn s.fc) := HS1.out.cell 0
  have p1 : w1.cell? ⟨w.heap.size, 1, none⟩ = some (.slice s.la s.ln s.lc) := HS1.out.cell 1
  have p2 : w1.cell? ⟨w.heap.size, 2, none⟩ = some (.slice s.na s.nn s.nc) := HS1.out.cell 2
  go_wp2
  go_loopw [30] (fun i wr => ∃ k : Nat, k ≤ s.ln ∧ i = .int .i64 k ∧ Below w1.heap.size w1 wr ∧ ((s.log.map EV.en).drop k).any (Sv.isE x.who x.seq) = false) (fun i _ => s.ln - (intOf i).toNat)
  case atStart => exact ⟨0, Nat.zero_le _, rfl, Below.refl _ _, HH.out⟩
  case round =>
    obtain ⟨k, hk, rfl, hbr, hsm⟩ := hrel
    have HM : Hid (((s.log.map EV.en).drop k).any (Sv.isE x.who x.seq) = false) := hsm
    have HBR : Hid (Below w1.heap.size w1 wr) := hbr
    clear hsm hbr p0 p1 p2
    by_cases hlt : k < s.ln
    · have hE := (HV.out _ (HW1.out.trans (HBR.out.mono HW1.out.size))).log
      obtain ⟨b, off, hla, hGt⟩ := hE.get (by omega)
      have hkl : k < s.log.length := by rw [HN.out]; exact hlt
      have HXX : Hid (((s.log.map EV.en).drop k).any (Sv.isE x.who x.seq) = (Sv.isE x.who x.seq s.log[k].en || ((s.log.map EV.en).drop (k + 1)).any (Sv.isE x.who x.seq))) := by
        show _ = _
        rw [List.drop_eq_getElem_cons (by rw [List.length_map]; exact hkl), List.any_cons, List.getElem_map]
      obtain ⟨a0, a1, a2⟩ := hGt k hkl
      have HB8 : Hid (Below w1.heap.size w1 (boxe s.log[k] wr)) := HBR.out.trans ((boxe_below _ wr).mono HBR.out.size)
      have HT : Hid (Thr (boxe s.log[k] wr) wr.heap.size 0 s.log[k]) := boxe_at s.log[k] wr
      clear hGt hE
      generalize s.log[k] = v at *
      rw [hla]
      go_upto_region 8 with fail
      change Code.wp Tryz.prog _ _ _ (boxe v wr)
      generalize boxe v wr = W8 at *
      clear a0 a1 a2
      obtain ⟨a0, a1, a2⟩ := HT.out
      simp only [Nat.zero_add] at a0 a1 a2
      have HX8 : Blk W8 (w.heap.size + 1) (evC x) 46 := (HB8.out.block _ HX1.out.lt).trans HX1.out
      have HS8 : Blk W8 (w.heap.size) (svC s) 42 := (HB8.out.block _ HS1.out.lt).trans HS1.out
      have HR8 : Blk W8 (w.heap.size + 2) (svC sv0) 42 := (HB8.out.block _ HR1.out.lt).trans HR1.out
      have HW8 : Below w.heap.size w W8 := HW1.out.trans (HB8.out.mono HW1.out.size)
      have x0 : W8.cell? ⟨w.heap.size + 1, 0, none⟩ = some (.int .i64 x.who) := HX8.cell 0
      have x1 : W8.cell? ⟨w.heap.size + 1, 1, none⟩ = some (.int .i64 x.seq) := HX8.cell 1
      have x2 : W8.cell? ⟨w.heap.size + 1, 2, none⟩ = some (.slice x.ao x.n x.cap) := HX8.cell 2
      cases hal : Sv.isE x.who x.seq v.en
      · have HM2 : Hid (((s.log.map EV.en).drop (k + 1)).any (Sv.isE x.who x.seq) = false) := by show _ = _; rw [← HM.out, HXX.out, hal, Bool.false_or]
        cases h1 : (v.who == x.who)
        · go_wp2
          go_roundw
          case rel => exact ⟨k + 1, by omega, by go_num, HB8.out, HM2.out⟩
          case measure => simp [intOf]; omega
        · have h2 : (v.seq == x.seq) = false := by have h := hal; unfold Sv.isE at h; simp only [EV.en] at h; rw [h1] at h; exact h
          go_wp2
          go_roundw
          case rel => exact ⟨k + 1, by omega, by go_num, HB8.out, HM2.out⟩
          case measure => simp [intOf]; omega
      · have h := HM.out
        rw [HXX.out, hal] at h
        cases h
    · obtain rfl : k = s.ln := by omega
      have HSr : Hid (Blk wr (w.heap.size) (svC s) 42) := (HBR.out.block _ HS1.out.lt).trans HS1.out
      have HXr : Hid (Blk wr (w.heap.size + 1) (evC x) 46) := (HBR.out.block _ HX1.out.lt).trans HX1.out
      have HRr : Hid (Blk wr (w.heap.size + 2) (svC sv0) 42) := (HBR.out.block _ HR1.out.lt).trans HR1.out
      have HWr : Hid (Below w.heap.size w wr) := HW1.out.trans (HBR.out.mono HW1.out.size)
      clear HM HBR HS1 HX1 HR1 HW1 HH
      have p0 : wr.cell? ⟨w.heap.size, 0, none⟩ = some (.slice s.fa s.fn s.fc) := HSr.out.cell 0
      have p1 : wr.cell? ⟨w.heap.size, 1, none⟩ = some (.slice s.la s.ln s.lc) := HSr.out.cell 1
      have p2 : wr.cell? ⟨w.heap.size, 2, none⟩ = some (.slice s.na s.nn s.nc) := HSr.out.cell 2
      go_wp2_with fail
      refine (failR_any 6 wr).mono ?_
      rintro e wf ⟨rfl, hb⟩
      have hRf : Blk wf (w.heap.size + 2) (svC sv0) 42 := (hb.block _ HRr.out.lt).trans HRr.out
      have hWf : Below w.heap.size w wf := HWr.out.trans (hb.mono HWr.out.size)
      clear hb
      have r0 : wf.cell? ⟨w.heap.size + 2, 0, none⟩ = some (.slice none 0 0) := hRf.cell 0
      have r1 : wf.cell? ⟨w.heap.size + 2, 1, none⟩ = some (.slice none 0 0) := hRf.cell 1
      have r2 : wf.cell? ⟨w.heap.size + 2, 2, none⟩ = some (.slice none 0 0) := hRf.cell 2
      have g0 := hRf.frozen 0
      have g1 := hRf.frozen 1
      have g2 := hRf.frozen 2
      go_wp2
      change bodyPost Tryz.prog _ _ Exit.ret _ (putS wf (w.heap.size + 2) sv0)
      exact bodyPost_ret (ret_srv2 (t := sv0) rfl _ rfl rfl (putS_blk hRf)) rfl ⟨⟨sv0, rfl, (SrvFrom.nil 0 _).srv, rfl⟩, hWf.trans ((putS_below _ _ _).mono (by omega))⟩

set_option maxRecDepth 100000 in
set_option maxHeartbeats 3200000 in
theorem rtake_many (s : SV) (rev : Int) (x : EV) (w : World) (hV : Srv w s) (hO : Ops w x.ao x.n x.cap x.vs) (h2 : Sv.entE x.en = 0) (hh : Sv.has s.se x.who x.seq = false) (hr : ¬ rev < 0) (hr2 : ¬ (s.ln : Int) < rev) (h60 : s.ln = 60) :
    Calls Tryz.prog 32 #[.agg #[.slice s.fa s.fn s.fc, .slice s.la s.ln s.lc, .slice s.na s.nn s.nc], .int .i64 rev, .agg #[.int .i64 x.who, .int .i64 x.seq, .slice x.ao x.n x.cap]] w fun e w' => (∃ t, e = .returned (.tuple #[svA t, .int .i64 2]) ∧ Srv w' t ∧ t.se = ⟨[], [], []⟩) ∧ Below w.heap.size w w' := by
  have hb60 : ((s.ln : Int) == 60) = true := by rw [h60]; rfl
  clear h60
  have H1 : Hid (Below w.heap.size w (boxs sv0 (boxe x (boxs s w)))) := (boxs_below s w).trans (((boxe_below x _).trans ((boxs_below sv0 _).mono (boxe_below x _).size)).mono (boxs_below s w).size)
  have HS0 : Hid (Blk (boxs sv0 (boxe x (boxs s w))) (w.heap.size) (svC s) 42) := ((boxs_blk s w).alloc _).alloc _
  have HX0 : Hid (Blk (boxs sv0 (boxe x (boxs s w))) (w.heap.size + 1) (evC x) 46) := by have := (boxe_blk x (boxs s w)).alloc (.cells #[.slice none 0 0, .slice none 0 0, .slice none 0 0] 42); rw [boxs_size] at this; exact this
  have HR0 : Hid (Blk (boxs sv0 (boxe x (boxs s w))) (w.heap.size + 2) (svC sv0) 42) := by have := boxs_blk sv0 (boxe x (boxs s w)); rw [boxe_size, boxs_size] at this; exact this
  have CE : Hid (Calls Tryz.prog 83 #[.agg #[.int .i64 x.who, .int .i64 x.seq, .slice x.ao x.n x.cap]] (boxs sv0 (boxe x (boxs s w))) fun e w' => e = .returned (.int .i64 (Sv.entE x.en)) ∧ Below (boxs sv0 (boxe x (boxs s w))).heap.size (boxs sv0 (boxe x (boxs s w))) w') := entR_any x _ (hO.below H1.out)
  have HV : Hid (∀ w', Below w.heap.size w w' → Srv w' s) := fun w' hb => hV.below hb
  have HN : Hid (s.log.length = s.ln) := hV.log.len
  have hrm := hV.log.row.room
  have hbg := hV.log.row.big
  clear hV hO
  rw [h2] at CE
  have HH : Hid ((s.log.map EV.en).any (Sv.isE x.who x.seq) = false) := hh
  clear h2 hh
  go_enter Tryz.func32, Tryz.ntmps32
  go_upto_region 2 with fail
  change Code.wp Tryz.prog _ _ _ (boxs sv0 (boxe x (boxs s w)))
  generalize (boxs sv0 (boxe x (boxs s w))) = W0 at *
  have a0 : W0.cell? ⟨w.heap.size + 1, 0, none⟩ = some (.int .i64 x.who) := HX0.out.cell 0
  have a1 : W0.cell? ⟨w.heap.size + 1, 1, none⟩ = some (.int .i64 x.seq) := HX0.out.cell 1
  have a2 : W0.cell? ⟨w.heap.size + 1, 2, none⟩ = some (.slice x.ao x.n x.cap) := HX0.out.cell 2
  go_wp2_with fail
  refine CE.out.mono ?_
  rintro e w1 ⟨rfl, hb⟩
  have HB1 : Hid (Below W0.heap.size W0 w1) := hb
  have HW1 : Hid (Below w.heap.size w w1) := H1.out.trans (hb.mono H1.out.size)
  have HS1 : Hid (Blk w1 (w.heap.size) (svC s) 42) := (hb.block _ HS0.out.lt).trans HS0.out
  have HX1 : Hid (Blk w1 (w.heap.size + 1) (evC x) 46) := (hb.block _ HX0.out.lt).trans HX0.out
  have HR1 : Hid (Blk w1 (w.heap.size + 2) (svC sv0) 42) := (hb.block _ HR0.out.lt).trans HR0.out
  clear hb a0 a1 a2 HS0 HX0 HR0 CE H1 HB1
  have hsz : w.heap.size + 2 < w1.heap.size := HR1.out.lt
  have p0 : w1.cell? ⟨w.heap.size, 0, none⟩ = some (.slice s.fa s.fn s.fc) := HS1.out.cell 0
  have p1 : w1.cell? ⟨w.heap.size, 1, none⟩ = some (.slice s.la s.ln s.lc) := HS1.out.cell 1
  have p2 : w1.cell? ⟨w.heap.size, 2, none⟩ = some (.slice s.na s.nn s.nc) := HS1.out.cell 2
  go_wp2
  go_loopw [30] (fun i wr => ∃ k : Nat, k ≤ s.ln ∧ i = .int .i64 k ∧ Below w1.heap.size w1 wr ∧ ((s.log.map EV.en).drop k).any (Sv.isE x.who x.seq) = false) (fun i _ => s.ln - (intOf i).toNat)
  case atStart => exact ⟨0, Nat.zero_le _, rfl, Below.refl _ _, HH.out⟩
  case round =>
    obtain ⟨k, hk, rfl, hbr, hsm⟩ := hrel
    have HM : Hid (((s.log.map EV.en).drop k).any (Sv.isE x.who x.seq) = false) := hsm
    have HBR : Hid (Below w1.heap.size w1 wr) := hbr
    clear hsm hbr p0 p1 p2
    by_cases hlt : k < s.ln
    · have hE := (HV.out _ (HW1.out.trans (HBR.out.mono HW1.out.size))).log
      obtain ⟨b, off, hla, hGt⟩ := hE.get (by omega)
      have hkl : k < s.log.length := by rw [HN.out]; exact hlt
      have HXX : Hid (((s.log.map EV.en).drop k).any (Sv.isE x.who x.seq) = (Sv.isE x.who x.seq s.log[k].en || ((s.log.map EV.en).drop (k + 1)).any (Sv.isE x.who x.seq))) := by
        show _ = _
        rw [List.drop_eq_getElem_cons (by rw [List.length_map]; exact hkl), List.any_cons, List.getElem_map]
      obtain ⟨a0, a1, a2⟩ := hGt k hkl
      have HB8 : Hid (Below w1.heap.size w1 (boxe s.log[k] wr)) := HBR.out.trans ((boxe_below _ wr).mono HBR.out.size)
      have HT : Hid (Thr (boxe s.log[k] wr) wr.heap.size 0 s.log[k]) := boxe_at s.log[k] wr
      clear hGt hE
      generalize s.log[k] = v at *
      rw [hla]
      go_upto_region 8 with fail
      change Code.wp Tryz.prog _ _ _ (boxe v wr)
      generalize boxe v wr = W8 at *
      clear a0 a1 a2
      obtain ⟨a0, a1, a2⟩ := HT.out
      simp only [Nat.zero_add] at a0 a1 a2
      have HX8 : Blk W8 (w.heap.size + 1) (evC x) 46 := (HB8.out.block _ HX1.out.lt).trans HX1.out
      have HS8 : Blk W8 (w.heap.size) (svC s) 42 := (HB8.out.block _ HS1.out.lt).trans HS1.out
      have HR8 : Blk W8 (w.heap.size + 2) (svC sv0) 42 := (HB8.out.block _ HR1.out.lt).trans HR1.out
      have HW8 : Below w.heap.size w W8 := HW1.out.trans (HB8.out.mono HW1.out.size)
      have x0 : W8.cell? ⟨w.heap.size + 1, 0, none⟩ = some (.int .i64 x.who) := HX8.cell 0
      have x1 : W8.cell? ⟨w.heap.size + 1, 1, none⟩ = some (.int .i64 x.seq) := HX8.cell 1
      have x2 : W8.cell? ⟨w.heap.size + 1, 2, none⟩ = some (.slice x.ao x.n x.cap) := HX8.cell 2
      cases hal : Sv.isE x.who x.seq v.en
      · have HM2 : Hid (((s.log.map EV.en).drop (k + 1)).any (Sv.isE x.who x.seq) = false) := by show _ = _; rw [← HM.out, HXX.out, hal, Bool.false_or]
        cases h1 : (v.who == x.who)
        · go_wp2
          go_roundw
          case rel => exact ⟨k + 1, by omega, by go_num, HB8.out, HM2.out⟩
          case measure => simp [intOf]; omega
        · have h2 : (v.seq == x.seq) = false := by have h := hal; unfold Sv.isE at h; simp only [EV.en] at h; rw [h1] at h; exact h
          go_wp2
          go_roundw
          case rel => exact ⟨k + 1, by omega, by go_num, HB8.out, HM2.out⟩
          case measure => simp [intOf]; omega
      · have h := HM.out
        rw [HXX.out, hal] at h
        cases h
    · obtain rfl : k = s.ln := by omega
      have HSr : Hid (Blk wr (w.heap.size) (svC s) 42) := (HBR.out.block _ HS1.out.lt).trans HS1.out
      have HXr : Hid (Blk wr (w.heap.size + 1) (evC x) 46) := (HBR.out.block _ HX1.out.lt).trans HX1.out
      have HRr : Hid (Blk wr (w.heap.size + 2) (svC sv0) 42) := (HBR.out.block _ HR1.out.lt).trans HR1.out
      have HWr : Hid (Below w.heap.size w wr) := HW1.out.trans (HBR.out.mono HW1.out.size)
      clear HM HBR HS1 HX1 HR1 HW1 HH
      have p0 : wr.cell? ⟨w.heap.size, 0, none⟩ = some (.slice s.fa s.fn s.fc) := HSr.out.cell 0
      have p1 : wr.cell? ⟨w.heap.size, 1, none⟩ = some (.slice s.la s.ln s.lc) := HSr.out.cell 1
      have p2 : wr.cell? ⟨w.heap.size, 2, none⟩ = some (.slice s.na s.nn s.nc) := HSr.out.cell 2
      go_wp2_with fail
      refine (failR_any 2 wr).mono ?_
      rintro e wf ⟨rfl, hb⟩
      have hRf : Blk wf (w.heap.size + 2) (svC sv0) 42 := (hb.block _ HRr.out.lt).trans HRr.out
      have hWf : Below w.heap.size w wf := HWr.out.trans (hb.mono HWr.out.size)
      clear hb
      have r0 : wf.cell? ⟨w.heap.size + 2, 0, none⟩ = some (.slice none 0 0) := hRf.cell 0
      have r1 : wf.cell? ⟨w.heap.size + 2, 1, none⟩ = some (.slice none 0 0) := hRf.cell 1
      have r2 : wf.cell? ⟨w.heap.size + 2, 2, none⟩ = some (.slice none 0 0) := hRf.cell 2
      have g0 := hRf.frozen 0
      have g1 := hRf.frozen 1
      have g2 := hRf.frozen 2
      go_wp2
      change bodyPost Tryz.prog _ _ Exit.ret _ (putS wf (w.heap.size + 2) sv0)
      exact bodyPost_ret (ret_srv2 (t := sv0) rfl _ rfl rfl (putS_blk hRf)) rfl ⟨⟨sv0, rfl, (SrvFrom.nil 0 _).srv, rfl⟩, hWf.trans ((putS_below _ _ _).mono (by omega))⟩
end Go.Proofs.YtbhcklkbckacpaaGreatDoor
