/-
  The reference's CheckServer; what it answers where something is wrong; New of what is no document.
-/
import Derived.Test.YtbhcklkbckacpaaGreatDoorWa
import Derived.Test.YtbhcklkbckacpaaGreatDoorVh1
namespace Go.Proofs.YtbhcklkbckacpaaGreatDoor
open Go.RowKit
theorem same_comm (l l' : List It) : Dc.same l l' = Dc.same l' l := by
  rw [Bool.eq_iff_iff, its_same, its_same]
  exact ⟨Eq.symm, Eq.symm⟩

set_option maxRecDepth 100000 in
set_option maxHeartbeats 1600000 in
theorem srvR_any (s : SV) (w : World) (hV : Srv w s) :
    Calls Tryz.prog 21 #[.agg #[.slice s.fa s.fn s.fc, .slice s.la s.ln s.lc, .slice s.na s.nn s.nc]] w fun e w' => e = .returned (.int .i64 (Sv.srvE s.se)) ∧ Below w.heap.size w w' := by
  have H1 : Hid (Below w.heap.size w (boxs s w)) := boxs_below s w
  have HB : Hid (Blk (boxs s w) w.heap.size (svC s) 42) := boxs_blk s w
  have HV : Hid (∀ w', Below (boxs s w).heap.size (boxs s w) w' → Srv w' s) := fun w' hb => (hV.below H1.out).below hb
  have C2 : Hid (∀ w', Below (boxs s w).heap.size (boxs s w) w' → Calls Tryz.prog 20 #[.slice s.fa s.fn s.fc, .slice s.la s.ln s.lc] w' fun e w'' => (∃ a n' c, e = .returned (.tuple #[.slice a n' c, .int .i64 (Sv.fldE s.first (s.log.map EV.en))]) ∧ Doc w'' a n' c (Sv.fldD s.first (s.log.map EV.en))) ∧ Below w'.heap.size w' w'') := fun w' hb => foldR_any _ _ _ _ _ _ _ _ _ (HV.out w' hb).first (HV.out w' hb).log
  have C3 : Hid (∀ w' a n c, Below (boxs s w).heap.size (boxs s w) w' → Doc w' a n c (Sv.fldD s.first (s.log.map EV.en)) → Calls Tryz.prog 16 #[.slice a n c, .slice s.na s.nn s.nc] w' fun e w'' => e = .returned (.bool (Dc.same s.now (Sv.fldD s.first (s.log.map EV.en)))) ∧ Below w'.heap.size w' w'') := fun w' a n c hb hd => (equal_any _ _ _ _ _ _ _ _ _ hd (HV.out w' hb).now).mono fun e w'' ⟨h, m, hm⟩ => ⟨by rw [h, same_comm], by rw [hm]; exact drewN_blw _ m⟩
  have hlen : (s.log.map EV.en).length = s.ln := by rw [List.length_map]; exact hV.log.len
  have HN : Hid (s.log.length = s.ln) := hV.log.len
  have hcap := hV.log.row.room
  have hbig := hV.log.row.big
  clear hV
  obtain ⟨r, hr⟩ : ∃ r, Sv.srvE s.se = r := ⟨_, rfl⟩
  rw [hr]
  change (if 60 < (s.log.map EV.en).length then (2 : Int) else if Sv.entsE (s.log.map EV.en) = 0 then (if Sv.fldE s.first (s.log.map EV.en) = 0 then (if Dc.same s.now (Sv.fldD s.first (s.log.map EV.en)) = true then 0 else 4) else Sv.fldE s.first (s.log.map EV.en)) else Sv.entsE (s.log.map EV.en)) = r at hr
  rw [hlen] at hr
  clear hlen
  obtain ⟨X, hX⟩ : ∃ X, Sv.entsE (s.log.map EV.en) = X := ⟨_, rfl⟩
  have HX : Hid (Sv.entsE (s.log.map EV.en) = X) := hX
  rw [hX] at hr
  clear hX
  generalize Sv.fldE s.first (s.log.map EV.en) = y at *
  generalize Sv.fldD s.first (s.log.map EV.en) = D at *
  generalize Dc.same s.now D = z at *
  have HR : Hid ((if 60 < s.ln then (2 : Int) else if X = 0 then (if y = 0 then (if z = true then 0 else 4) else y) else X) = r) := hr
  clear hr
  go_enter Tryz.func21, Tryz.ntmps21
  go_upto_region 1 with fail
  change Code.wp Tryz.prog _ _ _ (boxs s w)
  have c0 : (boxs s w).cell? ⟨w.heap.size, 0, none⟩ = some (.slice s.fa s.fn s.fc) := HB.out.cell 0
  have c1 : (boxs s w).cell? ⟨w.heap.size, 1, none⟩ = some (.slice s.la s.ln s.lc) := HB.out.cell 1
  have c2 : (boxs s w).cell? ⟨w.heap.size, 2, none⟩ = some (.slice s.na s.nn s.nc) := HB.out.cell 2
  generalize boxs s w = W at *
  by_cases h1 : 60 < s.ln
  · obtain rfl : r = 2 := by rw [← HR.out, if_pos h1]
    go_wp2
    go_ret
    exact ⟨rfl, H1.out⟩
  · go_wp2
    go_loopw [15] (fun i wr => ∃ k : Nat, k ≤ s.ln ∧ i = .int .i64 k ∧ Below W.heap.size W wr ∧ Sv.entsE ((s.log.map EV.en).drop k) = X) (fun i _ => s.ln - (intOf i).toNat)
    case atStart => exact ⟨0, Nat.zero_le _, rfl, Below.refl _ _, HX.out⟩
    case round =>
      obtain ⟨k, hk, rfl, hbr, hsm⟩ := hrel
      have HM : Hid (Sv.entsE ((s.log.map EV.en).drop k) = X) := hsm
      have HBR : Hid (Below W.heap.size W wr) := hbr
      clear hsm hbr c0 c1 c2
      by_cases hlt : k < s.ln
      · have hE := (HV.out _ HBR.out).log
        obtain ⟨b, off, hla, hGt⟩ := hE.get (by omega)
        have h2 : k < s.log.length := by rw [HN.out]; exact hlt
        have HXX : Hid (Sv.entsE ((s.log.map EV.en).drop k) = if Sv.entE s.log[k].en = 0 then Sv.entsE ((s.log.map EV.en).drop (k + 1)) else Sv.entE s.log[k].en) := by
          have := Sv.entsE_step (s.log.map EV.en) k (by rw [List.length_map]; exact h2)
          rw [List.getElem_map] at this
          exact this
        obtain ⟨a0, a1, a2⟩ := hGt k h2
        have HB1 : Hid (Below W.heap.size W (boxe s.log[k] wr)) := HBR.out.trans ((boxe_below _ wr).mono HBR.out.size)
        have CE : Hid (Calls Tryz.prog 83 #[.agg #[.int .i64 s.log[k].who, .int .i64 s.log[k].seq, .slice s.log[k].ao s.log[k].n s.log[k].cap]] (boxe s.log[k] wr) fun e w' => e = .returned (.int .i64 (Sv.entE s.log[k].en)) ∧ Below (boxe s.log[k] wr).heap.size (boxe s.log[k] wr) w') := entR_any s.log[k] _ ((hE.ops _ (List.getElem_mem h2)).below (boxe_below _ wr))
        have HT : Hid (Thr (boxe s.log[k] wr) wr.heap.size 0 s.log[k]) := boxe_at s.log[k] wr
        clear hGt hE
        generalize s.log[k] = v at *
        rw [hla]
        go_upto_region 6 with fail
        change Code.wp Tryz.prog _ _ _ (boxe v wr)
        generalize boxe v wr = W8 at *
        clear a0 a1 a2
        obtain ⟨a0, a1, a2⟩ := HT.out
        simp only [Nat.zero_add] at a0 a1 a2
        go_wp2_with fail
        refine CE.out.mono ?_
        rintro e w1 ⟨rfl, hb⟩
        have H2 : Hid (Below W.heap.size W w1) := HB1.out.trans (hb.mono HB1.out.size)
        clear hb a0 a1 a2 CE
        obtain ⟨q, hq⟩ : ∃ q, Sv.entE v.en = q := ⟨_, rfl⟩
        rw [hq] at HXX ⊢
        clear hq
        by_cases hz : q = 0
        · have HM2 : Hid (Sv.entsE ((s.log.map EV.en).drop (k + 1)) = X) := by show _ = _; rw [← HM.out, HXX.out, if_pos hz]
          subst hz
          go_wp2
          go_roundw
          case rel => exact ⟨k + 1, by omega, by go_num, H2.out, HM2.out⟩
          case measure => simp [intOf]; omega
        · have hne : (q != 0) = true := by simp [hz]
          obtain rfl : X = q := by rw [← HM.out, HXX.out, if_neg hz]
          obtain rfl : r = X := by rw [← HR.out, if_neg h1, if_neg hz]
          go_wp2
          go_ret
          exact ⟨rfl, H1.out.trans (H2.out.mono H1.out.size)⟩
      · obtain rfl : k = s.ln := by omega
        obtain rfl : X = 0 := by
          rw [← HM.out, List.drop_eq_nil_of_le (by rw [List.length_map, HN.out]; exact Nat.le_refl _)]
          rfl
        have hB1 : Blk wr w.heap.size (svC s) 42 := (HBR.out.block _ HB.out.lt).trans HB.out
        have c0 : wr.cell? ⟨w.heap.size, 0, none⟩ = some (.slice s.fa s.fn s.fc) := hB1.cell 0
        have c1 : wr.cell? ⟨w.heap.size, 1, none⟩ = some (.slice s.la s.ln s.lc) := hB1.cell 1
        have c2 : wr.cell? ⟨w.heap.size, 2, none⟩ = some (.slice s.na s.nn s.nc) := hB1.cell 2
        go_wp2_with fail
        refine (C2.out _ HBR.out).mono ?_
        rintro e w2 ⟨⟨a, n, c, rfl, hd⟩, hb⟩
        have HD : Hid (Doc w2 a n c D) := hd
        have H3 : Hid (Below W.heap.size W w2) := HBR.out.trans (hb.mono HBR.out.size)
        clear hb hd c0 c1 c2 hB1
        by_cases h3 : y = 0
        · subst h3
          have c2 : w2.cell? ⟨w.heap.size, 2, none⟩ = some (.slice s.na s.nn s.nc) := cell_below (HB.out.cell 2) H3.out
          go_wp2_with fail
          refine (C3.out _ a n c H3.out HD.out).mono ?_
          rintro e w3 ⟨rfl, hb⟩
          have H4 : Hid (Below W.heap.size W w3) := H3.out.trans (hb.mono H3.out.size)
          clear hb c2
          cases z
          · obtain rfl : r = 4 := by rw [← HR.out, if_neg h1]; simp
            go_wp2
            go_ret
            exact ⟨rfl, H1.out.trans (H4.out.mono H1.out.size)⟩
          · obtain rfl : r = 0 := by rw [← HR.out, if_neg h1]; simp
            go_wp2
            go_ret
            exact ⟨rfl, H1.out.trans (H4.out.mono H1.out.size)⟩
        · have hne : (y != 0) = true := by simp [h3]
          obtain rfl : r = y := by rw [← HR.out, if_neg h1]; simp [h3]
          go_wp2
          go_ret
          exact ⟨rfl, H1.out.trans (H3.out.mono H1.out.size)⟩

set_option maxRecDepth 100000 in
set_option maxHeartbeats 1600000 in
theorem failR_any (E : Int) (w : World) : Calls Tryz.prog 92 #[.int .i64 E] w fun e w' => e = .returned (.tuple #[.agg #[.slice sv0.fa sv0.fn sv0.fc, .slice sv0.la sv0.ln sv0.lc, .slice sv0.na sv0.nn sv0.nc], .int .i64 E]) ∧ Below w.heap.size w w' := by
  have H1 : Hid (Below w.heap.size w (boxs sv0 w)) := boxs_below _ _
  have HR : Hid (Blk (boxs sv0 w) w.heap.size (svC sv0) 42) := boxs_blk _ _
  go_enter Tryz.func92, Tryz.ntmps92
  go_upto_region 1 with fail
  change Code.wp Tryz.prog _ _ _ (boxs sv0 w)
  have r0 : (boxs sv0 w).cell? ⟨w.heap.size, 0, none⟩ = some (.slice none 0 0) := HR.out.cell 0
  have r1 : (boxs sv0 w).cell? ⟨w.heap.size, 1, none⟩ = some (.slice none 0 0) := HR.out.cell 1
  have r2 : (boxs sv0 w).cell? ⟨w.heap.size, 2, none⟩ = some (.slice none 0 0) := HR.out.cell 2
  have g0 := HR.out.frozen 0
  have g1 := HR.out.frozen 1
  have g2 := HR.out.frozen 2
  generalize boxs sv0 w = W at *
  go_wp2
  change bodyPost Tryz.prog _ _ Exit.ret _ (putS W w.heap.size sv0)
  exact bodyPost_ret (ret_srv2 (t := sv0) rfl _ rfl rfl (putS_blk HR.out)) rfl ⟨rfl, H1.out.trans (putS_below _ _ _)⟩

set_option maxRecDepth 100000 in
set_option maxHeartbeats 1600000 in
theorem new_bad (ao : Option Addr) (n cap : Nat) (l : List It) (w : World) (hD : Doc w ao n cap l) (hS : Sch w) (hc : ¬ Dc.check l = 0) :
    Calls Tryz.prog 17 #[.slice ao n cap] w fun e w' => e = .returned (.tuple #[.agg #[.slice sv0.fa sv0.fn sv0.fc, .slice sv0.la sv0.ln sv0.lc, .slice sv0.na sv0.nn sv0.nc], .int .i64 (Dc.check l)]) ∧ Below w.heap.size w w' := by
  have H1 : Hid (Below w.heap.size w (boxs sv0 w)) := boxs_below _ _
  have HR : Hid (Blk (boxs sv0 w) w.heap.size (svC sv0) 42) := boxs_blk _ _
  have CC : Hid (Calls Tryz.prog 74 #[.slice ao n cap] (boxs sv0 w) fun e w' => e = .returned (.int .i64 (Dc.check l)) ∧ Below (boxs sv0 w).heap.size (boxs sv0 w) w') := check_any ao n cap l (boxs sv0 w) (hD.below H1.out) (hS.below H1.out)
  generalize Dc.check l = q at *
  have hne : (q != 0) = true := by simp [hc]
  clear hD hS hc
  go_enter Tryz.func17, Tryz.ntmps17
  go_upto_region 1 with fail
  change Code.wp Tryz.prog _ _ _ (boxs sv0 w)
  generalize boxs sv0 w = W at *
  go_wp2_with fail
  refine CC.out.mono ?_
  rintro e w1 ⟨rfl, hb⟩
  have hR1 : Blk w1 w.heap.size (svC sv0) 42 := (hb.block _ HR.out.lt).trans HR.out
  have H2 : Hid (Below w.heap.size w w1) := H1.out.trans (hb.mono H1.out.size)
  clear hb
  have r0 : w1.cell? ⟨w.heap.size, 0, none⟩ = some (.slice none 0 0) := hR1.cell 0
  have r1 : w1.cell? ⟨w.heap.size, 1, none⟩ = some (.slice none 0 0) := hR1.cell 1
  have r2 : w1.cell? ⟨w.heap.size, 2, none⟩ = some (.slice none 0 0) := hR1.cell 2
  have g0 := hR1.frozen 0
  have g1 := hR1.frozen 1
  have g2 := hR1.frozen 2
  go_wp2
  change bodyPost Tryz.prog _ _ Exit.ret _ (putS w1 w.heap.size sv0)
  exact bodyPost_ret (ret_srv2 (t := sv0) rfl _ rfl rfl (putS_blk hR1)) rfl ⟨rfl, H2.out.trans (putS_below _ _ _)⟩
end Go.Proofs.YtbhcklkbckacpaaGreatDoor
