/-
  Package server: a server with lists of its own (copyOf).
-/
import Derived.Test.YtbhcklkbckacpaaGreatDoorVf0
namespace Go.Proofs.YtbhcklkbckacpaaGreatDoor
open Go.RowKit

set_option maxRecDepth 100000 in
set_option maxHeartbeats 12800000 in
theorem copyOf_any (s : SV) (w : World) (hV : Srv w s) (hf : s.fn ≤ 80) (hn : s.nn ≤ 80) (hl : s.ln ≤ 60) (ho : ∀ v ∈ s.log, 0 < v.n ∧ v.n ≤ 40 ∧ ∀ u ∈ v.vs, u.m ≤ 80) :
    Calls Tryz.prog 75 #[.agg #[.slice s.fa s.fn s.fc, .slice s.la s.ln s.lc, .slice s.na s.nn s.nc]] w fun e w' => (∃ t, e = .returned (svA t) ∧ Cpy w.heap.size w' t ∧ t.se = s.se ∧ t.fn = s.fn ∧ t.ln = s.ln ∧ t.nn = s.nn) ∧ Below w.heap.size w w' := by
  have H1 : Hid (Below w.heap.size w (boxs sv0 (boxs s w))) := (boxs_below s w).trans ((boxs_below sv0 _).mono (boxs_below s w).size)
  have HP : Hid (Blk (boxs sv0 (boxs s w)) w.heap.size (svC s) 42) := (boxs_blk s w).alloc _
  have HQ : Hid (Blk (boxs sv0 (boxs s w)) (w.heap.size + 1) (svC sv0) 42) := by have := boxs_blk sv0 (boxs s w); rw [boxs_size] at this; exact this
  have HWS : Hid ((boxs sv0 (boxs s w)).heap.size = w.heap.size + 2) := by show _ = _; rw [boxs_size, boxs_size]
  have hV1 := hV.below H1.out
  have HL : Hid (Ents w s.la s.ln s.lc s.log) := hV.log
  have HN : Hid (s.log.length = s.ln) := hV1.log.len
  have HO : Hid (∀ v ∈ s.log, 0 < v.n ∧ v.n ≤ 40 ∧ ∀ u ∈ v.vs, u.m ≤ 80) := ho
  have HFF : Hid (Fit s.first) := hV1.first.fit
  have HFN : Hid (Fit s.now) := hV1.now.fit
  generalize hW : boxs sv0 (boxs s w) = W at *
  have CF : Hid (∀ w', Below W.heap.size W w' → Calls Tryz.prog 79 #[.slice s.fa s.fn s.fc] w' fun e w'' => (∃ v, e = .returned v ∧ w''.ownsRow w'.heap.size 39 3 v s.fn (itCells s.first)) ∧ Below w'.heap.size w' w'') := fun w' hb => cloneDR_any _ _ _ _ _ (doc_row (hV1.first.below hb)) (itCells_one _) hf
  have CN : Hid (∀ w', Below W.heap.size W w' → Calls Tryz.prog 79 #[.slice s.na s.nn s.nc] w' fun e w'' => (∃ v, e = .returned v ∧ w''.ownsRow w'.heap.size 39 3 v s.nn (itCells s.now)) ∧ Below w'.heap.size w' w'') := fun w' hb => cloneDR_any _ _ _ _ _ (doc_row (hV1.now.below hb)) (itCells_one _) hn
  have CL : Hid (∀ w', Below W.heap.size W w' → Calls Tryz.prog 150 #[.slice s.la s.ln s.lc] w' fun e w'' => (∃ v, e = .returned v ∧ w''.ownsRow w'.heap.size 46 3 v s.ln (evCells s.log)) ∧ Below w'.heap.size w' w'') := fun w' hb => cloneE_any _ _ _ _ _ (hV1.log.below hb).row (evCells_oneCell _) (by omega)
  have HPF : Hid (∀ w', Below W.heap.size W w' → w'.frozen? ⟨w.heap.size, 0, none⟩ = false ∧ w'.frozen? ⟨w.heap.size, 1, none⟩ = false ∧ w'.frozen? ⟨w.heap.size, 2, none⟩ = false) := fun w' hb => by
    have : Blk w' w.heap.size (svC s) 42 := (hb.block _ HP.out.lt).trans HP.out
    exact ⟨this.frozen 0, this.frozen 1, this.frozen 2⟩
  clear hV hV1 ho
  go_enter Tryz.func75, Tryz.ntmps75
  go_upto_region 1 with fail
  change Code.wp Tryz.prog _ _ _ (boxs sv0 (boxs s w))
  rw [hW]
  have p0 : W.cell? ⟨w.heap.size, 0, none⟩ = some (.slice s.fa s.fn s.fc) := HP.out.cell 0
  have p1 : W.cell? ⟨w.heap.size, 1, none⟩ = some (.slice s.la s.ln s.lc) := HP.out.cell 1
  have p2 : W.cell? ⟨w.heap.size, 2, none⟩ = some (.slice s.na s.nn s.nc) := HP.out.cell 2
  go_cut [] from 4 to 15 (fun wx => CopR w s wx)
  case first =>
    go_region_with (first | (go_at_call 150; with_reducible_and_instances refine (CL.out _ ?_).mono ?_; (first | exact HBF | exact HBN | exact (Below.refl _ _).drew); rintro e wL ⟨⟨vL, rfl, hoL⟩, hbL⟩; obtain ⟨aL, cL, rfl, hrL, hloL, -⟩ := own_slice hoL; have HBL : Below W.heap.size W wL := (by first | exact HBF.trans (hbL.mono HBF.size) | exact HBN.trans (hbL.mono HBN.size) | exact drew_step hbL); have p0L : wL.cell? ⟨w.heap.size, 0, none⟩ = some (.slice s.fa s.fn s.fc) := cell_below (HP.out.cell 0) HBL; have p1L : wL.cell? ⟨w.heap.size, 1, none⟩ = some (.slice s.la s.ln s.lc) := cell_below (HP.out.cell 1) HBL; have p2L : wL.cell? ⟨w.heap.size, 2, none⟩ = some (.slice s.na s.nn s.nc) := cell_below (HP.out.cell 2) HBL; have q0L := (HPF.out _ HBL).1; have q1L := (HPF.out _ HBL).2.1; have q2L := (HPF.out _ HBL).2.2) | (go_at_call 79; with_reducible_and_instances refine (CF.out _ ?_).mono ?_; (first | exact HBL | exact HBN | exact (Below.refl _ _).drew); rintro e wF ⟨⟨vF, rfl, hoF⟩, hbF⟩; obtain ⟨aF, cF, rfl, hrF, hloF, -⟩ := own_slice hoF; have HBF : Below W.heap.size W wF := (by first | exact HBL.trans (hbF.mono HBL.size) | exact HBN.trans (hbF.mono HBN.size) | exact drew_step hbF); have p0F : wF.cell? ⟨w.heap.size, 0, none⟩ = some (.slice s.fa s.fn s.fc) := cell_below (HP.out.cell 0) HBF; have p1F : wF.cell? ⟨w.heap.size, 1, none⟩ = some (.slice s.la s.ln s.lc) := cell_below (HP.out.cell 1) HBF; have p2F : wF.cell? ⟨w.heap.size, 2, none⟩ = some (.slice s.na s.nn s.nc) := cell_below (HP.out.cell 2) HBF; have q0F := (HPF.out _ HBF).1; have q1F := (HPF.out _ HBF).2.1; have q2F := (HPF.out _ HBF).2.2) | (go_at_call 79; with_reducible_and_instances refine (CN.out _ ?_).mono ?_; (first | exact HBF | exact HBL | exact (Below.refl _ _).drew); rintro e wN ⟨⟨vN, rfl, hoN⟩, hbN⟩; obtain ⟨aN, cN, rfl, hrN, hloN, -⟩ := own_slice hoN; have HBN : Below W.heap.size W wN := (by first | exact HBF.trans (hbN.mono HBF.size) | exact HBL.trans (hbN.mono HBL.size) | exact drew_step hbN); have p0N : wN.cell? ⟨w.heap.size, 0, none⟩ = some (.slice s.fa s.fn s.fc) := cell_below (HP.out.cell 0) HBN; have p1N : wN.cell? ⟨w.heap.size, 1, none⟩ = some (.slice s.la s.ln s.lc) := cell_below (HP.out.cell 1) HBN; have p2N : wN.cell? ⟨w.heap.size, 2, none⟩ = some (.slice s.na s.nn s.nc) := cell_below (HP.out.cell 2) HBN; have q0N := (HPF.out _ HBN).1; have q1N := (HPF.out _ HBN).2.1; have q2N := (HPF.out _ HBN).2.2))
    all_goals
      first | go_meet | (go_wp2_with fail; go_meet)
      case rel => exact copy_mid HP.out HQ.out H1.out (by first | exact HBF | exact HBL | exact HBN) (by first | exact row_doc hrF HFF.out | exact (row_doc hrF HFF.out).below hbF | exact (row_doc hrF HFF.out).below hbL | exact (row_doc hrF HFF.out).below hbN | exact ((row_doc hrF HFF.out).below hbF).below hbL | exact ((row_doc hrF HFF.out).below hbF).below hbN | exact ((row_doc hrF HFF.out).below hbL).below hbF | exact ((row_doc hrF HFF.out).below hbL).below hbN | exact ((row_doc hrF HFF.out).below hbN).below hbF | exact ((row_doc hrF HFF.out).below hbN).below hbL) (by first | exact row_doc hrN HFN.out | exact (row_doc hrN HFN.out).below hbF | exact (row_doc hrN HFN.out).below hbL | exact (row_doc hrN HFN.out).below hbN | exact ((row_doc hrN HFN.out).below hbF).below hbL | exact ((row_doc hrN HFN.out).below hbF).below hbN | exact ((row_doc hrN HFN.out).below hbL).below hbF | exact ((row_doc hrN HFN.out).below hbL).below hbN | exact ((row_doc hrN HFN.out).below hbN).below hbF | exact ((row_doc hrN HFN.out).below hbN).below hbL) (by first | exact (hoL.mono (by have := HWS.out; have := hbF.size; have := hbL.size; have := hbN.size; simp only [World.size_drew] at *; omega)) | exact own_under (hoL.mono (by have := HWS.out; have := hbF.size; have := hbL.size; have := hbN.size; simp only [World.size_drew] at *; omega)) hbF | exact own_under (hoL.mono (by have := HWS.out; have := hbF.size; have := hbL.size; have := hbN.size; simp only [World.size_drew] at *; omega)) hbN | exact own_under (own_under (hoL.mono (by have := HWS.out; have := hbF.size; have := hbL.size; have := hbN.size; simp only [World.size_drew] at *; omega)) hbF) hbN | exact own_under (own_under (hoL.mono (by have := HWS.out; have := hbF.size; have := hbL.size; have := hbN.size; simp only [World.size_drew] at *; omega)) hbN) hbF) (fun ad e => by have := hloF ad e; have := HWS.out; have := hbF.size; have := hbL.size; have := hbN.size; simp only [World.size_drew] at *; omega) (fun ad e => by have := hloN ad e; have := HWS.out; have := hbF.size; have := hbL.size; have := hbN.size; simp only [World.size_drew] at *; omega) (fun ad bd e1 e2 => by have := hloF ad e1; have := hloL bd e2; have := HWS.out; have := hbF.size; have := hbL.size; have := hbN.size; simp only [World.size_drew] at *; omega) (fun ad bd e1 e2 => by have := hloN ad e1; have := hloL bd e2; have := HWS.out; have := hbF.size; have := hbL.size; have := hbN.size; simp only [World.size_drew] at *; omega)
  case rest =>
    obtain ⟨aF, aL, aN, cF, cL, cN, hI⟩ := hcut
    have HI : Hid (CopI w s aF aL aN cF cL cN 0 [] wc) := hI
    have b1 : wc.cell? ⟨w.heap.size, 1, none⟩ = some (.slice aL s.ln cL) := hI.hP.cell 1
    have hroom := (own_row hI.oL).elim fun a h => h.elim fun c h => (show s.ln ≤ cL ∧ cL ≤ 9223372036854775807 by obtain ⟨e, hr⟩ := h; simp only [Value.slice.injEq] at e; obtain ⟨_, _, rfl⟩ := e; exact ⟨hr.room, hr.big⟩)
    obtain ⟨hr1, hr2⟩ := hroom
    clear hI p0 p1 p2 CF CL CN HPF HP HQ HWS H1
    go_wp2_with fail
    go_loopw [19] (fun i wr => ∃ (k : Nat) (us : List EV), k ≤ s.ln ∧ i = .int .i64 k ∧ CopI w s aF aL aN cF cL cN k us wr) (fun i _ => s.ln - (intOf i).toNat)
    case atStart => exact ⟨0, [], Nat.zero_le _, rfl, HI.out⟩
    case round =>
      obtain ⟨k, us, hk, rfl, hI⟩ := hrel
      have HK : Hid (CopI w s aF aL aN cF cL cN k us wr) := hI
      clear hI
      by_cases hlt : k < s.ln
      · have hkl : k < s.log.length := by rw [HN.out]; exact hlt
        obtain ⟨_, _, e, _, _, hg⟩ := own_slice HK.out.oL
        simp only [Value.slice.injEq] at e
        rw [← e.1] at hg
        obtain ⟨g, rfl⟩ := hg (by omega)
        clear e hg
        have h2 : k < (us ++ s.log.drop k).length := by rw [List.length_append, List.length_drop, HK.out.len, HN.out]; omega
        have q1 : wr.cell? ⟨w.heap.size, 1, none⟩ = some (.slice (some ⟨g, 0, none⟩) s.ln cL) := HK.out.hP.cell 1
        have q2 : wr.cell? ⟨g, k * 3 + 2, none⟩ = some (.slice s.log[k].ao s.log[k].n s.log[k].cap) := by
          rw [HK.out.oL.cellAt (k * 3 + 2) (by omega), evCells_at _ k h2 2 (by decide), get_mid us s.log k hkl HK.out.len h2]
          rfl
        have q3 := HK.out.oL.frozenAt (k * 3 + 2)
        have hob := HO.out _ (List.getElem_mem hkl)
        have CC : Hid (∀ w', Below wr.heap.size wr w' → Calls Tryz.prog 151 #[.slice s.log[k].ao s.log[k].n s.log[k].cap] w' fun e w'' => (∃ a c vs', e = .returned (.slice a s.log[k].n c) ∧ OpsFrom w'.heap.size w'' a s.log[k].n c vs' ∧ vs'.map PV.pt = s.log[k].vs.map PV.pt) ∧ Below w'.heap.size w' w'') := fun w' hb => copy_any _ _ _ _ _ (((HL.out.ops _ (List.getElem_mem hkl)).below HK.out.blw).below hb) hob.1 hob.2.1 hob.2.2
        have HST : Hid (∀ w2 a' c' vs', Below wr.heap.size wr w2 → OpsFrom wr.heap.size w2 a' s.log[k].n c' vs' → vs'.map PV.pt = s.log[k].vs.map PV.pt → CopI w s aF (some ⟨g, 0, none⟩) aN cF cL cN (k + 1) (us ++ [{ s.log[k] with ao := a', cap := c', vs := vs' }]) (w2.setCell ⟨g, k * 3 + 2, none⟩ (.slice a' s.log[k].n c'))) := fun w2 a' c' vs' hb ho hp => HK.out.step hkl hb ho hp
        have HCB : Hid (∀ w2, Below wr.heap.size wr w2 → w2.cell? ⟨w.heap.size, 1, none⟩ = some (.slice (some ⟨g, 0, none⟩) s.ln cL) ∧ w2.cell? ⟨g, k * 3 + 2, none⟩ = some (.slice s.log[k].ao s.log[k].n s.log[k].cap) ∧ w2.frozen? ⟨g, k * 3 + 2, none⟩ = false) := fun w2 hb => ⟨cell_below q1 hb, cell_below q2 hb, (own_under HK.out.oL hb).frozenAt _⟩
        clear hob h2
        generalize s.log[k] = v at *
        have hk1 : (0 : Int) ≤ (k : Int) := by omega
        have hk2 : (k : Int) < (s.ln : Int) := by omega
        go_upto_region 5 with fail
        go_region_with (go_at_call 151; refine (CC.out _ ?_).mono ?_; exact (Below.refl _ _).drew; rintro e w2 ⟨⟨a', c', vs', rfl, hof, hpt⟩, hb⟩; have HB2 := drew_step hb; have HOF : Hid (OpsFrom wr.heap.size w2 a' v.n c' vs') := (by rw [World.size_drew] at hof; exact hof); have HPT : Hid (vs'.map PV.pt = v.vs.map PV.pt) := hpt; obtain ⟨r1, r2, r3⟩ := HCB.out _ HB2; clear hb hof hpt)
        all_goals
          go_wp2
          go_roundw
          case rel => exact ⟨k + 1, _, by omega, by go_num, HST.out _ _ _ _ HB2 HOF.out HPT.out⟩
          case measure => simp [intOf]; omega
      · obtain rfl : k = s.ln := by omega
        have p0 : wr.cell? ⟨w.heap.size, 0, none⟩ = some (.slice aF s.fn cF) := HK.out.hP.cell 0
        have p1 : wr.cell? ⟨w.heap.size, 1, none⟩ = some (.slice aL s.ln cL) := HK.out.hP.cell 1
        have p2 : wr.cell? ⟨w.heap.size, 2, none⟩ = some (.slice aN s.nn cN) := HK.out.hP.cell 2
        have q0 : wr.cell? ⟨w.heap.size + 1, 0, none⟩ = some (.slice none 0 0) := HK.out.hQ.cell 0
        have q1 : wr.cell? ⟨w.heap.size + 1, 1, none⟩ = some (.slice none 0 0) := HK.out.hQ.cell 1
        have q2 : wr.cell? ⟨w.heap.size + 1, 2, none⟩ = some (.slice none 0 0) := HK.out.hQ.cell 2
        have f0 := HK.out.hQ.frozen 0
        have f1 := HK.out.hQ.frozen 1
        have f2 := HK.out.hQ.frozen 2
        have HD := HK.out.done HN.out
        go_wp2
        change bodyPost Tryz.prog _ _ Exit.ret _ (putS wr (w.heap.size + 1) (midS s aF aL aN cF cL cN us))
        exact bodyPost_ret (ret_srv (t := midS s aF aL aN cF cL cN us) rfl _ rfl HD.1) rfl ⟨⟨_, rfl, HD.2.1, HD.2.2.1, rfl, rfl, rfl⟩, HD.2.2.2⟩
end Go.Proofs.YtbhcklkbckacpaaGreatDoor
