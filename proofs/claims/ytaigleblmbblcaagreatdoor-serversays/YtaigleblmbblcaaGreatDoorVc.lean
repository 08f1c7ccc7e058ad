/-
  Package server: what the log has; servers held against each other.
-/
import Derived.Test.YtaigleblmbblcaaGreatDoorVb
namespace Go.Proofs.YtaigleblmbblcaaGreatDoor
open Go.RowKit
def boxi (x : Int) (w : World) : World := w.alloc (.cells #[.int .i64 x] 3)
theorem boxi_below (x : Int) (w : World) : Below w.heap.size w (boxi x w) := (Below.refl _ _).alloc (Nat.le_refl _) _
theorem boxi_blk (x : Int) (w : World) : Blk (boxi x w) w.heap.size [.int .i64 x] 3 := Blk.new w _ _

set_option maxRecDepth 100000 in
set_option maxHeartbeats 1600000 in
theorem isE_any (v : EV) (cb qb : Nat) (c q : Int) (w : World) (hc : w.cell? ⟨cb, 0, none⟩ = some (.int .i64 c)) (hq : w.cell? ⟨qb, 0, none⟩ = some (.int .i64 q)) :
    Calls Tryz.prog 50 #[.agg #[.int .i64 v.who, .int .i64 v.seq, .slice v.ao v.n v.cap], .pointer (some ⟨cb, 0, none⟩), .pointer (some ⟨qb, 0, none⟩)] w fun e w' => e = .returned (.bool (Sv.isE c q v.en)) ∧ Below w.heap.size w w' := by
  have H1 : Hid (Below w.heap.size w (boxe v w)) := boxe_below v w
  have c0 : (boxe v w).cell? ⟨cb, 0, none⟩ = some (.int .i64 c) := cell_below hc (boxe_below v w)
  have q0 : (boxe v w).cell? ⟨qb, 0, none⟩ = some (.int .i64 q) := cell_below hq (boxe_below v w)
  have HT : Hid (Thr (boxe v w) w.heap.size 0 v) := boxe_at v w
  clear hc hq
  obtain ⟨r, hr⟩ : ∃ r, Sv.isE c q v.en = r := ⟨_, rfl⟩
  rw [hr]
  unfold Sv.isE at hr
  simp only [EV.en] at hr
  go_enter Tryz.func50, Tryz.ntmps50
  go_upto_region 1 with fail
  change Code.wp Tryz.prog _ _ _ (boxe v w)
  generalize boxe v w = W at *
  obtain ⟨a0, a1, a2⟩ := HT.out
  simp only [Nat.zero_add] at a0 a1 a2
  cases h1 : (v.who == c)
  · obtain rfl := hr.symm.trans (show _ = false by rw [h1]; rfl)
    clear hr
    go_wp2
    go_ret
    exact ⟨rfl, H1.out⟩
  · obtain rfl := hr.symm.trans (show _ = (v.seq == q) by rw [h1]; rfl)
    clear hr
    go_wp2
    go_ret
    exact ⟨rfl, H1.out⟩

set_option maxRecDepth 100000 in
set_option maxHeartbeats 1600000 in
theorem idxE_any (cb qb : Nat) (c q : Int) (ao : Option Addr) (n cap : Nat) (es : List EV) (w : World) (hE : Ents w ao n cap es) (hc : w.cell? ⟨cb, 0, none⟩ = some (.int .i64 c)) (hq : w.cell? ⟨qb, 0, none⟩ = some (.int .i64 q)) :
    Calls Tryz.prog 51 #[.slice ao n cap, .func (.func 50) #[] #[.pointer (some ⟨cb, 0, none⟩), .pointer (some ⟨qb, 0, none⟩)]] w fun e w' => (∃ i : Int, e = .returned (.int .i64 i) ∧ decide (0 ≤ i) = (es.map EV.en).any (Sv.isE c q)) ∧ Below w.heap.size w w' := by
  have HE : Hid (Ents w ao n cap es) := hE
  have HN : Hid (es.length = n) := hE.len
  have HC : Hid (w.cell? ⟨cb, 0, none⟩ = some (.int .i64 c)) := hc
  have HQ : Hid (w.cell? ⟨qb, 0, none⟩ = some (.int .i64 q)) := hq
  have hcap := hE.row.room
  have hbig := hE.row.big
  clear hE hc hq
  obtain ⟨r, hr⟩ : ∃ r, (es.map EV.en).any (Sv.isE c q) = r := ⟨_, rfl⟩
  have HR : Hid ((es.map EV.en).any (Sv.isE c q) = r) := hr
  rw [hr]
  clear hr
  go_enter Tryz.func51, Tryz.ntmps51
  go_wp2
  go_loopw [8] (fun i wr => ∃ k : Nat, k ≤ n ∧ i = .int .i64 k ∧ Below w.heap.size w wr ∧ ((es.map EV.en).drop k).any (Sv.isE c q) = r) (fun i _ => n - (intOf i).toNat)
  case atStart => exact ⟨0, Nat.zero_le _, rfl, Below.refl _ _, HR.out⟩
  case round =>
    obtain ⟨k, hk, rfl, hbr, hsm⟩ := hrel
    have HM : Hid (((es.map EV.en).drop k).any (Sv.isE c q) = r) := hsm
    have HBR : Hid (Below w.heap.size w wr) := hbr
    clear hsm hbr
    by_cases hlt : k < n
    · obtain ⟨b, off, rfl, hGt⟩ := HE.out.get (by omega)
      have h1 : k < es.length := by rw [HN.out]; exact hlt
      have HX : Hid (((es.map EV.en).drop k).any (Sv.isE c q) = (Sv.isE c q es[k].en || ((es.map EV.en).drop (k + 1)).any (Sv.isE c q))) := by
        show _ = _
        rw [List.drop_eq_getElem_cons (by rw [List.length_map]; exact h1), List.any_cons, List.getElem_map]
      obtain ⟨a0, a1, a2⟩ := (hGt k h1).below HBR.out
      clear hGt
      generalize es[k] = v at *
      go_wp2_with fail
      refine (isE_any v cb qb c q _ (cell_below HC.out HBR.out) (cell_below HQ.out HBR.out)).mono ?_
      rintro e w1 ⟨rfl, hb⟩
      have H2 : Hid (Below w.heap.size w w1) := HBR.out.trans (hb.mono HBR.out.size)
      clear hb a0 a1 a2
      cases hal : Sv.isE c q v.en
      · have HM2 : Hid (((es.map EV.en).drop (k + 1)).any (Sv.isE c q) = r) := by show _ = _; rw [← HM.out, HX.out, hal, Bool.false_or]
        clear hal
        go_wp2
        go_roundw
        case rel => exact ⟨k + 1, by omega, by go_num, H2.out, HM2.out⟩
        case measure => simp [intOf]; omega
      · obtain rfl : r = true := by rw [← HM.out, HX.out, hal]; rfl
        clear hal
        go_wp2
        go_ret
        exact ⟨⟨_, rfl, by simp⟩, H2.out⟩
    · obtain rfl : k = n := by omega
      obtain rfl : r = false := by
        rw [← HM.out, List.drop_eq_nil_of_le (by rw [List.length_map, HN.out]; exact Nat.le_refl _)]
        rfl
      go_wp2
      go_ret
      exact ⟨⟨_, rfl, by decide⟩, HBR.out⟩

set_option maxRecDepth 100000 in
set_option maxHeartbeats 1600000 in
theorem contE_any (cb qb : Nat) (c q : Int) (ao : Option Addr) (n cap : Nat) (es : List EV) (w : World) (hE : Ents w ao n cap es) (hc : w.cell? ⟨cb, 0, none⟩ = some (.int .i64 c)) (hq : w.cell? ⟨qb, 0, none⟩ = some (.int .i64 q)) :
    Calls Tryz.prog 19 #[.slice ao n cap, .func (.func 50) #[] #[.pointer (some ⟨cb, 0, none⟩), .pointer (some ⟨qb, 0, none⟩)]] w fun e w' => e = .returned (.bool ((es.map EV.en).any (Sv.isE c q))) ∧ Below w.heap.size w w' := by
  have CI := idxE_any cb qb c q ao n cap es w hE hc hq
  clear hE hc hq
  generalize (es.map EV.en).any (Sv.isE c q) = r at *
  have HI : Hid (Calls Tryz.prog 51 #[.slice ao n cap, .func (.func 50) #[] #[.pointer (some ⟨cb, 0, none⟩), .pointer (some ⟨qb, 0, none⟩)]] w fun e w' => (∃ i : Int, e = .returned (.int .i64 i) ∧ decide (0 ≤ i) = r) ∧ Below w.heap.size w w') := CI
  clear CI
  go_enter Tryz.func19, Tryz.ntmps19
  go_wp2_with fail
  refine HI.out.mono ?_
  rintro e w1 ⟨⟨i, rfl, hi⟩, hb⟩
  have H1 : Hid (Below w.heap.size w w1) := hb
  clear hb
  have HR : Hid (decide (0 ≤ i) = r) := hi
  clear hi
  go_wp2
  go_ret
  exact ⟨by rw [← HR.out]; rfl, H1.out⟩

set_option maxRecDepth 100000 in
set_option maxHeartbeats 1600000 in
theorem has_any (s : SV) (c q : Int) (w : World) (hS : Srv w s) :
    Calls Tryz.prog 18 #[.agg #[.slice s.fa s.fn s.fc, .slice s.la s.ln s.lc, .slice s.na s.nn s.nc], .int .i64 c, .int .i64 q] w fun e w' => e = .returned (.bool (Sv.has s.se c q)) ∧ Below w.heap.size w w' := by
  have H1 : Hid (Below w.heap.size w (boxi q (boxi c (boxs s w)))) := (boxs_below s w).trans (((boxi_below c _).trans ((boxi_below q _).mono (boxi_below c _).size)).mono (boxs_below s w).size)
  have CC : Hid (Calls Tryz.prog 19 #[.slice s.la s.ln s.lc, .func (.func 50) #[] #[.pointer (some ⟨w.heap.size + 1, 0, none⟩), .pointer (some ⟨w.heap.size + 1 + 1, 0, none⟩)]] (boxi q (boxi c (boxs s w))) fun e w' => e = .returned (.bool (Sv.has s.se c q)) ∧ Below (boxi q (boxi c (boxs s w))).heap.size (boxi q (boxi c (boxs s w))) w') :=
    contE_any _ _ c q s.la s.ln s.lc s.log _ (hS.log.below H1.out) (by
      have := cell_below ((boxi_blk c (boxs s w)).cell 0) (boxi_below q _)
      rw [boxs_size] at this
      exact this) (by
      have := (boxi_blk q (boxi c (boxs s w))).cell 0
      rw [show (boxi c (boxs s w)).heap.size = w.heap.size + 1 + 1 by unfold boxi; rw [World.size_alloc, boxs_size]] at this
      exact this)
  clear hS
  generalize Sv.has s.se c q = r at *
  go_enter Tryz.func18, Tryz.ntmps18
  go_wp2_with fail
  change Calls Tryz.prog 19 _ (boxi q (boxi c (boxs s w))) _
  refine CC.out.mono ?_
  rintro e w1 ⟨rfl, hb⟩
  have H2 : Hid (Below w.heap.size w w1) := H1.out.trans (hb.mono H1.out.size)
  clear hb
  go_wp2
  go_ret
  exact ⟨rfl, H2.out⟩

theorem drewN_belowS (w : World) (m : Nat) : Below w.heap.size w (w.drewN m) := drewN_blw w m
set_option maxRecDepth 100000 in
set_option maxHeartbeats 1600000 in
theorem sameS_any (a b : SV) (w : World) (ha : Srv w a) (hb : Srv w b) :
    Calls Tryz.prog 13 #[.agg #[.slice a.fa a.fn a.fc, .slice a.la a.ln a.lc, .slice a.na a.nn a.nc], .agg #[.slice b.fa b.fn b.fc, .slice b.la b.ln b.lc, .slice b.na b.nn b.nc]] w fun e w' => e = .returned (.bool (Sv.sameS a.se b.se)) ∧ Below w.heap.size w w' := by
  have H1 : Hid (Below w.heap.size w (boxs b (boxs a w))) := (boxs_below a w).trans ((boxs_below b _).mono (boxs_below a w).size)
  have HA : Hid (Blk (boxs b (boxs a w)) w.heap.size (svC a) 26) := (boxs_blk a w).alloc _
  have HB : Hid (Blk (boxs b (boxs a w)) (w.heap.size + 1) (svC b) 26) := by have := boxs_blk b (boxs a w); rw [boxs_size] at this; exact this
  have C0 : Hid (Calls Tryz.prog 45 #[.slice a.fa a.fn a.fc, .slice b.fa b.fn b.fc] (boxs b (boxs a w)) fun e w' => e = .returned (.bool (Dc.same a.first b.first)) ∧ Below (boxs b (boxs a w)).heap.size (boxs b (boxs a w)) w') := (same_any _ _ _ _ _ _ _ _ _ (ha.first.below H1.out) (hb.first.below H1.out)).mono fun e w' ⟨h, m, hm⟩ => ⟨h, by rw [hm]; exact drewN_blw _ m⟩
  have C1 : Hid (∀ w', Below (boxs b (boxs a w)).heap.size (boxs b (boxs a w)) w' → Calls Tryz.prog 46 #[.slice a.la a.ln a.lc, .slice b.la b.ln b.lc, .func (.func 14) #[] #[]] w' fun e w'' => e = .returned (.bool (Sv.sameL (a.log.map EV.en) (b.log.map EV.en))) ∧ Below w'.heap.size w' w'') := fun w' hw => eqFuncE_any _ _ _ _ _ _ _ _ _ ((ha.log.below H1.out).below hw) ((hb.log.below H1.out).below hw)
  have C2 : Hid (∀ w', Below (boxs b (boxs a w)).heap.size (boxs b (boxs a w)) w' → Calls Tryz.prog 45 #[.slice a.na a.nn a.nc, .slice b.na b.nn b.nc] w' fun e w'' => e = .returned (.bool (Dc.same a.now b.now)) ∧ Below w'.heap.size w' w'') := fun w' hw => (same_any _ _ _ _ _ _ _ _ _ ((ha.now.below H1.out).below hw) ((hb.now.below H1.out).below hw)).mono fun e w'' ⟨h, m, hm⟩ => ⟨h, by rw [hm]; exact drewN_blw _ m⟩
  clear ha hb
  obtain ⟨r, hr⟩ : ∃ r, Sv.sameS a.se b.se = r := ⟨_, rfl⟩
  rw [hr]
  unfold Sv.sameS at hr
  simp only [SV.se] at hr
  generalize Dc.same a.first b.first = x at *
  generalize Sv.sameL (a.log.map EV.en) (b.log.map EV.en) = y at *
  generalize Dc.same a.now b.now = z at *
  cases x
  · obtain rfl := hr.symm.trans (show _ = false from rfl)
    clear hr
    go_enter Tryz.func13, Tryz.ntmps13
    go_wp2_with fail
    change Calls Tryz.prog 45 _ (boxs b (boxs a w)) _
    refine C0.out.mono ?_
    rintro e w1 ⟨rfl, hb⟩
    have H2 : Hid (Below (boxs b (boxs a w)).heap.size (boxs b (boxs a w)) w1) := hb
    have H2w : Hid (Below w.heap.size w w1) := H1.out.trans (hb.mono H1.out.size)
    clear hb
    go_wp2
    go_ret
    exact ⟨rfl, H2w.out⟩
  · cases y
    · obtain rfl := hr.symm.trans (show _ = false from rfl)
      clear hr
      go_enter Tryz.func13, Tryz.ntmps13
      go_wp2_with fail
      change Calls Tryz.prog 45 _ (boxs b (boxs a w)) _
      refine C0.out.mono ?_
      rintro e w1 ⟨rfl, hb⟩
      have H2 : Hid (Below (boxs b (boxs a w)).heap.size (boxs b (boxs a w)) w1) := hb
      have H2w : Hid (Below w.heap.size w w1) := H1.out.trans (hb.mono H1.out.size)
      clear hb
      have e1 : w1.cell? ⟨w.heap.size, 1, none⟩ = some (.slice a.la a.ln a.lc) := cell_below (HA.out.cell 1) H2.out
      have e2 : w1.cell? ⟨w.heap.size + 1, 1, none⟩ = some (.slice b.la b.ln b.lc) := cell_below (HB.out.cell 1) H2.out
      go_wp2_with fail
      refine (C1.out _ H2.out).mono ?_
      rintro e w2 ⟨rfl, hb⟩
      have H3 : Hid (Below (boxs b (boxs a w)).heap.size (boxs b (boxs a w)) w2) := H2.out.trans (hb.mono H2.out.size)
      have H3w : Hid (Below w.heap.size w w2) := H1.out.trans (H3.out.mono H1.out.size)
      clear hb e1 e2
      go_wp2
      go_ret
      exact ⟨rfl, H3w.out⟩
    · obtain rfl := hr.symm.trans (show _ = z from rfl)
      clear hr
      go_enter Tryz.func13, Tryz.ntmps13
      go_wp2_with fail
      change Calls Tryz.prog 45 _ (boxs b (boxs a w)) _
      refine C0.out.mono ?_
      rintro e w1 ⟨rfl, hb⟩
      have H2 : Hid (Below (boxs b (boxs a w)).heap.size (boxs b (boxs a w)) w1) := hb
      have H2w : Hid (Below w.heap.size w w1) := H1.out.trans (hb.mono H1.out.size)
      clear hb
      have e1 : w1.cell? ⟨w.heap.size, 1, none⟩ = some (.slice a.la a.ln a.lc) := cell_below (HA.out.cell 1) H2.out
      have e2 : w1.cell? ⟨w.heap.size + 1, 1, none⟩ = some (.slice b.la b.ln b.lc) := cell_below (HB.out.cell 1) H2.out
      go_wp2_with fail
      refine (C1.out _ H2.out).mono ?_
      rintro e w2 ⟨rfl, hb⟩
      have H3 : Hid (Below (boxs b (boxs a w)).heap.size (boxs b (boxs a w)) w2) := H2.out.trans (hb.mono H2.out.size)
      have H3w : Hid (Below w.heap.size w w2) := H1.out.trans (H3.out.mono H1.out.size)
      clear hb e1 e2
      have e1 : w2.cell? ⟨w.heap.size, 2, none⟩ = some (.slice a.na a.nn a.nc) := cell_below (HA.out.cell 2) H3.out
      have e2 : w2.cell? ⟨w.heap.size + 1, 2, none⟩ = some (.slice b.na b.nn b.nc) := cell_below (HB.out.cell 2) H3.out
      go_wp2_with fail
      refine (C2.out _ H3.out).mono ?_
      rintro e w3 ⟨rfl, hb⟩
      have H4w : Hid (Below w.heap.size w w3) := H1.out.trans ((H3.out.trans (hb.mono H3.out.size)).mono H1.out.size)
      clear hb e1 e2
      go_wp2
      go_ret
      exact ⟨rfl, H4w.out⟩
end Go.Proofs.YtaigleblmbblcaaGreatDoor
