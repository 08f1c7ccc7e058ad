/-
  The reference's servers: entries checked, servers held against each other, folded, checked.
-/
import Derived.Test.YtbhcklkbckacpaaGreatDoorM10
import Derived.Test.YtbhcklkbckacpaaGreatDoorOt
import Derived.Test.YtbhcklkbckacpaaGreatDoorRb
namespace Go.Proofs.YtbhcklkbckacpaaGreatDoor
open Go.RowKit

set_option maxRecDepth 100000 in
set_option maxHeartbeats 1600000 in
theorem entR_any (v : EV) (w : World) (hO : Ops w v.ao v.n v.cap v.vs) :
    Calls Tryz.prog 83 #[.agg #[.int .i64 v.who, .int .i64 v.seq, .slice v.ao v.n v.cap]] w fun e w' => e = .returned (.int .i64 (Sv.entE v.en)) ∧ Below w.heap.size w w' := by
  have H1 : Hid (Below w.heap.size w (boxe v w)) := boxe_below v w
  have CC : Hid (Calls Tryz.prog 102 #[.slice v.ao v.n v.cap] (boxe v w) fun e w' => e = .returned (.int .i64 (Ac.chk (v.vs.map PV.pt))) ∧ Below (boxe v w).heap.size (boxe v w) w') := CheckOp_any v.ao v.n v.cap v.vs _ (hO.below (boxe_below v w))
  clear hO
  obtain ⟨r, hr⟩ : ∃ r, Sv.entE v.en = r := ⟨_, rfl⟩
  rw [hr]
  change (if v.who < 0 ∨ 4 ≤ v.who then (5 : Int) else if v.seq < 1 ∨ 10000 < v.seq then 3 else Ac.chk (v.vs.map PV.pt)) = r at hr
  generalize Ac.chk (v.vs.map PV.pt) = c at *
  by_cases h1 : v.who < 0
  · obtain rfl : r = 5 := by rw [← hr, if_pos (show v.who < 0 ∨ 4 ≤ v.who from Or.inl h1)]
    clear hr
    go_enter Tryz.func83, Tryz.ntmps83
    go_wp2
    go_ret
    exact ⟨rfl, H1.out⟩
  · by_cases h2 : 3 < v.who
    · obtain rfl : r = 5 := by rw [← hr, if_pos (show v.who < 0 ∨ 4 ≤ v.who from Or.inr (by omega))]
      clear hr
      go_enter Tryz.func83, Tryz.ntmps83
      go_wp2
      go_ret
      exact ⟨rfl, H1.out⟩
    · by_cases h3 : v.seq < 1
      · obtain rfl : r = 3 := by rw [← hr, if_neg (show ¬ (v.who < 0 ∨ 4 ≤ v.who) by omega), if_pos (show v.seq < 1 ∨ 10000 < v.seq from Or.inl h3)]
        clear hr
        go_enter Tryz.func83, Tryz.ntmps83
        go_wp2
        go_ret
        exact ⟨rfl, H1.out⟩
      · by_cases h4 : 10000 < v.seq
        · obtain rfl : r = 3 := by rw [← hr, if_neg (show ¬ (v.who < 0 ∨ 4 ≤ v.who) by omega), if_pos (show v.seq < 1 ∨ 10000 < v.seq from Or.inr h4)]
          clear hr
          go_enter Tryz.func83, Tryz.ntmps83
          go_wp2
          go_ret
          exact ⟨rfl, H1.out⟩
        · obtain rfl : r = c := by rw [← hr, if_neg (show ¬ (v.who < 0 ∨ 4 ≤ v.who) by omega), if_neg (show ¬ (v.seq < 1 ∨ 10000 < v.seq) by omega)]
          clear hr
          go_enter Tryz.func83, Tryz.ntmps83
          go_wp2_with fail
          change Calls Tryz.prog 102 _ (boxe v w) _
          refine CC.out.mono ?_
          rintro e w1 ⟨rfl, hb⟩
          have H2 : Hid (Below w.heap.size w w1) := H1.out.trans (hb.mono H1.out.size)
          clear hb
          go_wp2
          go_ret
          exact ⟨rfl, H2.out⟩


set_option maxRecDepth 100000 in
set_option maxHeartbeats 1600000 in
theorem sameER_any (a b : EV) (w : World) (ha : Ops w a.ao a.n a.cap a.vs) (hb : Ops w b.ao b.n b.cap b.vs) :
    Calls Tryz.prog 26 #[.agg #[.int .i64 a.who, .int .i64 a.seq, .slice a.ao a.n a.cap], .agg #[.int .i64 b.who, .int .i64 b.seq, .slice b.ao b.n b.cap]] w fun e w' => e = .returned (.bool (Sv.sameE a.en b.en)) ∧ Below w.heap.size w w' := by
  have H1 : Hid (Below w.heap.size w (boxe b (boxe a w))) := boxe2_below a b w
  have CC : Hid (Calls Tryz.prog 88 #[.slice a.ao a.n a.cap, .slice b.ao b.n b.cap] (boxe b (boxe a w)) fun e w' => e = .returned (.bool (Ac.sameO (a.vs.map PV.pt) (b.vs.map PV.pt))) ∧ Below (boxe b (boxe a w)).heap.size (boxe b (boxe a w)) w') := SameOp_any a.ao b.ao a.n a.cap b.n b.cap a.vs b.vs _ (ha.below H1.out) (hb.below H1.out)
  clear ha hb
  obtain ⟨r, hr⟩ : ∃ r, Sv.sameE a.en b.en = r := ⟨_, rfl⟩
  rw [hr]
  unfold Sv.sameE at hr
  simp only [EV.en] at hr
  generalize Ac.sameO (a.vs.map PV.pt) (b.vs.map PV.pt) = c at *
  cases h1 : (a.who == b.who)
  · obtain rfl := hr.symm.trans (show _ = false by rw [h1]; rfl)
    clear hr
    go_enter Tryz.func26, Tryz.ntmps26
    go_wp2
    go_ret
    exact ⟨rfl, H1.out⟩
  · cases h2 : (a.seq == b.seq)
    · obtain rfl := hr.symm.trans (show _ = false by rw [h1, h2]; rfl)
      clear hr
      go_enter Tryz.func26, Tryz.ntmps26
      go_wp2
      go_ret
      exact ⟨rfl, H1.out⟩
    · obtain rfl := hr.symm.trans (show _ = c by rw [h1, h2]; rfl)
      clear hr
      go_enter Tryz.func26, Tryz.ntmps26
      go_wp2_with fail
      change Calls Tryz.prog 88 _ (boxe b (boxe a w)) _
      refine CC.out.mono ?_
      rintro e w1 ⟨rfl, hb⟩
      have H2 : Hid (Below w.heap.size w w1) := H1.out.trans (hb.mono H1.out.size)
      clear hb
      go_wp2
      go_ret
      exact ⟨rfl, H2.out⟩


set_option maxRecDepth 100000 in
set_option maxHeartbeats 1600000 in
theorem eqFuncR_any (ao ao' : Option Addr) (n cap n' cap' : Nat) (es us : List EV) (w : World) (hO : Ents w ao n cap es) (hO' : Ents w ao' n' cap' us) :
    Calls Tryz.prog 86 #[.slice ao n cap, .slice ao' n' cap', .func (.func 26) #[] #[]] w fun e w' => e = .returned (.bool (Sv.sameL (es.map EV.en) (us.map EV.en))) ∧ Below w.heap.size w w' := by
  have HO : Hid (Ents w ao n cap es) := hO
  have HO' : Hid (Ents w ao' n' cap' us) := hO'
  have HN : Hid (es.length = n) := hO.len
  have HN' : Hid (us.length = n') := hO'.len
  have hcap := hO.row.room
  have hbig := hO.row.big
  clear hO hO'
  obtain ⟨r, hr⟩ : ∃ r, Sv.sameL (es.map EV.en) (us.map EV.en) = r := ⟨_, rfl⟩
  have HR : Hid (Sv.sameL (es.map EV.en) (us.map EV.en) = r) := hr
  rw [hr]
  clear hr
  by_cases hnn : n = n'
  · subst hnn
    go_enter Tryz.func86, Tryz.ntmps86
    go_wp2
    go_loopw [17] (fun i wr => ∃ k : Nat, k ≤ n ∧ i = .int .i64 k ∧ Below w.heap.size w wr ∧ Sv.sameL ((es.map EV.en).drop k) ((us.map EV.en).drop k) = r) (fun i _ => n - (intOf i).toNat)
    case atStart => exact ⟨0, Nat.zero_le _, rfl, Below.refl _ _, HR.out⟩
    case round =>
      obtain ⟨k, hk, rfl, hbr, hsm⟩ := hrel
      have HM : Hid (Sv.sameL ((es.map EV.en).drop k) ((us.map EV.en).drop k) = r) := hsm
      have HBR : Hid (Below w.heap.size w wr) := hbr
      clear hsm hbr
      by_cases hlt : k < n
      · obtain ⟨b, off, rfl, hGt⟩ := HO.out.get (by omega)
        obtain ⟨b', off', rfl, hGt'⟩ := HO'.out.get (by omega)
        have h1 : k < es.length := by rw [HN.out]; exact hlt
        have h2 : k < us.length := by rw [HN'.out]; exact hlt
        have HX : Hid (Sv.sameL ((es.map EV.en).drop k) ((us.map EV.en).drop k) = (Sv.sameE es[k].en us[k].en && Sv.sameL ((es.map EV.en).drop (k + 1)) ((us.map EV.en).drop (k + 1)))) := by
          have := Sv.sameL_step (es.map EV.en) (us.map EV.en) k (by rw [List.length_map]; exact h1) (by rw [List.length_map]; exact h2)
          rw [List.getElem_map, List.getElem_map] at this
          exact this
        obtain ⟨a0, a1, a2⟩ := (hGt k h1).below HBR.out
        have Sb := hGt' k h2
        obtain ⟨b0, b1, b2⟩ := Sb.below (HBR.out.trans ((boxe_below es[k] wr).mono HBR.out.size))
        have HB1 : Hid (Below w.heap.size w (boxe us[k] (boxe es[k] wr))) := HBR.out.trans ((boxe2_below _ _ wr).mono HBR.out.size)
        have HPa : Hid (Ops (boxe us[k] (boxe es[k] wr)) es[k].ao es[k].n es[k].cap es[k].vs) := (HO.out.ops _ (List.getElem_mem h1)).below HB1.out
        have HPb : Hid (Ops (boxe us[k] (boxe es[k] wr)) us[k].ao us[k].n us[k].cap us[k].vs) := (HO'.out.ops _ (List.getElem_mem h2)).below HB1.out
        have HS1 : Hid (Thr (boxe us[k] (boxe es[k] wr)) wr.heap.size 0 es[k]) := boxe2_fst es[k] us[k] wr
        have HS2 : Hid (Thr (boxe us[k] (boxe es[k] wr)) (boxe es[k] wr).heap.size 0 us[k]) := boxe_at us[k] (boxe es[k] wr)
        clear hGt hGt' Sb
        generalize es[k] = v at *
        generalize us[k] = u at *
        clear h1 h2
        go_upto_region 6 with fail
        change Code.wp Tryz.prog _ _ _ (boxe v wr)
        go_upto_region 7 with fail
        change Code.wp Tryz.prog _ _ _ (boxe u (boxe v wr))
        generalize boxe u (boxe v wr) = W at *
        clear a0 a1 a2 b0 b1 b2
        obtain ⟨a0, a1, a2⟩ := HS1.out
        obtain ⟨b0, b1, b2⟩ := HS2.out
        simp only [Nat.zero_add] at a0 a1 a2 b0 b1 b2
        go_wp2_with fail
        refine (sameER_any v u _ HPa.out HPb.out).mono ?_
        rintro e w1 ⟨rfl, hb⟩
        have H2 : Hid (Below w.heap.size w w1) := HB1.out.trans (hb.mono HB1.out.size)
        clear hb a0 a1 a2 b0 b1 b2
        cases hal : Sv.sameE v.en u.en
        · obtain rfl : r = false := by rw [← HM.out, HX.out, hal]; rfl
          clear hal
          go_wp2
          go_ret
          exact ⟨rfl, H2.out⟩
        · have HM2 : Hid (Sv.sameL ((es.map EV.en).drop (k + 1)) ((us.map EV.en).drop (k + 1)) = r) := by show _ = _; rw [← HM.out, HX.out, hal, Bool.true_and]
          clear hal
          go_wp2
          go_roundw
          case rel => exact ⟨k + 1, by omega, by go_num, H2.out, HM2.out⟩
          case measure => simp [intOf]; omega
      · obtain rfl : k = n := by omega
        obtain rfl : r = true := by
          rw [← HM.out, List.drop_eq_nil_of_le (by rw [List.length_map, HN.out]; exact Nat.le_refl _), List.drop_eq_nil_of_le (by rw [List.length_map, HN'.out]; exact Nat.le_refl _)]
          rfl
        go_wp2
        go_ret
        exact ⟨rfl, HBR.out⟩
  · obtain rfl : r = false := by rw [← HR.out]; exact Sv.sameL_len _ _ (by rw [List.length_map, List.length_map, HN.out, HN'.out]; exact hnn)
    have hne : ((n : Int) != (n' : Int)) = true := by simp; omega
    have hne' : (n != n') = true := by simp; omega
    go_enter Tryz.func86, Tryz.ntmps86
    go_wp2
    go_ret
    exact ⟨rfl, Below.refl _ _⟩


set_option maxRecDepth 100000 in
set_option maxHeartbeats 1600000 in
theorem sameSR_any (a b : SV) (w : World) (ha : Srv w a) (hb : Srv w b) :
    Calls Tryz.prog 28 #[.agg #[.slice a.fa a.fn a.fc, .slice a.la a.ln a.lc, .slice a.na a.nn a.nc], .agg #[.slice b.fa b.fn b.fc, .slice b.la b.ln b.lc, .slice b.na b.nn b.nc]] w fun e w' => e = .returned (.bool (Sv.sameS a.se b.se)) ∧ Below w.heap.size w w' := by
  have H1 : Hid (Below w.heap.size w (boxs b (boxs a w))) := (boxs_below a w).trans ((boxs_below b _).mono (boxs_below a w).size)
  have HA : Hid (Blk (boxs b (boxs a w)) w.heap.size (svC a) 42) := (boxs_blk a w).alloc _
  have HB : Hid (Blk (boxs b (boxs a w)) (w.heap.size + 1) (svC b) 42) := by have := boxs_blk b (boxs a w); rw [boxs_size] at this; exact this
  have C0 : Hid (Calls Tryz.prog 16 #[.slice a.fa a.fn a.fc, .slice b.fa b.fn b.fc] (boxs b (boxs a w)) fun e w' => e = .returned (.bool (Dc.same a.first b.first)) ∧ Below (boxs b (boxs a w)).heap.size (boxs b (boxs a w)) w') := (equal_any _ _ _ _ _ _ _ _ _ (ha.first.below H1.out) (hb.first.below H1.out)).mono fun e w' ⟨h, m, hm⟩ => ⟨h, by rw [hm]; exact drewN_blw _ m⟩
  have C1 : Hid (∀ w', Below (boxs b (boxs a w)).heap.size (boxs b (boxs a w)) w' → Calls Tryz.prog 16 #[.slice a.na a.nn a.nc, .slice b.na b.nn b.nc] w' fun e w'' => e = .returned (.bool (Dc.same a.now b.now)) ∧ Below w'.heap.size w' w'') := fun w' hw => (equal_any _ _ _ _ _ _ _ _ _ ((ha.now.below H1.out).below hw) ((hb.now.below H1.out).below hw)).mono fun e w'' ⟨h, m, hm⟩ => ⟨h, by rw [hm]; exact drewN_blw _ m⟩
  have C2 : Hid (∀ w', Below (boxs b (boxs a w)).heap.size (boxs b (boxs a w)) w' → Calls Tryz.prog 86 #[.slice a.la a.ln a.lc, .slice b.la b.ln b.lc, .func (.func 26) #[] #[]] w' fun e w'' => e = .returned (.bool (Sv.sameL (a.log.map EV.en) (b.log.map EV.en))) ∧ Below w'.heap.size w' w'') := fun w' hw => eqFuncR_any _ _ _ _ _ _ _ _ _ ((ha.log.below H1.out).below hw) ((hb.log.below H1.out).below hw)
  clear ha hb
  obtain ⟨r, hr⟩ : ∃ r, Sv.sameS a.se b.se = r := ⟨_, rfl⟩
  rw [hr]
  unfold Sv.sameS at hr
  simp only [SV.se] at hr
  generalize Dc.same a.first b.first = x at *
  generalize Sv.sameL (a.log.map EV.en) (b.log.map EV.en) = y at *
  generalize Dc.same a.now b.now = z at *
  cases x
  · obtain rfl := hr.symm.trans (show _ = false from rfl)
    clear hr
    go_enter Tryz.func28, Tryz.ntmps28
    go_wp2_with fail
    change Calls Tryz.prog 16 _ (boxs b (boxs a w)) _
    refine C0.out.mono ?_
    rintro e w1 ⟨rfl, hb⟩
    have H2 : Hid (Below (boxs b (boxs a w)).heap.size (boxs b (boxs a w)) w1) := hb
    have H2w : Hid (Below w.heap.size w w1) := H1.out.trans (hb.mono H1.out.size)
    clear hb
    go_wp2
    go_ret
    exact ⟨rfl, H2w.out⟩
  · cases z
    · obtain rfl := hr.symm.trans (show _ = false by simp)
      clear hr
      go_enter Tryz.func28, Tryz.ntmps28
      go_wp2_with fail
      change Calls Tryz.prog 16 _ (boxs b (boxs a w)) _
      refine C0.out.mono ?_
      rintro e w1 ⟨rfl, hb⟩
      have H2 : Hid (Below (boxs b (boxs a w)).heap.size (boxs b (boxs a w)) w1) := hb
      have H2w : Hid (Below w.heap.size w w1) := H1.out.trans (hb.mono H1.out.size)
      clear hb
      have e1 : w1.cell? ⟨w.heap.size, 2, none⟩ = some (.slice a.na a.nn a.nc) := cell_below (HA.out.cell 2) H2.out
      have e2 : w1.cell? ⟨w.heap.size + 1, 2, none⟩ = some (.slice b.na b.nn b.nc) := cell_below (HB.out.cell 2) H2.out
      go_wp2_with fail
      refine (C1.out _ H2.out).mono ?_
      rintro e w2 ⟨rfl, hb⟩
      have H3 : Hid (Below (boxs b (boxs a w)).heap.size (boxs b (boxs a w)) w2) := H2.out.trans (hb.mono H2.out.size)
      have H3w : Hid (Below w.heap.size w w2) := H1.out.trans (H3.out.mono H1.out.size)
      clear hb e1 e2
      go_wp2
      go_ret
      exact ⟨rfl, H3w.out⟩
    · obtain rfl := hr.symm.trans (show _ = y by simp)
      clear hr
      go_enter Tryz.func28, Tryz.ntmps28
      go_wp2_with fail
      change Calls Tryz.prog 16 _ (boxs b (boxs a w)) _
      refine C0.out.mono ?_
      rintro e w1 ⟨rfl, hb⟩
      have H2 : Hid (Below (boxs b (boxs a w)).heap.size (boxs b (boxs a w)) w1) := hb
      have H2w : Hid (Below w.heap.size w w1) := H1.out.trans (hb.mono H1.out.size)
      clear hb
      have e1 : w1.cell? ⟨w.heap.size, 2, none⟩ = some (.slice a.na a.nn a.nc) := cell_below (HA.out.cell 2) H2.out
      have e2 : w1.cell? ⟨w.heap.size + 1, 2, none⟩ = some (.slice b.na b.nn b.nc) := cell_below (HB.out.cell 2) H2.out
      go_wp2_with fail
      refine (C1.out _ H2.out).mono ?_
      rintro e w2 ⟨rfl, hb⟩
      have H3 : Hid (Below (boxs b (boxs a w)).heap.size (boxs b (boxs a w)) w2) := H2.out.trans (hb.mono H2.out.size)
      have H3w : Hid (Below w.heap.size w w2) := H1.out.trans (H3.out.mono H1.out.size)
      clear hb e1 e2
      have e1 : w2.cell? ⟨w.heap.size, 1, none⟩ = some (.slice a.la a.ln a.lc) := cell_below (HA.out.cell 1) H3.out
      have e2 : w2.cell? ⟨w.heap.size + 1, 1, none⟩ = some (.slice b.la b.ln b.lc) := cell_below (HB.out.cell 1) H3.out
      go_wp2_with fail
      refine (C2.out _ H3.out).mono ?_
      rintro e w3 ⟨rfl, hb⟩
      have H4w : Hid (Below w.heap.size w w3) := H1.out.trans ((H3.out.trans (hb.mono H3.out.size)).mono H1.out.size)
      clear hb e1 e2
      go_wp2
      go_ret
      exact ⟨rfl, H4w.out⟩

set_option maxRecDepth 100000 in
set_option maxHeartbeats 1600000 in
theorem foldR_any (ao : Option Addr) (n cap : Nat) (d : List It) (la : Option Addr) (ln lc : Nat) (es : List EV) (w : World) (hD : Doc w ao n cap d) (hE : Ents w la ln lc es) :
    Calls Tryz.prog 20 #[.slice ao n cap, .slice la ln lc] w fun e w' => (∃ a n' c, e = .returned (.tuple #[.slice a n' c, .int .i64 (Sv.fldE d (es.map EV.en))]) ∧ Doc w' a n' c (Sv.fldD d (es.map EV.en))) ∧ Below w.heap.size w w' := by
  have CC : Hid (Calls Tryz.prog 27 #[.slice ao n cap] w fun e w' => e = .returned (.int .i64 (Dc.check d)) ∧ Below w.heap.size w w') := CheckDoc_any ao n cap d w hD
  have hlen : (es.map EV.en).length = ln := by rw [List.length_map]; exact hE.len
  by_cases hc : Dc.check d = 0
  · by_cases hm : 60 < ln
    · have hE1 : Sv.fldE d (es.map EV.en) = 2 := by unfold Sv.fldE; rw [if_pos hc, if_pos (by omega)]
      have hD1 : Sv.fldD d (es.map EV.en) = [] := by unfold Sv.fldD; rw [if_pos hc, if_pos (by omega)]
      rw [hE1, hD1]
      rw [hc] at CC
      clear hE1 hD1 hlen hD hE hc
      go_enter Tryz.func20, Tryz.ntmps20
      go_wp2_with fail
      refine CC.out.mono ?_
      rintro e w1 ⟨rfl, hb⟩
      have H1 : Hid (Below w.heap.size w w1) := hb
      clear hb
      go_wp2
      exact bodyPost_ret (v := .tuple #[.slice none 0 0, .int .i64 2]) (by simp [results, Tryz.results20, go_sem]) rfl ⟨⟨none, 0, 0, rfl, docN w1⟩, H1.out⟩
    · have hE1 : Sv.fldE d (es.map EV.en) = Sv.foldE d (es.map EV.en) := by unfold Sv.fldE; rw [if_pos hc, if_neg (by omega)]
      have hD1 : Sv.fldD d (es.map EV.en) = Sv.foldD d (es.map EV.en) := by unfold Sv.fldD; rw [if_pos hc, if_neg (by omega)]
      rw [hE1, hD1]
      rw [hc] at CC
      have HD : Hid (Doc w ao n cap d) := hD
      have HE : Hid (Ents w la ln lc es) := hE
      have HN : Hid (es.length = ln) := hE.len
      have hcap := hE.row.room
      have hbig := hE.row.big
      clear hE1 hD1 hlen hD hE hc
      obtain ⟨E, hEE⟩ : ∃ E, Sv.foldE d (es.map EV.en) = E := ⟨_, rfl⟩
      obtain ⟨D, hDD⟩ : ∃ D, Sv.foldD d (es.map EV.en) = D := ⟨_, rfl⟩
      rw [hEE, hDD]
      have HEE : Hid (Sv.foldE d (es.map EV.en) = E) := hEE
      have HDD : Hid (Sv.foldD d (es.map EV.en) = D) := hDD
      clear hEE hDD
      go_enter Tryz.func20, Tryz.ntmps20
      go_wp2_with fail
      refine CC.out.mono ?_
      rintro e w1 ⟨rfl, hb⟩
      have H1 : Hid (Below w.heap.size w w1) := hb
      clear hb
      go_wp2
      go_loopw [0, 21] (fun dv i wr => ∃ (k : Nat) (a : Option Addr) (m c : Nat) (l : List It), k ≤ ln ∧ i = .int .i64 k ∧ dv = .slice a m c ∧ Doc wr a m c l ∧ Sv.foldE l ((es.map EV.en).drop k) = E ∧ Sv.foldD l ((es.map EV.en).drop k) = D ∧ Below w.heap.size w wr) (fun _ i _ => ln - (intOf i).toNat)
      case atStart => exact ⟨0, ao, n, cap, d, Nat.zero_le _, rfl, rfl, HD.out.below H1.out, HEE.out, HDD.out, H1.out⟩
      case round =>
        obtain ⟨k, a, m, c, l, hk, rfl, rfl, hDl, hfe, hfd, hbr⟩ := hrel
        have HDl : Hid (Doc wr a m c l) := hDl
        have HFE : Hid (Sv.foldE l ((es.map EV.en).drop k) = E) := hfe
        have HFD : Hid (Sv.foldD l ((es.map EV.en).drop k) = D) := hfd
        have HBR : Hid (Below w.heap.size w wr) := hbr
        clear hDl hfe hfd hbr
        by_cases hlt : k < ln
        · obtain ⟨b, off, rfl, hGt⟩ := HE.out.get (by omega)
          have h1 : k < es.length := by rw [HN.out]; exact hlt
          obtain ⟨a0, a1, a2⟩ := (hGt k h1).below HBR.out
          have HX : Hid (Sv.foldE l ((es.map EV.en).drop k) = (if Ac.fitE l es[k].en.o = 0 then Sv.foldE (Ac.done l es[k].en.o) ((es.map EV.en).drop (k + 1)) else Ac.fitE l es[k].en.o) ∧ Sv.foldD l ((es.map EV.en).drop k) = (if Ac.fitE l es[k].en.o = 0 then Sv.foldD (Ac.done l es[k].en.o) ((es.map EV.en).drop (k + 1)) else Ac.done l es[k].en.o)) := by
            show _ ∧ _
            rw [List.drop_eq_getElem_cons (by rw [List.length_map]; exact h1), List.getElem_map]
            exact ⟨rfl, rfl⟩
          have HB1 : Hid (Below w.heap.size w (boxe es[k] wr)) := HBR.out.trans ((boxe_below _ wr).mono HBR.out.size)
          have CA : Hid (Calls Tryz.prog 82 #[.slice a m c, .slice es[k].ao es[k].n es[k].cap] (boxe es[k] wr) fun e w' => (∃ a n c, e = .returned (.tuple #[.slice a n c, .int .i64 (Ac.fitE l es[k].en.o)]) ∧ Doc w' a n c (Ac.done l es[k].en.o)) ∧ Below (boxe es[k] wr).heap.size (boxe es[k] wr) w') := (appliedR_any a es[k].ao m c es[k].n es[k].cap l es[k].vs _ (HDl.out.below (boxe_below _ wr)) ((HE.out.ops _ (List.getElem_mem h1)).below HB1.out)).mono fun e w' ⟨⟨a, c, h1, h2⟩, hb⟩ => ⟨⟨a, _, c, h1, h2⟩, hb⟩
          have HT : Hid (Thr (boxe es[k] wr) wr.heap.size 0 es[k]) := boxe_at es[k] wr
          clear hGt
          generalize es[k] = v at *
          go_upto_region 9 with fail
          change Code.wp Tryz.prog _ _ _ (boxe v wr)
          generalize boxe v wr = W at *
          clear a0 a1 a2
          obtain ⟨a0, a1, a2⟩ := HT.out
          simp only [Nat.zero_add] at a0 a1 a2
          obtain ⟨q, hq⟩ : ∃ q, Ac.fitE l v.en.o = q := ⟨_, rfl⟩
          rw [hq] at CA HX
          have HQ : Hid (Ac.fitE l v.en.o = q) := hq
          clear hq
          go_wp2_with fail
          refine CA.out.mono ?_
          rintro e w2 ⟨⟨na, nn, nc, rfl, hC⟩, hb⟩
          have HC : Hid (Doc w2 na nn nc (Ac.done l v.en.o)) := hC
          have H2 : Hid (Below w.heap.size w w2) := HB1.out.trans (hb.mono HB1.out.size)
          clear hb hC a0 a1 a2
          by_cases hz : q = 0
          · have HE2 : Hid (Sv.foldE (Ac.done l v.en.o) ((es.map EV.en).drop (k + 1)) = E) := by have h := HX.out.1; rw [if_pos hz] at h; show _ = _; rw [← h]; exact HFE.out
            have HD2 : Hid (Sv.foldD (Ac.done l v.en.o) ((es.map EV.en).drop (k + 1)) = D) := by have h := HX.out.2; rw [if_pos hz] at h; show _ = _; rw [← h]; exact HFD.out
            subst hz
            go_wp2
            go_roundw
            case rel => exact ⟨k + 1, na, nn, nc, _, by omega, by go_num, rfl, HC.out, HE2.out, HD2.out, H2.out⟩
            case measure => simp [intOf]; omega
          · have hne : (q != 0) = true := by simp [hz]
            obtain rfl : E = q := by have h := HX.out.1; rw [if_neg hz] at h; rw [← HFE.out, h]
            have HDn : Hid (D = []) := by
              have h := HX.out.2
              rw [if_neg hz] at h
              show D = []
              rw [← HFD.out, h]
              exact if_neg (by rw [HQ.out]; exact hz)
            go_wp2
            exact bodyPost_ret (v := .tuple #[.slice none 0 0, .int .i64 E]) (by simp [results, Tryz.results20, go_sem]) rfl ⟨⟨none, 0, 0, rfl, by rw [HDn.out]; exact docN _⟩, H2.out⟩
        · obtain rfl : k = ln := by omega
          have hn : (es.map EV.en).drop k = [] := List.drop_eq_nil_of_le (by rw [List.length_map, HN.out]; exact Nat.le_refl _)
          obtain rfl : E = 0 := by have h := HFE.out; rw [hn] at h; exact h.symm
          have HL : Hid (l = D) := by have h := HFD.out; rw [hn] at h; exact h
          clear hn
          go_wp2
          exact bodyPost_ret (v := .tuple #[.slice a m c, .int .i64 0]) (by simp [results, Tryz.results20, go_sem]) rfl ⟨⟨a, m, c, rfl, by rw [← HL.out]; exact HDl.out⟩, HBR.out⟩
  · have hE1 : Sv.fldE d (es.map EV.en) = Dc.check d := by unfold Sv.fldE; rw [if_neg hc]
    have hD1 : Sv.fldD d (es.map EV.en) = [] := by unfold Sv.fldD; rw [if_neg hc]
    rw [hE1, hD1]
    clear hE1 hD1 hlen hD hE
    generalize Dc.check d = r at *
    have hne : (r != 0) = true := by simp [hc]
    go_enter Tryz.func20, Tryz.ntmps20
    go_wp2_with fail
    refine CC.out.mono ?_
    rintro e w1 ⟨rfl, hb⟩
    have H1 : Hid (Below w.heap.size w w1) := hb
    clear hb
    go_wp2
    exact bodyPost_ret (v := .tuple #[.slice none 0 0, .int .i64 r]) (by simp [results, Tryz.results20, go_sem]) rfl ⟨⟨none, 0, 0, rfl, docN w1⟩, H1.out⟩
end Go.Proofs.YtbhcklkbckacpaaGreatDoor
