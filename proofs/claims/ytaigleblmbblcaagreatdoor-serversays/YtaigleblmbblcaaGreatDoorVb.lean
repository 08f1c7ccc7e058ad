/-
  Package server: entries checked, held against each other, handed on one by one.
-/
import Derived.Test.YtaigleblmbblcaaGreatDoorVa
namespace Go.Proofs.YtaigleblmbblcaaGreatDoor
open Go.RowKit

set_option maxRecDepth 100000 in
set_option maxHeartbeats 1600000 in
theorem entE_any (v : EV) (w : World) (hO : Ops w v.ao v.n v.cap v.vs) (hS : Sch w) :
    Calls Tryz.prog 44 #[.agg #[.int .i64 v.who, .int .i64 v.seq, .slice v.ao v.n v.cap]] w fun e w' => e = .returned (.int .i64 (Sv.entE v.en)) ∧ Below w.heap.size w w' := by
  have H1 : Hid (Below w.heap.size w (boxe v w)) := boxe_below v w
  have CC : Hid (Calls Tryz.prog 75 #[.slice v.ao v.n v.cap] (boxe v w) fun e w' => e = .returned (.int .i64 (Ac.chk (v.vs.map PV.pt))) ∧ Below (boxe v w).heap.size (boxe v w) w') := chk_any v.ao v.n v.cap v.vs _ (hO.below (boxe_below v w)) (hS.below (boxe_below v w))
  clear hO hS
  obtain ⟨r, hr⟩ : ∃ r, Sv.entE v.en = r := ⟨_, rfl⟩
  rw [hr]
  change (if v.who < 0 ∨ 4 ≤ v.who then (5 : Int) else if v.seq < 1 ∨ 10000 < v.seq then 3 else Ac.chk (v.vs.map PV.pt)) = r at hr
  generalize Ac.chk (v.vs.map PV.pt) = c at *
  by_cases h1 : v.who < 0
  · obtain rfl : r = 5 := by rw [← hr, if_pos (show v.who < 0 ∨ 4 ≤ v.who from Or.inl h1)]
    clear hr
    go_enter Tryz.func44, Tryz.ntmps44
    go_wp2
    go_ret
    exact ⟨rfl, H1.out⟩
  · by_cases h2 : 4 ≤ v.who
    · obtain rfl : r = 5 := by rw [← hr, if_pos (show v.who < 0 ∨ 4 ≤ v.who from Or.inr h2)]
      clear hr
      go_enter Tryz.func44, Tryz.ntmps44
      go_wp2
      go_ret
      exact ⟨rfl, H1.out⟩
    · by_cases h3 : v.seq < 1
      · obtain rfl : r = 3 := by rw [← hr, if_neg (show ¬ (v.who < 0 ∨ 4 ≤ v.who) by omega), if_pos (show v.seq < 1 ∨ 10000 < v.seq from Or.inl h3)]
        clear hr
        go_enter Tryz.func44, Tryz.ntmps44
        go_wp2
        go_ret
        exact ⟨rfl, H1.out⟩
      · by_cases h4 : 10000 < v.seq
        · obtain rfl : r = 3 := by rw [← hr, if_neg (show ¬ (v.who < 0 ∨ 4 ≤ v.who) by omega), if_pos (show v.seq < 1 ∨ 10000 < v.seq from Or.inr h4)]
          clear hr
          go_enter Tryz.func44, Tryz.ntmps44
          go_wp2
          go_ret
          exact ⟨rfl, H1.out⟩
        · obtain rfl : r = c := by rw [← hr, if_neg (show ¬ (v.who < 0 ∨ 4 ≤ v.who) by omega), if_neg (show ¬ (v.seq < 1 ∨ 10000 < v.seq) by omega)]
          clear hr
          go_enter Tryz.func44, Tryz.ntmps44
          go_wp2_with fail
          change Calls Tryz.prog 75 _ (boxe v w) _
          refine CC.out.mono ?_
          rintro e w1 ⟨rfl, hb⟩
          have H2 : Hid (Below w.heap.size w w1) := H1.out.trans (hb.mono H1.out.size)
          clear hb
          go_wp2
          go_ret
          exact ⟨rfl, H2.out⟩

set_option maxRecDepth 100000 in
set_option maxHeartbeats 1600000 in
theorem sameE_any (a b : EV) (w : World) (ha : Ops w a.ao a.n a.cap a.vs) (hb : Ops w b.ao b.n b.cap b.vs) :
    Calls Tryz.prog 14 #[.agg #[.int .i64 a.who, .int .i64 a.seq, .slice a.ao a.n a.cap], .agg #[.int .i64 b.who, .int .i64 b.seq, .slice b.ao b.n b.cap]] w fun e w' => e = .returned (.bool (Sv.sameE a.en b.en)) ∧ Below w.heap.size w w' := by
  have H1 : Hid (Below w.heap.size w (boxe b (boxe a w))) := boxe2_below a b w
  have CC : Hid (Calls Tryz.prog 47 #[.slice a.ao a.n a.cap, .slice b.ao b.n b.cap] (boxe b (boxe a w)) fun e w' => e = .returned (.bool (Ac.sameO (a.vs.map PV.pt) (b.vs.map PV.pt))) ∧ Below (boxe b (boxe a w)).heap.size (boxe b (boxe a w)) w') := sameO_any a.ao b.ao a.n a.cap b.n b.cap a.vs b.vs _ (ha.below H1.out) (hb.below H1.out)
  clear ha hb
  obtain ⟨r, hr⟩ : ∃ r, Sv.sameE a.en b.en = r := ⟨_, rfl⟩
  rw [hr]
  unfold Sv.sameE at hr
  simp only [EV.en] at hr
  generalize Ac.sameO (a.vs.map PV.pt) (b.vs.map PV.pt) = c at *
  cases h1 : (a.who == b.who)
  · obtain rfl := hr.symm.trans (show _ = false by rw [h1]; rfl)
    clear hr
    go_enter Tryz.func14, Tryz.ntmps14
    go_wp2
    go_ret
    exact ⟨rfl, H1.out⟩
  · cases h2 : (a.seq == b.seq)
    · obtain rfl := hr.symm.trans (show _ = false by rw [h1, h2]; rfl)
      clear hr
      go_enter Tryz.func14, Tryz.ntmps14
      go_wp2
      go_ret
      exact ⟨rfl, H1.out⟩
    · obtain rfl := hr.symm.trans (show _ = c by rw [h1, h2]; rfl)
      clear hr
      go_enter Tryz.func14, Tryz.ntmps14
      go_wp2_with fail
      change Calls Tryz.prog 47 _ (boxe b (boxe a w)) _
      refine CC.out.mono ?_
      rintro e w1 ⟨rfl, hb⟩
      have H2 : Hid (Below w.heap.size w w1) := H1.out.trans (hb.mono H1.out.size)
      clear hb
      go_wp2
      go_ret
      exact ⟨rfl, H2.out⟩

set_option maxRecDepth 100000 in
set_option maxHeartbeats 1600000 in
theorem eqFuncE_any (ao ao' : Option Addr) (n cap n' cap' : Nat) (es us : List EV) (w : World) (hO : Ents w ao n cap es) (hO' : Ents w ao' n' cap' us) :
    Calls Tryz.prog 46 #[.slice ao n cap, .slice ao' n' cap', .func (.func 14) #[] #[]] w fun e w' => e = .returned (.bool (Sv.sameL (es.map EV.en) (us.map EV.en))) ∧ Below w.heap.size w w' := by
  have HO : Hid (Ents w ao n cap es) := hO
  have HO' : Hid (Ents w ao' n' cap' us) := hO'
  have HN : Hid (es.length = n) := hO.len
  have HN' : Hid (us.length = n') := hO'.len
  have hcap := hO.row.room
  have hbig := hO.row.big
  clear hO hO'
  obtain ⟨r, hr⟩ : ∃ r, Sv.sameL (es.map EV.en) (us.map EV.en) = r := ⟨_, rfl⟩
  have HR : Hid (Sv.sameL (es.map EV.en) (us.map EV.en) = r) := hr
  rw [hr]
  clear hr
  by_cases hnn : n = n'
  · subst hnn
    go_enter Tryz.func46, Tryz.ntmps46
    go_wp2
    go_loopw [17] (fun i wr => ∃ k : Nat, k ≤ n ∧ i = .int .i64 k ∧ Below w.heap.size w wr ∧ Sv.sameL ((es.map EV.en).drop k) ((us.map EV.en).drop k) = r) (fun i _ => n - (intOf i).toNat)
    case atStart => exact ⟨0, Nat.zero_le _, rfl, Below.refl _ _, HR.out⟩
    case round =>
      obtain ⟨k, hk, rfl, hbr, hsm⟩ := hrel
      have HM : Hid (Sv.sameL ((es.map EV.en).drop k) ((us.map EV.en).drop k) = r) := hsm
      have HBR : Hid (Below w.heap.size w wr) := hbr
      clear hsm hbr
      by_cases hlt : k < n
      · obtain ⟨b, off, rfl, hGt⟩ := HO.out.get (by omega)
        obtain ⟨b', off', rfl, hGt'⟩ := HO'.out.get (by omega)
        have h1 : k < es.length := by rw [HN.out]; exact hlt
        have h2 : k < us.length := by rw [HN'.out]; exact hlt
        have HX : Hid (Sv.sameL ((es.map EV.en).drop k) ((us.map EV.en).drop k) = (Sv.sameE es[k].en us[k].en && Sv.sameL ((es.map EV.en).drop (k + 1)) ((us.map EV.en).drop (k + 1)))) := by
          have := Sv.sameL_step (es.map EV.en) (us.map EV.en) k (by rw [List.length_map]; exact h1) (by rw [List.length_map]; exact h2)
          rw [List.getElem_map, List.getElem_map] at this
          exact this
        obtain ⟨a0, a1, a2⟩ := (hGt k h1).below HBR.out
        have Sb := hGt' k h2
        obtain ⟨b0, b1, b2⟩ := Sb.below (HBR.out.trans ((boxe_below es[k] wr).mono HBR.out.size))
        have HB1 : Hid (Below w.heap.size w (boxe us[k] (boxe es[k] wr))) := HBR.out.trans ((boxe2_below _ _ wr).mono HBR.out.size)
        have HPa : Hid (Ops (boxe us[k] (boxe es[k] wr)) es[k].ao es[k].n es[k].cap es[k].vs) := (HO.out.ops _ (List.getElem_mem h1)).below HB1.out
        have HPb : Hid (Ops (boxe us[k] (boxe es[k] wr)) us[k].ao us[k].n us[k].cap us[k].vs) := (HO'.out.ops _ (List.getElem_mem h2)).below HB1.out
        have HS1 : Hid (Thr (boxe us[k] (boxe es[k] wr)) wr.heap.size 0 es[k]) := boxe2_fst es[k] us[k] wr
        have HS2 : Hid (Thr (boxe us[k] (boxe es[k] wr)) (boxe es[k] wr).heap.size 0 us[k]) := boxe_at us[k] (boxe es[k] wr)
        clear hGt hGt' Sb
        generalize es[k] = v at *
        generalize us[k] = u at *
        clear h1 h2
        go_upto_region 6 with fail
        change Code.wp Tryz.prog _ _ _ (boxe v wr)
        go_upto_region 7 with fail
        change Code.wp Tryz.prog _ _ _ (boxe u (boxe v wr))
        generalize boxe u (boxe v wr) = W at *
        clear a0 a1 a2 b0 b1 b2
        obtain ⟨a0, a1, a2⟩ := HS1.out
        obtain ⟨b0, b1, b2⟩ := HS2.out
        simp only [Nat.zero_add] at a0 a1 a2 b0 b1 b2
        go_wp2_with fail
        refine (sameE_any v u _ HPa.out HPb.out).mono ?_
        rintro e w1 ⟨rfl, hb⟩
        have H2 : Hid (Below w.heap.size w w1) := HB1.out.trans (hb.mono HB1.out.size)
        clear hb a0 a1 a2 b0 b1 b2
        cases hal : Sv.sameE v.en u.en
        · obtain rfl : r = false := by rw [← HM.out, HX.out, hal]; rfl
          clear hal
          go_wp2
          go_ret
          exact ⟨rfl, H2.out⟩
        · have HM2 : Hid (Sv.sameL ((es.map EV.en).drop (k + 1)) ((us.map EV.en).drop (k + 1)) = r) := by show _ = _; rw [← HM.out, HX.out, hal, Bool.true_and]
          clear hal
          go_wp2
          go_roundw
          case rel => exact ⟨k + 1, by omega, by go_num, H2.out, HM2.out⟩
          case measure => simp [intOf]; omega
      · obtain rfl : k = n := by omega
        obtain rfl : r = true := by
          rw [← HM.out, List.drop_eq_nil_of_le (by rw [List.length_map, HN.out]; exact Nat.le_refl _), List.drop_eq_nil_of_le (by rw [List.length_map, HN'.out]; exact Nat.le_refl _)]
          rfl
        go_wp2
        go_ret
        exact ⟨rfl, HBR.out⟩
  · obtain rfl : r = false := by rw [← HR.out]; exact Sv.sameL_len _ _ (by rw [List.length_map, List.length_map, HN.out, HN'.out]; exact hnn)
    have hne : ((n : Int) != (n' : Int)) = true := by simp; omega
    have hne' : (n != n') = true := by simp; omega
    go_enter Tryz.func46, Tryz.ntmps46
    go_wp2
    go_ret
    exact ⟨rfl, Below.refl _ _⟩

set_option maxRecDepth 100000 in
set_option maxHeartbeats 1600000 in
theorem eachE_any (ao : Option Addr) (n cap : Nat) (es : List EV) (w : World) (hE : Ents w ao n cap es) (hS : Sch w) :
    Calls Tryz.prog 38 #[.slice ao n cap, .func (.func 44) #[] #[]] w fun e w' => e = .returned (.int .i64 (Sv.entsE (es.map EV.en))) ∧ Below w.heap.size w w' := by
  have HE : Hid (Ents w ao n cap es) := hE
  have HS : Hid (Sch w) := hS
  have HN : Hid (es.length = n) := hE.len
  have hcap := hE.row.room
  have hbig := hE.row.big
  clear hE hS
  obtain ⟨r, hr⟩ : ∃ r, Sv.entsE (es.map EV.en) = r := ⟨_, rfl⟩
  have HR : Hid (Sv.entsE (es.map EV.en) = r) := hr
  rw [hr]
  clear hr
  go_enter Tryz.func38, Tryz.ntmps38
  go_wp2
  go_loopw [10] (fun i wr => ∃ k : Nat, k ≤ n ∧ i = .int .i64 k ∧ Below w.heap.size w wr ∧ Sv.entsE ((es.map EV.en).drop k) = r) (fun i _ => n - (intOf i).toNat)
  case atStart => exact ⟨0, Nat.zero_le _, rfl, Below.refl _ _, HR.out⟩
  case round =>
    obtain ⟨k, hk, rfl, hbr, hsm⟩ := hrel
    have HM : Hid (Sv.entsE ((es.map EV.en).drop k) = r) := hsm
    have HBR : Hid (Below w.heap.size w wr) := hbr
    clear hsm hbr
    by_cases hlt : k < n
    · obtain ⟨b, off, rfl, hGt⟩ := HE.out.get (by omega)
      have h1 : k < es.length := by rw [HN.out]; exact hlt
      have HX : Hid (Sv.entsE ((es.map EV.en).drop k) = if Sv.entE es[k].en = 0 then Sv.entsE ((es.map EV.en).drop (k + 1)) else Sv.entE es[k].en) := by
        have := Sv.entsE_step (es.map EV.en) k (by rw [List.length_map]; exact h1)
        rw [List.getElem_map] at this
        exact this
      obtain ⟨a0, a1, a2⟩ := (hGt k h1).below HBR.out
      have HB1 : Hid (Below w.heap.size w (boxe es[k] wr)) := HBR.out.trans ((boxe_below _ wr).mono HBR.out.size)
      have HOP : Hid (Ops (boxe es[k] wr) es[k].ao es[k].n es[k].cap es[k].vs) := (HE.out.ops _ (List.getElem_mem h1)).below HB1.out
      have HS1 : Hid (Sch (boxe es[k] wr)) := HS.out.below HB1.out
      have HT : Hid (Thr (boxe es[k] wr) wr.heap.size 0 es[k]) := boxe_at es[k] wr
      clear hGt
      generalize es[k] = v at *
      go_upto_region 4 with fail
      change Code.wp Tryz.prog _ _ _ (boxe v wr)
      generalize boxe v wr = W at *
      clear a0 a1 a2
      obtain ⟨a0, a1, a2⟩ := HT.out
      simp only [Nat.zero_add] at a0 a1 a2
      go_wp2_with fail
      refine (entE_any v _ HOP.out HS1.out).mono ?_
      rintro e w1 ⟨rfl, hb⟩
      have H2 : Hid (Below w.heap.size w w1) := HB1.out.trans (hb.mono HB1.out.size)
      clear hb a0 a1 a2
      obtain ⟨q, hq⟩ : ∃ q, Sv.entE v.en = q := ⟨_, rfl⟩
      rw [hq] at HX ⊢
      clear hq
      by_cases hz : q = 0
      · have HM2 : Hid (Sv.entsE ((es.map EV.en).drop (k + 1)) = r) := by show _ = _; rw [← HM.out, HX.out, if_pos hz]
        subst hz
        go_wp2
        go_roundw
        case rel => exact ⟨k + 1, by omega, by go_num, H2.out, HM2.out⟩
        case measure => simp [intOf]; omega
      · have hne : (q != 0) = true := by simp [hz]
        obtain rfl : r = q := by rw [← HM.out, HX.out, if_neg hz]
        go_wp2
        go_ret
        exact ⟨rfl, H2.out⟩
    · obtain rfl : k = n := by omega
      obtain rfl : r = 0 := by
        rw [← HM.out, List.drop_eq_nil_of_le (by rw [List.length_map, HN.out]; exact Nat.le_refl _)]
        rfl
      go_wp2
      go_ret
      exact ⟨rfl, HBR.out⟩

set_option maxRecDepth 100000 in
set_option maxHeartbeats 1600000 in
theorem each_any (F : FuncId) (c : Value) (ao : Option Addr) (n cap : Nat) (es : List EV) (Inv : Nat → World → Prop) (Bad : Int → World → Prop) (w : World) (hF : F = 39 ∨ F = 67) (hR : n ≤ cap ∧ cap ≤ 9223372036854775807 ∧ es.length = n)
    (hE : ∀ k wr, Inv k wr → Ents wr ao n cap es) (hx : ∀ k wr (v : EV), Inv k wr → Inv k (boxe v wr)) (h0 : Inv 0 w)
    (hst : ∀ k (hk : k < es.length) wr, Inv k wr → Calls Tryz.prog F #[.agg #[.int .i64 es[k].who, .int .i64 es[k].seq, .slice es[k].ao es[k].n es[k].cap], c] wr fun e w' => ∃ E, e = .returned (.int .i64 E) ∧ (E = 0 → Inv (k + 1) w') ∧ (E ≠ 0 → Bad E w')) :
    Calls Tryz.prog 38 #[.slice ao n cap, .func (.func F) #[] #[c]] w fun e w' => ∃ E, e = .returned (.int .i64 E) ∧ (E = 0 → Inv n w') ∧ (E ≠ 0 → Bad E w') := by
  obtain ⟨hcap, hbig, hlen⟩ := hR
  have HN : Hid (es.length = n) := hlen
  have HE : Hid (∀ k wr, Inv k wr → Ents wr ao n cap es) := hE
  have HX : Hid (∀ k wr (v : EV), Inv k wr → Inv k (boxe v wr)) := hx
  have HST : Hid (∀ k (hk : k < es.length) wr, Inv k wr → Calls Tryz.prog F #[.agg #[.int .i64 es[k].who, .int .i64 es[k].seq, .slice es[k].ao es[k].n es[k].cap], c] wr fun e w' => ∃ E, e = .returned (.int .i64 E) ∧ (E = 0 → Inv (k + 1) w') ∧ (E ≠ 0 → Bad E w')) := hst
  have HF : Hid (F = 39 ∨ F = 67) := hF
  have H0 : Hid (Inv 0 w) := h0
  clear hE hx hst hF h0 hlen
  go_enter Tryz.func38, Tryz.ntmps38
  go_wp2
  go_loopw [10] (fun i wr => ∃ k : Nat, k ≤ n ∧ i = .int .i64 k ∧ Inv k wr) (fun i _ => n - (intOf i).toNat)
  case atStart => exact ⟨0, Nat.zero_le _, rfl, H0.out⟩
  case round =>
    obtain ⟨k, hk, rfl, hinv⟩ := hrel
    have HI : Hid (Inv k wr) := hinv
    clear hinv
    by_cases hlt : k < n
    · obtain ⟨b, off, rfl, hGt⟩ := (HE.out k wr HI.out).get (by omega)
      have h1 : k < es.length := by rw [HN.out]; exact hlt
      obtain ⟨a0, a1, a2⟩ := hGt k h1
      have CF : Hid (Calls Tryz.prog F #[.agg #[.int .i64 es[k].who, .int .i64 es[k].seq, .slice es[k].ao es[k].n es[k].cap], c] (boxe es[k] wr) fun e w' => ∃ E, e = .returned (.int .i64 E) ∧ (E = 0 → Inv (k + 1) w') ∧ (E ≠ 0 → Bad E w')) := HST.out k h1 _ (HX.out k wr _ HI.out)
      have HT : Hid (Thr (boxe es[k] wr) wr.heap.size 0 es[k]) := boxe_at es[k] wr
      clear hGt
      generalize es[k] = v at *
      go_upto_region 4 with fail
      change Code.wp Tryz.prog _ _ _ (boxe v wr)
      generalize boxe v wr = W at *
      clear a0 a1 a2
      obtain ⟨a0, a1, a2⟩ := HT.out
      simp only [Nat.zero_add] at a0 a1 a2
      rcases HF.out with rfl | rfl
      all_goals
        go_wp2_with fail
        refine CF.out.mono ?_
        rintro e w1 ⟨q, rfl, hi, hb⟩
        have HI2 : Hid (q = 0 → Inv (k + 1) w1) := hi
        have HB2 : Hid (q ≠ 0 → Bad q w1) := hb
        clear hi hb a0 a1 a2
        by_cases hz : q = 0
        · have HI3 : Hid (Inv (k + 1) w1) := HI2.out hz
          subst hz
          go_wp2
          go_roundw
          case rel => exact ⟨k + 1, by omega, by go_num, HI3.out⟩
          case measure => simp [intOf]; omega
        · have hne : (q != 0) = true := by simp [hz]
          go_wp2
          go_ret
          exact ⟨q, rfl, fun e => absurd e hz, HB2.out⟩
    · obtain rfl : k = n := by omega
      go_wp2
      go_ret
      exact ⟨0, rfl, fun _ => HI.out, fun h => absurd rfl h⟩
end Go.Proofs.YtaigleblmbblcaaGreatDoor
