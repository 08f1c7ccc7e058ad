/-
  The reference's ServerTakes, of whatever right server and entry; the statement ServerSays.
-/
import Derived.Test.YtbhcklkbckacpaaGreatDoorWf
import Derived.Test.YtbhcklkbckacpaaGreatDoorVk
import Derived.Deep.RegionHeld3
import Derived.Deep.CutRange
namespace Go.Proofs.YtbhcklkbckacpaaGreatDoor
open Go.RowKit
theorem rtake_any (s : SV) (rev : Int) (x : EV) (w : World) (hV : Srv w s) (hO : Ops w x.ao x.n x.cap x.vs) (h1 : Sv.srvE s.se = 0) :
    Calls Tryz.prog 32 #[.agg #[.slice s.fa s.fn s.fc, .slice s.la s.ln s.lc, .slice s.na s.nn s.nc], .int .i64 rev, .agg #[.int .i64 x.who, .int .i64 x.seq, .slice x.ao x.n x.cap]] w fun e w' => (∃ t, e = .returned (.tuple #[.agg #[.slice t.fa t.fn t.fc, .slice t.la t.ln t.lc, .slice t.na t.nn t.nc], .int .i64 (Sv.takE s.se rev x.en)]) ∧ Srv w' t ∧ t.se = Sv.takS s.se rev x.en) ∧ Below w.heap.size w w' := by
  have hlen : s.se.log.length = s.ln := by show (s.log.map EV.en).length = s.ln; rw [List.length_map]; exact hV.log.len
  have hl60 : s.ln ≤ 60 := by have := (Sv.srv_0 h1).1; omega
  have bad : ∀ q, Sv.takE s.se rev x.en = q → ¬ q = 0 → (Calls Tryz.prog 32 #[.agg #[.slice s.fa s.fn s.fc, .slice s.la s.ln s.lc, .slice s.na s.nn s.nc], .int .i64 rev, .agg #[.int .i64 x.who, .int .i64 x.seq, .slice x.ao x.n x.cap]] w fun e w' => (∃ t, e = .returned (.tuple #[svA t, .int .i64 q]) ∧ Srv w' t ∧ t.se = ⟨[], [], []⟩) ∧ Below w.heap.size w w') → Calls Tryz.prog 32 #[.agg #[.slice s.fa s.fn s.fc, .slice s.la s.ln s.lc, .slice s.na s.nn s.nc], .int .i64 rev, .agg #[.int .i64 x.who, .int .i64 x.seq, .slice x.ao x.n x.cap]] w fun e w' => (∃ t, e = .returned (.tuple #[svA t, .int .i64 (Sv.takE s.se rev x.en)]) ∧ Srv w' t ∧ t.se = Sv.takS s.se rev x.en) ∧ Below w.heap.size w w' := fun q h1 h2 h3 => by
    have e : Sv.takS s.se rev x.en = ⟨[], [], []⟩ := by unfold Sv.takS; rw [h1, if_neg h2]
    rw [h1, e]
    exact h3
  by_cases h2 : Sv.entE x.en = 0
  · cases hh : Sv.has s.se x.en.who x.en.seq
    · have hnh : ¬ Sv.has s.se x.en.who x.en.seq = true := by rw [hh]; exact Bool.false_ne_true
      by_cases hr : rev < 0
      · refine bad 6 ?_ (by decide) (rtake_neg s rev x w hV hO h2 hh hr)
        unfold Sv.takE
        rw [if_pos h1, if_pos h2, if_neg hnh, if_pos (Or.inl hr)]
      · by_cases hr2 : (s.ln : Int) < rev
        · refine bad 6 ?_ (by decide) (rtake_over s rev x w hV hO h2 hh hr hr2)
          unfold Sv.takE
          rw [if_pos h1, if_pos h2, if_neg hnh, if_pos (Or.inr (by rw [hlen]; exact hr2))]
        · have hno : ¬ (rev < 0 ∨ (s.se.log.length : Int) < rev) := by rw [hlen]; omega
          by_cases h60 : s.ln = 60
          · refine bad 2 ?_ (by decide) (rtake_many s rev x w hV hO h2 hh hr hr2 h60)
            unfold Sv.takE
            rw [if_pos h1, if_pos h2, if_neg hnh, if_neg hno, if_pos (hlen.trans h60)]
          · have h60' : ¬ s.se.log.length = 60 := by rw [hlen]; exact h60
            by_cases hB : Sv.behE (s.se.log.drop rev.toNat) x.en.o = 0
            · have hT : Sv.takE s.se rev x.en = Ac.fitE s.se.now (Sv.behO (s.se.log.drop rev.toNat) x.en.o) := by
                unfold Sv.takE
                rw [if_pos h1, if_pos h2, if_neg hnh, if_neg hno, if_neg h60', if_pos hB]
              by_cases hE : Ac.fitE s.now (Sv.behO (s.se.log.drop rev.toNat) x.en.o) = 0
              · have hT0 : Sv.takE s.se rev x.en = 0 := hT.trans hE
                have e : Sv.takS s.se rev x.en = ⟨s.first, s.se.log ++ [⟨x.who, x.seq, Sv.behO (s.se.log.drop rev.toNat) x.en.o⟩], Ac.done s.now (Sv.behO (s.se.log.drop rev.toNat) x.en.o)⟩ := by
                  unfold Sv.takS
                  rw [if_pos hT0, if_neg hnh]
                  rfl
                rw [hT0, e]
                exact rtake_ok s rev x w hV hO h2 hh hr hr2 h60 hl60 hB hE
              · exact bad _ hT hE (rtake_fit s rev x w hV hO h2 hh hr hr2 h60 hB _ rfl hE)
            · refine bad _ ?_ hB (rtake_beh s rev x w hV hO h2 hh hr hr2 h60 _ rfl hB)
              unfold Sv.takE
              rw [if_pos h1, if_pos h2, if_neg hnh, if_neg hno, if_neg h60', if_neg hB]
    · obtain ⟨e1, e2⟩ := Sv.take_has (rev := rev) h1 h2 hh
      rw [e1, e2]
      exact rtake_has s rev x w hV hO h2 hh
  · refine bad _ ?_ h2 (rtake_bad s rev x w hV hO _ rfl h2)
    unfold Sv.takE
    rw [if_pos h1, if_neg h2]
theorem newS_any (ao : Option Addr) (n cap : Nat) (l : List It) (w : World) (hD : Doc w ao n cap l) (hS : Sch w) :
    Calls Tryz.prog 17 #[.slice ao n cap] w fun e w' => (∃ t, e = .returned (.tuple #[.agg #[.slice t.fa t.fn t.fc, .slice t.la t.ln t.lc, .slice t.na t.nn t.nc], .int .i64 (Dc.check l)]) ∧ Srv w' t ∧ t.se = (if Dc.check l = 0 then ⟨l, [], l⟩ else ⟨[], [], []⟩)) ∧ Below w.heap.size w w' := by
  by_cases h : Dc.check l = 0
  · rw [if_pos h, h]
    exact new_ok ao n cap l w hD hS h
  · rw [if_neg h]
    exact (new_bad ao n cap l w hD hS h).mono fun e w' ⟨h1, hb⟩ => ⟨⟨sv0, h1, (SrvFrom.nil 0 w').srv, rfl⟩, hb⟩
set_option maxRecDepth 100000 in
set_option maxHeartbeats 1600000 in
theorem isL_any (v : EV) (cb qb : Nat) (c q : Int) (w : World) (hc : w.cell? ⟨cb, 0, none⟩ = some (.int .i64 c)) (hq : w.cell? ⟨qb, 0, none⟩ = some (.int .i64 q)) :
    Calls Tryz.prog 31 #[.agg #[.int .i64 v.who, .int .i64 v.seq, .slice v.ao v.n v.cap], .pointer (some ⟨cb, 0, none⟩), .pointer (some ⟨qb, 0, none⟩)] w fun e w' => e = .returned (.bool (Sv.isE c q v.en)) ∧ Below w.heap.size w w' := by
  have H1 : Hid (Below w.heap.size w (boxe v w)) := boxe_below v w
  have c0 : (boxe v w).cell? ⟨cb, 0, none⟩ = some (.int .i64 c) := cell_below hc (boxe_below v w)
  have q0 : (boxe v w).cell? ⟨qb, 0, none⟩ = some (.int .i64 q) := cell_below hq (boxe_below v w)
  have HT : Hid (Thr (boxe v w) w.heap.size 0 v) := boxe_at v w
  clear hc hq
  obtain ⟨r, hr⟩ : ∃ r, Sv.isE c q v.en = r := ⟨_, rfl⟩
  rw [hr]
  unfold Sv.isE at hr
  simp only [EV.en] at hr
  go_enter Tryz.func31, Tryz.ntmps31
  go_upto_region 1 with fail
  change Code.wp Tryz.prog _ _ _ (boxe v w)
  generalize boxe v w = W at *
  obtain ⟨a0, a1, a2⟩ := HT.out
  simp only [Nat.zero_add] at a0 a1 a2
  cases h1 : (v.who == c)
  · obtain rfl := hr.symm.trans (show _ = false by rw [h1]; rfl)
    clear hr
    go_wp2
    go_ret
    exact ⟨rfl, H1.out⟩
  · obtain rfl := hr.symm.trans (show _ = (v.seq == q) by rw [h1]; rfl)
    clear hr
    go_wp2
    go_ret
    exact ⟨rfl, H1.out⟩

set_option maxRecDepth 100000 in
set_option maxHeartbeats 1600000 in
theorem idxL_any (cb qb : Nat) (c q : Int) (ao : Option Addr) (n cap : Nat) (es : List EV) (w : World) (hE : Ents w ao n cap es) (hc : w.cell? ⟨cb, 0, none⟩ = some (.int .i64 c)) (hq : w.cell? ⟨qb, 0, none⟩ = some (.int .i64 q)) :
    Calls Tryz.prog 91 #[.slice ao n cap, .func (.func 31) #[] #[.pointer (some ⟨cb, 0, none⟩), .pointer (some ⟨qb, 0, none⟩)]] w fun e w' => (∃ i : Int, e = .returned (.int .i64 i) ∧ decide (0 ≤ i) = (es.map EV.en).any (Sv.isE c q)) ∧ Below w.heap.size w w' := by
  have HE : Hid (Ents w ao n cap es) := hE
  have HN : Hid (es.length = n) := hE.len
  have HC : Hid (w.cell? ⟨cb, 0, none⟩ = some (.int .i64 c)) := hc
  have HQ : Hid (w.cell? ⟨qb, 0, none⟩ = some (.int .i64 q)) := hq
  have hcap := hE.row.room
  have hbig := hE.row.big
  clear hE hc hq
  obtain ⟨r, hr⟩ : ∃ r, (es.map EV.en).any (Sv.isE c q) = r := ⟨_, rfl⟩
  have HR : Hid ((es.map EV.en).any (Sv.isE c q) = r) := hr
  rw [hr]
  clear hr
  go_enter Tryz.func91, Tryz.ntmps91
  go_wp2
  go_loopw [8] (fun i wr => ∃ k : Nat, k ≤ n ∧ i = .int .i64 k ∧ Below w.heap.size w wr ∧ ((es.map EV.en).drop k).any (Sv.isE c q) = r) (fun i _ => n - (intOf i).toNat)
  case atStart => exact ⟨0, Nat.zero_le _, rfl, Below.refl _ _, HR.out⟩
  case round =>
    obtain ⟨k, hk, rfl, hbr, hsm⟩ := hrel
    have HM : Hid (((es.map EV.en).drop k).any (Sv.isE c q) = r) := hsm
    have HBR : Hid (Below w.heap.size w wr) := hbr
    clear hsm hbr
    by_cases hlt : k < n
    · obtain ⟨b, off, rfl, hGt⟩ := HE.out.get (by omega)
      have h1 : k < es.length := by rw [HN.out]; exact hlt
      have HX : Hid (((es.map EV.en).drop k).any (Sv.isE c q) = (Sv.isE c q es[k].en || ((es.map EV.en).drop (k + 1)).any (Sv.isE c q))) := by
        show _ = _
        rw [List.drop_eq_getElem_cons (by rw [List.length_map]; exact h1), List.any_cons, List.getElem_map]
      obtain ⟨a0, a1, a2⟩ := (hGt k h1).below HBR.out
      clear hGt
      generalize es[k] = v at *
      go_wp2_with fail
      refine (isL_any v cb qb c q _ (cell_below HC.out HBR.out) (cell_below HQ.out HBR.out)).mono ?_
      rintro e w1 ⟨rfl, hb⟩
      have H2 : Hid (Below w.heap.size w w1) := HBR.out.trans (hb.mono HBR.out.size)
      clear hb a0 a1 a2
      cases hal : Sv.isE c q v.en
      · have HM2 : Hid (((es.map EV.en).drop (k + 1)).any (Sv.isE c q) = r) := by show _ = _; rw [← HM.out, HX.out, hal, Bool.false_or]
        clear hal
        go_wp2
        go_roundw
        case rel => exact ⟨k + 1, by omega, by go_num, H2.out, HM2.out⟩
        case measure => simp [intOf]; omega
      · obtain rfl : r = true := by rw [← HM.out, HX.out, hal]; rfl
        clear hal
        go_wp2
        go_ret
        exact ⟨⟨_, rfl, by simp⟩, H2.out⟩
    · obtain rfl : k = n := by omega
      obtain rfl : r = false := by
        rw [← HM.out, List.drop_eq_nil_of_le (by rw [List.length_map, HN.out]; exact Nat.le_refl _)]
        rfl
      go_wp2
      go_ret
      exact ⟨⟨_, rfl, by decide⟩, HBR.out⟩

set_option maxRecDepth 100000 in
set_option maxHeartbeats 1600000 in
theorem contL_any (cb qb : Nat) (c q : Int) (ao : Option Addr) (n cap : Nat) (es : List EV) (w : World) (hE : Ents w ao n cap es) (hc : w.cell? ⟨cb, 0, none⟩ = some (.int .i64 c)) (hq : w.cell? ⟨qb, 0, none⟩ = some (.int .i64 q)) :
    Calls Tryz.prog 30 #[.slice ao n cap, .func (.func 31) #[] #[.pointer (some ⟨cb, 0, none⟩), .pointer (some ⟨qb, 0, none⟩)]] w fun e w' => e = .returned (.bool ((es.map EV.en).any (Sv.isE c q))) ∧ Below w.heap.size w w' := by
  have CI := idxL_any cb qb c q ao n cap es w hE hc hq
  clear hE hc hq
  generalize (es.map EV.en).any (Sv.isE c q) = r at *
  have HI : Hid (Calls Tryz.prog 91 #[.slice ao n cap, .func (.func 31) #[] #[.pointer (some ⟨cb, 0, none⟩), .pointer (some ⟨qb, 0, none⟩)]] w fun e w' => (∃ i : Int, e = .returned (.int .i64 i) ∧ decide (0 ≤ i) = r) ∧ Below w.heap.size w w') := CI
  clear CI
  go_enter Tryz.func30, Tryz.ntmps30
  go_wp2_with fail
  refine HI.out.mono ?_
  rintro e w1 ⟨⟨i, rfl, hi⟩, hb⟩
  have H1 : Hid (Below w.heap.size w w1) := hb
  clear hb
  have HR : Hid (decide (0 ≤ i) = r) := hi
  clear hi
  go_wp2
  go_ret
  exact ⟨by rw [← HR.out]; rfl, H1.out⟩


def boxn8 (v : Int) (w : World) : World := w.alloc (.cells #[.int .i64 v] 3)
theorem boxn8_below (v : Int) (w : World) : Below w.heap.size w (boxn8 v w) := (Below.refl _ _).alloc (Nat.le_refl _) _
theorem boxn8_blk (v : Int) (w : World) : Blk (boxn8 v w) w.heap.size [.int .i64 v] 3 := Blk.new w _ _
theorem boxn8_size (v : Int) (w : World) : (boxn8 v w).heap.size = w.heap.size + 1 := World.size_alloc ..
structure LwS (w : World) (s : SV) (x : EV) (cl sq : Int) (wx : World) : Prop where
  s : Blk wx (w.heap.size) (svC s) 42
  x : Blk wx (w.heap.size + 1) (evC x) 46
  c : Blk wx (w.heap.size + 2) [.int .i64 cl] 3
  q : Blk wx (w.heap.size + 3) [.int .i64 sq] 3
theorem LwS.below {w : World} {s : SV} {x : EV} {cl sq : Int} {wx wy : World} (h : LwS w s x cl sq wx) (hb : Below wx.heap.size wx wy) : LwS w s x cl sq wy :=
  ⟨(hb.block _ h.s.lt).trans h.s, (hb.block _ h.x.lt).trans h.x, (hb.block _ h.c.lt).trans h.c, (hb.block _ h.q.lt).trans h.q⟩
theorem sameSR_true {w : World} {a b : SV} (ha : Srv w a) (hb : Srv w b) (e : a.se = b.se) : Calls Tryz.prog 28 #[.agg #[.slice a.fa a.fn a.fc, .slice a.la a.ln a.lc, .slice a.na a.nn a.nc], .agg #[.slice b.fa b.fn b.fc, .slice b.la b.ln b.lc, .slice b.na b.nn b.nc]] w fun e w' => e = .returned (.bool true) ∧ Below w.heap.size w w' := by
  have := sameSR_any a b w ha hb
  rw [e, Sv.sameS_self] at this
  exact this

set_option maxRecDepth 100000 in
set_option maxHeartbeats 12800000 in
theorem ssays_any (da : Option Addr) (dn dc : Nat) (d : List It) (s : SV) (rev : Int) (x : EV) (cl sq : Int) (w : World) (hD : Doc w da dn dc d) (hV : Srv w s) (hO : Ops w x.ao x.n x.cap x.vs) (hS : Sch w) :
    Calls Tryz.prog 5 #[.slice da dn dc, .agg #[.slice s.fa s.fn s.fc, .slice s.la s.ln s.lc, .slice s.na s.nn s.nc], .int .i64 rev, .agg #[.int .i64 x.who, .int .i64 x.seq, .slice x.ao x.n x.cap], .int .i64 cl, .int .i64 sq] w fun e w' => e = .returned (.bool true) ∧ Below w.heap.size w w' := by
  have h1 : Below w.heap.size w (boxe x (boxs s w)) := (boxs_below s w).trans ((boxe_below x _).mono (boxs_below s w).size)
  have h2 : Below w.heap.size w (boxn8 cl (boxe x (boxs s w))) := h1.trans ((boxn8_below cl _).mono h1.size)
  have h3 : Below w.heap.size w (boxn8 sq (boxn8 cl (boxe x (boxs s w)))) := h2.trans ((boxn8_below sq _).mono h2.size)
  have HV : Hid (Below w.heap.size w (boxn8 sq (boxn8 cl (boxe x (boxs s w))))) := h3
  have hL : LwS w s x cl sq (boxn8 sq (boxn8 cl (boxe x (boxs s w)))) := ⟨(((boxs_blk s w).alloc _).alloc _).alloc _, by have := ((boxe_blk x (boxs s w)).alloc (.cells #[.int .i64 cl] 3)).alloc (.cells #[.int .i64 sq] 3); rw [boxs_size] at this; exact this, by have := (boxn8_blk cl (boxe x (boxs s w))).alloc (.cells #[.int .i64 sq] 3); rw [boxe_size, boxs_size] at this; exact this, by have := boxn8_blk sq (boxn8 cl (boxe x (boxs s w))); rw [boxn8_size, boxe_size, boxs_size] at this; exact this⟩
  have HLW : Hid (∀ w', Below (boxn8 sq (boxn8 cl (boxe x (boxs s w)))).heap.size (boxn8 sq (boxn8 cl (boxe x (boxs s w)))) w' → LwS w s x cl sq w') := fun w' hb => hL.below hb
  have HSV : Hid (∀ w', Below (boxn8 sq (boxn8 cl (boxe x (boxs s w)))).heap.size (boxn8 sq (boxn8 cl (boxe x (boxs s w)))) w' → Srv w' s) := fun w' hb => (hV.below h3).below hb
  have HXO : Hid (∀ w', Below (boxn8 sq (boxn8 cl (boxe x (boxs s w)))).heap.size (boxn8 sq (boxn8 cl (boxe x (boxs s w)))) w' → Ops w' x.ao x.n x.cap x.vs) := fun w' hb => (hO.below h3).below hb
  have HDD : Hid (∀ w', Below (boxn8 sq (boxn8 cl (boxe x (boxs s w)))).heap.size (boxn8 sq (boxn8 cl (boxe x (boxs s w)))) w' → Doc w' da dn dc d) := fun w' hb => (hD.below h3).below hb
  have HSC : Hid (∀ w', Below (boxn8 sq (boxn8 cl (boxe x (boxs s w)))).heap.size (boxn8 sq (boxn8 cl (boxe x (boxs s w)))) w' → Sch w') := fun w' hb => (hS.below h3).below hb
  clear hD hV hO hS h1 h2 h3 hL
  go_enter Tryz.func5, Tryz.ntmps5
  go_upto_region 1 with fail
  change Code.wp Tryz.prog _ _ _ (boxn8 sq (boxn8 cl (boxe x (boxs s w))))
  generalize (boxn8 sq (boxn8 cl (boxe x (boxs s w)))) = V at *
  have C1 := newS_any da dn dc d V (HDD.out _ (Below.refl _ _)) (HSC.out _ (Below.refl _ _))
  obtain ⟨K, hK⟩ : ∃ K, Dc.check d = K := ⟨_, rfl⟩
  have HK : Hid (Dc.check d = K) := hK
  rw [hK] at C1
  clear hK
  go_wp2_with fail
  refine C1.mono ?_
  rintro e w1 ⟨⟨n, rfl, hn, hns⟩, hb⟩
  have HB1 : Hid (Below V.heap.size V (boxs n w1)) := hb.trans ((boxs_below n w1).mono hb.size)
  have HN1 : Hid (Srv (boxs n w1) n) := hn.below (boxs_below n w1)
  have HNS : Hid (n.se = (if K = 0 then ⟨d, [], d⟩ else ⟨[], [], []⟩)) := hns
  have HBN : Hid (Blk (boxs n w1) w1.heap.size (svC n) 42) := boxs_blk n w1
  clear hn hns hb C1
  go_upto_region 2 with fail
  change Code.wp Tryz.prog _ _ _ (boxs n w1)
  generalize boxs n w1 = W1 at *
  generalize w1.heap.size = nb at *
  have p0 : W1.cell? ⟨w.heap.size, 0, none⟩ = some (.slice s.fa s.fn s.fc) := (HLW.out W1 HB1.out).s.cell 0
  have p1 : W1.cell? ⟨w.heap.size, 1, none⟩ = some (.slice s.la s.ln s.lc) := (HLW.out W1 HB1.out).s.cell 1
  have p2 : W1.cell? ⟨w.heap.size, 2, none⟩ = some (.slice s.na s.nn s.nc) := (HLW.out W1 HB1.out).s.cell 2
  have a0 : W1.cell? ⟨w.heap.size + 1, 0, none⟩ = some (.int .i64 x.who) := (HLW.out W1 HB1.out).x.cell 0
  have a1 : W1.cell? ⟨w.heap.size + 1, 1, none⟩ = some (.int .i64 x.seq) := (HLW.out W1 HB1.out).x.cell 1
  have a2 : W1.cell? ⟨w.heap.size + 1, 2, none⟩ = some (.slice x.ao x.n x.cap) := (HLW.out W1 HB1.out).x.cell 2
  have C2 := take_any s rev x W1 (HSV.out _ HB1.out) (HXO.out _ HB1.out) (HSC.out _ HB1.out)
  obtain ⟨F, hF⟩ : ∃ F, Sv.takE s.se rev x.en = F := ⟨_, rfl⟩
  have HF : Hid (Sv.takE s.se rev x.en = F) := hF
  rw [hF] at C2
  clear hF
  change Calls Tryz.prog _ _ _ fun e w' => (∃ t, e = .returned (.tuple #[.agg #[.slice t.fa t.fn t.fc, .slice t.la t.ln t.lc, .slice t.na t.nn t.nc], .int .i64 F]) ∧ Srv w' t ∧ t.se = Sv.takS s.se rev x.en) ∧ Below W1.heap.size W1 w' at C2
  go_wp2_with fail
  refine C2.mono ?_
  rintro e w2 ⟨⟨t, rfl, ht, hts⟩, hb⟩
  have hb2 : Below W1.heap.size W1 (boxs t w2) := hb.trans ((boxs_below t w2).mono hb.size)
  have HB2 : Hid (Below V.heap.size V (boxs t w2)) := HB1.out.trans (hb2.mono HB1.out.size)
  have HT2 : Hid (Srv (boxs t w2) t) := ht.below (boxs_below t w2)
  have HTS : Hid (t.se = Sv.takS s.se rev x.en) := hts
  have HN2 : Hid (Srv (boxs t w2) n) := HN1.out.below hb2
  have HBN2 : Hid (Blk (boxs t w2) nb (svC n) 42) := (hb2.block _ HBN.out.lt).trans HBN.out
  have HBT : Hid (Blk (boxs t w2) w2.heap.size (svC t) 42) := boxs_blk t w2
  clear ht hts hb hb2 C2 HN1 HBN HB1
  clear p0 p1 p2
  clear a0 a1 a2
  go_upto_region 3 with fail
  change Code.wp Tryz.prog _ _ _ (boxs t w2)
  generalize boxs t w2 = W2 at *
  generalize w2.heap.size = tb at *
  have p0 : W2.cell? ⟨w.heap.size, 0, none⟩ = some (.slice s.fa s.fn s.fc) := (HLW.out W2 HB2.out).s.cell 0
  have p1 : W2.cell? ⟨w.heap.size, 1, none⟩ = some (.slice s.la s.ln s.lc) := (HLW.out W2 HB2.out).s.cell 1
  have p2 : W2.cell? ⟨w.heap.size, 2, none⟩ = some (.slice s.na s.nn s.nc) := (HLW.out W2 HB2.out).s.cell 2
  have C3 := fold_any da dn dc d s.la s.ln s.lc s.log W2 (HDD.out _ HB2.out) (HSV.out _ HB2.out).log (HSC.out _ HB2.out)
  go_wp2_with fail
  refine C3.mono ?_
  rintro e w3 ⟨⟨ca, cn, cc, rfl, hcd⟩, hb⟩
  have HB3 : Hid (Below W2.heap.size W2 w3) := hb
  have HV3 : Hid (Below V.heap.size V w3) := HB2.out.trans (hb.mono HB2.out.size)
  have HC3 : Hid (Doc w3 ca cn cc (Sv.fldD d (s.log.map EV.en))) := hcd
  clear hcd hb C3
  clear p0 p1 p2
  have p0 : w3.cell? ⟨w.heap.size, 0, none⟩ = some (.slice s.fa s.fn s.fc) := (HLW.out w3 HV3.out).s.cell 0
  have p1 : w3.cell? ⟨w.heap.size, 1, none⟩ = some (.slice s.la s.ln s.lc) := (HLW.out w3 HV3.out).s.cell 1
  have p2 : w3.cell? ⟨w.heap.size, 2, none⟩ = some (.slice s.na s.nn s.nc) := (HLW.out w3 HV3.out).s.cell 2
  have C4 := foldR_any da dn dc d s.la s.ln s.lc s.log w3 (HDD.out _ HV3.out) (HSV.out _ HV3.out).log
  go_wp2_with fail
  refine C4.mono ?_
  rintro e w4 ⟨⟨ga, gn, gc, rfl, hgd⟩, hb⟩
  have HB4 : Hid (Below W2.heap.size W2 w4) := HB3.out.trans (hb.mono HB3.out.size)
  have HV4 : Hid (Below V.heap.size V w4) := HV3.out.trans (hb.mono HV3.out.size)
  have HC4 : Hid (Doc w4 ca cn cc (Sv.fldD d (s.log.map EV.en))) := HC3.out.below hb
  have HG4 : Hid (Doc w4 ga gn gc (Sv.fldD d (s.log.map EV.en))) := hgd
  clear hgd hb C4 HC3
  generalize Sv.fldE d (s.log.map EV.en) = G at *
  generalize Sv.fldD d (s.log.map EV.en) = L at *
  clear p0 p1 p2
  have p0 : w4.cell? ⟨w.heap.size, 0, none⟩ = some (.slice s.fa s.fn s.fc) := (HLW.out w4 HV4.out).s.cell 0
  have p1 : w4.cell? ⟨w.heap.size, 1, none⟩ = some (.slice s.la s.ln s.lc) := (HLW.out w4 HV4.out).s.cell 1
  have p2 : w4.cell? ⟨w.heap.size, 2, none⟩ = some (.slice s.na s.nn s.nc) := (HLW.out w4 HV4.out).s.cell 2
  have C5 := srvR_any s w4 (HSV.out _ HV4.out)
  obtain ⟨B, hB⟩ : ∃ B, Sv.srvE s.se = B := ⟨_, rfl⟩
  have HBB : Hid (Sv.srvE s.se = B) := hB
  rw [hB] at C5
  clear hB
  go_wp2_with fail
  refine C5.mono ?_
  rintro e w5 ⟨rfl, hb⟩
  have HB5 : Hid (Below W2.heap.size W2 w5) := HB4.out.trans (hb.mono HB4.out.size)
  have HV5 : Hid (Below V.heap.size V w5) := HV4.out.trans (hb.mono HV4.out.size)
  have HC5 : Hid (∀ w', Below w5.heap.size w5 w' → Doc w' ca cn cc L ∧ Doc w' ga gn gc L) := fun w' h => ⟨(HC4.out.below hb).below h, (HG4.out.below hb).below h⟩
  clear hb C5 HC4 HG4
  clear p0 p1 p2
  have HVV : Hid (∀ w', Below w5.heap.size w5 w' → Below V.heap.size V w') := fun w' h => HV5.out.trans (h.mono HV5.out.size)
  have D1 : Hid (∀ w', Below w5.heap.size w5 w' → Calls Tryz.prog 22 #[] w' fun e w'' => e = .returned (.bool true) ∧ Below w'.heap.size w' w'') := fun w' h => served_any w' (HSC.out _ (HVV.out _ h))
  have D2 : Hid (∀ w', Below w5.heap.size w5 w' → Calls Tryz.prog 23 #[.agg #[.slice s.fa s.fn s.fc, .slice s.la s.ln s.lc, .slice s.na s.nn s.nc]] w' fun e w'' => e = .returned (.int .i64 B) ∧ Below w'.heap.size w' w'') := fun w' h => by have := srvE_any s w' (HSV.out _ (HVV.out _ h)) (HSC.out _ (HVV.out _ h)); rw [HBB.out] at this; exact this
  have D3 : Hid (∀ w', Below w5.heap.size w5 w' → Calls Tryz.prog 16 #[.slice ca cn cc, .slice ga gn gc] w' fun e w'' => e = .returned (.bool true) ∧ Below w'.heap.size w' w'') := fun w' h => by
    have := equal_any ca ga cn cc gn gc L L w' (HC5.out _ h).1 (HC5.out _ h).2
    rw [Sv.its_self] at this
    exact this.mono fun e w'' ⟨h1, m, hm⟩ => ⟨h1, by rw [hm]; exact drewN_blw _ m⟩
  have D4 : Hid (∀ w', Below w5.heap.size w5 w' → Calls Tryz.prog 24 #[.agg #[.slice s.fa s.fn s.fc, .slice s.la s.ln s.lc, .slice s.na s.nn s.nc], .agg #[.slice s.fa s.fn s.fc, .slice s.la s.ln s.lc, .slice s.na s.nn s.nc]] w' fun e w'' => e = .returned (.bool true) ∧ Below w'.heap.size w' w'') := fun w' h => by have := sameS_any s s w' (HSV.out _ (HVV.out _ h)) (HSV.out _ (HVV.out _ h)); rw [Sv.sameS_self] at this; exact this
  have D5 : Hid (∀ w', Below w5.heap.size w5 w' → Calls Tryz.prog 25 #[.agg #[.int .i64 x.who, .int .i64 x.seq, .slice x.ao x.n x.cap], .agg #[.int .i64 x.who, .int .i64 x.seq, .slice x.ao x.n x.cap]] w' fun e w'' => e = .returned (.bool true) ∧ Below w'.heap.size w' w'') := fun w' h => by have := sameE_any x x w' (HXO.out _ (HVV.out _ h)) (HXO.out _ (HVV.out _ h)); rw [Sv.sameE_self] at this; exact this
  have D6 : Hid (∀ w', Below w5.heap.size w5 w' → Calls Tryz.prog 26 #[.agg #[.int .i64 x.who, .int .i64 x.seq, .slice x.ao x.n x.cap], .agg #[.int .i64 x.who, .int .i64 x.seq, .slice x.ao x.n x.cap]] w' fun e w'' => e = .returned (.bool true) ∧ Below w'.heap.size w' w'') := fun w' h => by have := sameER_any x x w' (HXO.out _ (HVV.out _ h)) (HXO.out _ (HVV.out _ h)); rw [Sv.sameE_self] at this; exact this
  have HALL : Hid (∀ w', Below w5.heap.size w5 w' → w'.cell? ⟨w.heap.size, 0, none⟩ = some (.slice s.fa s.fn s.fc) ∧ w'.cell? ⟨w.heap.size, 1, none⟩ = some (.slice s.la s.ln s.lc) ∧ w'.cell? ⟨w.heap.size, 2, none⟩ = some (.slice s.na s.nn s.nc) ∧ w'.cell? ⟨w.heap.size + 1, 0, none⟩ = some (.int .i64 x.who) ∧ w'.cell? ⟨w.heap.size + 1, 1, none⟩ = some (.int .i64 x.seq) ∧ w'.cell? ⟨w.heap.size + 1, 2, none⟩ = some (.slice x.ao x.n x.cap) ∧ Below w5.heap.size w5 w') := fun w' h => by
    have b1 := (HLW.out _ (HVV.out _ h)).s
    have b2 := (HLW.out _ (HVV.out _ h)).x
    exact ⟨b1.cell 0, b1.cell 1, b1.cell 2, b2.cell 0, b2.cell 1, b2.cell 2, h⟩
  obtain ⟨p0, p1, p2, a0, a1, a2, -⟩ := HALL.out w5 (Below.refl _ _)
  go_upto_region 6 with fail
  go_cut [86] from 53 to 86 (fun v wx => v = .bool false ∧ Below w5.heap.size w5 wx)
  case first =>
    go_region_held3 (fun w' => w'.cell? ⟨w.heap.size, 0, none⟩ = some (.slice s.fa s.fn s.fc) ∧ w'.cell? ⟨w.heap.size, 1, none⟩ = some (.slice s.la s.ln s.lc) ∧ w'.cell? ⟨w.heap.size, 2, none⟩ = some (.slice s.na s.nn s.nc) ∧ w'.cell? ⟨w.heap.size + 1, 0, none⟩ = some (.int .i64 x.who) ∧ w'.cell? ⟨w.heap.size + 1, 1, none⟩ = some (.int .i64 x.seq) ∧ w'.cell? ⟨w.heap.size + 1, 2, none⟩ = some (.slice x.ao x.n x.cap) ∧ Below w5.heap.size w5 w') (first | exact HALL.out _ (Below.refl _ _).drew | exact HALL.out _ HBZ) (first | (go_at_call 22; refine (D1.out _ ?_).mono ?_; (first | exact HBZ | exact (Below.refl _ _).drew); rintro e wz ⟨rfl, hbz⟩; have HBZ : Below w5.heap.size w5 wz := (by first | exact HBZ.trans (hbz.mono HBZ.size) | exact drew_step hbz); clear hbz) | (go_at_call 23; refine (D2.out _ ?_).mono ?_; (first | exact HBZ | exact (Below.refl _ _).drew); rintro e wz ⟨rfl, hbz⟩; have HBZ : Below w5.heap.size w5 wz := (by first | exact HBZ.trans (hbz.mono HBZ.size) | exact drew_step hbz); clear hbz) | (go_at_call 16; refine (D3.out _ ?_).mono ?_; (first | exact HBZ | exact (Below.refl _ _).drew); rintro e wz ⟨rfl, hbz⟩; have HBZ : Below w5.heap.size w5 wz := (by first | exact HBZ.trans (hbz.mono HBZ.size) | exact drew_step hbz); clear hbz) | (go_at_call 24; refine (D4.out _ ?_).mono ?_; (first | exact HBZ | exact (Below.refl _ _).drew); rintro e wz ⟨rfl, hbz⟩; have HBZ : Below w5.heap.size w5 wz := (by first | exact HBZ.trans (hbz.mono HBZ.size) | exact drew_step hbz); clear hbz) | (go_at_call 25; refine (D5.out _ ?_).mono ?_; (first | exact HBZ | exact (Below.refl _ _).drew); rintro e wz ⟨rfl, hbz⟩; have HBZ : Below w5.heap.size w5 wz := (by first | exact HBZ.trans (hbz.mono HBZ.size) | exact drew_step hbz); clear hbz) | (go_at_call 26; refine (D6.out _ ?_).mono ?_; (first | exact HBZ | exact (Below.refl _ _).drew); rintro e wz ⟨rfl, hbz⟩; have HBZ : Below w5.heap.size w5 wz := (by first | exact HBZ.trans (hbz.mono HBZ.size) | exact drew_step hbz); clear hbz))
    all_goals
      first | go_meet | (go_wp2_with fail; go_meet)
      case rel => exact ⟨rfl, by first | exact HBZ | exact (Below.refl _ _).drew⟩
  case rest =>
    obtain ⟨rfl, hb6⟩ := hcut
    generalize wc = w6 at *
    have HB6 : Hid (Below W2.heap.size W2 w6) := HB5.out.trans (hb6.mono HB5.out.size)
    have HV6 : Hid (Below V.heap.size V w6) := HVV.out _ hb6
    clear hb6 HALL D1 D2 D3 D4 D5 D6 HC5 HVV p0 p1 p2 a0 a1 a2
    have C8 := CheckDoc_any da dn dc d w6 (HDD.out _ HV6.out)
    rw [HK.out] at C8
    go_wp2_with fail
    refine C8.mono ?_
    rintro e w7 ⟨rfl, hb⟩
    have HB7 : Hid (Below W2.heap.size W2 w7) := HB6.out.trans (hb.mono HB6.out.size)
    have HV7 : Hid (Below V.heap.size V w7) := HV6.out.trans (hb.mono HV6.out.size)
    clear hb C8
    have hb7 : Blk w7 nb (svC n) 42 := (HB7.out.block _ HBN2.out.lt).trans HBN2.out
    have z0 : w7.cell? ⟨nb, 0, none⟩ = some (.slice n.fa n.fn n.fc) := hb7.cell 0
    have z1 : w7.cell? ⟨nb, 1, none⟩ = some (.slice n.la n.ln n.lc) := hb7.cell 1
    have z2 : w7.cell? ⟨nb, 2, none⟩ = some (.slice n.na n.nn n.nc) := hb7.cell 2
    have hkk : (K != K) = false := by simp
    go_upto_region 9 with fail
    go_cut [113] from 89 to 113 (fun v wx => v = .bool false ∧ Below w7.heap.size w7 wx)
    case first =>
      by_cases hk : K = 0
      · have C9 : Calls Tryz.prog 28 #[.agg #[.slice n.fa n.fn n.fc, .slice n.la n.ln n.lc, .slice n.na n.nn n.nc], .agg #[.slice da dn dc, .slice none 0 0, .slice da dn dc]] w7 fun e w' => e = .returned (.bool true) ∧ Below w7.heap.size w7 w' := sameSR_true (a := n) (b := ⟨da, dn, dc, d, none, 0, 0, [], da, dn, dc, d⟩) (HN2.out.below HB7.out) ⟨HDD.out _ HV7.out, Ents.nil _, HDD.out _ HV7.out⟩ (by rw [HNS.out, if_pos hk]; rfl)
        have hk1 : (K == 0) = true := by simp [hk]
        have hk2 : (K != 0) = false := by simp [hk]
        clear hk
        go_wp2_with fail
        refine C9.mono ?_
        rintro e w8 ⟨rfl, hb⟩
        go_wp2_with fail
        go_meet
        exact ⟨rfl, hb⟩
      · have C9 : Calls Tryz.prog 28 #[.agg #[.slice n.fa n.fn n.fc, .slice n.la n.ln n.lc, .slice n.na n.nn n.nc], .agg #[.slice none 0 0, .slice none 0 0, .slice none 0 0]] w7 fun e w' => e = .returned (.bool true) ∧ Below w7.heap.size w7 w' := sameSR_true (a := n) (b := sv0) (HN2.out.below HB7.out) (SrvFrom.nil 0 _).srv (by rw [HNS.out, if_neg hk]; rfl)
        have hk1 : (K == 0) = false := by simp [hk]
        have hk2 : (K != 0) = true := by simp [hk]
        clear hk
        go_wp2_with fail
        refine C9.mono ?_
        rintro e w8 ⟨rfl, hb⟩
        go_wp2_with fail
        go_meet
        exact ⟨rfl, hb⟩
    case rest =>
      obtain ⟨rfl, hb8⟩ := hcut
      generalize wc = w8 at *
      have HB8 : Hid (Below W2.heap.size W2 w8) := HB7.out.trans (hb8.mono HB7.out.size)
      have HV8 : Hid (Below V.heap.size V w8) := HV7.out.trans (hb8.mono HV7.out.size)
      clear hb8 z0 z1 z2 hb7
      have HVV : Hid (∀ w', Below w8.heap.size w8 w' → Below V.heap.size V w') := fun w' h => HV8.out.trans (h.mono HV8.out.size)
      obtain ⟨Q, hQ⟩ : ∃ Q, Sv.has s.se cl sq = Q := ⟨_, rfl⟩
      have D7 : Hid (∀ w', Below w8.heap.size w8 w' → Calls Tryz.prog 29 #[.agg #[.slice s.fa s.fn s.fc, .slice s.la s.ln s.lc, .slice s.na s.nn s.nc], .int .i64 cl, .int .i64 sq] w' fun e w'' => e = .returned (.bool Q) ∧ Below w'.heap.size w' w'') := fun w' h => by have := has_any s cl sq w' (HSV.out _ (HVV.out _ h)); rw [hQ] at this; exact this
      have D8 : Hid (∀ w', Below w8.heap.size w8 w' → Calls Tryz.prog 30 #[.slice s.la s.ln s.lc, .func (.func 31) #[] #[.pointer (some ⟨w.heap.size + 2, 0, none⟩), .pointer (some ⟨w.heap.size + 3, 0, none⟩)]] w' fun e w'' => e = .returned (.bool Q) ∧ Below w'.heap.size w' w'') := fun w' h => by
        have := contL_any (w.heap.size + 2) (w.heap.size + 3) cl sq s.la s.ln s.lc s.log w' (HSV.out _ (HVV.out _ h)).log ((HLW.out _ (HVV.out _ h)).c.cell 0) ((HLW.out _ (HVV.out _ h)).q.cell 0)
        rw [show (s.log.map EV.en).any (Sv.isE cl sq) = Q from hQ] at this
        exact this
      clear hQ
      have HALL : Hid (∀ w', Below w8.heap.size w8 w' → w'.cell? ⟨w.heap.size, 0, none⟩ = some (.slice s.fa s.fn s.fc) ∧ w'.cell? ⟨w.heap.size, 1, none⟩ = some (.slice s.la s.ln s.lc) ∧ w'.cell? ⟨w.heap.size, 2, none⟩ = some (.slice s.na s.nn s.nc) ∧ w'.cell? ⟨w.heap.size + 2, 0, none⟩ = some (.int .i64 cl) ∧ w'.cell? ⟨w.heap.size + 3, 0, none⟩ = some (.int .i64 sq) ∧ Below w8.heap.size w8 w') := fun w' h => by
        have b1 := (HLW.out _ (HVV.out _ h)).s
        exact ⟨b1.cell 0, b1.cell 1, b1.cell 2, (HLW.out _ (HVV.out _ h)).c.cell 0, (HLW.out _ (HVV.out _ h)).q.cell 0, h⟩
      obtain ⟨p0, p1, p2, m0, m1, -⟩ := HALL.out w8 (Below.refl _ _)
      have hqq : (Q != Q) = false := by simp
      go_upto_region 11 with fail
      go_cut [122] from 114 to 122 (fun v wx => v = .bool false ∧ Below w8.heap.size w8 wx)
      case first =>
        go_region_held3 (fun w' => w'.cell? ⟨w.heap.size, 0, none⟩ = some (.slice s.fa s.fn s.fc) ∧ w'.cell? ⟨w.heap.size, 1, none⟩ = some (.slice s.la s.ln s.lc) ∧ w'.cell? ⟨w.heap.size, 2, none⟩ = some (.slice s.na s.nn s.nc) ∧ w'.cell? ⟨w.heap.size + 2, 0, none⟩ = some (.int .i64 cl) ∧ w'.cell? ⟨w.heap.size + 3, 0, none⟩ = some (.int .i64 sq) ∧ Below w8.heap.size w8 w') (first | exact HALL.out _ (Below.refl _ _).drew | exact HALL.out _ HBZ) (first | (go_at_call 29; refine (D7.out _ ?_).mono ?_; (first | exact HBZ | exact (Below.refl _ _).drew); rintro e wz ⟨rfl, hbz⟩; have HBZ : Below w8.heap.size w8 wz := (by first | exact HBZ.trans (hbz.mono HBZ.size) | exact drew_step hbz); clear hbz) | (go_at_call 30; refine (D8.out _ ?_).mono ?_; (first | exact HBZ | exact (Below.refl _ _).drew); rintro e wz ⟨rfl, hbz⟩; have HBZ : Below w8.heap.size w8 wz := (by first | exact HBZ.trans (hbz.mono HBZ.size) | exact drew_step hbz); clear hbz))
        all_goals
          first | go_meet | (go_wp2_with fail; go_meet)
          case rel => exact ⟨by simp, by first | exact HBZ | exact (Below.refl _ _).drew⟩
      case rest =>
        obtain ⟨rfl, hb9⟩ := hcut
        generalize wc = w9 at *
        have HB9 : Hid (Below W2.heap.size W2 w9) := HB8.out.trans (hb9.mono HB8.out.size)
        have HV9 : Hid (Below V.heap.size V w9) := HVV.out _ hb9
        clear hb9 HALL D7 D8 HVV p0 p1 p2 m0 m1 hqq
        have hbt : Blk w9 tb (svC t) 42 := (HB9.out.block _ HBT.out.lt).trans HBT.out
        have z0 : w9.cell? ⟨tb, 0, none⟩ = some (.slice t.fa t.fn t.fc) := hbt.cell 0
        have z1 : w9.cell? ⟨tb, 1, none⟩ = some (.slice t.la t.ln t.lc) := hbt.cell 1
        have z2 : w9.cell? ⟨tb, 2, none⟩ = some (.slice t.na t.nn t.nc) := hbt.cell 2
        by_cases hB : B = 0
        · have HB0 : Hid (Sv.srvE s.se = 0) := HBB.out.trans hB
          subst hB
          have CR := rtake_any s rev x w9 (HSV.out _ HV9.out) (HXO.out _ HV9.out) HB0.out
          rw [HF.out] at CR
          have p0 : w9.cell? ⟨w.heap.size, 0, none⟩ = some (.slice s.fa s.fn s.fc) := (HLW.out w9 HV9.out).s.cell 0
          have p1 : w9.cell? ⟨w.heap.size, 1, none⟩ = some (.slice s.la s.ln s.lc) := (HLW.out w9 HV9.out).s.cell 1
          have p2 : w9.cell? ⟨w.heap.size, 2, none⟩ = some (.slice s.na s.nn s.nc) := (HLW.out w9 HV9.out).s.cell 2
          have a0 : w9.cell? ⟨w.heap.size + 1, 0, none⟩ = some (.int .i64 x.who) := (HLW.out w9 HV9.out).x.cell 0
          have a1 : w9.cell? ⟨w.heap.size + 1, 1, none⟩ = some (.int .i64 x.seq) := (HLW.out w9 HV9.out).x.cell 1
          have a2 : w9.cell? ⟨w.heap.size + 1, 2, none⟩ = some (.slice x.ao x.n x.cap) := (HLW.out w9 HV9.out).x.cell 2
          go_wp2_with fail
          refine CR.mono ?_
          rintro e wa ⟨⟨t2, rfl, ht2, hts2⟩, hb⟩
          have hba : Below w9.heap.size w9 (boxs t2 wa) := hb.trans ((boxs_below t2 wa).mono hb.size)
          have HVA : Hid (Below V.heap.size V (boxs t2 wa)) := HV9.out.trans (hba.mono HV9.out.size)
          have CS : Hid (Calls Tryz.prog 28 #[.agg #[.slice t.fa t.fn t.fc, .slice t.la t.ln t.lc, .slice t.na t.nn t.nc], .agg #[.slice t2.fa t2.fn t2.fc, .slice t2.la t2.ln t2.lc, .slice t2.na t2.nn t2.nc]] (boxs t2 wa) fun e w' => e = .returned (.bool true) ∧ Below (boxs t2 wa).heap.size (boxs t2 wa) w') := sameSR_true ((HT2.out.below HB9.out).below hba) (ht2.below (boxs_below t2 wa)) (HTS.out.trans hts2.symm)
          have hbt2 : Blk (boxs t2 wa) tb (svC t) 42 := (hba.block _ hbt.lt).trans hbt
          have hbt3 : Blk (boxs t2 wa) wa.heap.size (svC t2) 42 := boxs_blk t2 wa
          clear ht2 hts2 hb hba CR z0 z1 z2
          clear p0 p1 p2
          clear a0 a1 a2
          go_upto_region 16 with fail
          change Code.wp Tryz.prog _ _ _ (boxs t2 wa)
          generalize boxs t2 wa = WA at *
          generalize wa.heap.size = ub at *
          have z0 : WA.cell? ⟨tb, 0, none⟩ = some (.slice t.fa t.fn t.fc) := hbt2.cell 0
          have z1 : WA.cell? ⟨tb, 1, none⟩ = some (.slice t.la t.ln t.lc) := hbt2.cell 1
          have z2 : WA.cell? ⟨tb, 2, none⟩ = some (.slice t.na t.nn t.nc) := hbt2.cell 2
          have y0 : WA.cell? ⟨ub, 0, none⟩ = some (.slice t2.fa t2.fn t2.fc) := hbt3.cell 0
          have y1 : WA.cell? ⟨ub, 1, none⟩ = some (.slice t2.la t2.ln t2.lc) := hbt3.cell 1
          have y2 : WA.cell? ⟨ub, 2, none⟩ = some (.slice t2.na t2.nn t2.nc) := hbt3.cell 2
          have hff : (F == F) = true := by simp
          clear hbt2 hbt3 hbt
          go_wp2_with fail
          refine CS.out.mono ?_
          rintro e wb ⟨rfl, hb⟩
          have HVB : Hid (Below V.heap.size V wb) := HVA.out.trans (hb.mono HVA.out.size)
          clear hb
          go_wp2
          go_ret
          exact ⟨rfl, HV.out.trans (HVB.out.mono HV.out.size)⟩
        · have hne : (B != 0) = true := by simp [hB]
          have hFB : Sv.takE s.se rev x.en = B := by unfold Sv.takE; rw [if_neg (by rw [HBB.out]; exact hB)]; exact HBB.out
          obtain rfl : F = B := HF.out.symm.trans hFB
          have hts0 : t.se = sv0.se := by rw [HTS.out]; unfold Sv.takS; rw [if_neg (by rw [HF.out]; exact hB)]; rfl
          have CS : Hid (Calls Tryz.prog 28 #[.agg #[.slice t.fa t.fn t.fc, .slice t.la t.ln t.lc, .slice t.na t.nn t.nc], .agg #[.slice none 0 0, .slice none 0 0, .slice none 0 0]] w9 fun e w' => e = .returned (.bool true) ∧ Below w9.heap.size w9 w') := sameSR_true (a := t) (b := sv0) (HT2.out.below HB9.out) (SrvFrom.nil 0 _).srv hts0
          have hff : (F == F) = true := by simp
          clear hFB hts0 hbt
          go_wp2_with fail
          refine CS.out.mono ?_
          rintro e wb ⟨rfl, hb⟩
          have HVB : Hid (Below V.heap.size V wb) := HV9.out.trans (hb.mono HV9.out.size)
          clear hb
          go_wp2
          go_ret
          exact ⟨rfl, HV.out.trans (HVB.out.mono HV.out.size)⟩
end Go.Proofs.YtbhcklkbckacpaaGreatDoor
