/-
  The reference's Applied, of whatever document and operation.
-/
import Derived.Test.YtbhcklkbckacpaaGreatDoorRe
import Derived.Test.YtbhcklkbckacpaaGreatDoorM6
import Derived.Deep.RegionHeld3
namespace Go.Proofs.YtbhcklkbckacpaaGreatDoor
open Go.RowKit

set_option maxRecDepth 100000 in
set_option maxHeartbeats 3200000 in
theorem appliedR_bad (ao ao' : Option Addr) (n cap n' cap' : Nat) (l : List It) (vs : List PV) (w : World) (hD : Doc w ao n cap l) (hO : Ops w ao' n' cap' vs) (hE : ¬ Ac.fitE l (vs.map PV.pt) = 0) :
    Calls Tryz.prog 82 #[.slice ao n cap, .slice ao' n' cap'] w fun e w' => e = .returned (.tuple #[.slice none 0 0, .int .i64 (Ac.fitE l (vs.map PV.pt))]) ∧ Below w.heap.size w w' := by
  have CD : Hid (Calls Tryz.prog 27 #[.slice ao n cap] w fun e w' => e = .returned (.int .i64 (Dc.check l)) ∧ Below w.heap.size w w') := CheckDoc_any ao n cap l w hD
  have CC : Hid (∀ w', Below w.heap.size w w' → Calls Tryz.prog 102 #[.slice ao' n' cap'] w' fun e w'' => e = .returned (.int .i64 (Ac.chk (vs.map PV.pt))) ∧ Below w'.heap.size w' w'') := fun w' hw => CheckOp_any ao' n' cap' vs w' (hO.below hw)
  have CL : Hid (∀ w', Below w.heap.size w w' → Calls Tryz.prog 157 #[.slice ao' n' cap'] w' fun e w'' => e = .returned (.tuple #[.int .i64 (Ac.lf (vs.map PV.pt)), .int .i64 (Ac.lt (vs.map PV.pt))]) ∧ Below w'.heap.size w' w'') := fun w' hw => LongOf_any ao' n' cap' vs w' (hO.below hw)
  obtain ⟨r, hr⟩ : ∃ r, Ac.fitE l (vs.map PV.pt) = r := ⟨_, rfl⟩
  rw [hr] at hE ⊢
  unfold Ac.fitE at hr
  rw [hD.len] at hr
  clear hD hO
  generalize Dc.check l = c1 at *
  generalize Ac.chk (vs.map PV.pt) = c2 at *
  generalize Ac.lf (vs.map PV.pt) = f at *
  generalize Ac.lt (vs.map PV.pt) = t at *
  have HR : Hid ((if c1 = 0 then (if c2 = 0 then (if f = (n : Int) then (if 80 < t then 2 else 0) else 6) else c2) else c1) = r) := hr
  clear hr
  by_cases h1 : c1 = 0
  · by_cases h2 : c2 = 0
    · subst h1 h2
      by_cases h3 : f = (n : Int)
      · by_cases h4 : 80 < t
        · obtain rfl : r = 2 := by rw [← HR.out, if_pos rfl, if_pos rfl, if_pos h3, if_pos h4]
          subst h3
          clear HR hE
          go_enter Tryz.func82, Tryz.ntmps82
          go_wp2_with fail
          refine CD.out.mono ?_
          rintro e w1 ⟨rfl, hb⟩
          have H1 : Hid (Below w.heap.size w w1) := hb
          clear hb
          go_wp2_with fail
          refine (CC.out _ H1.out).mono ?_
          rintro e w2 ⟨rfl, hb⟩
          have H2 : Hid (Below w.heap.size w w2) := H1.out.trans (hb.mono H1.out.size)
          clear hb
          go_wp2_with fail
          refine (CL.out _ H2.out).mono ?_
          rintro e w3 ⟨rfl, hb⟩
          have H3 : Hid (Below w.heap.size w w3) := H2.out.trans (hb.mono H2.out.size)
          clear hb
          go_wp2
          go_ret2
          exact ⟨rfl, H3.out⟩
        · exact absurd (by rw [← HR.out, if_pos rfl, if_pos rfl, if_pos h3, if_neg h4]) hE
      · obtain rfl : r = 6 := by rw [← HR.out, if_pos rfl, if_pos rfl, if_neg h3]
        have h3' : (f != (n : Int)) = true := by simp [h3]
        clear HR hE
        go_enter Tryz.func82, Tryz.ntmps82
        go_wp2_with fail
        refine CD.out.mono ?_
        rintro e w1 ⟨rfl, hb⟩
        have H1 : Hid (Below w.heap.size w w1) := hb
        clear hb
        go_wp2_with fail
        refine (CC.out _ H1.out).mono ?_
        rintro e w2 ⟨rfl, hb⟩
        have H2 : Hid (Below w.heap.size w w2) := H1.out.trans (hb.mono H1.out.size)
        clear hb
        go_wp2_with fail
        refine (CL.out _ H2.out).mono ?_
        rintro e w3 ⟨rfl, hb⟩
        have H3 : Hid (Below w.heap.size w w3) := H2.out.trans (hb.mono H2.out.size)
        clear hb
        go_wp2
        go_ret2
        exact ⟨rfl, H3.out⟩
    · obtain rfl : r = c2 := by rw [← HR.out, if_pos h1, if_neg h2]
      subst h1
      have h2' : (r != 0) = true := by simp [h2]
      clear HR
      go_enter Tryz.func82, Tryz.ntmps82
      go_wp2_with fail
      refine CD.out.mono ?_
      rintro e w1 ⟨rfl, hb⟩
      have H1 : Hid (Below w.heap.size w w1) := hb
      clear hb
      go_wp2_with fail
      refine (CC.out _ H1.out).mono ?_
      rintro e w2 ⟨rfl, hb⟩
      have H2 : Hid (Below w.heap.size w w2) := H1.out.trans (hb.mono H1.out.size)
      clear hb
      go_wp2
      go_ret2
      exact ⟨rfl, H2.out⟩
  · obtain rfl : r = c1 := by rw [← HR.out, if_neg h1]
    have h1' : (r != 0) = true := by simp [h1]
    clear HR
    go_enter Tryz.func82, Tryz.ntmps82
    go_wp2_with fail
    refine CD.out.mono ?_
    rintro e w1 ⟨rfl, hb⟩
    have H1 : Hid (Below w.heap.size w w1) := hb
    clear hb
    go_wp2
    go_ret2
    exact ⟨rfl, H1.out⟩

theorem al_blw (w : World) (o : Obj) : Below w.heap.size w (w.alloc o) := (Below.refl _ _).alloc (Nat.le_refl _) _
structure AplI (w3 : World) (ov : Value) (s : List It × Nat) (wr : World) : Prop where
  own : wr.ownsRow w3.heap.size 39 3 ov s.1.length (itCells s.1)
  blw : Below w3.heap.size w3 wr
  fit : Fit s.1
theorem AplI.push {w3 wr wa w8 : World} {ov : Value} {s s' : List It × Nat} {ov' : Value} (h : AplI w3 ov s wr) (hal : Below wr.heap.size wr wa) (hown : w8.ownsRow w3.heap.size 39 3 ov' s'.1.length (itCells s'.1)) (hg : wa.grownBy w8 ov.ownBlock) (hf : Fit s'.1) : AplI w3 ov' s' w8 := by
  refine ⟨hown, (h.blw.trans (hal.mono h.blw.size)).trans ⟨hg.os, hg.tape, hg.output, hg.size, fun k hk => hg.block k (by have := h.blw.size; have := hal.size; omega) (fun e => ?_)⟩, hf⟩
  have := ownBlk_ge h.own k e.symm
  omega

set_option maxRecDepth 100000 in
set_option maxHeartbeats 12800000 in
theorem appliedR_ok (ao ao' : Option Addr) (n cap n' cap' : Nat) (l : List It) (vs : List PV) (w : World) (hD : Doc w ao n cap l) (hO : Ops w ao' n' cap' vs) (hE : Ac.fitE l (vs.map PV.pt) = 0) :
    Calls Tryz.prog 82 #[.slice ao n cap, .slice ao' n' cap'] w fun e w' => (∃ a c, e = .returned (.tuple #[.slice a (Ac.mk l (vs.map PV.pt)).1.length c, .int .i64 0]) ∧ Doc w' a (Ac.mk l (vs.map PV.pt)).1.length c (Ac.mk l (vs.map PV.pt)).1) ∧ Below w.heap.size w w' := by
  have CD : Hid (Calls Tryz.prog 27 #[.slice ao n cap] w fun e w' => e = .returned (.int .i64 (Dc.check l)) ∧ Below w.heap.size w w') := CheckDoc_any ao n cap l w hD
  have CC : Hid (∀ w', Below w.heap.size w w' → Calls Tryz.prog 102 #[.slice ao' n' cap'] w' fun e w'' => e = .returned (.int .i64 (Ac.chk (vs.map PV.pt))) ∧ Below w'.heap.size w' w'') := fun w' hw => CheckOp_any ao' n' cap' vs w' (hO.below hw)
  have CL : Hid (∀ w', Below w.heap.size w w' → Calls Tryz.prog 157 #[.slice ao' n' cap'] w' fun e w'' => e = .returned (.tuple #[.int .i64 (Ac.lf (vs.map PV.pt)), .int .i64 (Ac.lt (vs.map PV.pt))]) ∧ Below w'.heap.size w' w'') := fun w' hw => LongOf_any ao' n' cap' vs w' (hO.below hw)
  obtain ⟨hck, hri, hnd, hlv⟩ := Ac.fit_0 hE
  obtain ⟨i0, hi, hz0, hz1, hz2⟩ := info_parts Tryz.infI
  have hlf := hri.lf
  have hlt := hri.lt
  have hok : ∀ v ∈ vs, Ac.err1 v.pt = 0 := fun v hv => hri.ok _ (List.mem_map.2 ⟨v, hv, rfl⟩)
  rw [hck] at CD
  rw [Ac.chk_right.2 hri] at CC
  rw [hlf, hlt, hnd, hD.len] at CL
  have hn80 := (Ac.check_0 hck).1
  rw [hD.len] at hn80
  have hpos : n ≠ 0 := by
    obtain ⟨_, _, l', x, e, _⟩ := Ac.check_0 hck
    have := hD.len
    rw [e] at this
    simp at this
    omega
  obtain ⟨b, off, rfl, hA⟩ := hD.lies hpos
  have CA : Hid (∀ w', Below w.heap.size w w' → Calls Tryz.prog 158 #[.slice ao' n' cap'] w' fun e w'' => (∃ lv, e = .returned lv ∧ w''.ownsRow w'.heap.size 196 11 lv (actsV vs).length (avCells (actsV vs))) ∧ Below w'.heap.size w' w'') := fun w' hw => acts_any ao' n' cap' vs w' (hO.below hw) hok (by have := hri.few; rw [List.length_map, hO.len] at this; exact this)
  have HMK : Hid ((actsV vs).foldl (Ac.amk l) ([], 0) = Ac.mk l (vs.map PV.pt)) := Ac.amk_acts l vs ([], 0) hok (by simp; omega)
  have hc := Ac.amk_two l (actsV vs) ([], 0)
  rw [HMK.out] at hc
  have hm2 := Ac.mk_two l (vs.map PV.pt) ([], 0)
  have hm1 := Ac.mk_len l (vs.map PV.pt) ([], 0) (by simp; omega)
  have hcN : Ac.cN (actsV vs) = n := by
    have h1 : (Ac.mk l (vs.map PV.pt)).2 = 0 + Ac.nd (vs.map PV.pt) := hm2
    have h2 := hc.1
    simp only at h2
    have := hD.len
    omega
  have hcL : Ac.cL (actsV vs) ≤ 80 := by
    have h1 : (Ac.mk l (vs.map PV.pt)).1.length = 0 + Ac.lv (vs.map PV.pt) := hm1
    have h2 := hc.2
    simp only [List.length_nil] at h2
    omega
  have HOKV : Hid (∀ a ∈ actsV vs, Ac.OkV a) := Ac.okV_acts hok hO.pts
  have hLL : (actsV vs).length ≤ 3200 := by
    have h1 := actsV_len hok
    have h2 := hri.few
    rw [List.length_map] at h2
    omega
  have HA : Hid (∀ w', Below w.heap.size w w' → At w' b off l) := fun w' hw => hA.below hw
  have HLL : Hid (l.length = n) := hD.len
  have HM4 : Hid (Ac.M4 l) := Ac.check_m4 hck
  have HFT : Hid (Fit l) := hD.fit
  have hcap := hD.room
  have hbig := hD.big
  have hlv2 : ¬ (80 : Int) < (Ac.lv (vs.map PV.pt) : Int) := by omega
  generalize Ac.lv (vs.map PV.pt) = lvv at *
  generalize actsV vs = L at *
  obtain ⟨R, hR⟩ : ∃ R, (Ac.mk l (vs.map PV.pt)).1 = R := ⟨_, rfl⟩
  have HR : Hid ((L.foldl (Ac.amk l) ([], 0)).1 = R) := by show _ = _; rw [HMK.out]; exact hR
  rw [hR]
  have HCN : Hid (∀ k (hk : k < L.length), (L.take k).foldl (Ac.amk l) ([], 0) = (L.take k).foldl (Ac.amk l) ([], 0) ∧ (¬ L[k].kind = 2 → ((L.take k).foldl (Ac.amk l) ([], 0)).2 < n) ∧ ((L.take (k + 1)).foldl (Ac.amk l) ([], 0)).1.length ≤ 80 ∧ ((L.take k).foldl (Ac.amk l) ([], 0)).2 ≤ n ∧ ((L.take k).foldl (Ac.amk l) ([], 0)).1.length ≤ 80) := fun k hk => by
    have h1 := Ac.amk_two l (L.take k) ([], 0)
    have h2 := Ac.amk_two l (L.take (k + 1)) ([], 0)
    have h3 := Ac.cN_take L k
    have h4 := Ac.cN_take L (k + 1)
    refine ⟨rfl, fun hk2 => ?_, ?_, ?_, ?_⟩
    · have h5 : Ac.cN (L.take (k + 1)) = Ac.cN (L.take k) + 1 := by
        rw [List.take_succ_eq_append_getElem hk, Ac.cN_app]
        simp [Ac.cN, hk2]
      rw [h1.1]
      simp only
      omega
    · rw [h2.2]
      simp only [List.length_nil]
      omega
    · rw [h1.1]
      simp only
      omega
    · rw [h1.2]
      simp only [List.length_nil]
      omega
  clear hD hO hE hck hri hnd hlv hlf hlt hok hA HMK hc hm2 hm1 hcN hcL hR hpos
  obtain ⟨LL, hLe⟩ : ∃ LL, L.length = LL := ⟨_, rfl⟩
  have HLE : Hid (L.length = LL) := hLe
  rw [hLe] at hLL CA
  clear hLe
  go_enter Tryz.func82, Tryz.ntmps82
  go_wp2_with fail
  refine CD.out.mono ?_
  rintro e w1 ⟨rfl, hb⟩
  have H1 : Hid (Below w.heap.size w w1) := hb
  clear hb
  go_wp2_with fail
  refine (CC.out _ H1.out).mono ?_
  rintro e w2 ⟨rfl, hb⟩
  have H2 : Hid (Below w.heap.size w w2) := H1.out.trans (hb.mono H1.out.size)
  clear hb
  go_wp2_with fail
  refine (CL.out _ H2.out).mono ?_
  rintro e w3 ⟨rfl, hb⟩
  have H3 : Hid (Below w.heap.size w w3) := H2.out.trans (hb.mono H2.out.size)
  clear hb
  go_wp2_with fail
  refine (CA.out _ H3.out).mono ?_
  rintro e w4 ⟨⟨lv, rfl, ho⟩, hb⟩
  have H4 : Hid (Below w.heap.size w w4) := H3.out.trans (hb.mono H3.out.size)
  obtain ⟨la, lc, rfl, hrow⟩ := own_row ho
  have hlr := hrow.room
  have hlb := hrow.big
  have HLO : Hid (w4.ownsRow w3.heap.size 196 11 (.slice la LL lc) LL (avCells L)) := ho
  clear hb ho hrow CD CC CL CA
  go_wp2
  go_loopw [10, 11, 38] (fun ov kv i wr => ∃ j : Nat, j ≤ LL ∧ i = .int .i64 j ∧ kv = .int .i64 ((L.take j).foldl (Ac.amk l) ([], 0)).2 ∧ AplI w4 ov ((L.take j).foldl (Ac.amk l) ([], 0)) wr) (fun _ _ i _ => LL - (intOf i).toNat)
  case atStart => exact ⟨0, Nat.zero_le _, rfl, rfl, World.ownsRow_nil _ _ _ _, Below.refl _ _, fun x hx => absurd hx (by simp)⟩
  case round =>
    obtain ⟨j, hj, rfl, rfl, hI⟩ := hrel
    have HI : Hid (AplI w4 u10 ((L.take j).foldl (Ac.amk l) ([], 0)) wr) := hI
    clear hI
    by_cases hjl : j < LL
    · have hjL : j < L.length := by rw [HLE.out]; exact hjl
      obtain ⟨lg, lc2, hla, -, -⟩ := HLO.out.form (by omega)
      simp only [Value.slice.injEq, true_and] at hla
      obtain ⟨rfl, -⟩ := hla
      have HMS : Hid ((L.take (j + 1)).foldl (Ac.amk l) ([], 0) = Ac.amk l ((L.take j).foldl (Ac.amk l) ([], 0)) L[j]) := Ac.amk_step l L j hjL
      obtain ⟨-, hB1, hB2, hB3, hB4⟩ := HCN.out j hjL
      rw [HMS.out] at hB2
      have hokv := HOKV.out L[j] (List.getElem_mem hjL)
      obtain ⟨c0, c1, c2, c3, c4, c5, c6, c7, c8, c9, c10⟩ := (own_elev HLO.out HLE.out j hjL).below HI.out.blw
      generalize (L.take j).foldl (Ac.amk l) ([], 0) = s at *
      generalize L[j] = a at *
      clear hjL
      obtain ⟨made, at0⟩ := s
      simp only at hB1 hB3 hB4
      obtain ⟨ml, hml⟩ : ∃ ml, made.length = ml := ⟨_, rfl⟩
      have HML : Hid (made.length = ml) := hml
      rw [hml] at hB4
      have HS5 : Hid (Elev (boxa a wr) wr.heap.size 0 a) := boxa_at a wr
      have hw5 : Below wr.heap.size wr (boxa a wr) := boxa_below a wr
      have HO5 : Hid ((boxa a wr).ownsRow w4.heap.size 39 3 u10 ml (itCells made)) := by have := own_under HI.out.own hw5; rw [hml] at this; exact this
      have hsz4 : w4.heap.size ≤ wr.heap.size := HI.out.blw.size
      have hsz5 : w4.heap.size ≤ (boxa a wr).heap.size := Nat.le_trans hsz4 hw5.size
      have HNB : Hid (some wr.heap.size ≠ u10.ownBlock) := fun e => by have := (HI.out.own.lt _ e.symm).2; omega
      have HB5 : Hid (Below w.heap.size w (boxa a wr)) := H4.out.trans ((HI.out.blw.trans (hw5.mono hsz4)).mono H4.out.size)
      have HW5 : Hid (Below wr.heap.size wr (boxa a wr)) := hw5
      clear hml hw5
      rcases hokv with ⟨hk, hfx⟩ | ⟨hk, hs4, hc4, hfl⟩ | hk
      · obtain ⟨kind, x, p⟩ := a
        simp only at hk hfx
        subst hk
        have hms : Ac.amk l (made, at0) ⟨2, x, p⟩ = (made ++ [x], at0) := rfl
        rw [hms] at HMS hB2
        have HFN : Hid (Fit (made ++ [x])) := fit_app HI.out.fit (fun z hz => by rw [List.mem_singleton.1 hz]; exact hfx)
        have HMQ : Hid ((made ++ [x]).length = ml + 1) := by show _ = _; rw [List.length_append, HML.out]; rfl
        clear hms hB1 hB2 hfx
        go_upto_region 17 with fail
        change Code.wp Tryz.prog _ _ _ (boxa ⟨2, x, p⟩ wr)
        generalize boxa ⟨2, x, p⟩ wr = W5 at *
        clear c0 c1 c2 c3 c4 c5 c6 c7 c8 c9 c10
        obtain ⟨d0, d1, d2, d3, d4, d5, d6, d7, d8, d9, d10⟩ := HS5.out
        simp only [Nat.zero_add] at d0 d1 d2 d3 d4 d5 d6 d7 d8 d9 d10
        go_wp2_with (at_builtin; refine wpList_append_lies _ rfl (.tmp 46) (.tmp 49) 34 rfl w4.heap.size 39 i0 (.agg #[.int .u8 0, .int .i64 0, .string ⟨#[]⟩]) 3 32 Tryz.underlying34 hi hz0 hz1 hz2 rfl (by decide) u10 ml (itCells made) rfl (HO5.out.alloc _) ⟨W5.heap.size, 0, none⟩ 1 1 (itCells [x]) rfl rfl (World.news_of_block (cs := (itCells [x]).toArray) (heap_alloc_new W5 _)) (itCells_one _) (by decide) (by unfold maxLen; omega) (by omega) (Nat.le_trans hsz5 (al_blw W5 _).size) _ rfl ?c7)
        case c7 =>
          intro g2 cap2 w8 hown hgrow hat hlt
          have HFIN : Hid (AplI w4 (.slice (some ⟨g2, 0, none⟩) (ml + 1) cap2) (made ++ [x], at0) w8) := HI.out.push (HW5.out.trans ((al_blw W5 _).mono HW5.out.size)) (by rw [itCells_app, HMQ.out]; exact hown) hgrow HFN.out
          clear hown hgrow hat hlt
          go_wp2
          go_roundw
          case rel => exact ⟨j + 1, by omega, by go_num, by rw [HMS.out], by rw [HMS.out]; exact HFIN.out⟩
          case measure => simp [intOf]; omega
      · obtain ⟨kind, x, p⟩ := a
        simp only at hk hs4 hc4 hfl
        subst hk
        have hat : at0 < n := hB1 (show ¬ (1 : Int) = 2 by decide)
        have hatl : at0 < l.length := by rw [HLL.out]; exact hat
        obtain ⟨x0, hx0⟩ : ∃ x0, l[at0] = x0 := ⟨_, rfl⟩
        obtain ⟨y, hy⟩ : ∃ y, Ac.change x0 (Ac.chOf p.pt) = y := ⟨_, rfl⟩
        have hms : Ac.amk l (made, at0) ⟨1, x, p⟩ = (made ++ [y], at0 + 1) := by
          show (made ++ [Ac.change (l[at0]?.getD it0) (Ac.chOf p.pt)], at0 + 1) = _
          rw [List.getElem?_eq_getElem hatl, hx0]
          show (made ++ [Ac.change x0 (Ac.chOf p.pt)], at0 + 1) = _
          rw [hy]
        rw [hms] at HMS hB2
        have hx4 : Ac.m4 x0.m := by rw [← hx0]; exact HM4.out _ (List.getElem_mem hatl)
        have hfy : Fit [y] := by
          have h1 : Fit [x0] := fun z hz => by rw [List.mem_singleton.1 hz, ← hx0]; exact HFT.out _ (List.getElem_mem hatl)
          have h2 := fit_change h1 (Ac.chOf p.pt) hfl
          simp only [List.map_cons, List.map_nil, hy] at h2
          exact h2
        have HFN : Hid (Fit (made ++ [y])) := fit_app HI.out.fit hfy
        have HMQ : Hid ((made ++ [y]).length = ml + 1) := by show _ = _; rw [List.length_append, HML.out]; rfl
        have CG : Hid (Calls Tryz.prog 159 #[.agg #[.int .u8 x0.c.toNat, .int .i64 x0.m, .string x0.l], .agg #[.int .i64 p.kind, .int .i64 p.n, .slice p.ao p.m p.cap, .int .i64 p.set, .int .i64 p.clr, .bool p.goes, .string p.link]] (boxa ⟨1, x, p⟩ wr).drew fun e w' => e = .returned (.agg #[.int .u8 y.c.toNat, .int .i64 y.m, .string y.l]) ∧ Below (boxa ⟨1, x, p⟩ wr).heap.size (boxa ⟨1, x, p⟩ wr) w') := by
          have := changedR_any x0 p (boxa ⟨1, x, p⟩ wr).drew hx4 hs4 hc4
          rw [hy] at this
          exact this.mono (fun e w' ⟨he, hb⟩ => ⟨he, (Below.refl _ _).drew.trans hb⟩)
        obtain ⟨e0, e1, e2⟩ := (HA.out _ HB5.out).get ((List.getElem?_eq_getElem hatl).trans (congrArg some hx0))
        obtain ⟨e0', e1', e2'⟩ := (HA.out w (Below.refl _ _)).get ((List.getElem?_eq_getElem hatl).trans (congrArg some hx0))
        have q1 : (0 : Int) ≤ (at0 : Int) := by omega
        have q2 : (at0 : Int) < (n : Int) := by omega
        clear hms hB1 hB2 hs4 hc4 hfl hatl hx0 hy hx4 hfy
        go_upto_region 17 with fail
        change Code.wp Tryz.prog _ _ _ (boxa ⟨1, x, p⟩ wr)
        generalize boxa ⟨1, x, p⟩ wr = W5 at *
        clear c0 c1 c2 c3 c4 c5 c6 c7 c8 c9 c10
        obtain ⟨d0, d1, d2, d3, d4, d5, d6, d7, d8, d9, d10⟩ := HS5.out
        simp only [Nat.zero_add] at d0 d1 d2 d3 d4 d5 d6 d7 d8 d9 d10
        go_upto_region 21 with fail
        go_region_held3 (fun w' => w'.cell? ⟨b, off + at0 * 3, none⟩ = some (.int .u8 x0.c.toNat) ∧ w'.cell? ⟨b, off + at0 * 3 + 1, none⟩ = some (.int .i64 x0.m) ∧ w'.cell? ⟨b, off + at0 * 3 + 2, none⟩ = some (.string x0.l) ∧ w'.cell? ⟨wr.heap.size, 4, none⟩ = some (.int .i64 p.kind) ∧ w'.cell? ⟨wr.heap.size, 5, none⟩ = some (.int .i64 p.n) ∧ w'.cell? ⟨wr.heap.size, 6, none⟩ = some (.slice p.ao p.m p.cap) ∧ w'.cell? ⟨wr.heap.size, 7, none⟩ = some (.int .i64 p.set) ∧ w'.cell? ⟨wr.heap.size, 8, none⟩ = some (.int .i64 p.clr) ∧ w'.cell? ⟨wr.heap.size, 9, none⟩ = some (.bool p.goes) ∧ w'.cell? ⟨wr.heap.size, 10, none⟩ = some (.string p.link)) (first | exact ⟨e0, e1, e2, d4, d5, d6, d7, d8, d9, d10⟩ | exact ⟨f0, f1, f2, y4, y5, y6, y7, y8, y9, y10⟩ | exact ⟨cell_below f0 (al_blw _ _), cell_below f1 (al_blw _ _), cell_below f2 (al_blw _ _), cell_below y4 (al_blw _ _), cell_below y5 (al_blw _ _), cell_below y6 (al_blw _ _), cell_below y7 (al_blw _ _), cell_below y8 (al_blw _ _), cell_below y9 (al_blw _ _), cell_below y10 (al_blw _ _)⟩ | exact ⟨g0, g1, g2', z4, z5, z6, z7, z8, z9, z10⟩) (first | (go_at_call 159; refine CG.out.mono ?_; rintro e w7 ⟨rfl, hb⟩; have HE7 : Hid (Elev w7 wr.heap.size 0 ⟨1, x, p⟩) := HS5.out.below hb; obtain ⟨-, -, -, -, y4, y5, y6, y7, y8, y9, y10⟩ := HE7.out; simp only [Nat.zero_add] at y4 y5 y6 y7 y8 y9 y10; have f0 := cell_below e0 hb; have f1 := cell_below e1 hb; have f2 := cell_below e2 hb; have HO7 : Hid (w7.ownsRow w4.heap.size 39 3 u10 ml (itCells made)) := own_under HO5.out hb; have hs7 : w4.heap.size ≤ w7.heap.size := Nat.le_trans hsz5 hb.size; have HB7 : Hid (Below wr.heap.size wr w7) := HW5.out.trans (hb.mono HW5.out.size); clear hb) | (refine step_append_lies _ rfl (.tmp 53) (.tmp 61) 34 rfl w4.heap.size 39 i0 (.agg #[.int .u8 0, .int .i64 0, .string ⟨#[]⟩]) 3 32 Tryz.underlying34 hi hz0 hz1 hz2 rfl (by decide) u10 ml (itCells made) rfl (HO7.out.alloc _) ⟨w7.heap.size, 0, none⟩ 1 1 (itCells [y]) rfl rfl (World.news_of_block (cs := (itCells [y]).toArray) (heap_alloc_new w7 _)) (itCells_one _) (by decide) (by unfold maxLen; omega) (by omega) (Nat.le_trans hs7 (al_blw w7 _).size) _ rfl ?_; intro g2 cap2 w8 hown hgrow hat hlt; have hE8 := (HE7.out.below (al_blw w7 (.cells #[.int .u8 y.c.toNat, .int .i64 y.m, .string y.l] 39))).same (hgrow.block _ (cell_lt (HE7.out.below (al_blw w7 (.cells #[.int .u8 y.c.toNat, .int .i64 y.m, .string y.l] 39))).c0) HNB.out); obtain ⟨-, -, -, -, z4, z5, z6, z7, z8, z9, z10⟩ := hE8; simp only [Nat.zero_add] at z4 z5 z6 z7 z8 z9 z10; have HFIN : Hid (AplI w4 (.slice (some ⟨g2, 0, none⟩) (ml + 1) cap2) (made ++ [y], at0 + 1) w8) := HI.out.push (HB7.out.trans ((al_blw w7 _).mono HB7.out.size)) (by rw [itCells_app, HMQ.out]; exact hown) hgrow HFN.out; have g0 := cell_below e0' (H4.out.trans (HFIN.out.blw.mono H4.out.size)); have g1 := cell_below e1' (H4.out.trans (HFIN.out.blw.mono H4.out.size)); have g2' := cell_below e2' (H4.out.trans (HFIN.out.blw.mono H4.out.size)); clear hown hgrow hat hlt))
        go_wp2
        go_roundw
        case rel => exact ⟨j + 1, by omega, by go_num, by rw [HMS.out]; go_num, by rw [HMS.out]; exact HFIN.out⟩
        case measure => simp [intOf]; omega
      · obtain ⟨kind, x, p⟩ := a
        simp only at hk
        subst hk
        have hat : at0 < n := hB1 (show ¬ (3 : Int) = 2 by decide)
        have hms : Ac.amk l (made, at0) ⟨3, x, p⟩ = (made, at0 + 1) := rfl
        rw [hms] at HMS hB2
        have HFIN : Hid (AplI w4 u10 (made, at0 + 1) (boxa ⟨3, x, p⟩ wr)) := ⟨by rw [HML.out]; exact HO5.out, HI.out.blw.trans (HW5.out.mono hsz4), HI.out.fit⟩
        clear hms hB1 hB2
        go_upto_region 17 with fail
        change Code.wp Tryz.prog _ _ _ (boxa ⟨3, x, p⟩ wr)
        generalize boxa ⟨3, x, p⟩ wr = W5 at *
        clear c0 c1 c2 c3 c4 c5 c6 c7 c8 c9 c10
        obtain ⟨d0, d1, d2, d3, d4, d5, d6, d7, d8, d9, d10⟩ := HS5.out
        simp only [Nat.zero_add] at d0 d1 d2 d3 d4 d5 d6 d7 d8 d9 d10
        go_wp2
        go_roundw
        case rel => exact ⟨j + 1, by omega, by go_num, by rw [HMS.out]; go_num, by rw [HMS.out]; exact HFIN.out⟩
        case measure => simp [intOf]; omega
    · have hjj : j = LL := by omega
      have hft : L.take j = L := List.take_of_length_le (by rw [HLE.out]; omega)
      rw [hft] at HI
      obtain ⟨a, c, hv, hd⟩ := own_doc HI.out.own HI.out.fit rfl
      rw [HR.out] at hv hd
      have HB : Hid (Below w.heap.size w wr) := H4.out.trans (HI.out.blw.mono H4.out.size)
      have HDD : Hid (Doc wr a R.length c R) := hd
      obtain ⟨rl, hrl⟩ : ∃ rl, R.length = rl := ⟨_, rfl⟩
      rw [hrl] at hv HDD
      have HRL : Hid (R.length = rl) := hrl
      subst hv hjj
      clear hft hd hrl
      go_wp2
      go_ret2
      exact ⟨⟨a, c, by rw [HRL.out]; rfl, by rw [HRL.out]; exact HDD.out⟩, HB.out⟩
end Go.Proofs.YtbhcklkbckacpaaGreatDoor
