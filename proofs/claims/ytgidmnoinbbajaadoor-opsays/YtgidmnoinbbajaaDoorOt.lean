/-
  OpSays: any operation is checked, measured, done, made tidy, held against another one, as the reference says.
-/
import Derived.Test.YtgidmnoinbbajaaDoorRh
namespace Go.Proofs.YtgidmnoinbbajaaDoor
open Go.RowKit

theorem appliedR_any (ao ao' : Option Addr) (n cap n' cap' : Nat) (l : List It) (vs : List PV) (w : World) (hD : Doc w ao n cap l) (hO : Ops w ao' n' cap' vs) :
    Calls Tryd.prog 14 #[.slice ao n cap, .slice ao' n' cap'] w fun e w' => (∃ a c, e = .returned (.tuple #[.slice a (Ac.done l (vs.map PV.pt)).length c, .int .i64 (Ac.fitE l (vs.map PV.pt))]) ∧ Doc w' a (Ac.done l (vs.map PV.pt)).length c (Ac.done l (vs.map PV.pt))) ∧ Below w.heap.size w w' := by
  unfold Ac.done
  by_cases h : Ac.fitE l (vs.map PV.pt) = 0
  · rw [if_pos h, h]
    exact appliedR_ok ao ao' n cap n' cap' l vs w hD hO h
  · rw [if_neg h]
    refine (appliedR_bad ao ao' n cap n' cap' l vs w hD hO h).mono ?_
    rintro e w' ⟨he, hb⟩
    exact ⟨⟨none, 0, he, doc_none w'⟩, hb⟩
set_option maxRecDepth 100000 in
set_option maxHeartbeats 1600000 in
theorem TidyOf_any (ao : Option Addr) (n cap : Nat) (vs : List PV) (w : World) (hO : Ops w ao n cap vs) (hE : Ac.chk (vs.map PV.pt) = 0) :
    Calls Tryd.prog 21 #[.slice ao n cap] w fun e w' => (∃ a m c us, e = .returned (.slice a m c) ∧ Ops w' a m c us ∧ us.map PV.pt = Ac.tidy (vs.map PV.pt)) ∧ Below w.heap.size w w' := by
  have hri := Ac.chk_right.1 hE
  have hok : ∀ v ∈ vs, Ac.err1 v.pt = 0 := fun v hv => hri.ok _ (List.mem_map.2 ⟨v, hv, rfl⟩)
  have hn40 : n ≤ 40 := by have := hri.few; rw [List.length_map, hO.len] at this; exact this
  have CA : Hid (Calls Tryd.prog 34 #[.slice ao n cap] w fun e w' => (∃ lv, e = .returned lv ∧ w'.ownsRow w.heap.size 56 11 lv (actsV vs).length (avCells (actsV vs))) ∧ Below w.heap.size w w') := acts_any ao n cap vs w hO hok hn40
  have hL : (actsV vs).length ≤ 4000 := by
    have h1 := actsV_len hok
    rw [hO.len] at h1
    omega
  have HK : Hid (∀ w', Below w.heap.size w w' → ∀ a ∈ actsV vs, Ac.OkT w' a) := fun w' hw => Ac.okT_acts hok (fun v hv => (hO.pts v hv).below hw)
  have HTA : Hid (Ac.tdy [] [] 0 ((actsV vs).map Ac.toA) = Ac.tidy (vs.map PV.pt)) := by show _ = _; rw [Ac.acts_toA hok]; rfl
  clear hri hok hn40 hO hE
  generalize Ac.tidy (vs.map PV.pt) = tp at *
  generalize actsV vs = L at *
  go_enter Tryd.func21, Tryd.ntmps21
  go_wp2_with fail
  refine CA.out.mono ?_
  rintro e w1 ⟨⟨lv, rfl, ho⟩, hb⟩
  obtain ⟨la, lc, rfl, -⟩ := own_row ho
  have CT : Hid (Calls Tryd.prog 43 #[.slice la L.length lc] w1 fun e w' => (∃ a m c us, e = .returned (.slice a m c) ∧ Ops w' a m c us ∧ us.map PV.pt = tp) ∧ Below w1.heap.size w1 w') := by
    have := tidied_any la L.length lc w.heap.size L w1 ho rfl hL (HK.out _ hb)
    rw [HTA.out] at this
    exact this
  have H1 : Hid (Below w.heap.size w w1) := hb
  clear ho hb CA
  generalize L.length = ll at *
  go_wp2_with fail
  refine CT.out.mono ?_
  rintro e w2 ⟨⟨a, m, c, us, rfl, ho, hu⟩, hb⟩
  have H2 : Hid (Below w.heap.size w w2) := H1.out.trans (hb.mono H1.out.size)
  have HO2 : Hid (Ops w2 a m c us) := ho
  have HU : Hid (us.map PV.pt = tp) := hu
  clear hb ho hu
  go_wp2
  go_ret
  exact ⟨⟨a, m, c, us, rfl, HO2.out, HU.out⟩, H2.out⟩

set_option maxRecDepth 100000 in
set_option maxHeartbeats 6400000 in
theorem osays_any (ao ao' ao2 : Option Addr) (n cap n' cap' n2 cap2 : Nat) (l : List It) (vs ps : List PV) (w : World) (hD : Doc w ao n cap l) (hO : Ops w ao' n' cap' vs) (hP : Ops w ao2 n2 cap2 ps) (hS : Sch w) :
    Calls Tryd.prog 3 #[.slice ao n cap, .slice ao' n' cap', .slice ao2 n2 cap2] w fun e w' => e = .returned (.bool true) ∧ Below w.heap.size w w' := by
  have H0 : Hid (Below w.heap.size w w) := Below.refl _ _
  have CA : Hid (∀ w', Below w.heap.size w w' → Calls Tryd.prog 10 #[.slice ao n cap, .slice ao' n' cap'] w' fun e w'' => (∃ a c, e = .returned (.tuple #[.slice a (Ac.done l (vs.map PV.pt)).length c, .int .i64 (Ac.fitE l (vs.map PV.pt))]) ∧ Doc w'' a (Ac.done l (vs.map PV.pt)).length c (Ac.done l (vs.map PV.pt))) ∧ Below w'.heap.size w' w'') := fun w' h => apply_any ao ao' n cap n' cap' l vs w' (hD.below h) (hO.below h) (hS.below h)
  have CR : Hid (∀ w', Below w.heap.size w w' → Calls Tryd.prog 14 #[.slice ao n cap, .slice ao' n' cap'] w' fun e w'' => (∃ a c, e = .returned (.tuple #[.slice a (Ac.done l (vs.map PV.pt)).length c, .int .i64 (Ac.fitE l (vs.map PV.pt))]) ∧ Doc w'' a (Ac.done l (vs.map PV.pt)).length c (Ac.done l (vs.map PV.pt))) ∧ Below w'.heap.size w' w'') := fun w' h => appliedR_any ao ao' n cap n' cap' l vs w' (hD.below h) (hO.below h)
  have CT : Hid (∀ w', Below w.heap.size w w' → Calls Tryd.prog 11 #[.slice ao' n' cap'] w' fun e w'' => (∃ a m c us, e = .returned (.tuple #[.slice a m c, .int .i64 (Ac.chk (vs.map PV.pt))]) ∧ Ops w'' a m c us ∧ us.map PV.pt = Ac.tid (vs.map PV.pt)) ∧ Below w'.heap.size w' w'') := fun w' h => tidy_any ao' n' cap' vs w' (hO.below h) (hS.below h)
  have CL : Hid (∀ w', Below w.heap.size w w' → Calls Tryd.prog 12 #[.slice ao' n' cap'] w' fun e w'' => e = .returned (.tuple #[.int .i64 (Ac.lf (vs.map PV.pt)), .int .i64 (Ac.lt (vs.map PV.pt))]) ∧ Below w'.heap.size w' w'') := fun w' h => long_any ao' n' cap' vs w' (hO.below h)
  have CM : Hid (∀ w', Below w.heap.size w w' → Calls Tryd.prog 13 #[.slice ao' n' cap'] w' fun e w'' => e = .returned (.tuple #[.int .i64 (Ac.lf (vs.map PV.pt)), .int .i64 (Ac.lt (vs.map PV.pt))]) ∧ Below w'.heap.size w' w'') := fun w' h => LongOf_any ao' n' cap' vs w' (hO.below h)
  have CC : Hid (∀ w', Below w.heap.size w w' → Calls Tryd.prog 15 #[.slice ao' n' cap'] w' fun e w'' => e = .returned (.int .i64 (Ac.chk (vs.map PV.pt))) ∧ Below w'.heap.size w' w'') := fun w' h => CheckOp_any ao' n' cap' vs w' (hO.below h)
  have CK : Hid (∀ w', Below w.heap.size w w' → Calls Tryd.prog 17 #[.slice ao' n' cap'] w' fun e w'' => e = .returned (.int .i64 (Ac.chk (vs.map PV.pt))) ∧ Below w'.heap.size w' w'') := fun w' h => chk_any ao' n' cap' vs w' (hO.below h) (hS.below h)
  have CS : Hid (∀ w', Below w.heap.size w w' → Calls Tryd.prog 18 #[.slice ao' n' cap', .slice ao2 n2 cap2] w' fun e w'' => e = .returned (.bool (Ac.sameO (vs.map PV.pt) (ps.map PV.pt))) ∧ Below w'.heap.size w' w'') := fun w' h => sameO_any ao' ao2 n' cap' n2 cap2 vs ps w' (hO.below h) (hP.below h)
  have CU : Hid (∀ w', Below w.heap.size w w' → Calls Tryd.prog 19 #[.slice ao' n' cap', .slice ao2 n2 cap2] w' fun e w'' => e = .returned (.bool (Ac.sameO (vs.map PV.pt) (ps.map PV.pt))) ∧ Below w'.heap.size w' w'') := fun w' h => SameOp_any ao' ao2 n' cap' n2 cap2 vs ps w' (hO.below h) (hP.below h)
  have CO : Hid (∀ w', Below w.heap.size w w' → Calls Tryd.prog 16 #[] w' fun e w'' => e = .returned (.bool true) ∧ Below w'.heap.size w' w'') := fun w' h => opened_any w' (hS.below h)
  have CV : Hid (Ac.chk (vs.map PV.pt) = 0 → ∀ w', Below w.heap.size w w' → Calls Tryd.prog 21 #[.slice ao' n' cap'] w' fun e w'' => (∃ a m c us, e = .returned (.slice a m c) ∧ Ops w'' a m c us ∧ us.map PV.pt = Ac.tid (vs.map PV.pt)) ∧ Below w'.heap.size w' w'') := fun hE w' h => by
    have := TidyOf_any ao' n' cap' vs w' (hO.below h) hE
    have e : Ac.tid (vs.map PV.pt) = Ac.tidy (vs.map PV.pt) := by unfold Ac.tid; rw [if_pos hE]; exact Ac.ts_tidy (Ac.chk_right.1 hE)
    rw [e]
    exact this
  have HTN : Hid (¬ Ac.chk (vs.map PV.pt) = 0 → Ac.tid (vs.map PV.pt) = []) := fun h => if_neg h
  clear hD hO hP hS
  generalize Ac.sameO (vs.map PV.pt) (ps.map PV.pt) = sm at *
  generalize Ac.lf (vs.map PV.pt) = lfv at *
  generalize Ac.lt (vs.map PV.pt) = ltv at *
  generalize Ac.fitE l (vs.map PV.pt) = ft at *
  generalize Ac.done l (vs.map PV.pt) = dn at *
  generalize Ac.tid (vs.map PV.pt) = tp at *
  generalize Ac.chk (vs.map PV.pt) = ck at *
  obtain ⟨dl, hdl⟩ : ∃ dl, dn.length = dl := ⟨_, rfl⟩
  rw [hdl] at CA CR
  clear hdl
  by_cases hE : ck = 0
  · subst hE
    go_enter Tryd.func3, Tryd.ntmps3
    go_wp2_with fail
    refine (CA.out _ H0.out).mono ?_
    rintro e w1 ⟨⟨a, k, rfl, hX⟩, hb⟩
    have H1 : Hid (Below w.heap.size w w1) := H0.out.trans (hb.mono H0.out.size)
    have HX1 : Hid (Doc w1 a dl k dn) := hX
    clear hX
    clear hb
    go_wp2_with fail
    refine (CT.out _ H1.out).mono ?_
    rintro e w2 ⟨⟨ta, tm, tc, us, rfl, hT, hu⟩, hb⟩
    have H2 : Hid (Below w.heap.size w w2) := H1.out.trans (hb.mono H1.out.size)
    have HX2 : Hid (Doc w2 a dl k dn) := HX1.out.below hb
    have HT2 : Hid (Ops w2 ta tm tc us) := hT
    have HU : Hid (us.map PV.pt = tp) := hu
    clear hT hu
    clear hb
    go_wp2_with fail
    refine (CL.out _ H2.out).mono ?_
    rintro e w3 ⟨rfl, hb⟩
    have H3 : Hid (Below w.heap.size w w3) := H2.out.trans (hb.mono H2.out.size)
    have HX3 : Hid (Doc w3 a dl k dn) := HX2.out.below hb
    have HT3 : Hid (Ops w3 ta tm tc us) := HT2.out.below hb
    clear hb
    go_wp2_with fail
    refine (CM.out _ H3.out).mono ?_
    rintro e w4 ⟨rfl, hb⟩
    have H4 : Hid (Below w.heap.size w w4) := H3.out.trans (hb.mono H3.out.size)
    have HX4 : Hid (Doc w4 a dl k dn) := HX3.out.below hb
    have HT4 : Hid (Ops w4 ta tm tc us) := HT3.out.below hb
    clear hb
    go_wp2_with fail
    refine (CR.out _ H4.out).mono ?_
    rintro e w5 ⟨⟨ra, rk, rfl, hY⟩, hb⟩
    have H5 : Hid (Below w.heap.size w w5) := H4.out.trans (hb.mono H4.out.size)
    have HX5 : Hid (Doc w5 a dl k dn) := HX4.out.below hb
    have HT5 : Hid (Ops w5 ta tm tc us) := HT4.out.below hb
    have HY5 : Hid (Doc w5 ra dl rk dn) := hY
    clear hY
    clear hb
    go_wp2_with fail
    refine (CC.out _ H5.out).mono ?_
    rintro e w6 ⟨rfl, hb⟩
    have H6 : Hid (Below w.heap.size w w6) := H5.out.trans (hb.mono H5.out.size)
    have HX6 : Hid (Doc w6 a dl k dn) := HX5.out.below hb
    have HT6 : Hid (Ops w6 ta tm tc us) := HT5.out.below hb
    have HY6 : Hid (Doc w6 ra dl rk dn) := HY5.out.below hb
    clear hb
    go_wp2_with fail
    refine (CO.out _ H6.out).mono ?_
    rintro e w7 ⟨rfl, hb⟩
    have H7 : Hid (Below w.heap.size w w7) := H6.out.trans (hb.mono H6.out.size)
    have HX7 : Hid (Doc w7 a dl k dn) := HX6.out.below hb
    have HT7 : Hid (Ops w7 ta tm tc us) := HT6.out.below hb
    have HY7 : Hid (Doc w7 ra dl rk dn) := HY6.out.below hb
    clear hb
    go_wp2_with fail
    refine (CK.out _ H7.out).mono ?_
    rintro e w8 ⟨rfl, hb⟩
    have H8 : Hid (Below w.heap.size w w8) := H7.out.trans (hb.mono H7.out.size)
    have HX8 : Hid (Doc w8 a dl k dn) := HX7.out.below hb
    have HT8 : Hid (Ops w8 ta tm tc us) := HT7.out.below hb
    have HY8 : Hid (Doc w8 ra dl rk dn) := HY7.out.below hb
    clear hb
    go_wp2_with fail
    refine (CS.out _ H8.out).mono ?_
    rintro e w9 ⟨rfl, hb⟩
    have H9 : Hid (Below w.heap.size w w9) := H8.out.trans (hb.mono H8.out.size)
    have HX9 : Hid (Doc w9 a dl k dn) := HX8.out.below hb
    have HT9 : Hid (Ops w9 ta tm tc us) := HT8.out.below hb
    have HY9 : Hid (Doc w9 ra dl rk dn) := HY8.out.below hb
    clear hb
    go_wp2_with fail
    refine (CU.out _ H9.out).mono ?_
    rintro e w10 ⟨rfl, hb⟩
    have H10 : Hid (Below w.heap.size w w10) := H9.out.trans (hb.mono H9.out.size)
    have HX10 : Hid (Doc w10 a dl k dn) := HX9.out.below hb
    have HT10 : Hid (Ops w10 ta tm tc us) := HT9.out.below hb
    have HY10 : Hid (Doc w10 ra dl rk dn) := HY9.out.below hb
    clear hb
    have CE : Hid (Calls Tryd.prog 20 #[.slice a dl k, .slice ra dl rk] w10 fun e w' => e = .returned (.bool true) ∧ ∃ m, w' = w10.drewN m) := by
      have := equal_any a ra dl k dl rk dn dn w10 HX10.out HY10.out
      rw [(its_same _ _).2 rfl] at this
      exact this
    go_wp2_with fail
    refine CE.out.mono ?_
    rintro e w11 ⟨rfl, m, hm⟩
    have H11 : Hid (Below w.heap.size w w11) := by rw [hm]; exact H10.out.trans ((drewN_blw _ m).mono H10.out.size)
    have HT11 : Hid (Ops w11 ta tm tc us) := by rw [hm]; exact HT10.out.below (drewN_blw _ m)
    clear hm
    go_wp2_with fail
    refine (CV.out (by first | exact rfl | trivial) _ H11.out).mono ?_
    rintro e w12 ⟨⟨va, vm, vc, us2, rfl, hV, hv⟩, hb⟩
    have H12 : Hid (Below w.heap.size w w12) := H11.out.trans (hb.mono H11.out.size)
    have HT12 : Hid (Ops w12 ta tm tc us) := HT11.out.below hb
    have HV12 : Hid (Ops w12 va vm vc us2) := hV
    have HU2 : Hid (us2.map PV.pt = tp) := hv
    clear hV hv
    clear hb
    have CF : Hid (Calls Tryd.prog 19 #[.slice ta tm tc, .slice va vm vc] w12 fun e w' => e = .returned (.bool true) ∧ Below w12.heap.size w12 w') := by
      have := SameOp_any ta va tm tc vm vc us us2 w12 HT12.out HV12.out
      rw [HU.out, HU2.out, Ac.sameO_self] at this
      exact this
    go_wp2_with fail
    refine (CF.out).mono ?_
    rintro e w13 ⟨rfl, hb⟩
    have H13 : Hid (Below w.heap.size w w13) := H12.out.trans (hb.mono H12.out.size)
    clear hb
    go_wp2
    go_ret
    exact ⟨rfl, H13.out⟩
  · have hE' : (ck != 0) = true := by simp [hE]
    go_enter Tryd.func3, Tryd.ntmps3
    go_wp2_with fail
    refine (CA.out _ H0.out).mono ?_
    rintro e w1 ⟨⟨a, k, rfl, hX⟩, hb⟩
    have H1 : Hid (Below w.heap.size w w1) := H0.out.trans (hb.mono H0.out.size)
    have HX1 : Hid (Doc w1 a dl k dn) := hX
    clear hX
    clear hb
    go_wp2_with fail
    refine (CT.out _ H1.out).mono ?_
    rintro e w2 ⟨⟨ta, tm, tc, us, rfl, hT, hu⟩, hb⟩
    have H2 : Hid (Below w.heap.size w w2) := H1.out.trans (hb.mono H1.out.size)
    have HX2 : Hid (Doc w2 a dl k dn) := HX1.out.below hb
    have HT2 : Hid (Ops w2 ta tm tc us) := hT
    have HU : Hid (us.map PV.pt = tp) := hu
    clear hT hu
    clear hb
    go_wp2_with fail
    refine (CL.out _ H2.out).mono ?_
    rintro e w3 ⟨rfl, hb⟩
    have H3 : Hid (Below w.heap.size w w3) := H2.out.trans (hb.mono H2.out.size)
    have HX3 : Hid (Doc w3 a dl k dn) := HX2.out.below hb
    have HT3 : Hid (Ops w3 ta tm tc us) := HT2.out.below hb
    clear hb
    go_wp2_with fail
    refine (CM.out _ H3.out).mono ?_
    rintro e w4 ⟨rfl, hb⟩
    have H4 : Hid (Below w.heap.size w w4) := H3.out.trans (hb.mono H3.out.size)
    have HX4 : Hid (Doc w4 a dl k dn) := HX3.out.below hb
    have HT4 : Hid (Ops w4 ta tm tc us) := HT3.out.below hb
    clear hb
    go_wp2_with fail
    refine (CR.out _ H4.out).mono ?_
    rintro e w5 ⟨⟨ra, rk, rfl, hY⟩, hb⟩
    have H5 : Hid (Below w.heap.size w w5) := H4.out.trans (hb.mono H4.out.size)
    have HX5 : Hid (Doc w5 a dl k dn) := HX4.out.below hb
    have HT5 : Hid (Ops w5 ta tm tc us) := HT4.out.below hb
    have HY5 : Hid (Doc w5 ra dl rk dn) := hY
    clear hY
    clear hb
    go_wp2_with fail
    refine (CC.out _ H5.out).mono ?_
    rintro e w6 ⟨rfl, hb⟩
    have H6 : Hid (Below w.heap.size w w6) := H5.out.trans (hb.mono H5.out.size)
    have HX6 : Hid (Doc w6 a dl k dn) := HX5.out.below hb
    have HT6 : Hid (Ops w6 ta tm tc us) := HT5.out.below hb
    have HY6 : Hid (Doc w6 ra dl rk dn) := HY5.out.below hb
    clear hb
    go_wp2_with fail
    refine (CO.out _ H6.out).mono ?_
    rintro e w7 ⟨rfl, hb⟩
    have H7 : Hid (Below w.heap.size w w7) := H6.out.trans (hb.mono H6.out.size)
    have HX7 : Hid (Doc w7 a dl k dn) := HX6.out.below hb
    have HT7 : Hid (Ops w7 ta tm tc us) := HT6.out.below hb
    have HY7 : Hid (Doc w7 ra dl rk dn) := HY6.out.below hb
    clear hb
    go_wp2_with fail
    refine (CK.out _ H7.out).mono ?_
    rintro e w8 ⟨rfl, hb⟩
    have H8 : Hid (Below w.heap.size w w8) := H7.out.trans (hb.mono H7.out.size)
    have HX8 : Hid (Doc w8 a dl k dn) := HX7.out.below hb
    have HT8 : Hid (Ops w8 ta tm tc us) := HT7.out.below hb
    have HY8 : Hid (Doc w8 ra dl rk dn) := HY7.out.below hb
    clear hb
    go_wp2_with fail
    refine (CS.out _ H8.out).mono ?_
    rintro e w9 ⟨rfl, hb⟩
    have H9 : Hid (Below w.heap.size w w9) := H8.out.trans (hb.mono H8.out.size)
    have HX9 : Hid (Doc w9 a dl k dn) := HX8.out.below hb
    have HT9 : Hid (Ops w9 ta tm tc us) := HT8.out.below hb
    have HY9 : Hid (Doc w9 ra dl rk dn) := HY8.out.below hb
    clear hb
    go_wp2_with fail
    refine (CU.out _ H9.out).mono ?_
    rintro e w10 ⟨rfl, hb⟩
    have H10 : Hid (Below w.heap.size w w10) := H9.out.trans (hb.mono H9.out.size)
    have HX10 : Hid (Doc w10 a dl k dn) := HX9.out.below hb
    have HT10 : Hid (Ops w10 ta tm tc us) := HT9.out.below hb
    have HY10 : Hid (Doc w10 ra dl rk dn) := HY9.out.below hb
    clear hb
    have CE : Hid (Calls Tryd.prog 20 #[.slice a dl k, .slice ra dl rk] w10 fun e w' => e = .returned (.bool true) ∧ ∃ m, w' = w10.drewN m) := by
      have := equal_any a ra dl k dl rk dn dn w10 HX10.out HY10.out
      rw [(its_same _ _).2 rfl] at this
      exact this
    go_wp2_with fail
    refine CE.out.mono ?_
    rintro e w11 ⟨rfl, m, hm⟩
    have H11 : Hid (Below w.heap.size w w11) := by rw [hm]; exact H10.out.trans ((drewN_blw _ m).mono H10.out.size)
    have HT11 : Hid (Ops w11 ta tm tc us) := by rw [hm]; exact HT10.out.below (drewN_blw _ m)
    clear hm
    have htm : tm = 0 := by
      have h1 := HT11.out.len
      have h2 := HU.out
      rw [HTN.out hE] at h2
      have := congrArg List.length h2
      rw [List.length_map] at this
      exact h1.symm.trans this
    subst htm
    go_wp2
    go_ret
    exact ⟨rfl, H11.out⟩
end Go.Proofs.YtgidmnoinbbajaaDoor
