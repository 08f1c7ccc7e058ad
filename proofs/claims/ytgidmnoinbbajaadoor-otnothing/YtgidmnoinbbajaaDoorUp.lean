/-
  OtNothing: behind, and joined with, one that keeps all an operation is as it was, made tidy.
-/
import Derived.Test.YtgidmnoinbbajaaDoorUm
namespace Go.Proofs.YtgidmnoinbbajaaDoor
open Go.RowKit
theorem knop_pvt (w : World) (N : Nat) : Pvt w ⟨1, (N : Int), none, 0, 0, [], 0, 0, false, ⟨#[]⟩⟩ := ⟨doc_none w, Nat.zero_le _⟩

set_option maxRecDepth 100000 in
set_option maxHeartbeats 12800000 in
theorem otnothing_any (ao : Option Addr) (n cap : Nat) (vs : List PV) (w : World) (hO : Ops w ao n cap vs) (hS : Sch w) :
    Calls Tryd.prog 9 #[.slice ao n cap] w fun e w' => e = .returned (.bool true) ∧ Below w.heap.size w w' := by
  have CT : Hid (∀ w', Below w.heap.size w w' → Calls Tryd.prog 28 #[] w' fun e w'' => e = .returned (.bool true) ∧ Below w'.heap.size w' w'') := fun w' hb => turnedL_any w' (hS.below hb)
  have HS : Hid (∀ w', Below w.heap.size w w' → Sch w') := fun w' hb => hS.below hb
  have H0 : Hid (Below w.heap.size w w) := Below.refl _ _
  have HA : Hid (∀ w', Below w.heap.size w w' → Ops w' ao n cap vs) := fun w' hb => hO.below hb
  have C1 : Hid (∀ w', Below w.heap.size w w' → Calls Tryd.prog 11 #[.slice ao n cap] w' fun e w'' => (∃ a m c us, e = .returned (.tuple #[.slice a m c, .int .i64 (Ac.chk (vs.map PV.pt))]) ∧ Ops w'' a m c us ∧ us.map PV.pt = Ac.tid (vs.map PV.pt)) ∧ Below w'.heap.size w' w'') := fun w' hb => tidy_any ao n cap vs w' (hO.below hb) (hS.below hb)
  have C4 : Hid (∀ w', Below w.heap.size w w' → Calls Tryd.prog 12 #[.slice ao n cap] w' fun e w'' => e = .returned (.tuple #[.int .i64 (Ac.lf (vs.map PV.pt)), .int .i64 (Ac.lt (vs.map PV.pt))]) ∧ Below w'.heap.size w' w'') := fun w' hb => long_any ao n cap vs w' (hO.below hb)
  have CC : Hid (∀ w' a m c us, Below w.heap.size w w' → Ops w' a m c us → Calls Tryd.prog 17 #[.slice a m c] w' fun e w'' => e = .returned (.int .i64 (Ac.chk (us.map PV.pt))) ∧ Below w'.heap.size w' w'') := fun w' a m c us hb ho => chk_any a m c us w' ho (hS.below hb)
  clear hO hS
  obtain ⟨P, hP⟩ : ∃ P, vs.map PV.pt = P := ⟨_, rfl⟩
  have PA : Hid (vs.map PV.pt = P) := hP
  rw [hP] at C1 C4
  clear hP
  by_cases h1 : Ac.chk P = 0
  · have hri := Ac.chk_right.1 h1
    have htid : Ac.tid P = Ac.tidy P := by unfold Ac.tid; rw [if_pos h1]; exact Ac.ts_tidy hri
    have hNA := @Ac.nothing_all P hri
    have hsn : 1 ≤ Ac.nd P := by obtain ⟨l, c, e⟩ := hri.snoc; have := hri.need.1; rw [e, (Ac.snoc_need l c).1] at this; omega
    rw [h1, htid] at C1
    rw [hri.lf, hri.lt] at C4
    have hsum := hri.sum
    have hlv := Ac.lv_le P hri.ok
    have hfew := hri.few
    have hlv : Ac.lv P ≤ 3200 := by omega
    have HNA : Hid (Ac.chk (Ac.tidy P) = 0 → Ac.lv P ≤ 80 → Ac.trnE P [Ac.keepP Ac.nop (Ac.nd P : Nat)] = 0 ∧ Ac.trnX P [Ac.keepP Ac.nop (Ac.nd P : Nat)] = Ac.tidy P ∧ Ac.trnY P [Ac.keepP Ac.nop (Ac.nd P : Nat)] = [Ac.keepP Ac.nop (Ac.lv P : Nat)] ∧ Ac.jonE P [Ac.keepP Ac.nop (Ac.lv P : Nat)] = 0 ∧ Ac.jonX P [Ac.keepP Ac.nop (Ac.lv P : Nat)] = Ac.tidy P ∧ Ac.jonE [Ac.keepP Ac.nop (Ac.nd P : Nat)] P = 0 ∧ Ac.jonX [Ac.keepP Ac.nop (Ac.nd P : Nat)] P = Ac.tidy P) := hNA
    clear htid hri h1 hNA hfew
    generalize Ac.nd P = N at *
    generalize Ac.lv P = M at *
    generalize Ac.tidy P = t at *
    by_cases h2 : Ac.chk t = 0
    · have C3 : Hid (∀ w' a m c us, Below w.heap.size w w' → Ops w' a m c us → us.map PV.pt = t → Calls Tryd.prog 17 #[.slice a m c] w' fun e w'' => e = .returned (.int .i64 0) ∧ Below w'.heap.size w' w'') := fun w' a m c us hb ho hp => by
        have := CC.out w' a m c us hb ho
        rw [hp, h2] at this
        exact this
      have hNA := HNA.out h2
      clear h2 CC HNA
      by_cases h3 : M ≤ 80
      · obtain ⟨n1, n2, n3, n4, n5, n6, n7⟩ := hNA h3
        have hg : decide (80 < M) = false := by simp; omega
        have hgi : decide (80 < (M : Int)) = false := by simp; omega
        have hln : decide ((N : Int) < 1) = false := by simp; omega
        have hln2 : ¬ (N : Int) < 1 := by omega
        have hgt : ¬ 80 < (M : Int) := by omega
        have CX : Hid (∀ w' a c, Below w.heap.size w w' → Ops w' a 1 c [⟨1, (N : Int), none, 0, 0, [], 0, 0, false, ⟨#[]⟩⟩] → Calls Tryd.prog 24 #[.slice ao n cap, .slice a 1 c] w' fun e w'' => TurnP t [Ac.keepP Ac.nop (M : Nat)] 0 e w'' ∧ Below w'.heap.size w' w'') := fun w' a c hb ho => by
          have := turn_any ao a n cap 1 c vs _ w' (HA.out _ hb) ho (HS.out _ hb)
          rw [PA.out] at this
          change Calls Tryd.prog 24 _ w' fun e w'' => TurnP (Ac.trnX P [Ac.keepP Ac.nop (N : Nat)]) (Ac.trnY P [Ac.keepP Ac.nop (N : Nat)]) (Ac.trnE P [Ac.keepP Ac.nop (N : Nat)]) e w'' ∧ Below w'.heap.size w' w'' at this
          rw [n1, n2, n3] at this
          exact this
        have CJ : Hid (∀ w' a c, Below w.heap.size w w' → Ops w' a 1 c [⟨1, (M : Int), none, 0, 0, [], 0, 0, false, ⟨#[]⟩⟩] → Calls Tryd.prog 25 #[.slice ao n cap, .slice a 1 c] w' fun e w'' => JoinP t 0 e w'' ∧ Below w'.heap.size w' w'') := fun w' a c hb ho => by
          have := join_any ao a n cap 1 c vs _ w' (HA.out _ hb) ho (HS.out _ hb)
          rw [PA.out] at this
          change Calls Tryd.prog 25 _ w' fun e w'' => JoinP (Ac.jonX P [Ac.keepP Ac.nop (M : Nat)]) (Ac.jonE P [Ac.keepP Ac.nop (M : Nat)]) e w'' ∧ Below w'.heap.size w' w'' at this
          rw [n4, n5] at this
          exact this
        have CK2 : Hid (∀ w' a c, Below w.heap.size w w' → Ops w' a 1 c [⟨1, (N : Int), none, 0, 0, [], 0, 0, false, ⟨#[]⟩⟩] → Calls Tryd.prog 25 #[.slice a 1 c, .slice ao n cap] w' fun e w'' => JoinP t 0 e w'' ∧ Below w'.heap.size w' w'') := fun w' a c hb ho => by
          have := join_any a ao 1 c n cap _ vs w' ho (HA.out _ hb) (HS.out _ hb)
          rw [PA.out] at this
          change Calls Tryd.prog 25 _ w' fun e w'' => JoinP (Ac.jonX [Ac.keepP Ac.nop (N : Nat)] P) (Ac.jonE [Ac.keepP Ac.nop (N : Nat)] P) e w'' ∧ Below w'.heap.size w' w'' at this
          rw [n6, n7] at this
          exact this
        have CS : Hid (∀ w' a m c us a' m' c' us', Ops w' a m c us → Ops w' a' m' c' us' → us.map PV.pt = t → us'.map PV.pt = t → Calls Tryd.prog 18 #[.slice a m c, .slice a' m' c'] w' fun e w'' => e = .returned (.bool true) ∧ Below w'.heap.size w' w'') := fun w' a m c us a' m' c' us' h h' e e' => by
          have := sameO_any a a' m c m' c' us us' w' h h'
          rw [e, e', Ac.sameO_self] at this
          exact this
        clear n1 n2 n3 n4 n5 n6 n7 hNA
        go_enter Tryd.func9, Tryd.ntmps9
        go_wp2_with fail
        refine (C1.out _ H0.out).mono ?_
        rintro e w1 ⟨⟨ta, tm, tc, ts, rfl, oT, pT⟩, hb⟩
        have H1 : Hid (Below w.heap.size w w1) := H0.out.trans (hb.mono H0.out.size)
        have T1 : Hid (Ops w1 ta tm tc ts) := oT
        have PT : Hid (ts.map PV.pt = t) := pT
        clear oT pT
        clear hb
        go_wp2_with fail
        refine (CT.out _ H1.out).mono ?_
        rintro e w2 ⟨rfl, hb⟩
        have H2 : Hid (Below w.heap.size w w2) := H1.out.trans (hb.mono H1.out.size)
        have T2 : Hid (Ops w2 ta tm tc ts) := T1.out.below hb
        clear hb
        go_wp2_with fail
        refine (C3.out _ _ _ _ _ H2.out T2.out PT.out).mono ?_
        rintro e w3 ⟨rfl, hb⟩
        have H3 : Hid (Below w.heap.size w w3) := H2.out.trans (hb.mono H2.out.size)
        have T3 : Hid (Ops w3 ta tm tc ts) := T2.out.below hb
        clear hb
        go_wp2_with fail
        refine (C4.out _ H3.out).mono ?_
        rintro e w4 ⟨rfl, hb⟩
        have H4 : Hid (Below w.heap.size w w4) := H3.out.trans (hb.mono H3.out.size)
        have T4 : Hid (Ops w4 ta tm tc ts) := T3.out.below hb
        clear hb
        have B4 : Hid (Below w.heap.size w (boxp ⟨1, (N : Int), none, 0, 0, [], 0, 0, false, ⟨#[]⟩⟩ w4)) := H4.out.trans ((boxp_below _ _).mono H4.out.size)
        have L4 : Hid (Ops (boxp ⟨1, (N : Int), none, 0, 0, [], 0, 0, false, ⟨#[]⟩⟩ w4) (some ⟨w4.heap.size, 0, none⟩) 1 1 [⟨1, (N : Int), none, 0, 0, [], 0, 0, false, ⟨#[]⟩⟩]) := ops_one ⟨doc_none _, Nat.zero_le _⟩
        go_wp2_with fail
        change Calls Tryd.prog _ _ (boxp ⟨1, (N : Int), none, 0, 0, [], 0, 0, false, ⟨#[]⟩⟩ w4) _
        refine (CX.out _ _ _ B4.out L4.out).mono ?_
        rintro e w5 ⟨⟨xa, xn, xc, xs, ya, yn, yc, ys, rfl, oX, oY, pX, pY⟩, hb⟩
        have hbb : Below w4.heap.size w4 w5 := (boxp_below ⟨1, (N : Int), none, 0, 0, [], 0, 0, false, ⟨#[]⟩⟩ w4).trans (hb.mono (boxp_below ⟨1, (N : Int), none, 0, 0, [], 0, 0, false, ⟨#[]⟩⟩ w4).size)
        have H5 : Hid (Below w.heap.size w w5) := H4.out.trans (hbb.mono H4.out.size)
        have T5 : Hid (Ops w5 ta tm tc ts) := T4.out.below hbb
        have X5 : Hid (Ops w5 xa xn xc xs) := oX
        have Y5 : Hid (Ops w5 ya yn yc ys) := oY
        have PX : Hid (xs.map PV.pt = t) := pX
        have PY : Hid (ys.map PV.pt = [Ac.keepP Ac.nop (M : Nat)]) := pY
        clear oX oY pX pY
        clear hb hbb
        have B5 : Hid (Below w.heap.size w (boxp ⟨1, (M : Int), none, 0, 0, [], 0, 0, false, ⟨#[]⟩⟩ w5)) := H5.out.trans ((boxp_below _ _).mono H5.out.size)
        have L5 : Hid (Ops (boxp ⟨1, (M : Int), none, 0, 0, [], 0, 0, false, ⟨#[]⟩⟩ w5) (some ⟨w5.heap.size, 0, none⟩) 1 1 [⟨1, (M : Int), none, 0, 0, [], 0, 0, false, ⟨#[]⟩⟩]) := ops_one ⟨doc_none _, Nat.zero_le _⟩
        go_wp2_with fail
        change Calls Tryd.prog _ _ (boxp ⟨1, (M : Int), none, 0, 0, [], 0, 0, false, ⟨#[]⟩⟩ w5) _
        refine (CJ.out _ _ _ B5.out L5.out).mono ?_
        rintro e w6 ⟨⟨ja, jn, jc, js, rfl, oJ, pJ⟩, hb⟩
        have hbb : Below w5.heap.size w5 w6 := (boxp_below ⟨1, (M : Int), none, 0, 0, [], 0, 0, false, ⟨#[]⟩⟩ w5).trans (hb.mono (boxp_below ⟨1, (M : Int), none, 0, 0, [], 0, 0, false, ⟨#[]⟩⟩ w5).size)
        have H6 : Hid (Below w.heap.size w w6) := H5.out.trans (hbb.mono H5.out.size)
        have T6 : Hid (Ops w6 ta tm tc ts) := T5.out.below hbb
        have X6 : Hid (Ops w6 xa xn xc xs) := X5.out.below hbb
        have Y6 : Hid (Ops w6 ya yn yc ys) := Y5.out.below hbb
        have J6 : Hid (Ops w6 ja jn jc js) := oJ
        have PJ : Hid (js.map PV.pt = t) := pJ
        clear oJ pJ
        clear hb hbb
        have B6 : Hid (Below w.heap.size w (boxp ⟨1, (N : Int), none, 0, 0, [], 0, 0, false, ⟨#[]⟩⟩ w6)) := H6.out.trans ((boxp_below _ _).mono H6.out.size)
        have L6 : Hid (Ops (boxp ⟨1, (N : Int), none, 0, 0, [], 0, 0, false, ⟨#[]⟩⟩ w6) (some ⟨w6.heap.size, 0, none⟩) 1 1 [⟨1, (N : Int), none, 0, 0, [], 0, 0, false, ⟨#[]⟩⟩]) := ops_one ⟨doc_none _, Nat.zero_le _⟩
        go_wp2_with fail
        change Calls Tryd.prog _ _ (boxp ⟨1, (N : Int), none, 0, 0, [], 0, 0, false, ⟨#[]⟩⟩ w6) _
        refine (CK2.out _ _ _ B6.out L6.out).mono ?_
        rintro e w7 ⟨⟨ka, kn, kc, ks, rfl, oK, pK⟩, hb⟩
        have hbb : Below w6.heap.size w6 w7 := (boxp_below ⟨1, (N : Int), none, 0, 0, [], 0, 0, false, ⟨#[]⟩⟩ w6).trans (hb.mono (boxp_below ⟨1, (N : Int), none, 0, 0, [], 0, 0, false, ⟨#[]⟩⟩ w6).size)
        have H7 : Hid (Below w.heap.size w w7) := H6.out.trans (hbb.mono H6.out.size)
        have T7 : Hid (Ops w7 ta tm tc ts) := T6.out.below hbb
        have X7 : Hid (Ops w7 xa xn xc xs) := X6.out.below hbb
        have Y7 : Hid (Ops w7 ya yn yc ys) := Y6.out.below hbb
        have J7 : Hid (Ops w7 ja jn jc js) := J6.out.below hbb
        have K7 : Hid (Ops w7 ka kn kc ks) := oK
        have PK : Hid (ks.map PV.pt = t) := pK
        clear oK pK
        clear hb hbb
        go_wp2_with fail
        refine (CS.out _ _ _ _ _ _ _ _ _ X7.out T7.out PX.out PT.out).mono ?_
        rintro e w8 ⟨rfl, hb⟩
        have H8 : Hid (Below w.heap.size w w8) := H7.out.trans (hb.mono H7.out.size)
        have T8 : Hid (Ops w8 ta tm tc ts) := T7.out.below hb
        have Y8 : Hid (Ops w8 ya yn yc ys) := Y7.out.below hb
        have J8 : Hid (Ops w8 ja jn jc js) := J7.out.below hb
        have K8 : Hid (Ops w8 ka kn kc ks) := K7.out.below hb
        clear hb
        go_wp2_with fail
        refine (CS.out _ _ _ _ _ _ _ _ _ J8.out T8.out PJ.out PT.out).mono ?_
        rintro e w9 ⟨rfl, hb⟩
        have H9 : Hid (Below w.heap.size w w9) := H8.out.trans (hb.mono H8.out.size)
        have T9 : Hid (Ops w9 ta tm tc ts) := T8.out.below hb
        have Y9 : Hid (Ops w9 ya yn yc ys) := Y8.out.below hb
        have K9 : Hid (Ops w9 ka kn kc ks) := K8.out.below hb
        clear hb
        go_wp2_with fail
        refine (CS.out _ _ _ _ _ _ _ _ _ K9.out T9.out PK.out PT.out).mono ?_
        rintro e w10 ⟨rfl, hb⟩
        have H10 : Hid (Below w.heap.size w w10) := H9.out.trans (hb.mono H9.out.size)
        have Y10 := Y9.out.below hb
        clear hb
        have ly : ys.length = 1 := by have := congrArg List.length PY.out; rw [List.length_map] at this; exact this
        obtain rfl : yn = 1 := Y10.len.symm.trans ly
        obtain ⟨yb, yo, rfl, gY⟩ := Y10.get (by decide)
        have y0 : w10.cell? ⟨yb, yo + 1, none⟩ = some (.int .i64 M) := by
          have h := (gY 0 (by omega)).c1
          have h1 : (ys.map PV.pt)[0]? = some (Ac.keepP Ac.nop (M : Nat)) := by rw [PY.out]; rfl
          rw [List.getElem?_map, List.getElem?_eq_getElem (by omega)] at h1
          have h2 : ys[0].n = (M : Int) := congrArg Ac.Pt.n (Option.some.inj h1)
          rw [h2, Nat.zero_mul, Nat.add_zero] at h
          exact h
        have yr := Y10.row.room
        have yg := Y10.row.big
        clear gY ly Y10
        go_wp2
        go_ret
        exact ⟨rfl, H10.out⟩
      · have hgt : 80 < (M : Int) := by omega
        have hg : decide (80 < M) = true := by simp; omega
        clear h3 hNA
        go_enter Tryd.func9, Tryd.ntmps9
        go_wp2_with fail
        refine (C1.out _ H0.out).mono ?_
        rintro e w1 ⟨⟨ta, tm, tc, ts, rfl, oT, pT⟩, hb⟩
        have H1 : Hid (Below w.heap.size w w1) := H0.out.trans (hb.mono H0.out.size)
        have T1 : Hid (Ops w1 ta tm tc ts) := oT
        have PT : Hid (ts.map PV.pt = t) := pT
        clear oT pT
        clear hb
        go_wp2_with fail
        refine (CT.out _ H1.out).mono ?_
        rintro e w2 ⟨rfl, hb⟩
        have H2 : Hid (Below w.heap.size w w2) := H1.out.trans (hb.mono H1.out.size)
        have T2 : Hid (Ops w2 ta tm tc ts) := T1.out.below hb
        clear hb
        go_wp2_with fail
        refine (C3.out _ _ _ _ _ H2.out T2.out PT.out).mono ?_
        rintro e w3 ⟨rfl, hb⟩
        have H3 : Hid (Below w.heap.size w w3) := H2.out.trans (hb.mono H2.out.size)
        clear hb
        go_wp2_with fail
        refine (C4.out _ H3.out).mono ?_
        rintro e w4 ⟨rfl, hb⟩
        have H4 : Hid (Below w.heap.size w w4) := H3.out.trans (hb.mono H3.out.size)
        clear hb
        go_wp2
        go_ret
        exact ⟨rfl, H4.out⟩
    · obtain ⟨r, hr⟩ : ∃ r, Ac.chk t = r := ⟨_, rfl⟩
      have C3 : Hid (∀ w' a m c us, Below w.heap.size w w' → Ops w' a m c us → us.map PV.pt = t → Calls Tryd.prog 17 #[.slice a m c] w' fun e w'' => e = .returned (.int .i64 r) ∧ Below w'.heap.size w' w'') := fun w' a m c us hb ho hp => by
        have := CC.out w' a m c us hb ho
        rw [hp, hr] at this
        exact this
      have hne : (r != 0) = true := by rw [hr] at h2; simp [h2]
      clear h2 CC HNA hr
      go_enter Tryd.func9, Tryd.ntmps9
      go_wp2_with fail
      refine (C1.out _ H0.out).mono ?_
      rintro e w1 ⟨⟨ta, tm, tc, ts, rfl, oT, pT⟩, hb⟩
      have H1 : Hid (Below w.heap.size w w1) := H0.out.trans (hb.mono H0.out.size)
      have T1 : Hid (Ops w1 ta tm tc ts) := oT
      have PT : Hid (ts.map PV.pt = t) := pT
      clear oT pT
      clear hb
      go_wp2_with fail
      refine (CT.out _ H1.out).mono ?_
      rintro e w2 ⟨rfl, hb⟩
      have H2 : Hid (Below w.heap.size w w2) := H1.out.trans (hb.mono H1.out.size)
      have T2 : Hid (Ops w2 ta tm tc ts) := T1.out.below hb
      clear hb
      go_wp2_with fail
      refine (C3.out _ _ _ _ _ H2.out T2.out PT.out).mono ?_
      rintro e w3 ⟨rfl, hb⟩
      have H3 : Hid (Below w.heap.size w w3) := H2.out.trans (hb.mono H2.out.size)
      clear hb
      go_wp2_with fail
      refine (CT.out _ H3.out).mono ?_
      rintro e w4 ⟨rfl, hb⟩
      have H4 : Hid (Below w.heap.size w w4) := H3.out.trans (hb.mono H3.out.size)
      clear hb
      go_wp2
      go_ret
      exact ⟨rfl, H4.out⟩
  · obtain ⟨r, hr⟩ : ∃ r, Ac.chk P = r := ⟨_, rfl⟩
    rw [hr] at C1 h1
    have hne : (r != 0) = true := by simp [h1]
    clear h1 hr
    go_enter Tryd.func9, Tryd.ntmps9
    go_wp2_with fail
    refine (C1.out _ H0.out).mono ?_
    rintro e w1 ⟨⟨ta, tm, tc, ts, rfl, oT, pT⟩, hb⟩
    have H1 : Hid (Below w.heap.size w w1) := H0.out.trans (hb.mono H0.out.size)
    clear oT pT
    clear hb
    go_wp2_with fail
    refine (CT.out _ H1.out).mono ?_
    rintro e w2 ⟨rfl, hb⟩
    have H2 : Hid (Below w.heap.size w w2) := H1.out.trans (hb.mono H1.out.size)
    clear hb
    go_wp2_with fail
    refine (CT.out _ H2.out).mono ?_
    rintro e w3 ⟨rfl, hb⟩
    have H3 : Hid (Below w.heap.size w w3) := H2.out.trans (hb.mono H2.out.size)
    clear hb
    go_wp2
    go_ret
    exact ⟨rfl, H3.out⟩
end Go.Proofs.YtgidmnoinbbajaaDoor
