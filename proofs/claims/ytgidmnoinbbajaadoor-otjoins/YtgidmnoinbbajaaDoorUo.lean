/-
  OtJoins: joined two operations do what the one, and then the other one, does; joined three in either way are the same.
-/
import Derived.Test.YtgidmnoinbbajaaDoorUm
namespace Go.Proofs.YtgidmnoinbbajaaDoor
open Go.RowKit

set_option maxRecDepth 100000 in
set_option maxHeartbeats 12800000 in
theorem joins_any (ao ao1 ao2 ao3 : Option Addr) (n cap n1 cap1 n2 cap2 n3 cap3 : Nat) (l : List It) (vs vs' vs'' : List PV) (w : World) (hD : Doc w ao n cap l) (hO : Ops w ao1 n1 cap1 vs) (hO' : Ops w ao2 n2 cap2 vs') (hO'' : Ops w ao3 n3 cap3 vs'') (hS : Sch w) :
    Calls Tryd.prog 8 #[.slice ao n cap, .slice ao1 n1 cap1, .slice ao2 n2 cap2, .slice ao3 n3 cap3] w fun e w' => e = .returned (.bool true) ∧ Below w.heap.size w w' := by
  have CT : Hid (∀ w', Below w.heap.size w w' → Calls Tryd.prog 28 #[] w' fun e w'' => e = .returned (.bool true) ∧ Below w'.heap.size w' w'') := fun w' hb => turnedL_any w' (hS.below hb)
  have HS : Hid (∀ w', Below w.heap.size w w' → Sch w') := fun w' hb => hS.below hb
  have H0 : Hid (Below w.heap.size w w) := Below.refl _ _
  have HD : Hid (∀ w', Below w.heap.size w w' → Doc w' ao n cap l) := fun w' hb => hD.below hb
  have HA : Hid (∀ w', Below w.heap.size w w' → Ops w' ao1 n1 cap1 vs) := fun w' hb => hO.below hb
  have HB : Hid (∀ w', Below w.heap.size w w' → Ops w' ao2 n2 cap2 vs') := fun w' hb => hO'.below hb
  have HC : Hid (∀ w', Below w.heap.size w w' → Ops w' ao3 n3 cap3 vs'') := fun w' hb => hO''.below hb
  clear hD hO hO' hO'' hS
  obtain ⟨A, hA⟩ : ∃ A, vs.map PV.pt = A := ⟨_, rfl⟩
  obtain ⟨B, hB⟩ : ∃ B, vs'.map PV.pt = B := ⟨_, rfl⟩
  obtain ⟨C, hC⟩ : ∃ C, vs''.map PV.pt = C := ⟨_, rfl⟩
  have PA : Hid (vs.map PV.pt = A) := hA
  have PB : Hid (vs'.map PV.pt = B) := hB
  have PC : Hid (vs''.map PV.pt = C) := hC
  clear hA hB hC
  have JE := @Ac.joins_E l A B
  have JS := @Ac.joins_same l A B
  have J3 := @Ac.joins_three l A B C
  obtain ⟨p, hp⟩ : ∃ p, Ac.done l A = p := ⟨_, rfl⟩
  obtain ⟨f1, hf1⟩ : ∃ f1, Ac.fitE l A = f1 := ⟨_, rfl⟩
  obtain ⟨q, hq⟩ : ∃ q, Ac.done p B = q := ⟨_, rfl⟩
  obtain ⟨f2, hf2⟩ : ∃ f2, Ac.fitE p B = f2 := ⟨_, rfl⟩
  obtain ⟨pn, hpn⟩ : ∃ pn, p.length = pn := ⟨_, rfl⟩
  obtain ⟨qn, hqn⟩ : ∃ qn, q.length = qn := ⟨_, rfl⟩
  rw [hp] at JE JS J3
  rw [hq] at JS J3
  rw [hf1, hf2] at JE JS J3
  have JE : Hid (f1 = 0 → f2 = 0 → Ac.jonE A B = 0 ∨ Ac.jonE A B = 2) := JE
  have JS : Hid (f1 = 0 → f2 = 0 → Ac.jonE A B = 0 → Ac.fitE l (Ac.jonX A B) = 0 ∧ Ac.done l (Ac.jonX A B) = q ∧ Ac.Right (Ac.jonX A B)) := JS
  have J3 : Hid (f1 = 0 → f2 = 0 → Ac.fitE q C = 0 → Ac.jonE A B = 0 → Ac.jonE B C = 0 → Ac.jonE (Ac.jonX A B) C = 0 → Ac.jonE A (Ac.jonX B C) = 0 ∧ Ac.jonX A (Ac.jonX B C) = Ac.jonX (Ac.jonX A B) C ∧ Ac.fitE l (Ac.jonX (Ac.jonX A B) C) = 0 ∧ Ac.done l (Ac.jonX (Ac.jonX A B) C) = Ac.done q C) := J3
  have C1 : Hid (∀ w', Below w.heap.size w w' → Calls Tryd.prog 10 #[.slice ao n cap, .slice ao1 n1 cap1] w' fun e w'' => (∃ a c, e = .returned (.tuple #[.slice a pn c, .int .i64 f1]) ∧ Doc w'' a pn c p) ∧ Below w'.heap.size w' w'') := fun w' hb => by
    have := apply_any ao ao1 n cap n1 cap1 l vs w' (HD.out _ hb) (HA.out _ hb) (HS.out _ hb)
    rw [PA.out, hp, hf1, hpn] at this
    exact this
  have C2 : Hid (∀ w' a c, Below w.heap.size w w' → Doc w' a pn c p → Calls Tryd.prog 10 #[.slice a pn c, .slice ao2 n2 cap2] w' fun e w'' => (∃ a c, e = .returned (.tuple #[.slice a qn c, .int .i64 f2]) ∧ Doc w'' a qn c q) ∧ Below w'.heap.size w' w'') := fun w' a c hb hd => by
    have := apply_any a ao2 pn c n2 cap2 p vs' w' hd (HB.out _ hb) (HS.out _ hb)
    rw [PB.out, hq, hf2, hqn] at this
    exact this
  clear hp hq hf1 hf2 hpn
  have HQN : Hid (q.length = qn) := hqn
  clear hqn
  by_cases h1 : f1 = 0
  · by_cases h2 : f2 = 0
    · have hE := JE.out h1 h2
      have hS := JS.out h1 h2
      have h3 := J3.out h1 h2
      subst h1 h2
      have CJ : Hid (∀ w', Below w.heap.size w w' → Calls Tryd.prog 25 #[.slice ao1 n1 cap1, .slice ao2 n2 cap2] w' fun e w'' => JoinP (Ac.jonX A B) (Ac.jonE A B) e w'' ∧ Below w'.heap.size w' w'') := fun w' hb => by
        have := join_any ao1 ao2 n1 cap1 n2 cap2 vs vs' w' (HA.out _ hb) (HB.out _ hb) (HS.out _ hb)
        rw [PA.out, PB.out] at this
        exact this
      obtain ⟨jX, hjX⟩ : ∃ jX, Ac.jonX A B = jX := ⟨_, rfl⟩
      rw [hjX] at CJ hS h3
      clear hjX
      by_cases hE0 : Ac.jonE A B = 0
      · obtain ⟨s1, s2, -⟩ := hS hE0
        rw [hE0] at CJ
        have S1 : Hid (Ac.fitE l jX = 0) := s1
        have S2 : Hid (Ac.done l jX = q) := s2
        have hsm : Dc.same q q = true := (its_same q q).2 rfl
        have CX : Hid (∀ w' a c k js, Below w.heap.size w w' → Ops w' a k c js → js.map PV.pt = jX → Calls Tryd.prog 10 #[.slice ao n cap, .slice a k c] w' fun e w'' => (∃ a c, e = .returned (.tuple #[.slice a qn c, .int .i64 0]) ∧ Doc w'' a qn c q) ∧ Below w'.heap.size w' w'') := fun w' a c k js hb ho hj => by
          have := apply_any ao a n cap k c l js w' (HD.out _ hb) ho (HS.out _ hb)
          rw [hj, S1.out, S2.out, HQN.out] at this
          exact this
        have CS : Hid (∀ w' a c a' c', Doc w' a qn c q → Doc w' a' qn c' q → Calls Tryd.prog 23 #[.slice a qn c, .slice a' qn c'] w' fun e w'' => e = .returned (.bool true) ∧ ∃ m, w'' = w'.drewN m) := fun w' a c a' c' h h' => by
          have := same_any a a' qn c qn c' q q w' h h'
          rw [hsm] at this
          exact this
        have h3 := fun hc => h3 hc hE0
        obtain ⟨f3, hf3⟩ : ∃ f3, Ac.fitE q C = f3 := ⟨_, rfl⟩
        obtain ⟨y, hy⟩ : ∃ y, Ac.done q C = y := ⟨_, rfl⟩
        obtain ⟨yn, hyn⟩ : ∃ yn, y.length = yn := ⟨_, rfl⟩
        have HYN : Hid (y.length = yn) := hyn
        rw [hf3, hy] at h3
        have CY : Hid (∀ w' a c, Below w.heap.size w w' → Doc w' a qn c q → Calls Tryd.prog 10 #[.slice a qn c, .slice ao3 n3 cap3] w' fun e w'' => (∃ a c, e = .returned (.tuple #[.slice a yn c, .int .i64 f3]) ∧ Doc w'' a yn c y) ∧ Below w'.heap.size w' w'') := fun w' a c hb hd => by
          have := apply_any a ao3 qn c n3 cap3 q vs'' w' hd (HC.out _ hb) (HS.out _ hb)
          rw [PC.out, hf3, hy, HYN.out] at this
          exact this
        clear hf3 hy hyn hE hS s1 s2 hE0 hsm
        by_cases h4 : f3 = 0
        · have h3 := h3 h4
          subst h4
          have CK1 : Hid (∀ w', Below w.heap.size w w' → Calls Tryd.prog 25 #[.slice ao2 n2 cap2, .slice ao3 n3 cap3] w' fun e w'' => JoinP (Ac.jonX B C) (Ac.jonE B C) e w'' ∧ Below w'.heap.size w' w'') := fun w' hb => by
            have := join_any ao2 ao3 n2 cap2 n3 cap3 vs' vs'' w' (HB.out _ hb) (HC.out _ hb) (HS.out _ hb)
            rw [PB.out, PC.out] at this
            exact this
          have CM : Hid (∀ w' a c k js, Below w.heap.size w w' → Ops w' a k c js → js.map PV.pt = jX → Calls Tryd.prog 25 #[.slice a k c, .slice ao3 n3 cap3] w' fun e w'' => JoinP (Ac.jonX jX C) (Ac.jonE jX C) e w'' ∧ Below w'.heap.size w' w'') := fun w' a c k js hb ho hj => by
            have := join_any a ao3 k c n3 cap3 js vs'' w' ho (HC.out _ hb) (HS.out _ hb)
            rw [hj, PC.out] at this
            exact this
          obtain ⟨kX, hkX⟩ : ∃ kX, Ac.jonX B C = kX := ⟨_, rfl⟩
          obtain ⟨mX, hmX⟩ : ∃ mX, Ac.jonX jX C = mX := ⟨_, rfl⟩
          obtain ⟨e2, he2⟩ : ∃ e2, Ac.jonE B C = e2 := ⟨_, rfl⟩
          obtain ⟨e3, he3⟩ : ∃ e3, Ac.jonE jX C = e3 := ⟨_, rfl⟩
          rw [hkX, he2] at CK1
          rw [hmX, he3] at CM
          rw [hkX, hmX, he2, he3] at h3
          clear hkX hmX he2 he3
          by_cases h5 : e2 = 0
          · by_cases h6 : e3 = 0
            · obtain ⟨t1, t2, t3, t4⟩ := h3 rfl h5 h6
              subst h5 h6
              have T1 : Hid (Ac.jonE A kX = 0) := t1
              have T2 : Hid (Ac.jonX A kX = mX) := t2
              have T3 : Hid (Ac.fitE l mX = 0) := t3
              have T4 : Hid (Ac.done l mX = y) := t4
              have hso : Ac.sameO mX mX = true := Ac.sameO_self mX
              have hsy : Dc.same y y = true := (its_same y y).2 rfl
              have HSO : Hid (Ac.sameO mX mX = true) := hso
              have HSY : Hid (Dc.same y y = true) := hsy
              clear t1 t2 t3 t4 h3 hso hsy
              go_enter Tryd.func8, Tryd.ntmps8
              go_wp2_with fail
              refine (C1.out _ H0.out).mono ?_
              rintro e w1 ⟨⟨pa, pc, rfl, dP⟩, hb⟩
              have H1 : Hid (Below w.heap.size w w1) := H0.out.trans (hb.mono H0.out.size)
              have D1 : Hid (Doc w1 pa pn pc p) := dP
              clear dP
              clear hb
              go_wp2_with fail
              refine (C2.out _ _ _ H1.out D1.out).mono ?_
              rintro e w2 ⟨⟨qa, qc, rfl, dQ⟩, hb⟩
              have H2 : Hid (Below w.heap.size w w2) := H1.out.trans (hb.mono H1.out.size)
              have Q2 : Hid (Doc w2 qa qn qc q) := dQ
              clear dQ
              clear hb
              go_wp2_with fail
              refine (CT.out _ H2.out).mono ?_
              rintro e w3 ⟨rfl, hb⟩
              have H3 : Hid (Below w.heap.size w w3) := H2.out.trans (hb.mono H2.out.size)
              have Q3 : Hid (Doc w3 qa qn qc q) := Q2.out.below hb
              clear hb
              go_wp2_with fail
              refine (CJ.out _ H3.out).mono ?_
              rintro e w4 ⟨⟨ja, jn, jc, js, rfl, oJ, pJ⟩, hb⟩
              have H4 : Hid (Below w.heap.size w w4) := H3.out.trans (hb.mono H3.out.size)
              have Q4 : Hid (Doc w4 qa qn qc q) := Q3.out.below hb
              have O4 : Hid (Ops w4 ja jn jc js) := oJ
              have PJ : Hid (js.map PV.pt = jX) := pJ
              clear oJ pJ
              clear hb
              go_wp2_with fail
              refine (CX.out _ _ _ _ _ H4.out O4.out PJ.out).mono ?_
              rintro e w5 ⟨⟨xa, xc, rfl, dX⟩, hb⟩
              have H5 : Hid (Below w.heap.size w w5) := H4.out.trans (hb.mono H4.out.size)
              have Q5 : Hid (Doc w5 qa qn qc q) := Q4.out.below hb
              have X5 : Hid (Doc w5 xa qn xc q) := dX
              have O5 : Hid (Ops w5 ja jn jc js) := O4.out.below hb
              clear dX
              clear hb
              go_wp2_with fail
              refine (CS.out _ _ _ _ _ X5.out Q5.out).mono ?_
              rintro e w6 ⟨rfl, m6, hm6⟩
              have hb := drewN_blw w5 m6
              rw [← hm6] at hb
              have H6 : Hid (Below w.heap.size w w6) := H5.out.trans (hb.mono H5.out.size)
              have Q6 : Hid (Doc w6 qa qn qc q) := Q5.out.below hb
              have O6 : Hid (Ops w6 ja jn jc js) := O5.out.below hb
              clear hb hm6
              go_wp2_with fail
              refine (CY.out _ _ _ H6.out Q6.out).mono ?_
              rintro e w7 ⟨⟨ya, yc, rfl, dY⟩, hb⟩
              have H7 : Hid (Below w.heap.size w w7) := H6.out.trans (hb.mono H6.out.size)
              have Y7 : Hid (Doc w7 ya yn yc y) := dY
              have O7 : Hid (Ops w7 ja jn jc js) := O6.out.below hb
              clear dY
              clear hb
              go_wp2_with fail
              refine (CK1.out _ H7.out).mono ?_
              rintro e w8 ⟨⟨ka, kn, kc, ks, rfl, oK, pK⟩, hb⟩
              have H8 : Hid (Below w.heap.size w w8) := H7.out.trans (hb.mono H7.out.size)
              have Y8 : Hid (Doc w8 ya yn yc y) := Y7.out.below hb
              have O8 : Hid (Ops w8 ja jn jc js) := O7.out.below hb
              have K8 : Hid (Ops w8 ka kn kc ks) := oK
              have PK : Hid (ks.map PV.pt = kX) := pK
              clear oK pK
              clear hb
              go_wp2_with fail
              refine (CM.out _ _ _ _ _ H8.out O8.out PJ.out).mono ?_
              rintro e w9 ⟨⟨ma, mn, mc, ms, rfl, oM, pM⟩, hb⟩
              have H9 : Hid (Below w.heap.size w w9) := H8.out.trans (hb.mono H8.out.size)
              have Y9 : Hid (Doc w9 ya yn yc y) := Y8.out.below hb
              have K9 : Hid (Ops w9 ka kn kc ks) := K8.out.below hb
              have M9 : Hid (Ops w9 ma mn mc ms) := oM
              have PM : Hid (ms.map PV.pt = mX) := pM
              have CN : Hid (Calls Tryd.prog 25 #[.slice ao1 n1 cap1, .slice ka kn kc] w9 fun e w' => JoinP mX 0 e w' ∧ Below w9.heap.size w9 w') := by have := join_any ao1 ka n1 cap1 kn kc vs ks w9 (HA.out _ H9.out) K9.out (HS.out _ H9.out); rw [PA.out, PK.out, T1.out, T2.out] at this; exact this
              clear oM pM
              clear hb
              go_wp2_with fail
              refine (CN.out).mono ?_
              rintro e w10 ⟨⟨na, nn, nc, ns, rfl, oN, pN⟩, hb⟩
              have H10 : Hid (Below w.heap.size w w10) := H9.out.trans (hb.mono H9.out.size)
              have Y10 : Hid (Doc w10 ya yn yc y) := Y9.out.below hb
              have M10 : Hid (Ops w10 ma mn mc ms) := M9.out.below hb
              have N10 : Hid (Ops w10 na nn nc ns) := oN
              have PN : Hid (ns.map PV.pt = mX) := pN
              have CU : Hid (Calls Tryd.prog 10 #[.slice ao n cap, .slice ma mn mc] w10 fun e w' => (∃ a c, e = .returned (.tuple #[.slice a yn c, .int .i64 0]) ∧ Doc w' a yn c y) ∧ Below w10.heap.size w10 w') := by have := apply_any ao ma n cap mn mc l ms w10 (HD.out _ H10.out) M10.out (HS.out _ H10.out); rw [PM.out, T3.out, T4.out, HYN.out] at this; exact this
              clear oN pN
              clear hb
              go_wp2_with fail
              refine (CU.out).mono ?_
              rintro e w11 ⟨⟨ua, uc, rfl, dU⟩, hb⟩
              have H11 : Hid (Below w.heap.size w w11) := H10.out.trans (hb.mono H10.out.size)
              have Y11 : Hid (Doc w11 ya yn yc y) := Y10.out.below hb
              have U11 : Hid (Doc w11 ua yn uc y) := dU
              have CO : Hid (Calls Tryd.prog 18 #[.slice na nn nc, .slice ma mn mc] w11 fun e w' => e = .returned (.bool true) ∧ Below w11.heap.size w11 w') := by have := sameO_any na ma nn nc mn mc ns ms w11 (N10.out.below hb) (M10.out.below hb); rw [PN.out, PM.out, HSO.out] at this; exact this
              clear dU
              clear hb
              go_wp2_with fail
              refine (CO.out).mono ?_
              rintro e w12 ⟨rfl, hb⟩
              have H12 : Hid (Below w.heap.size w w12) := H11.out.trans (hb.mono H11.out.size)
              have CV : Hid (Calls Tryd.prog 23 #[.slice ua yn uc, .slice ya yn yc] w12 fun e w' => e = .returned (.bool true) ∧ ∃ m, w' = w12.drewN m) := by have := same_any ua ya yn uc yn yc y y w12 (U11.out.below hb) (Y11.out.below hb); rw [HSY.out] at this; exact this
              clear hb
              go_wp2_with fail
              refine CV.out.mono ?_
              rintro e w13 ⟨rfl, m, hm⟩
              have H13 : Hid (Below w.heap.size w w13) := by rw [hm]; exact H12.out.trans ((drewN_blw _ m).mono H12.out.size)
              clear hm
              go_wp2
              go_ret
              exact ⟨rfl, H13.out⟩
            · have hne : (e3 != 0) = true := by simp [h6]
              subst h5
              clear h6 h3
              go_enter Tryd.func8, Tryd.ntmps8
              go_wp2_with fail
              refine (C1.out _ H0.out).mono ?_
              rintro e w1 ⟨⟨pa, pc, rfl, dP⟩, hb⟩
              have H1 : Hid (Below w.heap.size w w1) := H0.out.trans (hb.mono H0.out.size)
              have D1 : Hid (Doc w1 pa pn pc p) := dP
              clear dP
              clear hb
              go_wp2_with fail
              refine (C2.out _ _ _ H1.out D1.out).mono ?_
              rintro e w2 ⟨⟨qa, qc, rfl, dQ⟩, hb⟩
              have H2 : Hid (Below w.heap.size w w2) := H1.out.trans (hb.mono H1.out.size)
              have Q2 : Hid (Doc w2 qa qn qc q) := dQ
              clear dQ
              clear hb
              go_wp2_with fail
              refine (CT.out _ H2.out).mono ?_
              rintro e w3 ⟨rfl, hb⟩
              have H3 : Hid (Below w.heap.size w w3) := H2.out.trans (hb.mono H2.out.size)
              have Q3 : Hid (Doc w3 qa qn qc q) := Q2.out.below hb
              clear hb
              go_wp2_with fail
              refine (CJ.out _ H3.out).mono ?_
              rintro e w4 ⟨⟨ja, jn, jc, js, rfl, oJ, pJ⟩, hb⟩
              have H4 : Hid (Below w.heap.size w w4) := H3.out.trans (hb.mono H3.out.size)
              have Q4 : Hid (Doc w4 qa qn qc q) := Q3.out.below hb
              have O4 : Hid (Ops w4 ja jn jc js) := oJ
              have PJ : Hid (js.map PV.pt = jX) := pJ
              clear oJ pJ
              clear hb
              go_wp2_with fail
              refine (CX.out _ _ _ _ _ H4.out O4.out PJ.out).mono ?_
              rintro e w5 ⟨⟨xa, xc, rfl, dX⟩, hb⟩
              have H5 : Hid (Below w.heap.size w w5) := H4.out.trans (hb.mono H4.out.size)
              have Q5 : Hid (Doc w5 qa qn qc q) := Q4.out.below hb
              have X5 : Hid (Doc w5 xa qn xc q) := dX
              have O5 : Hid (Ops w5 ja jn jc js) := O4.out.below hb
              clear dX
              clear hb
              go_wp2_with fail
              refine (CS.out _ _ _ _ _ X5.out Q5.out).mono ?_
              rintro e w6 ⟨rfl, m6, hm6⟩
              have hb := drewN_blw w5 m6
              rw [← hm6] at hb
              have H6 : Hid (Below w.heap.size w w6) := H5.out.trans (hb.mono H5.out.size)
              have Q6 : Hid (Doc w6 qa qn qc q) := Q5.out.below hb
              have O6 : Hid (Ops w6 ja jn jc js) := O5.out.below hb
              clear hb hm6
              go_wp2_with fail
              refine (CY.out _ _ _ H6.out Q6.out).mono ?_
              rintro e w7 ⟨⟨ya, yc, rfl, dY⟩, hb⟩
              have H7 : Hid (Below w.heap.size w w7) := H6.out.trans (hb.mono H6.out.size)
              have Y7 : Hid (Doc w7 ya yn yc y) := dY
              have O7 : Hid (Ops w7 ja jn jc js) := O6.out.below hb
              clear dY
              clear hb
              go_wp2_with fail
              refine (CK1.out _ H7.out).mono ?_
              rintro e w8 ⟨⟨ka, kn, kc, ks, rfl, oK, pK⟩, hb⟩
              have H8 : Hid (Below w.heap.size w w8) := H7.out.trans (hb.mono H7.out.size)
              have O8 : Hid (Ops w8 ja jn jc js) := O7.out.below hb
              clear oK pK
              clear hb
              go_wp2_with fail
              refine (CM.out _ _ _ _ _ H8.out O8.out PJ.out).mono ?_
              rintro e w9 ⟨⟨ma, mn, mc, ms, rfl, oM, pM⟩, hb⟩
              have H9 : Hid (Below w.heap.size w w9) := H8.out.trans (hb.mono H8.out.size)
              clear oM pM
              clear hb
              go_wp2
              go_ret
              exact ⟨rfl, H9.out⟩
          · have hne : (e2 != 0) = true := by simp [h5]
            clear h5 h3
            go_enter Tryd.func8, Tryd.ntmps8
            go_wp2_with fail
            refine (C1.out _ H0.out).mono ?_
            rintro e w1 ⟨⟨pa, pc, rfl, dP⟩, hb⟩
            have H1 : Hid (Below w.heap.size w w1) := H0.out.trans (hb.mono H0.out.size)
            have D1 : Hid (Doc w1 pa pn pc p) := dP
            clear dP
            clear hb
            go_wp2_with fail
            refine (C2.out _ _ _ H1.out D1.out).mono ?_
            rintro e w2 ⟨⟨qa, qc, rfl, dQ⟩, hb⟩
            have H2 : Hid (Below w.heap.size w w2) := H1.out.trans (hb.mono H1.out.size)
            have Q2 : Hid (Doc w2 qa qn qc q) := dQ
            clear dQ
            clear hb
            go_wp2_with fail
            refine (CT.out _ H2.out).mono ?_
            rintro e w3 ⟨rfl, hb⟩
            have H3 : Hid (Below w.heap.size w w3) := H2.out.trans (hb.mono H2.out.size)
            have Q3 : Hid (Doc w3 qa qn qc q) := Q2.out.below hb
            clear hb
            go_wp2_with fail
            refine (CJ.out _ H3.out).mono ?_
            rintro e w4 ⟨⟨ja, jn, jc, js, rfl, oJ, pJ⟩, hb⟩
            have H4 : Hid (Below w.heap.size w w4) := H3.out.trans (hb.mono H3.out.size)
            have Q4 : Hid (Doc w4 qa qn qc q) := Q3.out.below hb
            have O4 : Hid (Ops w4 ja jn jc js) := oJ
            have PJ : Hid (js.map PV.pt = jX) := pJ
            clear oJ pJ
            clear hb
            go_wp2_with fail
            refine (CX.out _ _ _ _ _ H4.out O4.out PJ.out).mono ?_
            rintro e w5 ⟨⟨xa, xc, rfl, dX⟩, hb⟩
            have H5 : Hid (Below w.heap.size w w5) := H4.out.trans (hb.mono H4.out.size)
            have Q5 : Hid (Doc w5 qa qn qc q) := Q4.out.below hb
            have X5 : Hid (Doc w5 xa qn xc q) := dX
            have O5 : Hid (Ops w5 ja jn jc js) := O4.out.below hb
            clear dX
            clear hb
            go_wp2_with fail
            refine (CS.out _ _ _ _ _ X5.out Q5.out).mono ?_
            rintro e w6 ⟨rfl, m6, hm6⟩
            have hb := drewN_blw w5 m6
            rw [← hm6] at hb
            have H6 : Hid (Below w.heap.size w w6) := H5.out.trans (hb.mono H5.out.size)
            have Q6 : Hid (Doc w6 qa qn qc q) := Q5.out.below hb
            have O6 : Hid (Ops w6 ja jn jc js) := O5.out.below hb
            clear hb hm6
            go_wp2_with fail
            refine (CY.out _ _ _ H6.out Q6.out).mono ?_
            rintro e w7 ⟨⟨ya, yc, rfl, dY⟩, hb⟩
            have H7 : Hid (Below w.heap.size w w7) := H6.out.trans (hb.mono H6.out.size)
            have Y7 : Hid (Doc w7 ya yn yc y) := dY
            have O7 : Hid (Ops w7 ja jn jc js) := O6.out.below hb
            clear dY
            clear hb
            go_wp2_with fail
            refine (CK1.out _ H7.out).mono ?_
            rintro e w8 ⟨⟨ka, kn, kc, ks, rfl, oK, pK⟩, hb⟩
            have H8 : Hid (Below w.heap.size w w8) := H7.out.trans (hb.mono H7.out.size)
            have O8 : Hid (Ops w8 ja jn jc js) := O7.out.below hb
            clear oK pK
            clear hb
            go_wp2_with fail
            refine (CM.out _ _ _ _ _ H8.out O8.out PJ.out).mono ?_
            rintro e w9 ⟨⟨ma, mn, mc, ms, rfl, oM, pM⟩, hb⟩
            have H9 : Hid (Below w.heap.size w w9) := H8.out.trans (hb.mono H8.out.size)
            clear oM pM
            clear hb
            go_wp2
            go_ret
            exact ⟨rfl, H9.out⟩
        · have hne : (f3 != 0) = true := by simp [h4]
          clear h4 h3
          go_enter Tryd.func8, Tryd.ntmps8
          go_wp2_with fail
          refine (C1.out _ H0.out).mono ?_
          rintro e w1 ⟨⟨pa, pc, rfl, dP⟩, hb⟩
          have H1 : Hid (Below w.heap.size w w1) := H0.out.trans (hb.mono H0.out.size)
          have D1 : Hid (Doc w1 pa pn pc p) := dP
          clear dP
          clear hb
          go_wp2_with fail
          refine (C2.out _ _ _ H1.out D1.out).mono ?_
          rintro e w2 ⟨⟨qa, qc, rfl, dQ⟩, hb⟩
          have H2 : Hid (Below w.heap.size w w2) := H1.out.trans (hb.mono H1.out.size)
          have Q2 : Hid (Doc w2 qa qn qc q) := dQ
          clear dQ
          clear hb
          go_wp2_with fail
          refine (CT.out _ H2.out).mono ?_
          rintro e w3 ⟨rfl, hb⟩
          have H3 : Hid (Below w.heap.size w w3) := H2.out.trans (hb.mono H2.out.size)
          have Q3 : Hid (Doc w3 qa qn qc q) := Q2.out.below hb
          clear hb
          go_wp2_with fail
          refine (CJ.out _ H3.out).mono ?_
          rintro e w4 ⟨⟨ja, jn, jc, js, rfl, oJ, pJ⟩, hb⟩
          have H4 : Hid (Below w.heap.size w w4) := H3.out.trans (hb.mono H3.out.size)
          have Q4 : Hid (Doc w4 qa qn qc q) := Q3.out.below hb
          have O4 : Hid (Ops w4 ja jn jc js) := oJ
          have PJ : Hid (js.map PV.pt = jX) := pJ
          clear oJ pJ
          clear hb
          go_wp2_with fail
          refine (CX.out _ _ _ _ _ H4.out O4.out PJ.out).mono ?_
          rintro e w5 ⟨⟨xa, xc, rfl, dX⟩, hb⟩
          have H5 : Hid (Below w.heap.size w w5) := H4.out.trans (hb.mono H4.out.size)
          have Q5 : Hid (Doc w5 qa qn qc q) := Q4.out.below hb
          have X5 : Hid (Doc w5 xa qn xc q) := dX
          have O5 : Hid (Ops w5 ja jn jc js) := O4.out.below hb
          clear dX
          clear hb
          go_wp2_with fail
          refine (CS.out _ _ _ _ _ X5.out Q5.out).mono ?_
          rintro e w6 ⟨rfl, m6, hm6⟩
          have hb := drewN_blw w5 m6
          rw [← hm6] at hb
          have H6 : Hid (Below w.heap.size w w6) := H5.out.trans (hb.mono H5.out.size)
          have Q6 : Hid (Doc w6 qa qn qc q) := Q5.out.below hb
          have O6 : Hid (Ops w6 ja jn jc js) := O5.out.below hb
          clear hb hm6
          go_wp2_with fail
          refine (CY.out _ _ _ H6.out Q6.out).mono ?_
          rintro e w7 ⟨⟨ya, yc, rfl, dY⟩, hb⟩
          have H7 : Hid (Below w.heap.size w w7) := H6.out.trans (hb.mono H6.out.size)
          have Y7 : Hid (Doc w7 ya yn yc y) := dY
          have O7 : Hid (Ops w7 ja jn jc js) := O6.out.below hb
          clear dY
          clear hb
          go_wp2
          go_ret
          exact ⟨rfl, H7.out⟩
      · obtain ⟨E, hEE⟩ : ∃ E, Ac.jonE A B = E := ⟨_, rfl⟩
        rw [hEE] at CJ hE hE0
        obtain rfl : E = 2 := hE.resolve_left hE0
        clear hE hE0 hEE hS h3
        go_enter Tryd.func8, Tryd.ntmps8
        go_wp2_with fail
        refine (C1.out _ H0.out).mono ?_
        rintro e w1 ⟨⟨pa, pc, rfl, dP⟩, hb⟩
        have H1 : Hid (Below w.heap.size w w1) := H0.out.trans (hb.mono H0.out.size)
        have D1 : Hid (Doc w1 pa pn pc p) := dP
        clear dP
        clear hb
        go_wp2_with fail
        refine (C2.out _ _ _ H1.out D1.out).mono ?_
        rintro e w2 ⟨⟨qa, qc, rfl, dQ⟩, hb⟩
        have H2 : Hid (Below w.heap.size w w2) := H1.out.trans (hb.mono H1.out.size)
        have Q2 : Hid (Doc w2 qa qn qc q) := dQ
        clear dQ
        clear hb
        go_wp2_with fail
        refine (CT.out _ H2.out).mono ?_
        rintro e w3 ⟨rfl, hb⟩
        have H3 : Hid (Below w.heap.size w w3) := H2.out.trans (hb.mono H2.out.size)
        have Q3 : Hid (Doc w3 qa qn qc q) := Q2.out.below hb
        clear hb
        go_wp2_with fail
        refine (CJ.out _ H3.out).mono ?_
        rintro e w4 ⟨⟨ja, jn, jc, js, rfl, oJ, pJ⟩, hb⟩
        have H4 : Hid (Below w.heap.size w w4) := H3.out.trans (hb.mono H3.out.size)
        clear oJ pJ
        clear hb
        go_wp2
        go_ret
        exact ⟨rfl, H4.out⟩
    · have hne : (f2 != 0) = true := by simp [h2]
      subst h1
      clear h2
      go_enter Tryd.func8, Tryd.ntmps8
      go_wp2_with fail
      refine (C1.out _ H0.out).mono ?_
      rintro e w1 ⟨⟨pa, pc, rfl, dP⟩, hb⟩
      have H1 : Hid (Below w.heap.size w w1) := H0.out.trans (hb.mono H0.out.size)
      have D1 : Hid (Doc w1 pa pn pc p) := dP
      clear dP
      clear hb
      go_wp2_with fail
      refine (C2.out _ _ _ H1.out D1.out).mono ?_
      rintro e w2 ⟨⟨qa, qc, rfl, dQ⟩, hb⟩
      have H2 : Hid (Below w.heap.size w w2) := H1.out.trans (hb.mono H1.out.size)
      have Q2 : Hid (Doc w2 qa qn qc q) := dQ
      clear dQ
      clear hb
      go_wp2_with fail
      refine (CT.out _ H2.out).mono ?_
      rintro e w3 ⟨rfl, hb⟩
      have H3 : Hid (Below w.heap.size w w3) := H2.out.trans (hb.mono H2.out.size)
      have Q3 : Hid (Doc w3 qa qn qc q) := Q2.out.below hb
      clear hb
      go_wp2_with fail
      refine (CT.out _ H3.out).mono ?_
      rintro e w4 ⟨rfl, hb⟩
      have H4 : Hid (Below w.heap.size w w4) := H3.out.trans (hb.mono H3.out.size)
      clear hb
      go_wp2
      go_ret
      exact ⟨rfl, H4.out⟩
  · have hne : (f1 != 0) = true := by simp [h1]
    clear h1
    go_enter Tryd.func8, Tryd.ntmps8
    go_wp2_with fail
    refine (C1.out _ H0.out).mono ?_
    rintro e w1 ⟨⟨pa, pc, rfl, dP⟩, hb⟩
    have H1 : Hid (Below w.heap.size w w1) := H0.out.trans (hb.mono H0.out.size)
    have D1 : Hid (Doc w1 pa pn pc p) := dP
    clear dP
    clear hb
    go_wp2_with fail
    refine (C2.out _ _ _ H1.out D1.out).mono ?_
    rintro e w2 ⟨⟨qa, qc, rfl, dQ⟩, hb⟩
    have H2 : Hid (Below w.heap.size w w2) := H1.out.trans (hb.mono H1.out.size)
    have Q2 : Hid (Doc w2 qa qn qc q) := dQ
    clear dQ
    clear hb
    go_wp2_with fail
    refine (CT.out _ H2.out).mono ?_
    rintro e w3 ⟨rfl, hb⟩
    have H3 : Hid (Below w.heap.size w w3) := H2.out.trans (hb.mono H2.out.size)
    have Q3 : Hid (Doc w3 qa qn qc q) := Q2.out.below hb
    clear hb
    go_wp2_with fail
    refine (CT.out _ H3.out).mono ?_
    rintro e w4 ⟨rfl, hb⟩
    have H4 : Hid (Below w.heap.size w w4) := H3.out.trans (hb.mono H3.out.size)
    clear hb
    go_wp2
    go_ret
    exact ⟨rfl, H4.out⟩
end Go.Proofs.YtgidmnoinbbajaaDoor
