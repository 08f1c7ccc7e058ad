/-
  OtMeets: two operations, done in either order, each turned behind the other one, make the same.
-/
import Derived.Test.YtgidmnoinbbajaaDoorUm
namespace Go.Proofs.YtgidmnoinbbajaaDoor
open Go.RowKit

set_option maxRecDepth 100000 in
set_option maxHeartbeats 6400000 in
theorem meets_any (ao ao1 ao2 : Option Addr) (n cap n1 cap1 n2 cap2 : Nat) (l : List It) (vs vs' : List PV) (w : World) (hD : Doc w ao n cap l) (hO : Ops w ao1 n1 cap1 vs) (hO' : Ops w ao2 n2 cap2 vs') (hS : Sch w) :
    Calls Tryd.prog 7 #[.slice ao n cap, .slice ao1 n1 cap1, .slice ao2 n2 cap2] w fun e w' => e = .returned (.bool true) ∧ Below w.heap.size w w' := by
  have CT : Hid (∀ w', Below w.heap.size w w' → Calls Tryd.prog 28 #[] w' fun e w'' => e = .returned (.bool true) ∧ Below w'.heap.size w' w'') := fun w' hb => turnedL_any w' (hS.below hb)
  have HS : Hid (∀ w', Below w.heap.size w w' → Sch w') := fun w' hb => hS.below hb
  have H0 : Hid (Below w.heap.size w w) := Below.refl _ _
  have C1 : Hid (∀ w', Below w.heap.size w w' → Calls Tryd.prog 10 #[.slice ao n cap, .slice ao1 n1 cap1] w' fun e w'' => (∃ a c, e = .returned (.tuple #[.slice a (Ac.done l (vs.map PV.pt)).length c, .int .i64 (Ac.fitE l (vs.map PV.pt))]) ∧ Doc w'' a (Ac.done l (vs.map PV.pt)).length c (Ac.done l (vs.map PV.pt))) ∧ Below w'.heap.size w' w'') := fun w' hb => apply_any _ _ _ _ _ _ _ _ w' (hD.below hb) (hO.below hb) (hS.below hb)
  have C2 : Hid (∀ w', Below w.heap.size w w' → Calls Tryd.prog 10 #[.slice ao n cap, .slice ao2 n2 cap2] w' fun e w'' => (∃ a c, e = .returned (.tuple #[.slice a (Ac.done l (vs'.map PV.pt)).length c, .int .i64 (Ac.fitE l (vs'.map PV.pt))]) ∧ Doc w'' a (Ac.done l (vs'.map PV.pt)).length c (Ac.done l (vs'.map PV.pt))) ∧ Below w'.heap.size w' w'') := fun w' hb => apply_any _ _ _ _ _ _ _ _ w' (hD.below hb) (hO'.below hb) (hS.below hb)
  have C3 : Hid (∀ w', Below w.heap.size w w' → Calls Tryd.prog 24 #[.slice ao1 n1 cap1, .slice ao2 n2 cap2] w' fun e w'' => TurnP (Ac.trnX (vs.map PV.pt) (vs'.map PV.pt)) (Ac.trnY (vs.map PV.pt) (vs'.map PV.pt)) (Ac.trnE (vs.map PV.pt) (vs'.map PV.pt)) e w'' ∧ Below w'.heap.size w' w'') := fun w' hb => turn_any _ _ _ _ _ _ _ _ w' (hO.below hb) (hO'.below hb) (hS.below hb)
  have ME := @Ac.meets_E l (vs.map PV.pt) (vs'.map PV.pt)
  have MS := @Ac.meets_same l (vs.map PV.pt) (vs'.map PV.pt)
  clear hD hO hO' hS
  generalize Ac.trnX (vs.map PV.pt) (vs'.map PV.pt) = X at *
  generalize Ac.trnY (vs.map PV.pt) (vs'.map PV.pt) = Y at *
  generalize Ac.trnE (vs.map PV.pt) (vs'.map PV.pt) = E at *
  generalize Ac.done l (vs.map PV.pt) = p at *
  generalize Ac.done l (vs'.map PV.pt) = q at *
  generalize Ac.fitE l (vs.map PV.pt) = f1 at *
  generalize Ac.fitE l (vs'.map PV.pt) = f2 at *
  obtain ⟨pn, hpn⟩ : ∃ pn, p.length = pn := ⟨_, rfl⟩
  obtain ⟨qn, hqn⟩ : ∃ qn, q.length = qn := ⟨_, rfl⟩
  rw [hpn] at C1
  rw [hqn] at C2
  clear hpn hqn
  have ME : Hid _ := ME
  have MS : Hid _ := MS
  by_cases h1 : f1 = 0
  · by_cases h2 : f2 = 0
    · have hE := ME.out h1 h2
      have hM := MS.out h1 h2
      subst h1 h2
      by_cases hE0 : E = 0
      · obtain ⟨m1, m2, m3⟩ := hM hE0
        subst hE0
        have M1 : Hid (Ac.fitE p Y = Ac.fitE q X) := m1
        have M3 : Hid (Ac.done p Y = Ac.done q X) := m3
        obtain ⟨f, hf⟩ : ∃ f, Ac.fitE q X = f := ⟨_, rfl⟩
        have HF : Hid (Ac.fitE q X = f) := hf
        have HFY : Hid (Ac.fitE p Y = f) := m1.trans hf
        have hf02 : f = 0 ∨ f = 2 := by rw [← hf, ← m1]; exact m2
        obtain ⟨u, hu⟩ : ∃ u, Ac.done q X = u := ⟨_, rfl⟩
        have HU : Hid (Ac.done q X = u) := hu
        have HUY : Hid (Ac.done p Y = u) := m3.trans hu
        obtain ⟨un, hun⟩ : ∃ un, u.length = un := ⟨_, rfl⟩
        have HUN : Hid (u.length = un) := hun
        have hsm : Dc.same u u = true := (its_same u u).2 rfl
        clear m1 m2 m3 hf hu hun hM hE
        go_enter Tryd.func7, Tryd.ntmps7
        go_wp2_with fail
        refine (C1.out _ H0.out).mono ?_
        rintro e w1 ⟨⟨pa, pc, rfl, dP⟩, hb⟩
        have H1 : Hid (Below w.heap.size w w1) := H0.out.trans (hb.mono H0.out.size)
        have D1 : Hid (Doc w1 pa pn pc p) := dP
        clear dP
        clear hb
        go_wp2_with fail
        refine (C2.out _ H1.out).mono ?_
        rintro e w2 ⟨⟨qa, qc, rfl, dQ⟩, hb⟩
        have H2 : Hid (Below w.heap.size w w2) := H1.out.trans (hb.mono H1.out.size)
        have D2 : Hid (Doc w2 pa pn pc p) := D1.out.below hb
        have Q2 : Hid (Doc w2 qa qn qc q) := dQ
        clear dQ
        clear hb
        go_wp2_with fail
        refine (CT.out _ H2.out).mono ?_
        rintro e w3 ⟨rfl, hb⟩
        have H3 : Hid (Below w.heap.size w w3) := H2.out.trans (hb.mono H2.out.size)
        have D3 : Hid (Doc w3 pa pn pc p) := D2.out.below hb
        have Q3 : Hid (Doc w3 qa qn qc q) := Q2.out.below hb
        clear hb
        go_wp2_with fail
        refine (C3.out _ H3.out).mono ?_
        rintro e w4 ⟨⟨xa, xn, xc, xs, ya, yn, yc, ys, rfl, oX, oY, pX, pY⟩, hb⟩
        have H4 : Hid (Below w.heap.size w w4) := H3.out.trans (hb.mono H3.out.size)
        have D4 : Hid (Doc w4 pa pn pc p) := D3.out.below hb
        have Q4 : Hid (Doc w4 qa qn qc q) := Q3.out.below hb
        have X4 : Hid (Ops w4 xa xn xc xs) := oX
        have CP : Hid (Calls Tryd.prog 10 #[.slice pa pn pc, .slice ya yn yc] w4 fun e w' => (∃ a c, e = .returned (.tuple #[.slice a un c, .int .i64 f]) ∧ Doc w' a un c u) ∧ Below w4.heap.size w4 w') := by have := apply_any pa ya pn pc yn yc p ys w4 D4.out oY (HS.out _ H4.out); rw [pY, HFY.out, HUY.out, HUN.out] at this; exact this
        have PX : Hid (xs.map PV.pt = X) := pX
        clear oX oY pX pY
        clear hb
        go_wp2_with fail
        refine (CP.out).mono ?_
        rintro e w5 ⟨⟨ua, uc, rfl, dU⟩, hb⟩
        have H5 : Hid (Below w.heap.size w w5) := H4.out.trans (hb.mono H4.out.size)
        have U5 : Hid (Doc w5 ua un uc u) := dU
        have CQ : Hid (Calls Tryd.prog 10 #[.slice qa qn qc, .slice xa xn xc] w5 fun e w' => (∃ a c, e = .returned (.tuple #[.slice a un c, .int .i64 f]) ∧ Doc w' a un c u) ∧ Below w5.heap.size w5 w') := by have := apply_any qa xa qn qc xn xc q xs w5 (Q4.out.below hb) (X4.out.below hb) (HS.out _ H5.out); rw [PX.out, HF.out, HU.out, HUN.out] at this; exact this
        clear dU CP
        clear hb
        go_wp2_with fail
        refine (CQ.out).mono ?_
        rintro e w6 ⟨⟨va, vc, rfl, dV⟩, hb⟩
        have H6 : Hid (Below w.heap.size w w6) := H5.out.trans (hb.mono H5.out.size)
        have CD : Hid (Calls Tryd.prog 23 #[.slice ua un uc, .slice va un vc] w6 fun e w' => e = .returned (.bool true) ∧ ∃ m, w' = w6.drewN m) := by have := same_any ua va un uc un vc u u w6 (U5.out.below hb) dV; rw [hsm] at this; exact this
        clear dV CQ
        clear hb
        rcases hf02 with rfl | rfl
        · go_wp2_with fail
          refine CD.out.mono ?_
          rintro e w7 ⟨rfl, m, hm⟩
          have H7 : Hid (Below w.heap.size w w7) := by rw [hm]; exact H6.out.trans ((drewN_blw _ m).mono H6.out.size)
          clear hm
          go_wp2
          go_ret
          exact ⟨rfl, H7.out⟩
        · go_wp2_with fail
          refine CD.out.mono ?_
          rintro e w7 ⟨rfl, m, hm⟩
          have H7 : Hid (Below w.heap.size w w7) := by rw [hm]; exact H6.out.trans ((drewN_blw _ m).mono H6.out.size)
          clear hm
          go_wp2
          go_ret
          exact ⟨rfl, H7.out⟩
      · obtain rfl : E = 2 := hE.resolve_left hE0
        clear hE0 hE hM
        go_enter Tryd.func7, Tryd.ntmps7
        go_wp2_with fail
        refine (C1.out _ H0.out).mono ?_
        rintro e w1 ⟨⟨pa, pc, rfl, dP⟩, hb⟩
        have H1 : Hid (Below w.heap.size w w1) := H0.out.trans (hb.mono H0.out.size)
        clear dP
        clear hb
        go_wp2_with fail
        refine (C2.out _ H1.out).mono ?_
        rintro e w2 ⟨⟨qa, qc, rfl, dQ⟩, hb⟩
        have H2 : Hid (Below w.heap.size w w2) := H1.out.trans (hb.mono H1.out.size)
        clear dQ
        clear hb
        go_wp2_with fail
        refine (CT.out _ H2.out).mono ?_
        rintro e w3 ⟨rfl, hb⟩
        have H3 : Hid (Below w.heap.size w w3) := H2.out.trans (hb.mono H2.out.size)
        clear hb
        go_wp2_with fail
        refine (C3.out _ H3.out).mono ?_
        rintro e w4 ⟨⟨xa, xn, xc, xs, ya, yn, yc, ys, rfl, oX, oY, pX, pY⟩, hb⟩
        have H4 : Hid (Below w.heap.size w w4) := H3.out.trans (hb.mono H3.out.size)
        clear oX oY pX pY
        clear hb
        go_wp2
        go_ret
        exact ⟨rfl, H4.out⟩
    · have hne : (f2 != 0) = true := by simp [h2]
      subst h1
      clear h2
      go_enter Tryd.func7, Tryd.ntmps7
      go_wp2_with fail
      refine (C1.out _ H0.out).mono ?_
      rintro e w1 ⟨⟨pa, pc, rfl, dP⟩, hb⟩
      have H1 : Hid (Below w.heap.size w w1) := H0.out.trans (hb.mono H0.out.size)
      clear dP
      clear hb
      go_wp2_with fail
      refine (C2.out _ H1.out).mono ?_
      rintro e w2 ⟨⟨qa, qc, rfl, dQ⟩, hb⟩
      have H2 : Hid (Below w.heap.size w w2) := H1.out.trans (hb.mono H1.out.size)
      clear dQ
      clear hb
      go_wp2_with fail
      refine (CT.out _ H2.out).mono ?_
      rintro e w3 ⟨rfl, hb⟩
      have H3 : Hid (Below w.heap.size w w3) := H2.out.trans (hb.mono H2.out.size)
      clear hb
      go_wp2_with fail
      refine (CT.out _ H3.out).mono ?_
      rintro e w4 ⟨rfl, hb⟩
      have H4 : Hid (Below w.heap.size w w4) := H3.out.trans (hb.mono H3.out.size)
      clear hb
      go_wp2
      go_ret
      exact ⟨rfl, H4.out⟩
  · have hne : (f1 != 0) = true := by simp [h1]
    clear h1
    go_enter Tryd.func7, Tryd.ntmps7
    go_wp2_with fail
    refine (C1.out _ H0.out).mono ?_
    rintro e w1 ⟨⟨pa, pc, rfl, dP⟩, hb⟩
    have H1 : Hid (Below w.heap.size w w1) := H0.out.trans (hb.mono H0.out.size)
    clear dP
    clear hb
    go_wp2_with fail
    refine (C2.out _ H1.out).mono ?_
    rintro e w2 ⟨⟨qa, qc, rfl, dQ⟩, hb⟩
    have H2 : Hid (Below w.heap.size w w2) := H1.out.trans (hb.mono H1.out.size)
    clear dQ
    clear hb
    go_wp2_with fail
    refine (CT.out _ H2.out).mono ?_
    rintro e w3 ⟨rfl, hb⟩
    have H3 : Hid (Below w.heap.size w w3) := H2.out.trans (hb.mono H2.out.size)
    clear hb
    go_wp2_with fail
    refine (CT.out _ H3.out).mono ?_
    rintro e w4 ⟨rfl, hb⟩
    have H4 : Hid (Below w.heap.size w w4) := H3.out.trans (hb.mono H3.out.size)
    clear hb
    go_wp2
    go_ret
    exact ⟨rfl, H4.out⟩
end Go.Proofs.YtgidmnoinbbajaaDoor
