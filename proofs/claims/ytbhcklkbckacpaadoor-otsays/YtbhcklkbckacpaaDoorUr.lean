/-
  The statement OtSays: any two operations are turned, and joined, as the reference says.
-/
import Derived.Test.YtbhcklkbckacpaaDoorQh
import Derived.Test.YtbhcklkbckacpaaDoorUm
namespace Go.Proofs.YtbhcklkbckacpaaDoor
open Go.RowKit
theorem turnedR_any (ao ao' : Option Addr) (n cap n' cap' : Nat) (vs vs' : List PV) (w : World) (hO : Ops w ao n cap vs) (hO' : Ops w ao' n' cap' vs') :
    Calls Tryd.prog 11 #[.slice ao n cap, .slice ao' n' cap'] w fun e w' => TurnP (Ac.trnX (vs.map PV.pt) (vs'.map PV.pt)) (Ac.trnY (vs.map PV.pt) (vs'.map PV.pt)) (Ac.trnE (vs.map PV.pt) (vs'.map PV.pt)) e w' ∧ Below w.heap.size w w' := by
  unfold Ac.trnX Ac.trnY Ac.trnE
  by_cases h1 : Ac.fst2 (vs.map PV.pt) (vs'.map PV.pt) = 0
  · rw [if_pos h1]
    by_cases h2 : Ac.nd (vs.map PV.pt) = Ac.nd (vs'.map PV.pt)
    · rw [if_pos h2]
      exact turnedR_main ao ao' n cap n' cap' vs vs' w hO hO' h1 h2
    · rw [if_neg h2, if_neg (show ¬ (6 : Int) = 0 by decide), if_neg (show ¬ (6 : Int) = 0 by decide)]
      refine (turnedR_base ao ao' n cap n' cap' vs vs' w hO hO' h1 h2).mono ?_
      rintro e w' ⟨rfl, hb⟩
      exact ⟨turnP_nil _ _, hb⟩
  · rw [if_neg h1, if_neg h1, if_neg h1]
    refine (turnedR_bad ao ao' n cap n' cap' vs vs' w hO hO' h1).mono ?_
    rintro e w' ⟨rfl, hb⟩
    exact ⟨turnP_nil _ _, hb⟩
theorem joinedR_any (ao ao' : Option Addr) (n cap n' cap' : Nat) (vs vs' : List PV) (w : World) (hO : Ops w ao n cap vs) (hO' : Ops w ao' n' cap' vs') :
    Calls Tryd.prog 12 #[.slice ao n cap, .slice ao' n' cap'] w fun e w' => JoinP (Ac.jonX (vs.map PV.pt) (vs'.map PV.pt)) (Ac.jonE (vs.map PV.pt) (vs'.map PV.pt)) e w' ∧ Below w.heap.size w w' := by
  unfold Ac.jonX Ac.jonE
  by_cases h1 : Ac.fst2 (vs.map PV.pt) (vs'.map PV.pt) = 0
  · rw [if_pos h1]
    by_cases h2 : Ac.lv (vs.map PV.pt) = Ac.nd (vs'.map PV.pt)
    · rw [if_pos h2]
      exact joinedR_main ao ao' n cap n' cap' vs vs' w hO hO' h1 h2
    · rw [if_neg h2, if_neg (show ¬ (6 : Int) = 0 by decide)]
      refine (joinedR_base ao ao' n cap n' cap' vs vs' w hO hO' h1 h2).mono ?_
      rintro e w' ⟨rfl, hb⟩
      exact ⟨joinP_nil _ _, hb⟩
  · rw [if_neg h1, if_neg h1]
    refine (joinedR_bad ao ao' n cap n' cap' vs vs' w hO hO' h1).mono ?_
    rintro e w' ⟨rfl, hb⟩
    exact ⟨joinP_nil _ _, hb⟩
theorem same_true {w : World} {a a' : Option Addr} {n c n' c' : Nat} {us us' : List PV} (h : Ops w a n c us) (h' : Ops w a' n' c' us') (e : us.map PV.pt = us'.map PV.pt) :
    Calls Tryd.prog 14 #[.slice a n c, .slice a' n' c'] w fun e w' => e = .returned (.bool true) ∧ Below w.heap.size w w' := by
  have := SameOp_any a a' n c n' c' us us' w h h'
  rw [e, Ac.sameO_self] at this
  exact this

set_option maxRecDepth 100000 in
set_option maxHeartbeats 3200000 in
theorem otsays_any (ao ao' : Option Addr) (n cap n' cap' : Nat) (vs vs' : List PV) (w : World) (hO : Ops w ao n cap vs) (hO' : Ops w ao' n' cap' vs') (hS : Sch w) :
    Calls Tryd.prog 3 #[.slice ao n cap, .slice ao' n' cap'] w fun e w' => e = .returned (.bool true) ∧ Below w.heap.size w w' := by
  have C1 : Hid (Calls Tryd.prog 9 #[.slice ao n cap, .slice ao' n' cap'] w fun e w' => TurnP (Ac.trnX (vs.map PV.pt) (vs'.map PV.pt)) (Ac.trnY (vs.map PV.pt) (vs'.map PV.pt)) (Ac.trnE (vs.map PV.pt) (vs'.map PV.pt)) e w' ∧ Below w.heap.size w w') := turn_any ao ao' n cap n' cap' vs vs' w hO hO' hS
  have C2 : Hid (∀ w', Below w.heap.size w w' → Calls Tryd.prog 10 #[.slice ao n cap, .slice ao' n' cap'] w' fun e w'' => JoinP (Ac.jonX (vs.map PV.pt) (vs'.map PV.pt)) (Ac.jonE (vs.map PV.pt) (vs'.map PV.pt)) e w'' ∧ Below w'.heap.size w' w'') := fun w' hb => join_any ao ao' n cap n' cap' vs vs' w' (hO.below hb) (hO'.below hb) (hS.below hb)
  have C3 : Hid (∀ w', Below w.heap.size w w' → Calls Tryd.prog 11 #[.slice ao n cap, .slice ao' n' cap'] w' fun e w'' => TurnP (Ac.trnX (vs.map PV.pt) (vs'.map PV.pt)) (Ac.trnY (vs.map PV.pt) (vs'.map PV.pt)) (Ac.trnE (vs.map PV.pt) (vs'.map PV.pt)) e w'' ∧ Below w'.heap.size w' w'') := fun w' hb => turnedR_any ao ao' n cap n' cap' vs vs' w' (hO.below hb) (hO'.below hb)
  have C4 : Hid (∀ w', Below w.heap.size w w' → Calls Tryd.prog 12 #[.slice ao n cap, .slice ao' n' cap'] w' fun e w'' => JoinP (Ac.jonX (vs.map PV.pt) (vs'.map PV.pt)) (Ac.jonE (vs.map PV.pt) (vs'.map PV.pt)) e w'' ∧ Below w'.heap.size w' w'') := fun w' hb => joinedR_any ao ao' n cap n' cap' vs vs' w' (hO.below hb) (hO'.below hb)
  have C5 : Hid (∀ w', Below w.heap.size w w' → Calls Tryd.prog 13 #[] w' fun e w'' => e = .returned (.bool true) ∧ Below w'.heap.size w' w'') := fun w' hb => turnedL_any w' (hS.below hb)
  clear hO hO' hS
  generalize Ac.trnX (vs.map PV.pt) (vs'.map PV.pt) = X at *
  generalize Ac.trnY (vs.map PV.pt) (vs'.map PV.pt) = Y at *
  generalize Ac.trnE (vs.map PV.pt) (vs'.map PV.pt) = E at *
  generalize Ac.jonX (vs.map PV.pt) (vs'.map PV.pt) = J at *
  generalize Ac.jonE (vs.map PV.pt) (vs'.map PV.pt) = F at *
  go_enter Tryd.func3, Tryd.ntmps3
  go_wp2_with fail
  refine C1.out.mono ?_
  rintro e w1 ⟨⟨xa, xn, xc, xu, ya, yn, yc, yu, rfl, hx, hy, px, py⟩, hb⟩
  have H1 : Hid (Below w.heap.size w w1) := hb
  have HX1 : Hid (∀ w', Below w1.heap.size w1 w' → Ops w' xa xn xc xu ∧ Ops w' ya yn yc yu) := fun w' h => ⟨hx.below h, hy.below h⟩
  have HPX : Hid (xu.map PV.pt = X) := px
  have HPY : Hid (yu.map PV.pt = Y) := py
  clear hb hx hy px py
  go_wp2_with fail
  refine (C2.out _ H1.out).mono ?_
  rintro e w2 ⟨⟨ja, jn, jc, ju, rfl, hj, pj⟩, hb⟩
  have H2 : Hid (Below w1.heap.size w1 w2) := hb
  have H2w : Hid (Below w.heap.size w w2) := H1.out.trans (hb.mono H1.out.size)
  have HJ2 : Hid (∀ w', Below w2.heap.size w2 w' → Ops w' ja jn jc ju) := fun w' h => hj.below h
  have HPJ : Hid (ju.map PV.pt = J) := pj
  clear hb hj pj
  go_wp2_with fail
  refine (C3.out _ H2w.out).mono ?_
  rintro e w3 ⟨⟨xa', xn', xc', xu', ya', yn', yc', yu', rfl, hx, hy, px, py⟩, hb⟩
  have H3 : Hid (Below w2.heap.size w2 w3) := hb
  have H3w : Hid (Below w.heap.size w w3) := H2w.out.trans (hb.mono H2w.out.size)
  have HX3 : Hid (∀ w', Below w3.heap.size w3 w' → Ops w' xa' xn' xc' xu' ∧ Ops w' ya' yn' yc' yu') := fun w' h => ⟨hx.below h, hy.below h⟩
  have HPX' : Hid (xu'.map PV.pt = X) := px
  have HPY' : Hid (yu'.map PV.pt = Y) := py
  clear hb hx hy px py
  go_wp2_with fail
  refine (C4.out _ H3w.out).mono ?_
  rintro e w4 ⟨⟨ja', jn', jc', ju', rfl, hj, pj⟩, hb⟩
  have H4 : Hid (Below w3.heap.size w3 w4) := hb
  have H4w : Hid (Below w.heap.size w w4) := H3w.out.trans (hb.mono H3w.out.size)
  have HJ4 : Hid (∀ w', Below w4.heap.size w4 w' → Ops w' ja' jn' jc' ju') := fun w' h => hj.below h
  have HPJ' : Hid (ju'.map PV.pt = J) := pj
  have K3 : Hid (∀ w', Below w4.heap.size w4 w' → Below w3.heap.size w3 w') := fun w' h => H4.out.trans (h.mono H4.out.size)
  have K2 : Hid (∀ w', Below w4.heap.size w4 w' → Below w2.heap.size w2 w') := fun w' h => H3.out.trans ((K3.out w' h).mono H3.out.size)
  have K1 : Hid (∀ w', Below w4.heap.size w4 w' → Below w1.heap.size w1 w') := fun w' h => H2.out.trans ((K2.out w' h).mono H2.out.size)
  have S1 : Hid (∀ w', Below w4.heap.size w4 w' → Calls Tryd.prog 14 #[.slice xa xn xc, .slice xa' xn' xc'] w' fun e w'' => e = .returned (.bool true) ∧ Below w'.heap.size w' w'') := fun w' h => same_true (HX1.out w' (K1.out w' h)).1 (HX3.out w' (K3.out w' h)).1 (HPX.out.trans HPX'.out.symm)
  have S2 : Hid (∀ w', Below w4.heap.size w4 w' → Calls Tryd.prog 14 #[.slice ya yn yc, .slice ya' yn' yc'] w' fun e w'' => e = .returned (.bool true) ∧ Below w'.heap.size w' w'') := fun w' h => same_true (HX1.out w' (K1.out w' h)).2 (HX3.out w' (K3.out w' h)).2 (HPY.out.trans HPY'.out.symm)
  have S3 : Hid (∀ w', Below w4.heap.size w4 w' → Calls Tryd.prog 14 #[.slice ja jn jc, .slice ja' jn' jc'] w' fun e w'' => e = .returned (.bool true) ∧ Below w'.heap.size w' w'') := fun w' h => same_true (HJ2.out w' (K2.out w' h)) (HJ4.out w' h) (HPJ.out.trans HPJ'.out.symm)
  clear hb hj pj K1 K2 K3 HX1 HX3 HJ2 HJ4 HPX HPX' HPY HPY' HPJ HPJ'
  have hE : (E == E) = true := by simp
  have hF : (F == F) = true := by simp
  go_wp2_with fail
  refine (C5.out _ H4w.out).mono ?_
  rintro e w5 ⟨rfl, hb⟩
  have H5 : Hid (Below w4.heap.size w4 w5) := hb
  clear hb
  go_wp2_with fail
  refine (S1.out _ H5.out).mono ?_
  rintro e w6 ⟨rfl, hb⟩
  have H6 : Hid (Below w4.heap.size w4 w6) := H5.out.trans (hb.mono H5.out.size)
  clear hb
  go_wp2_with fail
  refine (S2.out _ H6.out).mono ?_
  rintro e w7 ⟨rfl, hb⟩
  have H7 : Hid (Below w4.heap.size w4 w7) := H6.out.trans (hb.mono H6.out.size)
  clear hb
  go_wp2_with fail
  refine (S3.out _ H7.out).mono ?_
  rintro e w8 ⟨rfl, hb⟩
  have H8 : Hid (Below w4.heap.size w4 w8) := H7.out.trans (hb.mono H7.out.size)
  clear hb
  go_wp2
  go_ret
  exact ⟨rfl, H4w.out.trans (H8.out.mono H4w.out.size)⟩
end Go.Proofs.YtbhcklkbckacpaaDoor
