/-
  The law ExportOne returns true at whatever two lists of items.
-/
import Derived.Test.YtmifcioccnmlaaaDoorXs
namespace Go.Proofs.YtmifcioccnmlaaaDoor
open Go.RowKit

theorem drewN_below (w : World) (q : Nat) : Below w.heap.size w (w.drewN q) := ⟨rfl, rfl, rfl, Nat.le_refl _, fun _ _ => rfl⟩
theorem alike_eq {x y : It} : Dc.alike x y = true ↔ x = y := by
  constructor
  · intro h
    unfold Dc.alike at h
    simp only [Bool.and_eq_true] at h
    obtain ⟨h1, h2, h3⟩ := h
    have e1 : x.c = y.c := UInt8.toNat_inj.1 (by have : (x.c.toNat : Int) = (y.c.toNat : Int) := by simpa using h1
                                                 omega)
    have e2 : x.m = y.m := by simpa using h2
    have e3 : x.l = y.l := ext_list (by rw [← Lib.toList_data, ← Lib.toList_data]; simpa using h3)
    obtain ⟨a, b, c⟩ := x
    obtain ⟨a', b', c'⟩ := y
    simp only at e1 e2 e3
    rw [e1, e2, e3]
  · rintro rfl
    unfold Dc.alike
    simp
theorem same_eq : ∀ (l l' : List It), Dc.same l l' = true ↔ l = l'
  | [], [] => by simp [Dc.same]
  | [], _ :: _ => by simp [Dc.same]
  | _ :: _, [] => by simp [Dc.same]
  | x :: s, y :: t => by
    rw [Dc.same, Bool.and_eq_true, alike_eq, same_eq s t]
    simp
/-- Of two documents the pages are the same just where they are the same. -/
theorem pages_same (l l' : List It) (h : Dc.check l = 0) (h' : Dc.check l' = 0) : ((B (Dc.page l)).toList == (B (Dc.page l')).toList) = Dc.same l l' := by
  rw [Lib.toList_data, Lib.toList_data, B_data, B_data]
  unfold Dc.page
  rw [if_pos h, if_pos h']
  have hU := docu_of h
  have hU' := docu_of h'
  by_cases e : l = l'
  · subst e
    rw [(same_eq l l).2 rfl]
    simp
  · have hs : Dc.same l l' = false := by
      cases hs : Dc.same l l'
      · rfl
      · exact absurd ((same_eq l l').1 hs) e
    rw [hs]
    have : ¬ Pg.page l = Pg.page l' := by
      intro hp
      obtain ⟨k, x, rfl, hx⟩ := hU.last
      obtain ⟨k', x', rfl, hx'⟩ := hU'.last
      exact e (Pg.page_inj k k' x x' hx hx' (fun y hy => (hU.fine y hy).ok) (fun y hy => (hU'.fine y hy).ok) hp)
    simpa using this

set_option maxRecDepth 100000 in
set_option maxHeartbeats 1600000 in
theorem one_any (ao ao' : Option Addr) (n cap n' cap' : Nat) (l l' : List It) (w : World) (hD : Doc w ao n cap l) (hD' : Doc w ao' n' cap' l') (hT : Tabs w) :
    Calls Tryd.prog 12 #[.slice ao n cap, .slice ao' n' cap'] w fun e w' => e = .returned (.bool true) ∧ Below w.heap.size w w' := by
  have HD : Hid (Doc w ao n cap l) := hD
  have HD' : Hid (Doc w ao' n' cap' l') := hD'
  have HT : Hid (Tabs w) := hT
  have CP : Hid (Calls Tryd.prog 45 #[.slice ao n cap] w fun e w' => e = .returned (.tuple #[.string (B (Dc.page l)), .int .i64 (Dc.check l)]) ∧ Below w.heap.size w w') := page_any ao n cap l w hD hT
  have CQ : Hid (∀ w, Doc w ao' n' cap' l' → Tabs w → Calls Tryd.prog 45 #[.slice ao' n' cap'] w fun e w' => e = .returned (.tuple #[.string (B (Dc.page l')), .int .i64 (Dc.check l')]) ∧ Below w.heap.size w w') := fun w h1 h2 => page_any ao' n' cap' l' w h1 h2
  have CE : Hid (∀ w, Tabs w → Calls Tryd.prog 46 #[] w fun e w' => e = .returned (.bool true) ∧ Below w.heap.size w w') := exported_any
  have CS : Hid (∀ w, Doc w ao n cap l → Doc w ao' n' cap' l' → Calls Tryd.prog 42 #[.slice ao n cap, .slice ao' n' cap'] w fun e w' => e = .returned (.bool (Dc.same l l')) ∧ Below w.heap.size w w') := fun w h1 h2 => (equal_any ao ao' n cap n' cap' l l' w h1 h2).mono fun e w' ⟨he, m, hw⟩ => ⟨he, by rw [hw]; exact drewN_below _ _⟩
  have HPS : Hid (Dc.check l = 0 → Dc.check l' = 0 → ((B (Dc.page l)).toList == (B (Dc.page l')).toList) = Dc.same l l') := pages_same l l'
  clear hD hD' hT
  generalize B (Dc.page l) = p at *
  generalize B (Dc.page l') = p' at *
  generalize Dc.same l l' = sm at *
  by_cases hc : Dc.check l = 0
  · by_cases hc' : Dc.check l' = 0
    · have hps := HPS.out hc hc'
      rw [hc] at CP
      rw [hc'] at CQ
      have HPE : Hid ((p.toList == p'.toList) = sm) := hps
      clear hps hc hc'
      go_enter Tryd.func12, Tryd.ntmps12
      go_wp2_with fail
      refine CP.out.mono ?_
      rintro e w1 ⟨rfl, hb⟩
      have H1 : Hid (Below w.heap.size w w1) := hb
      have D1 : Hid (Doc w1 ao n cap l) := HD.out.below hb
      have E1 : Hid (Doc w1 ao' n' cap' l') := HD'.out.below hb
      have T1 : Hid (Tabs w1) := HT.out.below hb
      clear hb
      go_wp2_with fail
      refine (CQ.out _ E1.out T1.out).mono ?_
      rintro e w2 ⟨rfl, hb⟩
      have H2 : Hid (Below w.heap.size w w2) := H1.out.trans (hb.mono H1.out.size)
      have D2 : Hid (Doc w2 ao n cap l) := D1.out.below hb
      have E2 : Hid (Doc w2 ao' n' cap' l') := E1.out.below hb
      have T2 : Hid (Tabs w2) := T1.out.below hb
      clear hb
      go_wp2_with fail
      refine (CE.out _ T2.out).mono ?_
      rintro e w3 ⟨rfl, hb⟩
      have H3 : Hid (Below w.heap.size w w3) := H2.out.trans (hb.mono H2.out.size)
      have D3 : Hid (Doc w3 ao n cap l) := D2.out.below hb
      have E3 : Hid (Doc w3 ao' n' cap' l') := E2.out.below hb
      clear hb
      go_wp2_with fail
      refine (CS.out _ D3.out E3.out).mono ?_
      rintro e w4 ⟨rfl, hb⟩
      have H4 : Hid (Below w.heap.size w w4) := H3.out.trans (hb.mono H3.out.size)
      have hpe := HPE.out
      clear hb
      cases sm
      all_goals
        go_wp2
        go_ret
        exact ⟨rfl, H4.out⟩
    · rw [hc] at CP
      clear HPS hc
      generalize Dc.check l' = c at *
      have hcb : (c != 0) = true := by simpa using hc'
      go_enter Tryd.func12, Tryd.ntmps12
      go_wp2_with fail
      refine CP.out.mono ?_
      rintro e w1 ⟨rfl, hb⟩
      have H1 : Hid (Below w.heap.size w w1) := hb
      have E1 : Hid (Doc w1 ao' n' cap' l') := HD'.out.below hb
      have T1 : Hid (Tabs w1) := HT.out.below hb
      clear hb
      go_wp2_with fail
      refine (CQ.out _ E1.out T1.out).mono ?_
      rintro e w2 ⟨rfl, hb⟩
      have H2 : Hid (Below w.heap.size w w2) := H1.out.trans (hb.mono H1.out.size)
      have T2 : Hid (Tabs w2) := T1.out.below hb
      clear hb
      go_wp2_with fail
      refine (CE.out _ T2.out).mono ?_
      rintro e w3 ⟨rfl, hb⟩
      have H3 : Hid (Below w.heap.size w w3) := H2.out.trans (hb.mono H2.out.size)
      clear hb
      go_wp2
      go_ret
      exact ⟨rfl, H3.out⟩
  · clear HPS
    generalize Dc.check l' = c' at *
    generalize Dc.check l = c at *
    have hcb : (c != 0) = true := by simpa using hc
    go_enter Tryd.func12, Tryd.ntmps12
    go_wp2_with fail
    refine CP.out.mono ?_
    rintro e w1 ⟨rfl, hb⟩
    have H1 : Hid (Below w.heap.size w w1) := hb
    have E1 : Hid (Doc w1 ao' n' cap' l') := HD'.out.below hb
    have T1 : Hid (Tabs w1) := HT.out.below hb
    clear hb
    go_wp2_with fail
    refine (CQ.out _ E1.out T1.out).mono ?_
    rintro e w2 ⟨rfl, hb⟩
    have H2 : Hid (Below w.heap.size w w2) := H1.out.trans (hb.mono H1.out.size)
    have T2 : Hid (Tabs w2) := T1.out.below hb
    clear hb
    go_wp2_with fail
    refine (CE.out _ T2.out).mono ?_
    rintro e w3 ⟨rfl, hb⟩
    have H3 : Hid (Below w.heap.size w w3) := H2.out.trans (hb.mono H2.out.size)
    clear hb
    go_wp2
    go_ret
    exact ⟨rfl, H3.out⟩
end Go.Proofs.YtmifcioccnmlaaaDoor
