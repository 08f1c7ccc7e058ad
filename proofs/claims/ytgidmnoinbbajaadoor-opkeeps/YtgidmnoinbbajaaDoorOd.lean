/-
  Package op: what is wrong with a part, and with an operation.
-/
import Derived.Test.YtgidmnoinbbajaaDoorOc
import Derived.Deep.RegionHeld3
namespace Go.Proofs.YtgidmnoinbbajaaDoor
open Go.RowKit

set_option maxRecDepth 100000 in
set_option maxHeartbeats 3200000 in
theorem chP_rest (kind n : Int) (ao : Option Addr) (m cap : Nat) (items : List It) (st cl : Int) (gs : Bool) (lk : ByteArray) (w : World) (e0 r : Int) (hk : kind = 1 ∨ kind = 2 ∨ kind = 3)
    (CC : Hid (Calls Tryd.prog (if kind = 1 then 57 else if kind = 2 then 58 else 59) (if kind = 1 then #[.agg #[.int .i64 kind, .int .i64 n, .slice ao m cap, .int .i64 st, .int .i64 cl, .bool gs, .string lk]] else if kind = 2 then #[.slice ao m cap] else #[.int .i64 n]) (boxp ⟨kind, n, ao, m, cap, items, st, cl, gs, lk⟩ w) fun e w' => e = .returned (.int .i64 e0) ∧ Below (boxp ⟨kind, n, ao, m, cap, items, st, cl, gs, lk⟩ w).heap.size (boxp ⟨kind, n, ao, m, cap, items, st, cl, gs, lk⟩ w) w'))
    (hP : Pvt w ⟨kind, n, ao, m, cap, items, st, cl, gs, lk⟩)
    (hr : r = if e0 = 0 then (if Ac.same1 (PV.pt ⟨kind, n, ao, m, cap, items, st, cl, gs, lk⟩) (Ac.usedP (PV.pt ⟨kind, n, ao, m, cap, items, st, cl, gs, lk⟩)) then 0 else 4) else e0) :
    Calls Tryd.prog 38 #[.agg #[.int .i64 kind, .int .i64 n, .slice ao m cap, .int .i64 st, .int .i64 cl, .bool gs, .string lk]] w fun e w' => e = .returned (.int .i64 r) ∧ Below w.heap.size w w' := by
  have H1 : Hid (Below w.heap.size w (boxp ⟨kind, n, ao, m, cap, items, st, cl, gs, lk⟩ w)) := boxp_below _ w
  have HSV : Hid (Seven (boxp ⟨kind, n, ao, m, cap, items, st, cl, gs, lk⟩ w) w.heap.size 0 ⟨kind, n, ao, m, cap, items, st, cl, gs, lk⟩) := boxp_at _ w
  have HP : Hid (Pvt (boxp ⟨kind, n, ao, m, cap, items, st, cl, gs, lk⟩ w) ⟨kind, n, ao, m, cap, items, st, cl, gs, lk⟩) := hP.below (boxp_below _ w)
  have HU0 : Hid (∀ w', Pvt w' ⟨kind, n, ao, m, cap, items, st, cl, gs, lk⟩ → Pvt w' (usedV ⟨kind, n, ao, m, cap, items, st, cl, gs, lk⟩)) := fun w' h => usedV_pvt h
  have CU0 : Hid (∀ w', Calls Tryd.prog 60 #[.agg #[.int .i64 kind, .int .i64 n, .slice ao m cap, .int .i64 st, .int .i64 cl, .bool gs, .string lk]] w' fun e w2 => e = .returned (.agg #[.int .i64 (usedV ⟨kind, n, ao, m, cap, items, st, cl, gs, lk⟩).kind, .int .i64 (usedV ⟨kind, n, ao, m, cap, items, st, cl, gs, lk⟩).n, .slice (usedV ⟨kind, n, ao, m, cap, items, st, cl, gs, lk⟩).ao (usedV ⟨kind, n, ao, m, cap, items, st, cl, gs, lk⟩).m (usedV ⟨kind, n, ao, m, cap, items, st, cl, gs, lk⟩).cap, .int .i64 (usedV ⟨kind, n, ao, m, cap, items, st, cl, gs, lk⟩).set, .int .i64 (usedV ⟨kind, n, ao, m, cap, items, st, cl, gs, lk⟩).clr, .bool (usedV ⟨kind, n, ao, m, cap, items, st, cl, gs, lk⟩).goes, .string (usedV ⟨kind, n, ao, m, cap, items, st, cl, gs, lk⟩).link]) ∧ Below w'.heap.size w' w2) := fun w' => used_any ⟨kind, n, ao, m, cap, items, st, cl, gs, lk⟩ w'
  have CS0 : Hid (∀ w', Pvt w' ⟨kind, n, ao, m, cap, items, st, cl, gs, lk⟩ → Pvt w' (usedV ⟨kind, n, ao, m, cap, items, st, cl, gs, lk⟩) → Calls Tryd.prog 40 #[.agg #[.int .i64 kind, .int .i64 n, .slice ao m cap, .int .i64 st, .int .i64 cl, .bool gs, .string lk], .agg #[.int .i64 (usedV ⟨kind, n, ao, m, cap, items, st, cl, gs, lk⟩).kind, .int .i64 (usedV ⟨kind, n, ao, m, cap, items, st, cl, gs, lk⟩).n, .slice (usedV ⟨kind, n, ao, m, cap, items, st, cl, gs, lk⟩).ao (usedV ⟨kind, n, ao, m, cap, items, st, cl, gs, lk⟩).m (usedV ⟨kind, n, ao, m, cap, items, st, cl, gs, lk⟩).cap, .int .i64 (usedV ⟨kind, n, ao, m, cap, items, st, cl, gs, lk⟩).set, .int .i64 (usedV ⟨kind, n, ao, m, cap, items, st, cl, gs, lk⟩).clr, .bool (usedV ⟨kind, n, ao, m, cap, items, st, cl, gs, lk⟩).goes, .string (usedV ⟨kind, n, ao, m, cap, items, st, cl, gs, lk⟩).link]] w' fun e w2 => e = .returned (.bool (Ac.same1 (PV.pt ⟨kind, n, ao, m, cap, items, st, cl, gs, lk⟩) (Ac.usedP (PV.pt ⟨kind, n, ao, m, cap, items, st, cl, gs, lk⟩)))) ∧ Below w'.heap.size w' w2) := fun w' h h' => by
    have := same1_any ⟨kind, n, ao, m, cap, items, st, cl, gs, lk⟩ (usedV ⟨kind, n, ao, m, cap, items, st, cl, gs, lk⟩) w' h h'
    rw [usedV_pt] at this
    exact this
  have HPv : Hid (∀ W w', Pvt W ⟨kind, n, ao, m, cap, items, st, cl, gs, lk⟩ → Below W.heap.size W w' → Pvt w' ⟨kind, n, ao, m, cap, items, st, cl, gs, lk⟩) := fun W w' h hb => h.below hb
  clear hP
  generalize Ac.same1 (PV.pt ⟨kind, n, ao, m, cap, items, st, cl, gs, lk⟩) (Ac.usedP (PV.pt ⟨kind, n, ao, m, cap, items, st, cl, gs, lk⟩)) = sm at *
  generalize usedV ⟨kind, n, ao, m, cap, items, st, cl, gs, lk⟩ = u at *
  have HR : Hid (r = if e0 = 0 then (if sm then 0 else 4) else e0) := hr
  clear hr
  have HK : Hid (kind = 1 ∨ kind = 2 ∨ kind = 3) := hk
  clear hk
  rcases HK.out with h | h | h
  · subst h
    go_enter Tryd.func38, Tryd.ntmps38
    go_wp2_with fail
    change Calls Tryd.prog _ _ (boxp ⟨1, n, ao, m, cap, items, st, cl, gs, lk⟩ w) _
    refine CC.out.mono ?_
    rintro e w1 ⟨rfl, hb⟩
    have H2 : Hid (Below w.heap.size w w1) := H1.out.trans (hb.mono H1.out.size)
    obtain ⟨d0, d1, d2, d3, d4, d5, d6⟩ := HSV.out.below hb
    simp only [Nat.zero_add] at d0 d1 d2 d3 d4 d5 d6
    have HP1 := HPv.out _ _ HP.out hb
    have CU : Hid (∀ w', Below w1.heap.size w1 w' → Calls Tryd.prog 60 #[.agg #[.int .i64 1, .int .i64 n, .slice ao m cap, .int .i64 st, .int .i64 cl, .bool gs, .string lk]] w' fun e w2 => e = .returned (.agg #[.int .i64 u.kind, .int .i64 u.n, .slice u.ao u.m u.cap, .int .i64 u.set, .int .i64 u.clr, .bool u.goes, .string u.link]) ∧ Below w1.heap.size w1 w2) := fun w' hw => (CU0.out w').mono (fun e w2 ⟨he, hb⟩ => ⟨he, hw.trans (hb.mono hw.size)⟩)
    have CS : Hid (∀ w', Below w1.heap.size w1 w' → Calls Tryd.prog 40 #[.agg #[.int .i64 1, .int .i64 n, .slice ao m cap, .int .i64 st, .int .i64 cl, .bool gs, .string lk], .agg #[.int .i64 u.kind, .int .i64 u.n, .slice u.ao u.m u.cap, .int .i64 u.set, .int .i64 u.clr, .bool u.goes, .string u.link]] w' fun e w2 => e = .returned (.bool sm) ∧ Below w1.heap.size w1 w2) := fun w' hw => (CS0.out w' (HPv.out _ _ HP1 hw) (HU0.out _ (HPv.out _ _ HP1 hw))).mono (fun e w2 ⟨he, hb⟩ => ⟨he, hw.trans (hb.mono hw.size)⟩)
    clear hb HP1
    by_cases h0 : e0 = 0
    · subst h0
      have hr : r = if sm then 0 else 4 := HR.out
      clear HR
      cases sm
      all_goals
        first | (obtain rfl : r = 0 := hr) | (obtain rfl : r = 4 := hr)
        go_wp2_with fail
        go_region_held3 (fun w' => w'.cell? ⟨w.heap.size, 0, none⟩ = some (.int .i64 1) ∧ w'.cell? ⟨w.heap.size, 1, none⟩ = some (.int .i64 n) ∧ w'.cell? ⟨w.heap.size, 2, none⟩ = some (.slice ao m cap) ∧ w'.cell? ⟨w.heap.size, 3, none⟩ = some (.int .i64 st) ∧ w'.cell? ⟨w.heap.size, 4, none⟩ = some (.int .i64 cl) ∧ w'.cell? ⟨w.heap.size, 5, none⟩ = some (.bool gs) ∧ w'.cell? ⟨w.heap.size, 6, none⟩ = some (.string lk) ∧ Below w1.heap.size w1 w') (first | exact ⟨d0, d1, d2, d3, d4, d5, d6, (Below.refl _ _).drew⟩ | exact ⟨cell_below d0 (by assumption), cell_below d1 (by assumption), cell_below d2 (by assumption), cell_below d3 (by assumption), cell_below d4 (by assumption), cell_below d5 (by assumption), cell_below d6 (by assumption), by assumption⟩) (first | (go_at_call 60; refine (CU.out _ ?_).mono ?_; exact (by assumption : _ ∧ _ ∧ _ ∧ _ ∧ _ ∧ _ ∧ _ ∧ Below w1.heap.size w1 _).2.2.2.2.2.2.2; rintro e w4 ⟨rfl, hb⟩) | (go_at_call 40; refine (CS.out _ ?_).mono ?_; exact (by assumption : _ ∧ _ ∧ _ ∧ _ ∧ _ ∧ _ ∧ _ ∧ Below w1.heap.size w1 _).2.2.2.2.2.2.2; rintro e w4 ⟨rfl, hb⟩))
        have H4 : Hid (Below w.heap.size w w4) := H2.out.trans (hb.mono H2.out.size)
        clear hb
        go_wp2
        go_ret
        exact ⟨rfl, H4.out⟩
    · obtain rfl : r = e0 := by rw [HR.out, if_neg h0]
      have h0' : (r == 0) = false := by simp [h0]
      clear HR
      go_wp2
      go_quiet (fail)
      go_wp2
      go_ret
      exact ⟨rfl, H2.out.trans ((drewN_blw _ _).mono H2.out.size)⟩
  · subst h
    go_enter Tryd.func38, Tryd.ntmps38
    go_wp2_with fail
    change Calls Tryd.prog _ _ (boxp ⟨2, n, ao, m, cap, items, st, cl, gs, lk⟩ w) _
    refine CC.out.mono ?_
    rintro e w1 ⟨rfl, hb⟩
    have H2 : Hid (Below w.heap.size w w1) := H1.out.trans (hb.mono H1.out.size)
    obtain ⟨d0, d1, d2, d3, d4, d5, d6⟩ := HSV.out.below hb
    simp only [Nat.zero_add] at d0 d1 d2 d3 d4 d5 d6
    have HP1 := HPv.out _ _ HP.out hb
    have CU : Hid (∀ w', Below w1.heap.size w1 w' → Calls Tryd.prog 60 #[.agg #[.int .i64 2, .int .i64 n, .slice ao m cap, .int .i64 st, .int .i64 cl, .bool gs, .string lk]] w' fun e w2 => e = .returned (.agg #[.int .i64 u.kind, .int .i64 u.n, .slice u.ao u.m u.cap, .int .i64 u.set, .int .i64 u.clr, .bool u.goes, .string u.link]) ∧ Below w1.heap.size w1 w2) := fun w' hw => (CU0.out w').mono (fun e w2 ⟨he, hb⟩ => ⟨he, hw.trans (hb.mono hw.size)⟩)
    have CS : Hid (∀ w', Below w1.heap.size w1 w' → Calls Tryd.prog 40 #[.agg #[.int .i64 2, .int .i64 n, .slice ao m cap, .int .i64 st, .int .i64 cl, .bool gs, .string lk], .agg #[.int .i64 u.kind, .int .i64 u.n, .slice u.ao u.m u.cap, .int .i64 u.set, .int .i64 u.clr, .bool u.goes, .string u.link]] w' fun e w2 => e = .returned (.bool sm) ∧ Below w1.heap.size w1 w2) := fun w' hw => (CS0.out w' (HPv.out _ _ HP1 hw) (HU0.out _ (HPv.out _ _ HP1 hw))).mono (fun e w2 ⟨he, hb⟩ => ⟨he, hw.trans (hb.mono hw.size)⟩)
    clear hb HP1
    by_cases h0 : e0 = 0
    · subst h0
      have hr : r = if sm then 0 else 4 := HR.out
      clear HR
      cases sm
      all_goals
        first | (obtain rfl : r = 0 := hr) | (obtain rfl : r = 4 := hr)
        go_wp2_with fail
        go_region_held3 (fun w' => w'.cell? ⟨w.heap.size, 0, none⟩ = some (.int .i64 2) ∧ w'.cell? ⟨w.heap.size, 1, none⟩ = some (.int .i64 n) ∧ w'.cell? ⟨w.heap.size, 2, none⟩ = some (.slice ao m cap) ∧ w'.cell? ⟨w.heap.size, 3, none⟩ = some (.int .i64 st) ∧ w'.cell? ⟨w.heap.size, 4, none⟩ = some (.int .i64 cl) ∧ w'.cell? ⟨w.heap.size, 5, none⟩ = some (.bool gs) ∧ w'.cell? ⟨w.heap.size, 6, none⟩ = some (.string lk) ∧ Below w1.heap.size w1 w') (first | exact ⟨d0, d1, d2, d3, d4, d5, d6, (Below.refl _ _).drew⟩ | exact ⟨cell_below d0 (by assumption), cell_below d1 (by assumption), cell_below d2 (by assumption), cell_below d3 (by assumption), cell_below d4 (by assumption), cell_below d5 (by assumption), cell_below d6 (by assumption), by assumption⟩) (first | (go_at_call 60; refine (CU.out _ ?_).mono ?_; exact (by assumption : _ ∧ _ ∧ _ ∧ _ ∧ _ ∧ _ ∧ _ ∧ Below w1.heap.size w1 _).2.2.2.2.2.2.2; rintro e w4 ⟨rfl, hb⟩) | (go_at_call 40; refine (CS.out _ ?_).mono ?_; exact (by assumption : _ ∧ _ ∧ _ ∧ _ ∧ _ ∧ _ ∧ _ ∧ Below w1.heap.size w1 _).2.2.2.2.2.2.2; rintro e w4 ⟨rfl, hb⟩))
        have H4 : Hid (Below w.heap.size w w4) := H2.out.trans (hb.mono H2.out.size)
        clear hb
        go_wp2
        go_ret
        exact ⟨rfl, H4.out⟩
    · obtain rfl : r = e0 := by rw [HR.out, if_neg h0]
      have h0' : (r == 0) = false := by simp [h0]
      clear HR
      go_wp2
      go_quiet (fail)
      go_wp2
      go_ret
      exact ⟨rfl, H2.out.trans ((drewN_blw _ _).mono H2.out.size)⟩
  · subst h
    go_enter Tryd.func38, Tryd.ntmps38
    go_wp2_with fail
    change Calls Tryd.prog _ _ (boxp ⟨3, n, ao, m, cap, items, st, cl, gs, lk⟩ w) _
    refine CC.out.mono ?_
    rintro e w1 ⟨rfl, hb⟩
    have H2 : Hid (Below w.heap.size w w1) := H1.out.trans (hb.mono H1.out.size)
    obtain ⟨d0, d1, d2, d3, d4, d5, d6⟩ := HSV.out.below hb
    simp only [Nat.zero_add] at d0 d1 d2 d3 d4 d5 d6
    have HP1 := HPv.out _ _ HP.out hb
    have CU : Hid (∀ w', Below w1.heap.size w1 w' → Calls Tryd.prog 60 #[.agg #[.int .i64 3, .int .i64 n, .slice ao m cap, .int .i64 st, .int .i64 cl, .bool gs, .string lk]] w' fun e w2 => e = .returned (.agg #[.int .i64 u.kind, .int .i64 u.n, .slice u.ao u.m u.cap, .int .i64 u.set, .int .i64 u.clr, .bool u.goes, .string u.link]) ∧ Below w1.heap.size w1 w2) := fun w' hw => (CU0.out w').mono (fun e w2 ⟨he, hb⟩ => ⟨he, hw.trans (hb.mono hw.size)⟩)
    have CS : Hid (∀ w', Below w1.heap.size w1 w' → Calls Tryd.prog 40 #[.agg #[.int .i64 3, .int .i64 n, .slice ao m cap, .int .i64 st, .int .i64 cl, .bool gs, .string lk], .agg #[.int .i64 u.kind, .int .i64 u.n, .slice u.ao u.m u.cap, .int .i64 u.set, .int .i64 u.clr, .bool u.goes, .string u.link]] w' fun e w2 => e = .returned (.bool sm) ∧ Below w1.heap.size w1 w2) := fun w' hw => (CS0.out w' (HPv.out _ _ HP1 hw) (HU0.out _ (HPv.out _ _ HP1 hw))).mono (fun e w2 ⟨he, hb⟩ => ⟨he, hw.trans (hb.mono hw.size)⟩)
    clear hb HP1
    by_cases h0 : e0 = 0
    · subst h0
      have hr : r = if sm then 0 else 4 := HR.out
      clear HR
      cases sm
      all_goals
        first | (obtain rfl : r = 0 := hr) | (obtain rfl : r = 4 := hr)
        go_wp2_with fail
        go_region_held3 (fun w' => w'.cell? ⟨w.heap.size, 0, none⟩ = some (.int .i64 3) ∧ w'.cell? ⟨w.heap.size, 1, none⟩ = some (.int .i64 n) ∧ w'.cell? ⟨w.heap.size, 2, none⟩ = some (.slice ao m cap) ∧ w'.cell? ⟨w.heap.size, 3, none⟩ = some (.int .i64 st) ∧ w'.cell? ⟨w.heap.size, 4, none⟩ = some (.int .i64 cl) ∧ w'.cell? ⟨w.heap.size, 5, none⟩ = some (.bool gs) ∧ w'.cell? ⟨w.heap.size, 6, none⟩ = some (.string lk) ∧ Below w1.heap.size w1 w') (first | exact ⟨d0, d1, d2, d3, d4, d5, d6, (Below.refl _ _).drew⟩ | exact ⟨cell_below d0 (by assumption), cell_below d1 (by assumption), cell_below d2 (by assumption), cell_below d3 (by assumption), cell_below d4 (by assumption), cell_below d5 (by assumption), cell_below d6 (by assumption), by assumption⟩) (first | (go_at_call 60; refine (CU.out _ ?_).mono ?_; exact (by assumption : _ ∧ _ ∧ _ ∧ _ ∧ _ ∧ _ ∧ _ ∧ Below w1.heap.size w1 _).2.2.2.2.2.2.2; rintro e w4 ⟨rfl, hb⟩) | (go_at_call 40; refine (CS.out _ ?_).mono ?_; exact (by assumption : _ ∧ _ ∧ _ ∧ _ ∧ _ ∧ _ ∧ _ ∧ Below w1.heap.size w1 _).2.2.2.2.2.2.2; rintro e w4 ⟨rfl, hb⟩))
        have H4 : Hid (Below w.heap.size w w4) := H2.out.trans (hb.mono H2.out.size)
        clear hb
        go_wp2
        go_ret
        exact ⟨rfl, H4.out⟩
    · obtain rfl : r = e0 := by rw [HR.out, if_neg h0]
      have h0' : (r == 0) = false := by simp [h0]
      clear HR
      go_wp2
      go_quiet (fail)
      go_wp2
      go_ret
      exact ⟨rfl, H2.out.trans ((drewN_blw _ _).mono H2.out.size)⟩
end Go.Proofs.YtgidmnoinbbajaaDoor
