/-
  Package op: what is wrong with a part.
-/
import Derived.Test.YtgidmnoinbbajaaDoorOb
import Derived.Laws.BitsAll
namespace Go.Proofs.YtgidmnoinbbajaaDoor
open Go.RowKit

theorem chN_any (n : Int) (w : World) : Calls Tryd.prog 59 #[.int .i64 n] w fun e w' => e = .returned (.int .i64 (Ac.errN n)) ∧ w' = w := by
  unfold Ac.errN
  by_cases h1 : n < 1
  · rw [if_pos (.inl h1)]
    go_enter Tryd.func59, Tryd.ntmps59
    go_wp2
    go_ret
    exact ⟨rfl, rfl⟩
  · by_cases h2 : 80 < n
    · rw [if_pos (.inr h2)]
      go_enter Tryd.func59, Tryd.ntmps59
      go_wp2
      go_ret
      exact ⟨rfl, rfl⟩
    · rw [if_neg (by omega)]
      go_enter Tryd.func59, Tryd.ntmps59
      go_wp2
      go_ret
      exact ⟨rfl, rfl⟩

theorem areM_any (n : Int) (w : World) : Calls Tryd.prog 76 #[.int .i64 n] w fun e w' => e = .returned (.bool (Ac.areM n)) ∧ w' = w := by
  unfold Ac.areM
  by_cases h1 : 0 ≤ n
  · have e1 : decide (0 ≤ n) = true := by simp [h1]
    rw [e1, Bool.true_and]
    go_enter Tryd.func76, Tryd.ntmps76
    go_wp2
    go_ret
    exact ⟨rfl, rfl⟩
  · have e1 : decide (0 ≤ n) = false := by simp; omega
    rw [e1, Bool.false_and]
    go_enter Tryd.func76, Tryd.ntmps76
    go_wp2
    go_ret
    exact ⟨rfl, rfl⟩

set_option maxHeartbeats 800000 in
theorem chPut_any (ao : Option Addr) (m cap : Nat) (l : List It) (w : World) (hD : Doc w ao m cap l) (hS : Sch w) : Calls Tryd.prog 58 #[.slice ao m cap] w fun e w' => e = .returned (.int .i64 (Ac.errPut l)) ∧ Below w.heap.size w w' := by
  have CI : Hid (Calls Tryd.prog 44 #[.slice ao m cap] w fun e w' => e = .returned (.int .i64 (Dc.errs l)) ∧ Below w.heap.size w w') := items_any ao _ cap l w hD hS
  unfold Ac.errPut
  rw [hD.len]
  clear hD hS
  by_cases h1 : m < 1
  · rw [if_pos (.inl h1)]
    obtain rfl : m = 0 := by omega
    go_enter Tryd.func58, Tryd.ntmps58
    go_wp2
    go_ret
    exact ⟨rfl, Below.refl _ _⟩
  · by_cases h2 : 80 < m
    · rw [if_pos (.inr h2)]
      have e1 : ((m : Int) < 1) = False := by simp; omega
      go_enter Tryd.func58, Tryd.ntmps58
      go_wp2
      go_ret
      exact ⟨rfl, Below.refl _ _⟩
    · rw [if_neg (by omega)]
      generalize Dc.errs l = r at *
      go_enter Tryd.func58, Tryd.ntmps58
      go_wp2_with fail
      refine CI.out.mono ?_
      rintro e w1 ⟨rfl, hb⟩
      have H1 : Hid (Below w.heap.size w w1) := hb
      clear hb
      go_wp2
      go_ret
      exact ⟨rfl, H1.out⟩

theorem bits_and {a b : Int} (ha : Ac.areM a = true) (hb : Ac.areM b = true) : bits .and .i64 a b = ((a.toNat &&& b.toNat : Nat) : Int) := by
  unfold Ac.areM at ha hb
  simp only [Bool.and_eq_true, decide_eq_true_eq] at ha hb
  obtain ⟨x, hx, rfl⟩ := Ac.m4_nat ⟨ha.1, ha.2⟩
  obtain ⟨y, hy, rfl⟩ := Ac.m4_nat ⟨hb.1, hb.2⟩
  have : ∀ x : Fin 4, ∀ y : Fin 4, bits .and .i64 ((x.val : Nat) : Int) ((y.val : Nat) : Int) = ((((x.val : Nat) : Int).toNat &&& ((y.val : Nat) : Int).toNat : Nat) : Int) := by decide +kernel
  exact this ⟨x, hx⟩ ⟨y, hy⟩
set_option maxRecDepth 100000 in
set_option maxHeartbeats 1600000 in
theorem chK_any (v : PV) (w : World) (hf : v.link.size ≤ 9223372036854775807) (hS : Sch w) : Calls Tryd.prog 57 #[.agg #[.int .i64 v.kind, .int .i64 v.n, .slice v.ao v.m v.cap, .int .i64 v.set, .int .i64 v.clr, .bool v.goes, .string v.link]] w fun e w' => e = .returned (.int .i64 (Ac.errK v.pt)) ∧ Below w.heap.size w w' := by
  obtain ⟨kind, n, ao, m, cap, items, st, cl, gs, lk⟩ := v
  simp only at hf
  have H1 : Hid (Below w.heap.size w (boxp ⟨kind, n, ao, m, cap, items, st, cl, gs, lk⟩ w)) := boxp_below _ w
  have HS : Hid (Sch (boxp ⟨kind, n, ao, m, cap, items, st, cl, gs, lk⟩ w)) := hS.below (boxp_below _ w)
  have HSV : Hid (Seven (boxp ⟨kind, n, ao, m, cap, items, st, cl, gs, lk⟩ w) w.heap.size 0 ⟨kind, n, ao, m, cap, items, st, cl, gs, lk⟩) := boxp_at _ w
  have HF : Hid (lk.size ≤ 9223372036854775807) := hf
  clear hS hf
  obtain ⟨r, hr⟩ : ∃ r, Ac.errK (PV.pt ⟨kind, n, ao, m, cap, items, st, cl, gs, lk⟩) = r := ⟨_, rfl⟩
  rw [hr]
  change (if Ac.marksBad st cl then 3 else if Ac.linkBad gs lk then 4 else Ac.errN n) = r at hr
  have HR : Hid ((if Ac.marksBad st cl then 3 else if Ac.linkBad gs lk then 4 else Ac.errN n) = r) := hr
  clear hr
  cases h1 : Ac.areM st
  · obtain rfl : r = 3 := by rw [← HR.out]; unfold Ac.marksBad; rw [h1]; rfl
    clear HR
    go_enter Tryd.func57, Tryd.ntmps57
    go_wp2_with fail
    change Calls Tryd.prog 76 _ (boxp ⟨kind, n, ao, m, cap, items, st, cl, gs, lk⟩ w) _
    generalize boxp ⟨kind, n, ao, m, cap, items, st, cl, gs, lk⟩ w = W at *
    obtain ⟨c0, c1, c2, c3, c4, c5, c6⟩ := HSV.out
    simp only at c0 c1 c2 c3 c4 c5 c6
    refine (areM_any st _).mono ?_
    rintro e w1 ⟨rfl, rfl⟩
    rw [h1]
    go_wp2
    go_ret
    exact ⟨rfl, H1.out⟩
  · cases h2 : Ac.areM cl
    · obtain rfl : r = 3 := by rw [← HR.out]; unfold Ac.marksBad; rw [h1, h2]; rfl
      clear HR
      go_enter Tryd.func57, Tryd.ntmps57
      go_wp2_with fail
      change Calls Tryd.prog 76 _ (boxp ⟨kind, n, ao, m, cap, items, st, cl, gs, lk⟩ w) _
      generalize boxp ⟨kind, n, ao, m, cap, items, st, cl, gs, lk⟩ w = W at *
      obtain ⟨c0, c1, c2, c3, c4, c5, c6⟩ := HSV.out
      simp only at c0 c1 c2 c3 c4 c5 c6
      refine (areM_any st _).mono ?_
      rintro e w1 ⟨rfl, rfl⟩
      rw [h1]
      go_wp2_with fail
      refine (areM_any cl _).mono ?_
      rintro e w1 ⟨rfl, rfl⟩
      rw [h2]
      go_wp2
      go_ret
      exact ⟨rfl, H1.out⟩
    · have hbits := bits_and h1 h2
      obtain ⟨ab, hab⟩ : ∃ ab, st.toNat &&& cl.toNat = ab := ⟨_, rfl⟩
      have HAB : Hid (Ac.marksBad st cl = (ab != 0)) := by show _ = _; unfold Ac.marksBad; rw [h1, h2, hab]; rfl
      rw [hab] at hbits
      clear hab
      by_cases h3 : ab = 0
      · subst h3
        cases h4 : lk.toList.isEmpty
        · cases gs
          · obtain rfl : r = 4 := by rw [← HR.out, HAB.out]; unfold Ac.linkBad; rw [h4]; rfl
            clear HR
            go_enter Tryd.func57, Tryd.ntmps57
            go_wp2_with fail
            change Calls Tryd.prog 76 _ (boxp ⟨kind, n, ao, m, cap, items, st, cl, false, lk⟩ w) _
            generalize boxp ⟨kind, n, ao, m, cap, items, st, cl, false, lk⟩ w = W at *
            obtain ⟨c0, c1, c2, c3, c4, c5, c6⟩ := HSV.out
            simp only at c0 c1 c2 c3 c4 c5 c6
            refine (areM_any st _).mono ?_
            rintro e w1 ⟨rfl, rfl⟩
            rw [h1]
            go_wp2_with fail
            refine (areM_any cl _).mono ?_
            rintro e w1 ⟨rfl, rfl⟩
            rw [h2]
            go_wp2
            go_ret
            exact ⟨rfl, H1.out⟩
          · cases h5 : Lk.may lk.data.toList
            · obtain rfl : r = 4 := by rw [← HR.out, HAB.out]; unfold Ac.linkBad; rw [h4, h5]; rfl
              clear HR
              go_enter Tryd.func57, Tryd.ntmps57
              go_wp2_with fail
              change Calls Tryd.prog 76 _ (boxp ⟨kind, n, ao, m, cap, items, st, cl, true, lk⟩ w) _
              generalize boxp ⟨kind, n, ao, m, cap, items, st, cl, true, lk⟩ w = W at *
              obtain ⟨c0, c1, c2, c3, c4, c5, c6⟩ := HSV.out
              simp only at c0 c1 c2 c3 c4 c5 c6
              refine (areM_any st _).mono ?_
              rintro e w1 ⟨rfl, rfl⟩
              rw [h1]
              go_wp2_with fail
              refine (areM_any cl _).mono ?_
              rintro e w1 ⟨rfl, rfl⟩
              rw [h2]
              go_wp2_with fail
              refine (may_any lk _ HF.out HS.out).mono ?_
              rintro e w2 ⟨rfl, hb⟩
              rw [h5]
              have H3 : Hid (Below w.heap.size w w2) := H1.out.trans (hb.mono H1.out.size)
              clear hb
              go_wp2
              go_ret
              exact ⟨rfl, H3.out⟩
            · obtain rfl : r = Ac.errN n := by rw [← HR.out, HAB.out]; unfold Ac.linkBad; rw [h4, h5]; rfl
              clear HR
              go_enter Tryd.func57, Tryd.ntmps57
              go_wp2_with fail
              change Calls Tryd.prog 76 _ (boxp ⟨kind, n, ao, m, cap, items, st, cl, true, lk⟩ w) _
              generalize boxp ⟨kind, n, ao, m, cap, items, st, cl, true, lk⟩ w = W at *
              obtain ⟨c0, c1, c2, c3, c4, c5, c6⟩ := HSV.out
              simp only at c0 c1 c2 c3 c4 c5 c6
              refine (areM_any st _).mono ?_
              rintro e w1 ⟨rfl, rfl⟩
              rw [h1]
              go_wp2_with fail
              refine (areM_any cl _).mono ?_
              rintro e w1 ⟨rfl, rfl⟩
              rw [h2]
              go_wp2_with fail
              refine (may_any lk _ HF.out HS.out).mono ?_
              rintro e w2 ⟨rfl, hb⟩
              rw [h5]
              have H3 : Hid (Below w.heap.size w w2) := H1.out.trans (hb.mono H1.out.size)
              have d1 : w2.cell? ⟨w.heap.size, 1, none⟩ = some (.int .i64 n) := (HSV.out.below hb).c1
              clear hb
              go_wp2_with fail
              refine (chN_any n _).mono ?_
              rintro e w3 ⟨rfl, rfl⟩
              go_wp2
              go_ret
              exact ⟨rfl, H3.out⟩
        · obtain rfl : r = Ac.errN n := by rw [← HR.out, HAB.out]; unfold Ac.linkBad; rw [h4]; rfl
          clear HR
          go_enter Tryd.func57, Tryd.ntmps57
          go_wp2_with fail
          change Calls Tryd.prog 76 _ (boxp ⟨kind, n, ao, m, cap, items, st, cl, gs, lk⟩ w) _
          generalize boxp ⟨kind, n, ao, m, cap, items, st, cl, gs, lk⟩ w = W at *
          obtain ⟨c0, c1, c2, c3, c4, c5, c6⟩ := HSV.out
          simp only at c0 c1 c2 c3 c4 c5 c6
          refine (areM_any st _).mono ?_
          rintro e w1 ⟨rfl, rfl⟩
          rw [h1]
          go_wp2_with fail
          refine (areM_any cl _).mono ?_
          rintro e w1 ⟨rfl, rfl⟩
          rw [h2]
          go_wp2_with fail
          refine (chN_any n _).mono ?_
          rintro e w3 ⟨rfl, rfl⟩
          go_wp2
          go_ret
          exact ⟨rfl, H1.out⟩
      · have h3' : ((ab : Int) != 0) = true := by simp; omega
        obtain rfl : r = 3 := by rw [← HR.out, HAB.out]; have : (ab != 0) = true := by simp [h3]
                                 rw [this]; rfl
        clear HR
        go_enter Tryd.func57, Tryd.ntmps57
        go_wp2_with fail
        change Calls Tryd.prog 76 _ (boxp ⟨kind, n, ao, m, cap, items, st, cl, gs, lk⟩ w) _
        generalize boxp ⟨kind, n, ao, m, cap, items, st, cl, gs, lk⟩ w = W at *
        obtain ⟨c0, c1, c2, c3, c4, c5, c6⟩ := HSV.out
        simp only at c0 c1 c2 c3 c4 c5 c6
        refine (areM_any st _).mono ?_
        rintro e w1 ⟨rfl, rfl⟩
        rw [h1]
        go_wp2_with fail
        refine (areM_any cl _).mono ?_
        rintro e w1 ⟨rfl, rfl⟩
        rw [h2]
        go_wp2
        go_ret
        exact ⟨rfl, H1.out⟩
end Go.Proofs.YtgidmnoinbbajaaDoor
