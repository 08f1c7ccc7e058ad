/-
  The reference's check of a part is the program's.
-/
import Derived.Test.YtbhcklkbckacpaaGreatDoorM6
namespace Go.Proofs.YtbhcklkbckacpaaGreatDoor
open Go.RowKit
namespace Ac
theorem empty_link {l : ByteArray} : l.toList.isEmpty = true ↔ l = ⟨#[]⟩ := by
  constructor
  · intro h
    refine ext_list ?_
    rw [← Lib.toList_data]
    simpa using h
  · rintro rfl
    rw [Lib.toList_data]
    rfl
theorem e1_keep (n : Int) (items : List It) (st cl : Int) (gs : Bool) (lk : ByteArray) : err1 ⟨1, n, items, st, cl, gs, lk⟩ = if marksBad st cl then 3 else if linkBad gs lk then 4 else if n < 1 ∨ 80 < n then 3 else if items.length = 0 then 0 else 4 := by
  have e0 : err0 ⟨1, n, items, st, cl, gs, lk⟩ = if marksBad st cl then 3 else if linkBad gs lk then 4 else if n < 1 ∨ 80 < n then 3 else 0 := rfl
  unfold err1
  rw [e0]
  cases marksBad st cl
  · cases linkBad gs lk
    · by_cases hn : n < 1 ∨ 80 < n
      · simp [hn]
      · have hs : same1 ⟨1, n, items, st, cl, gs, lk⟩ (usedP ⟨1, n, items, st, cl, gs, lk⟩) = true ↔ items.length = 0 := by
          rw [same1_eq]
          show _ = (⟨1, n, [], st, cl, gs, lk⟩ : Pt) ↔ _
          simp
        by_cases hi : items.length = 0
        · simp only [hn, hi, if_true, if_false, Bool.false_eq_true]
          rw [if_pos (hs.2 hi)]
        · simp only [hn, hi, if_true, if_false, Bool.false_eq_true]
          rw [if_neg (fun h => hi (hs.1 h))]
    · rfl
  · rfl
theorem e1_put (n : Int) (items : List It) (st cl : Int) (gs : Bool) (lk : ByteArray) : err1 ⟨2, n, items, st, cl, gs, lk⟩ = if items.length < 1 ∨ 80 < items.length then 2 else if Dc.errs items = 0 then (if st = 0 ∧ cl = 0 ∧ gs = false ∧ lk.toList.isEmpty = true ∧ n = 0 then 0 else 4) else Dc.errs items := by
  have e0 : err0 ⟨2, n, items, st, cl, gs, lk⟩ = if items.length < 1 ∨ 80 < items.length then 2 else Dc.errs items := rfl
  unfold err1
  rw [e0]
  by_cases hn : items.length < 1 ∨ 80 < items.length
  · rw [if_pos hn, if_pos hn]; rfl
  · rw [if_neg hn, if_neg hn]
    have hs : same1 ⟨2, n, items, st, cl, gs, lk⟩ (usedP ⟨2, n, items, st, cl, gs, lk⟩) = true ↔ st = 0 ∧ cl = 0 ∧ gs = false ∧ lk.toList.isEmpty = true ∧ n = 0 := by
      rw [same1_eq, empty_link]
      show _ = (⟨2, 0, items, 0, 0, false, ⟨#[]⟩⟩ : Pt) ↔ _
      simp only [Pt.mk.injEq, true_and]
      constructor
      · rintro ⟨a, b, c, d, e⟩; exact ⟨b, c, d, e, a⟩
      · rintro ⟨a, b, c, d, e⟩; exact ⟨e, a, b, c, d⟩
    by_cases he : Dc.errs items = 0
    · rw [if_pos he, if_pos he]
      by_cases hz : st = 0 ∧ cl = 0 ∧ gs = false ∧ lk.toList.isEmpty = true ∧ n = 0
      · rw [if_pos hz, if_pos (hs.2 hz)]
      · rw [if_neg hz, if_neg (fun h => hz (hs.1 h))]
    · rw [if_neg he, if_neg he]
theorem e1_cut (n : Int) (items : List It) (st cl : Int) (gs : Bool) (lk : ByteArray) : err1 ⟨3, n, items, st, cl, gs, lk⟩ = if n < 1 ∨ 80 < n then 3 else if st = 0 ∧ cl = 0 ∧ gs = false ∧ lk.toList.isEmpty = true ∧ items.length = 0 then 0 else 4 := by
  have e0 : err0 ⟨3, n, items, st, cl, gs, lk⟩ = if n < 1 ∨ 80 < n then 3 else 0 := rfl
  unfold err1
  rw [e0]
  by_cases hn : n < 1 ∨ 80 < n
  · rw [if_pos hn, if_pos hn]; rfl
  · rw [if_neg hn, if_neg hn, if_pos rfl]
    have hs : same1 ⟨3, n, items, st, cl, gs, lk⟩ (usedP ⟨3, n, items, st, cl, gs, lk⟩) = true ↔ st = 0 ∧ cl = 0 ∧ gs = false ∧ lk.toList.isEmpty = true ∧ items.length = 0 := by
      rw [same1_eq, empty_link, List.length_eq_zero_iff]
      show _ = (⟨3, n, [], 0, 0, false, ⟨#[]⟩⟩ : Pt) ↔ _
      simp only [Pt.mk.injEq, true_and]
      constructor
      · rintro ⟨a, b, c, d, e⟩; exact ⟨b, c, d, e, a⟩
      · rintro ⟨a, b, c, d, e⟩; exact ⟨e, a, b, c, d⟩
    by_cases hz : st = 0 ∧ cl = 0 ∧ gs = false ∧ lk.toList.isEmpty = true ∧ items.length = 0
    · rw [if_pos hz, if_pos (hs.2 hz)]
    · rw [if_neg hz, if_neg (fun h => hz (hs.1 h))]
end Ac

set_option maxRecDepth 100000 in
set_option maxHeartbeats 6400000 in
theorem Rch_cut (n : Int) (ao : Option Addr) (m cap : Nat) (items : List It) (st cl : Int) (gs : Bool) (lk : ByteArray) (w : World) (hl : items.length = m) (r : Int) (hr : Ac.err1 (PV.pt ⟨3, n, ao, m, cap, items, st, cl, gs, lk⟩) = r) : Calls Tryz.prog 174 #[.agg #[.int .i64 3, .int .i64 n, .slice ao m cap, .int .i64 st, .int .i64 cl, .bool gs, .string lk]] w fun e w' => e = .returned (.int .i64 r) ∧ Below w.heap.size w w' := by
  change Ac.err1 ⟨3, n, items, st, cl, gs, lk⟩ = r at hr
  rw [Ac.e1_cut, hl] at hr
  have H1 : Hid (Below w.heap.size w (boxp ⟨3, n, ao, m, cap, items, st, cl, gs, lk⟩ w)) := boxp_below _ w
  have HR : Hid ((if n < 1 ∨ 80 < n then 3 else if st = 0 ∧ cl = 0 ∧ gs = false ∧ lk.toList.isEmpty = true ∧ m = 0 then 0 else 4) = r) := hr
  clear hr hl
  by_cases h1 : n < 1
  · obtain rfl : r = 3 := by rw [← HR.out, if_pos (.inl h1)]
    go_enter Tryz.func174, Tryz.ntmps174
    go_wp2
    go_ret
    exact ⟨rfl, H1.out⟩
  · by_cases h2 : 80 < n
    · obtain rfl : r = 3 := by rw [← HR.out, if_pos (.inr h2)]
      go_enter Tryz.func174, Tryz.ntmps174
      go_wp2
      go_ret
      exact ⟨rfl, H1.out⟩
    · have HR2 : Hid ((if st = 0 ∧ cl = 0 ∧ gs = false ∧ lk.toList.isEmpty = true ∧ m = 0 then 0 else 4) = r) := by show _ = _; rw [← HR.out, if_neg (show ¬ (n < 1 ∨ 80 < n) by omega)]
      clear HR
      by_cases hs : st = 0
      · subst hs
        by_cases hc : cl = 0
        · subst hc
          cases gs
          · cases hk : lk.toList.isEmpty
            · obtain rfl : r = 4 := by rw [← HR2.out, if_neg (fun h => by rw [hk] at h; cases h.2.2.2.1)]
              go_enter Tryz.func174, Tryz.ntmps174
              go_wp2
              go_ret
              exact ⟨rfl, H1.out⟩
            · by_cases hm : m = 0
              · obtain rfl : r = 0 := by rw [← HR2.out, if_pos ⟨rfl, rfl, rfl, hk, hm⟩]
                subst hm
                go_enter Tryz.func174, Tryz.ntmps174
                go_wp2
                go_ret
                exact ⟨rfl, H1.out⟩
              · obtain rfl : r = 4 := by rw [← HR2.out, if_neg (fun h => hm h.2.2.2.2)]
                have hm' : ((m : Int) != 0) = true := by simp; omega
                go_enter Tryz.func174, Tryz.ntmps174
                go_wp2
                go_ret
                exact ⟨rfl, H1.out⟩
          · obtain rfl : r = 4 := by rw [← HR2.out, if_neg (fun h => by cases h.2.2.1)]
            go_enter Tryz.func174, Tryz.ntmps174
            go_wp2
            go_ret
            exact ⟨rfl, H1.out⟩
        · obtain rfl : r = 4 := by rw [← HR2.out, if_neg (fun h => hc h.2.1)]
          have hc' : (cl != 0) = true := by simp [hc]
          go_enter Tryz.func174, Tryz.ntmps174
          go_wp2
          go_ret
          exact ⟨rfl, H1.out⟩
      · obtain rfl : r = 4 := by rw [← HR2.out, if_neg (fun h => hs h.1)]
        have hs' : (st != 0) = true := by simp [hs]
        go_enter Tryz.func174, Tryz.ntmps174
        go_wp2
        go_ret
        exact ⟨rfl, H1.out⟩

set_option maxRecDepth 100000 in
set_option maxHeartbeats 6400000 in
theorem Rch_put (n : Int) (ao : Option Addr) (m cap : Nat) (items : List It) (st cl : Int) (gs : Bool) (lk : ByteArray) (w : World) (hD : Doc w ao m cap items) (r : Int) (hr : Ac.err1 (PV.pt ⟨2, n, ao, m, cap, items, st, cl, gs, lk⟩) = r) : Calls Tryz.prog 174 #[.agg #[.int .i64 2, .int .i64 n, .slice ao m cap, .int .i64 st, .int .i64 cl, .bool gs, .string lk]] w fun e w' => e = .returned (.int .i64 r) ∧ Below w.heap.size w w' := by
  change Ac.err1 ⟨2, n, items, st, cl, gs, lk⟩ = r at hr
  rw [Ac.e1_put, hD.len] at hr
  have H1 : Hid (Below w.heap.size w (boxp ⟨2, n, ao, m, cap, items, st, cl, gs, lk⟩ w)) := boxp_below _ w
  have HSV : Hid (Seven (boxp ⟨2, n, ao, m, cap, items, st, cl, gs, lk⟩ w) w.heap.size 0 ⟨2, n, ao, m, cap, items, st, cl, gs, lk⟩) := boxp_at _ w
  have CIT : Hid (Calls Tryz.prog 89 #[.slice ao m cap] (boxp ⟨2, n, ao, m, cap, items, st, cl, gs, lk⟩ w) fun e w' => e = .returned (.int .i64 (Dc.errs items)) ∧ Below (boxp ⟨2, n, ao, m, cap, items, st, cl, gs, lk⟩ w).heap.size (boxp ⟨2, n, ao, m, cap, items, st, cl, gs, lk⟩ w) w') := CheckItems_any ao _ cap items _ (hD.below H1.out)
  clear hD
  generalize Dc.errs items = ei at *
  have HR : Hid ((if m < 1 ∨ 80 < m then 2 else if ei = 0 then (if st = 0 ∧ cl = 0 ∧ gs = false ∧ lk.toList.isEmpty = true ∧ n = 0 then 0 else 4) else ei) = r) := hr
  clear hr
  by_cases h1 : m < 1
  · obtain rfl : r = 2 := by rw [← HR.out, if_pos (.inl h1)]
    obtain rfl : m = 0 := by omega
    clear CIT HSV
    go_enter Tryz.func174, Tryz.ntmps174
    go_wp2
    go_ret
    exact ⟨rfl, H1.out⟩
  · by_cases h2 : 80 < m
    · obtain rfl : r = 2 := by rw [← HR.out, if_pos (.inr h2)]
      clear CIT HSV
      go_enter Tryz.func174, Tryz.ntmps174
      go_wp2
      go_ret
      exact ⟨rfl, H1.out⟩
    · by_cases he : ei = 0
      · subst he
        have HR2 : Hid ((if st = 0 ∧ cl = 0 ∧ gs = false ∧ lk.toList.isEmpty = true ∧ n = 0 then 0 else 4) = r) := by show _ = _; rw [← HR.out, if_neg (show ¬ (m < 1 ∨ 80 < m) by omega), if_pos rfl]
        clear HR
        by_cases hs : st = 0
        · subst hs
          by_cases hc : cl = 0
          · subst hc
            cases gs
            · cases hk : lk.toList.isEmpty
              · obtain rfl : r = 4 := by rw [← HR2.out, if_neg (fun h => by rw [hk] at h; cases h.2.2.2.1)]
                go_enter Tryz.func174, Tryz.ntmps174
                go_wp2_with fail
                change Calls Tryz.prog 89 _ (boxp ⟨2, n, ao, m, cap, items, 0, 0, false, lk⟩ w) _
                generalize boxp ⟨2, n, ao, m, cap, items, 0, 0, false, lk⟩ w = W5 at *
                obtain ⟨d0, d1, d2, d3, d4, d5, d6⟩ := HSV.out
                simp only [Nat.zero_add] at d0 d1 d2 d3 d4 d5 d6
                refine CIT.out.mono ?_
                rintro e w1 ⟨rfl, hb⟩
                have H2 : Hid (Below w.heap.size w w1) := H1.out.trans (hb.mono H1.out.size)
                obtain ⟨b0, b1, b2, b3, b4, b5, b6⟩ := HSV.out.below hb
                simp only [Nat.zero_add] at b0 b1 b2 b3 b4 b5 b6
                clear hb
                go_wp2
                go_ret
                exact ⟨rfl, H2.out⟩
              · by_cases hm : n = 0
                · obtain rfl : r = 0 := by rw [← HR2.out, if_pos ⟨rfl, rfl, rfl, hk, hm⟩]
                  subst hm
                  go_enter Tryz.func174, Tryz.ntmps174
                  go_wp2_with fail
                  change Calls Tryz.prog 89 _ (boxp ⟨2, 0, ao, m, cap, items, 0, 0, false, lk⟩ w) _
                  generalize boxp ⟨2, 0, ao, m, cap, items, 0, 0, false, lk⟩ w = W5 at *
                  obtain ⟨d0, d1, d2, d3, d4, d5, d6⟩ := HSV.out
                  simp only [Nat.zero_add] at d0 d1 d2 d3 d4 d5 d6
                  refine CIT.out.mono ?_
                  rintro e w1 ⟨rfl, hb⟩
                  have H2 : Hid (Below w.heap.size w w1) := H1.out.trans (hb.mono H1.out.size)
                  obtain ⟨b0, b1, b2, b3, b4, b5, b6⟩ := HSV.out.below hb
                  simp only [Nat.zero_add] at b0 b1 b2 b3 b4 b5 b6
                  clear hb
                  go_wp2
                  go_ret
                  exact ⟨rfl, H2.out⟩
                · obtain rfl : r = 4 := by rw [← HR2.out, if_neg (fun h => hm h.2.2.2.2)]
                  have hm' : (n != 0) = true := by simp [hm]
                  go_enter Tryz.func174, Tryz.ntmps174
                  go_wp2_with fail
                  change Calls Tryz.prog 89 _ (boxp ⟨2, n, ao, m, cap, items, 0, 0, false, lk⟩ w) _
                  generalize boxp ⟨2, n, ao, m, cap, items, 0, 0, false, lk⟩ w = W5 at *
                  obtain ⟨d0, d1, d2, d3, d4, d5, d6⟩ := HSV.out
                  simp only [Nat.zero_add] at d0 d1 d2 d3 d4 d5 d6
                  refine CIT.out.mono ?_
                  rintro e w1 ⟨rfl, hb⟩
                  have H2 : Hid (Below w.heap.size w w1) := H1.out.trans (hb.mono H1.out.size)
                  obtain ⟨b0, b1, b2, b3, b4, b5, b6⟩ := HSV.out.below hb
                  simp only [Nat.zero_add] at b0 b1 b2 b3 b4 b5 b6
                  clear hb
                  go_wp2
                  go_ret
                  exact ⟨rfl, H2.out⟩
            · obtain rfl : r = 4 := by rw [← HR2.out, if_neg (fun h => by cases h.2.2.1)]
              go_enter Tryz.func174, Tryz.ntmps174
              go_wp2_with fail
              change Calls Tryz.prog 89 _ (boxp ⟨2, n, ao, m, cap, items, 0, 0, true, lk⟩ w) _
              generalize boxp ⟨2, n, ao, m, cap, items, 0, 0, true, lk⟩ w = W5 at *
              obtain ⟨d0, d1, d2, d3, d4, d5, d6⟩ := HSV.out
              simp only [Nat.zero_add] at d0 d1 d2 d3 d4 d5 d6
              refine CIT.out.mono ?_
              rintro e w1 ⟨rfl, hb⟩
              have H2 : Hid (Below w.heap.size w w1) := H1.out.trans (hb.mono H1.out.size)
              obtain ⟨b0, b1, b2, b3, b4, b5, b6⟩ := HSV.out.below hb
              simp only [Nat.zero_add] at b0 b1 b2 b3 b4 b5 b6
              clear hb
              go_wp2
              go_ret
              exact ⟨rfl, H2.out⟩
          · obtain rfl : r = 4 := by rw [← HR2.out, if_neg (fun h => hc h.2.1)]
            have hc' : (cl != 0) = true := by simp [hc]
            go_enter Tryz.func174, Tryz.ntmps174
            go_wp2_with fail
            change Calls Tryz.prog 89 _ (boxp ⟨2, n, ao, m, cap, items, 0, cl, gs, lk⟩ w) _
            generalize boxp ⟨2, n, ao, m, cap, items, 0, cl, gs, lk⟩ w = W5 at *
            obtain ⟨d0, d1, d2, d3, d4, d5, d6⟩ := HSV.out
            simp only [Nat.zero_add] at d0 d1 d2 d3 d4 d5 d6
            refine CIT.out.mono ?_
            rintro e w1 ⟨rfl, hb⟩
            have H2 : Hid (Below w.heap.size w w1) := H1.out.trans (hb.mono H1.out.size)
            obtain ⟨b0, b1, b2, b3, b4, b5, b6⟩ := HSV.out.below hb
            simp only [Nat.zero_add] at b0 b1 b2 b3 b4 b5 b6
            clear hb
            go_wp2
            go_ret
            exact ⟨rfl, H2.out⟩
        · obtain rfl : r = 4 := by rw [← HR2.out, if_neg (fun h => hs h.1)]
          have hs' : (st != 0) = true := by simp [hs]
          go_enter Tryz.func174, Tryz.ntmps174
          go_wp2_with fail
          change Calls Tryz.prog 89 _ (boxp ⟨2, n, ao, m, cap, items, st, cl, gs, lk⟩ w) _
          generalize boxp ⟨2, n, ao, m, cap, items, st, cl, gs, lk⟩ w = W5 at *
          obtain ⟨d0, d1, d2, d3, d4, d5, d6⟩ := HSV.out
          simp only [Nat.zero_add] at d0 d1 d2 d3 d4 d5 d6
          refine CIT.out.mono ?_
          rintro e w1 ⟨rfl, hb⟩
          have H2 : Hid (Below w.heap.size w w1) := H1.out.trans (hb.mono H1.out.size)
          obtain ⟨b0, b1, b2, b3, b4, b5, b6⟩ := HSV.out.below hb
          simp only [Nat.zero_add] at b0 b1 b2 b3 b4 b5 b6
          clear hb
          go_wp2
          go_ret
          exact ⟨rfl, H2.out⟩
      · obtain rfl : r = ei := by rw [← HR.out, if_neg (by omega), if_neg he]
        have he' : (r != 0) = true := by simp [he]
        clear HR
        go_enter Tryz.func174, Tryz.ntmps174
        go_wp2_with fail
        change Calls Tryz.prog 89 _ (boxp ⟨2, n, ao, m, cap, items, st, cl, gs, lk⟩ w) _
        generalize boxp ⟨2, n, ao, m, cap, items, st, cl, gs, lk⟩ w = W5 at *
        obtain ⟨d0, d1, d2, d3, d4, d5, d6⟩ := HSV.out
        simp only [Nat.zero_add] at d0 d1 d2 d3 d4 d5 d6
        refine CIT.out.mono ?_
        rintro e w1 ⟨rfl, hb⟩
        have H2 : Hid (Below w.heap.size w w1) := H1.out.trans (hb.mono H1.out.size)
        obtain ⟨b0, b1, b2, b3, b4, b5, b6⟩ := HSV.out.below hb
        simp only [Nat.zero_add] at b0 b1 b2 b3 b4 b5 b6
        clear hb
        go_wp2
        go_ret
        exact ⟨rfl, H2.out⟩
end Go.Proofs.YtbhcklkbckacpaaGreatDoor
