/-
  The law DocRuns returns true at whatever document.
-/
import Derived.Test.YtmifcioccnmlaaaDoorDz
import Derived.Test.YtmifcioccnmlaaaDoorDq
namespace Go.Proofs.YtmifcioccnmlaaaDoor
open Go.RowKit

set_option maxRecDepth 100000 in
set_option maxHeartbeats 1600000 in
theorem druns_bad (ao : Option Addr) (n cap : Nat) (l : List It) (w : World) (hD : Doc w ao n cap l) (hS : Sch w) (hc : ¬ Dc.check l = 0) :
    Calls Tryd.prog 10 #[.slice ao n cap] w fun e w' => e = .returned (.bool true) ∧ Below w.heap.size w w' := by
  have HS : Hid (Sch w) := hS
  have CR : Hid (Calls Tryd.prog 33 #[.slice ao n cap] w fun e w' => (∃ v, e = .returned (.tuple #[v, .int .i64 (Dc.check l)]) ∧ w'.ownsRow w.heap.size 3 1 v (Dc.runs l).length ((Dc.runs l).map ci)) ∧ Below w.heap.size w w') := runs_any ao n cap l w hD hS
  have CK : Hid (∀ w, Sch w → Calls Tryd.prog 35 #[] w fun e w' => e = .returned (.bool true) ∧ Below w.heap.size w w') := kept_any
  clear hD hS
  generalize Dc.check l = c at *
  have hcb : (c != 0) = true := by simpa using hc
  go_enter Tryd.func10, Tryd.ntmps10
  go_wp2_with fail
  refine CR.out.mono ?_
  rintro e w1 ⟨⟨v, rfl, _⟩, hb⟩
  have H1 : Hid (Below w.heap.size w w1) := hb
  have S1 : Hid (Sch w1) := HS.out.below hb
  clear hb CR
  go_wp2_with fail
  refine (CK.out _ S1.out).mono ?_
  rintro e w2 ⟨rfl, hb⟩
  have H2 : Hid (Below w.heap.size w w2) := H1.out.trans (hb.mono H1.out.size)
  have S2 : Hid (Sch w2) := S1.out.below hb
  clear hb
  go_wp2_with fail
  refine (CK.out _ S2.out).mono ?_
  rintro e w3 ⟨rfl, hb⟩
  have H3 : Hid (Below w.heap.size w w3) := H2.out.trans (hb.mono H2.out.size)
  clear hb
  go_wp2
  go_ret
  exact ⟨rfl, H3.out⟩

/-- In block g lie the numbers p. -/
def Ints (w : World) (g : Nat) (p : List Nat) : Prop := ∀ j (h : j < p.length), w.cell? ⟨g, j, none⟩ = some (.int .i64 p[j])
theorem Ints.below {w w' : World} {g : Nat} {p : List Nat} (h : Ints w g p) (hb : Below w.heap.size w w') : Ints w' g p := fun j hj => cell_below (h j hj) hb
theorem ints_of {w : World} {B g cap : Nat} {p : List Nat} (h : w.ownsRow B 3 1 (.slice (some ⟨g, 0, none⟩) p.length cap) p.length (p.map ci)) : Ints w g p := fun j hj => by
  have := h.cells (g := g) rfl j (ci p[j]) (by simp [hj])
  have e : (⟨g, 0, none⟩ : Addr).add j = ⟨g, j, none⟩ := by unfold Addr.add; split <;> simp_all
  rw [e] at this
  exact this

theorem two_below (w : World) (z y : It) : Below w.heap.size w (boxed y (boxed z w)) := (boxed_below z w).trans ((boxed_below y _).mono (boxed_below z w).size)

set_option maxRecDepth 100000 in
set_option maxHeartbeats 6400000 in
theorem druns_ok (ao : Option Addr) (n cap : Nat) (l : List It) (w : World) (hD : Doc w ao n cap l) (hS : Sch w) (hc : Dc.check l = 0) :
    Calls Tryd.prog 10 #[.slice ao n cap] w fun e w' => e = .returned (.bool true) ∧ Below w.heap.size w w' := by
  have HS : Hid (Sch w) := hS
  have hpos : 0 < n := by
    rcases Nat.eq_zero_or_pos n with h | h
    · subst h
      obtain rfl : l = [] := List.length_eq_zero_iff.1 hD.len
      have : Dc.check [] = 4 := rfl
      rw [this] at hc
      cases hc
    · exact h
  have h80 : n ≤ 80 := by rw [← hD.len]; exact Dc.check_ok hc
  obtain ⟨b, off, rfl, hA⟩ := hD.lies (by omega)
  have HA : Hid (At w b off l) := hA
  have HL : Hid (l.length = n) := hD.len
  have CR : Hid (Calls Tryd.prog 33 #[.slice (some ⟨b, off, none⟩) n cap] w fun e w' => (∃ v, e = .returned (.tuple #[v, .int .i64 0]) ∧ w'.ownsRow w.heap.size 3 1 v (Dc.runsTo l n).length ((Dc.runsTo l n).map ci)) ∧ Below w.heap.size w w') := by
    have := runs_any _ n cap l w hD hS
    rw [hc, show Dc.runs l = Dc.runsTo l n by unfold Dc.runs; rw [if_pos hc, hD.len]] at this
    exact this
  have CK : Hid (∀ w, Sch w → Calls Tryd.prog 35 #[] w fun e w' => e = .returned (.bool true) ∧ Below w.heap.size w w') := kept_any
  have hroom := hD.room
  have hbig := hD.big
  obtain ⟨p, hp⟩ : ∃ p, Dc.runsTo l n = p := ⟨_, rfl⟩
  have HF : Hid (∃ t, p = 0 :: t) := by show ∃ _, _; rw [← hp]; exact Dc.runsTo_first l n hpos
  have HPL : Hid (p.length ≤ n) := by show _ ≤ _; rw [← hp]; exact Dc.runsTo_len l n
  have HP : Hid (Dc.runsTo l n = p) := hp
  rw [hp] at CR
  clear hp hD hS hc hA
  go_enter Tryd.func10, Tryd.ntmps10
  go_wp2_with fail
  refine CR.out.mono ?_
  rintro e w1 ⟨⟨v, rfl, ho⟩, hb⟩
  obtain ⟨g, cg, rfl, _, _⟩ := ho.form (by obtain ⟨t, ht⟩ := HF.out; rw [ht]; simp)
  have H1 : Hid (Below w.heap.size w w1) := hb
  have S1 : Hid (Sch w1) := HS.out.below hb
  have I1 : Hid (Ints w1 g p) := ints_of ho
  have hcg : p.length ≤ cg := by
    rcases ho.2 with ⟨h, _⟩ | ⟨g', cap', cur, h, _, _, h2, _⟩
    · cases h
    · simp at h; omega
  have hcg2 : cg ≤ 9223372036854775807 := by
    rcases ho.2 with ⟨h, _⟩ | ⟨g', cap', cur, h, _, _, _, h2, _⟩
    · cases h
    · simp at h; unfold maxLen at h2; omega
  clear hb CR ho
  obtain ⟨m, hm⟩ : ∃ m, p.length = m := ⟨_, rfl⟩
  have HM : Hid (p.length = m) := hm
  have hm0 : 0 < m := by obtain ⟨t, ht⟩ := HF.out; rw [← hm, ht]; simp
  have hmb : ((m : Int) == 0) = false := by simp; omega
  have hmn : m ≤ n := by rw [← hm]; exact HPL.out
  rw [hm] at hcg ⊢
  clear hm
  go_wp2_with fail
  refine (CK.out _ S1.out).mono ?_
  rintro e w2 ⟨rfl, hb⟩
  have H2 : Hid (Below w.heap.size w w2) := H1.out.trans (hb.mono H1.out.size)
  have I2 : Hid (Ints w2 g p) := I1.out.below hb
  have A2 : Hid (At w2 b off l) := HA.out.below H2.out
  have i0 : w2.cell? ⟨g, 0, none⟩ = some (.int .i64 0) := by
    have := I2.out 0 (by rw [HM.out]; exact hm0)
    obtain ⟨t, rfl⟩ := HF.out
    exact this
  clear hb I1 H1 S1 HA HS CK
  go_wp2
  go_loopw [34] (fun i wr => ∃ k : Nat, k ≤ m ∧ i = .int .i64 k ∧ Below w2.heap.size w2 wr) (fun i _ => m - (intOf i).toNat)
  case atStart => exact ⟨0, Nat.zero_le _, rfl, Below.refl _ _⟩
  case round =>
    obtain ⟨k, hk, rfl, hbr⟩ := hrel
    have HB : Hid (Below w2.heap.size w2 wr) := hbr
    clear hbr i0
    by_cases hltm : k < m
    · have hlt : k < p.length := by rw [HM.out]; exact hltm
      obtain ⟨ff, hfrom⟩ : ∃ f, p[k] = f := ⟨_, rfl⟩
      obtain ⟨tt, hto⟩ : ∃ t, Dc.upTo l n k = t := ⟨_, rfl⟩
      have q0 := I2.out.below HB.out k hlt
      rw [hfrom] at q0
      have hkk : k < (Dc.runsTo l n).length := by rw [HP.out]; exact hlt
      have hfe : (Dc.runsTo l n)[k] = ff := by
        have : (Dc.runsTo l n)[k]? = p[k]? := by rw [HP.out]
        rw [List.getElem?_eq_getElem hkk, List.getElem?_eq_getElem hlt, hfrom] at this
        exact Option.some.inj this
      have hbd := Dc.upTo_bounds l n hkk
      rw [hfe, hto] at hbd
      obtain ⟨hft, htn⟩ := hbd
      have hfl : ff < l.length := by rw [HL.out]; omega
      obtain ⟨y, hy⟩ : ∃ y, l[ff]? = some y := ⟨_, List.getElem?_eq_getElem hfl⟩
      have HAL : Hid (∀ j z, ff + j < tt → l[ff + j]? = some z → z.m = y.m ∧ z.l.toList = y.l.toList ∧ (1 < tt - ff → Dc.ends z = false)) := by
        subst hfe hto
        intro j z hj hz
        obtain ⟨hi, rfl⟩ := List.getElem?_eq_some_iff.1 hz
        obtain ⟨_, rfl⟩ := List.getElem?_eq_some_iff.1 hy
        obtain ⟨h1, h2, h3⟩ := Dc.run_alike l n HL.out hkk hfl j hj hi
        refine ⟨h1, h2, fun hgt => ?_⟩
        by_cases h0 : j = 0
        · subst h0
          exact Dc.run_first l n HL.out hkk hfl (by omega)
        · exact h3 h0
      have HY : Hid (l[ff]? = some y) := hy
      clear hy
      by_cases hnxm : k + 1 < m
      · have hnx : k + 1 < p.length := by rw [HM.out]; exact hnxm
        have q1 := I2.out.below HB.out (k + 1) hnx
        have ht2 : p[k + 1] = tt := by
          rw [← hto]
          have hk2 : k + 1 < (Dc.runsTo l n).length := by rw [HP.out]; exact hnx
          have e : (Dc.runsTo l n)[k + 1]? = p[k + 1]? := by rw [HP.out]
          rw [List.getElem?_eq_getElem hk2, List.getElem?_eq_getElem hnx] at e
          unfold Dc.upTo
          rw [dif_pos hk2]
          exact (Option.some.inj e).symm
        rw [ht2] at q1
        clear ht2 hto hfe hfrom hkk hnx hlt hfl
        go_wp2
        go_loopw [65] (fun i wx => ∃ j : Nat, j ≤ tt - ff ∧ i = .int .i64 j ∧ Below w2.heap.size w2 wx) (fun i _ => (tt - ff) - (intOf i).toNat)
        case atStart => exact ⟨0, Nat.zero_le _, rfl, HB.out⟩
        case round =>
          obtain ⟨j, hj, rfl, hbx⟩ := hrel
          have HBX : Hid (Below w2.heap.size w2 wr) := hbx
          clear hbx
          by_cases hjl : j < tt - ff
          · have hln := HL.out
            obtain ⟨z, hz⟩ : ∃ z, l[ff + j]? = some z := ⟨_, List.getElem?_eq_getElem (show ff + j < l.length by omega)⟩
            have A3 := A2.out.below HBX.out
            obtain ⟨z0, z1, z2⟩ := A3.get hz
            obtain ⟨y0, y1, y2⟩ := A3.get HY.out
            obtain ⟨em, el, ee⟩ := HAL.out j z (by omega) hz
            rw [show off + (ff + j) * 3 = off + ff * 3 + j * 3 by omega] at z0 z1 z2
            have fm : (z.m != y.m) = false := by rw [em]; simp
            have fl : (z.l.toList == y.l.toList) = true := by rw [el]; simp
            have hbw : b < wr.heap.size := cell_lt y0
            clear A3 hln hz em el
            by_cases hgt : 1 < tt - ff
            · have fe : ((z.c.toNat : Int) == 10) = false := ee hgt
              clear ee
              go_wp2
              go_roundw
              case rel => exact ⟨j + 1, by omega, by go_num, HBX.out.trans ((two_below wr z y).mono HBX.out.size)⟩
              case measure => simp [intOf]; omega
            · clear ee
              cases fe : ((z.c.toNat : Int) == 10)
              · go_wp2
                go_roundw
                case rel => exact ⟨j + 1, by omega, by go_num, HBX.out.trans ((two_below wr z y).mono HBX.out.size)⟩
                case measure => simp [intOf]; omega
              · go_wp2
                go_roundw
                case rel => exact ⟨j + 1, by omega, by go_num, HBX.out.trans ((two_below wr z y).mono HBX.out.size)⟩
                case measure => simp [intOf]; omega
          · go_wp2
            go_roundw
            case rel => exact ⟨k + 1, by omega, by go_num, HBX.out⟩
            case measure => simp [intOf]; omega
      · have ht2 : tt = n := by
          rw [← hto]
          unfold Dc.upTo
          rw [dif_neg (by rw [HP.out, HM.out]; exact hnxm)]
        subst ht2
        clear hto hfe hfrom hkk hlt hfl
        go_wp2
        go_loopw [65] (fun i wx => ∃ j : Nat, j ≤ tt - ff ∧ i = .int .i64 j ∧ Below w2.heap.size w2 wx) (fun i _ => (tt - ff) - (intOf i).toNat)
        case atStart => exact ⟨0, Nat.zero_le _, rfl, HB.out⟩
        case round =>
          obtain ⟨j, hj, rfl, hbx⟩ := hrel
          have HBX : Hid (Below w2.heap.size w2 wr) := hbx
          clear hbx
          by_cases hjl : j < tt - ff
          · have hln := HL.out
            obtain ⟨z, hz⟩ : ∃ z, l[ff + j]? = some z := ⟨_, List.getElem?_eq_getElem (show ff + j < l.length by omega)⟩
            have A3 := A2.out.below HBX.out
            obtain ⟨z0, z1, z2⟩ := A3.get hz
            obtain ⟨y0, y1, y2⟩ := A3.get HY.out
            obtain ⟨em, el, ee⟩ := HAL.out j z (by omega) hz
            rw [show off + (ff + j) * 3 = off + ff * 3 + j * 3 by omega] at z0 z1 z2
            have fm : (z.m != y.m) = false := by rw [em]; simp
            have fl : (z.l.toList == y.l.toList) = true := by rw [el]; simp
            have hbw : b < wr.heap.size := cell_lt y0
            clear A3 hln hz em el
            by_cases hgt : 1 < tt - ff
            · have fe : ((z.c.toNat : Int) == 10) = false := ee hgt
              clear ee
              go_wp2
              go_roundw
              case rel => exact ⟨j + 1, by omega, by go_num, HBX.out.trans ((two_below wr z y).mono HBX.out.size)⟩
              case measure => simp [intOf]; omega
            · clear ee
              cases fe : ((z.c.toNat : Int) == 10)
              · go_wp2
                go_roundw
                case rel => exact ⟨j + 1, by omega, by go_num, HBX.out.trans ((two_below wr z y).mono HBX.out.size)⟩
                case measure => simp [intOf]; omega
              · go_wp2
                go_roundw
                case rel => exact ⟨j + 1, by omega, by go_num, HBX.out.trans ((two_below wr z y).mono HBX.out.size)⟩
                case measure => simp [intOf]; omega
          · go_wp2
            go_roundw
            case rel => exact ⟨k + 1, by omega, by go_num, HBX.out⟩
            case measure => simp [intOf]; omega
    · go_wp2
      go_ret
      exact ⟨rfl, H2.out.trans (HB.out.mono H2.out.size)⟩

theorem druns_any (ao : Option Addr) (n cap : Nat) (l : List It) (w : World) (hD : Doc w ao n cap l) (hS : Sch w) :
    Calls Tryd.prog 10 #[.slice ao n cap] w fun e w' => e = .returned (.bool true) ∧ Below w.heap.size w w' := by
  by_cases hc : Dc.check l = 0
  · exact druns_ok ao n cap l w hD hS hc
  · exact druns_bad ao n cap l w hD hS hc
end Go.Proofs.YtmifcioccnmlaaaDoor
