/-
  The reference's check of a part that keeps, and of any operation, is the program's.
-/
import Derived.Test.YtbhcklkbckacpaaGreatDoorRa
namespace Go.Proofs.YtbhcklkbckacpaaGreatDoor
open Go.RowKit

set_option maxRecDepth 100000 in
set_option maxHeartbeats 6400000 in
theorem Rch_keep (n : Int) (ao : Option Addr) (m cap : Nat) (items : List It) (st cl : Int) (gs : Bool) (lk : ByteArray) (w : World) (hl : items.length = m) (hf : lk.size ≤ 9223372036854775807) (r : Int) (hr : Ac.err1 (PV.pt ⟨1, n, ao, m, cap, items, st, cl, gs, lk⟩) = r) : Calls Tryz.prog 174 #[.agg #[.int .i64 1, .int .i64 n, .slice ao m cap, .int .i64 st, .int .i64 cl, .bool gs, .string lk]] w fun e w' => e = .returned (.int .i64 r) ∧ Below w.heap.size w w' := by
  change Ac.err1 ⟨1, n, items, st, cl, gs, lk⟩ = r at hr
  rw [Ac.e1_keep, hl] at hr
  have H1 : Hid (Below w.heap.size w (boxp ⟨1, n, ao, m, cap, items, st, cl, gs, lk⟩ w)) := boxp_below _ w
  have HSV : Hid (Seven (boxp ⟨1, n, ao, m, cap, items, st, cl, gs, lk⟩ w) w.heap.size 0 ⟨1, n, ao, m, cap, items, st, cl, gs, lk⟩) := boxp_at _ w
  have CMB : Hid (Calls Tryz.prog 144 #[.string lk] (boxp ⟨1, n, ao, m, cap, items, st, cl, gs, lk⟩ w) fun e w' => e = .returned (.bool (Lk.may lk.data.toList)) ∧ Below (boxp ⟨1, n, ao, m, cap, items, st, cl, gs, lk⟩ w).heap.size (boxp ⟨1, n, ao, m, cap, items, st, cl, gs, lk⟩ w) w') := MayBe_any lk _ hf
  have HR : Hid ((if Ac.marksBad st cl then 3 else if Ac.linkBad gs lk then 4 else if n < 1 ∨ 80 < n then 3 else if m = 0 then 0 else 4) = r) := hr
  clear hr hl hf
  by_cases h1 : st < 0
  · obtain rfl : r = 3 := by rw [← HR.out]; have : Ac.areM st = false := by unfold Ac.areM; simp; omega
                             unfold Ac.marksBad; rw [this]; rfl
    clear CMB HSV
    go_enter Tryz.func174, Tryz.ntmps174
    go_wp2
    go_ret
    exact ⟨rfl, H1.out⟩
  · by_cases h2 : 3 < st
    · obtain rfl : r = 3 := by rw [← HR.out]; have : Ac.areM st = false := by unfold Ac.areM; simp; omega
                               unfold Ac.marksBad; rw [this]; rfl
      clear CMB HSV
      go_enter Tryz.func174, Tryz.ntmps174
      go_wp2
      go_ret
      exact ⟨rfl, H1.out⟩
    · have a1 : Ac.areM st = true := by unfold Ac.areM; simp; omega
      by_cases h3 : cl < 0
      · obtain rfl : r = 3 := by rw [← HR.out]; have : Ac.areM cl = false := by unfold Ac.areM; simp; omega
                                 unfold Ac.marksBad; rw [a1, this]; rfl
        clear CMB HSV
        go_enter Tryz.func174, Tryz.ntmps174
        go_wp2
        go_ret
        exact ⟨rfl, H1.out⟩
      · by_cases h4 : 3 < cl
        · obtain rfl : r = 3 := by rw [← HR.out]; have : Ac.areM cl = false := by unfold Ac.areM; simp; omega
                                   unfold Ac.marksBad; rw [a1, this]; rfl
          clear CMB HSV
          go_enter Tryz.func174, Tryz.ntmps174
          go_wp2
          go_ret
          exact ⟨rfl, H1.out⟩
        · have a2 : Ac.areM cl = true := by unfold Ac.areM; simp; omega
          have hbits := bits_and a1 a2
          obtain ⟨ab, hab⟩ : ∃ ab, st.toNat &&& cl.toNat = ab := ⟨_, rfl⟩
          have hmb : Ac.marksBad st cl = (ab != 0) := by unfold Ac.marksBad; rw [a1, a2, hab]; rfl
          rw [hab] at hbits
          clear hab a1 a2
          by_cases h0 : ab = 0
          · subst h0
            have HR2 : Hid ((if Ac.linkBad gs lk then 4 else if n < 1 ∨ 80 < n then 3 else if m = 0 then 0 else 4) = r) := by show _ = _; rw [← HR.out, hmb]; rfl
            clear hmb HR
            cases hk : lk.toList.isEmpty
            · cases gs
              · obtain rfl : r = 4 := by rw [← HR2.out]; unfold Ac.linkBad; rw [hk]; rfl
                clear CMB HSV
                go_enter Tryz.func174, Tryz.ntmps174
                go_wp2
                go_ret
                exact ⟨rfl, H1.out⟩
              · cases h7 : Lk.may lk.data.toList
                · obtain rfl : r = 4 := by rw [← HR2.out]; unfold Ac.linkBad; rw [hk, h7]; rfl
                  rw [h7] at CMB
                  go_enter Tryz.func174, Tryz.ntmps174
                  go_wp2_with fail
                  change Calls Tryz.prog 144 _ (boxp ⟨1, n, ao, m, cap, items, st, cl, true, lk⟩ w) _
                  generalize boxp ⟨1, n, ao, m, cap, items, st, cl, true, lk⟩ w = W5 at *
                  refine CMB.out.mono ?_
                  rintro e w1 ⟨rfl, hb⟩
                  have H2 : Hid (Below w.heap.size w w1) := H1.out.trans (hb.mono H1.out.size)
                  obtain ⟨b0, b1, b2, b3, b4, b5, b6⟩ := HSV.out.below hb
                  simp only [Nat.zero_add] at b0 b1 b2 b3 b4 b5 b6
                  clear hb
                  go_wp2
                  go_ret
                  exact ⟨rfl, H2.out⟩
                · have HR3 : Hid ((if n < 1 ∨ 80 < n then 3 else if m = 0 then 0 else 4) = r) := by show _ = _; rw [← HR2.out]; unfold Ac.linkBad; rw [hk, h7]; rfl
                  rw [h7] at CMB
                  clear HR2
                  by_cases h5 : n < 1
                  · obtain rfl : r = 3 := by rw [← HR3.out, if_pos (.inl h5)]
                    go_enter Tryz.func174, Tryz.ntmps174
                    go_wp2_with fail
                    change Calls Tryz.prog 144 _ (boxp ⟨1, n, ao, m, cap, items, st, cl, true, lk⟩ w) _
                    generalize boxp ⟨1, n, ao, m, cap, items, st, cl, true, lk⟩ w = W5 at *
                    refine CMB.out.mono ?_
                    rintro e w1 ⟨rfl, hb⟩
                    have H2 : Hid (Below w.heap.size w w1) := H1.out.trans (hb.mono H1.out.size)
                    obtain ⟨b0, b1, b2, b3, b4, b5, b6⟩ := HSV.out.below hb
                    simp only [Nat.zero_add] at b0 b1 b2 b3 b4 b5 b6
                    clear hb
                    go_wp2
                    go_ret
                    exact ⟨rfl, H2.out⟩
                  · by_cases h6 : 80 < n
                    · obtain rfl : r = 3 := by rw [← HR3.out, if_pos (.inr h6)]
                      go_enter Tryz.func174, Tryz.ntmps174
                      go_wp2_with fail
                      change Calls Tryz.prog 144 _ (boxp ⟨1, n, ao, m, cap, items, st, cl, true, lk⟩ w) _
                      generalize boxp ⟨1, n, ao, m, cap, items, st, cl, true, lk⟩ w = W5 at *
                      refine CMB.out.mono ?_
                      rintro e w1 ⟨rfl, hb⟩
                      have H2 : Hid (Below w.heap.size w w1) := H1.out.trans (hb.mono H1.out.size)
                      obtain ⟨b0, b1, b2, b3, b4, b5, b6⟩ := HSV.out.below hb
                      simp only [Nat.zero_add] at b0 b1 b2 b3 b4 b5 b6
                      clear hb
                      go_wp2
                      go_ret
                      exact ⟨rfl, H2.out⟩
                    · by_cases hm : m = 0
                      · obtain rfl : r = 0 := by rw [← HR3.out, if_neg (show ¬ (n < 1 ∨ 80 < n) by omega), if_pos hm]
                        subst hm
                        go_enter Tryz.func174, Tryz.ntmps174
                        go_wp2_with fail
                        change Calls Tryz.prog 144 _ (boxp ⟨1, n, ao, 0, cap, items, st, cl, true, lk⟩ w) _
                        generalize boxp ⟨1, n, ao, 0, cap, items, st, cl, true, lk⟩ w = W5 at *
                        refine CMB.out.mono ?_
                        rintro e w1 ⟨rfl, hb⟩
                        have H2 : Hid (Below w.heap.size w w1) := H1.out.trans (hb.mono H1.out.size)
                        obtain ⟨b0, b1, b2, b3, b4, b5, b6⟩ := HSV.out.below hb
                        simp only [Nat.zero_add] at b0 b1 b2 b3 b4 b5 b6
                        clear hb
                        go_wp2
                        go_ret
                        exact ⟨rfl, H2.out⟩
                      · obtain rfl : r = 4 := by rw [← HR3.out, if_neg (show ¬ (n < 1 ∨ 80 < n) by omega), if_neg hm]
                        have hm' : ((m : Int) != 0) = true := by simp; omega
                        go_enter Tryz.func174, Tryz.ntmps174
                        go_wp2_with fail
                        change Calls Tryz.prog 144 _ (boxp ⟨1, n, ao, m, cap, items, st, cl, true, lk⟩ w) _
                        generalize boxp ⟨1, n, ao, m, cap, items, st, cl, true, lk⟩ w = W5 at *
                        refine CMB.out.mono ?_
                        rintro e w1 ⟨rfl, hb⟩
                        have H2 : Hid (Below w.heap.size w w1) := H1.out.trans (hb.mono H1.out.size)
                        obtain ⟨b0, b1, b2, b3, b4, b5, b6⟩ := HSV.out.below hb
                        simp only [Nat.zero_add] at b0 b1 b2 b3 b4 b5 b6
                        clear hb
                        go_wp2
                        go_ret
                        exact ⟨rfl, H2.out⟩
            · have HR3 : Hid ((if n < 1 ∨ 80 < n then 3 else if m = 0 then 0 else 4) = r) := by show _ = _; rw [← HR2.out]; unfold Ac.linkBad; rw [hk]; rfl
              clear HR2
              by_cases h5 : n < 1
              · obtain rfl : r = 3 := by rw [← HR3.out, if_pos (.inl h5)]
                clear CMB HSV
                go_enter Tryz.func174, Tryz.ntmps174
                go_wp2
                go_ret
                exact ⟨rfl, H1.out⟩
              · by_cases h6 : 80 < n
                · obtain rfl : r = 3 := by rw [← HR3.out, if_pos (.inr h6)]
                  clear CMB HSV
                  go_enter Tryz.func174, Tryz.ntmps174
                  go_wp2
                  go_ret
                  exact ⟨rfl, H1.out⟩
                · by_cases hm : m = 0
                  · obtain rfl : r = 0 := by rw [← HR3.out, if_neg (show ¬ (n < 1 ∨ 80 < n) by omega), if_pos hm]
                    subst hm
                    clear CMB HSV
                    go_enter Tryz.func174, Tryz.ntmps174
                    go_wp2
                    go_ret
                    exact ⟨rfl, H1.out⟩
                  · obtain rfl : r = 4 := by rw [← HR3.out, if_neg (show ¬ (n < 1 ∨ 80 < n) by omega), if_neg hm]
                    have hm' : ((m : Int) != 0) = true := by simp; omega
                    clear CMB HSV
                    go_enter Tryz.func174, Tryz.ntmps174
                    go_wp2
                    go_ret
                    exact ⟨rfl, H1.out⟩
          · have h0' : decide ((0 : Int) < (ab : Int)) = true := by simp; omega
            obtain rfl : r = 3 := by rw [← HR.out, hmb]; have : (ab != 0) = true := by simp [h0]
                                     rw [this]; rfl
            have h0'' : (0 : Int) < (ab : Int) := by omega
            clear hmb
            clear CMB HSV
            go_enter Tryz.func174, Tryz.ntmps174
            go_wp2
            go_ret
            exact ⟨rfl, H1.out⟩

set_option maxRecDepth 100000 in
set_option maxHeartbeats 1600000 in
theorem Rch_any (v : PV) (w : World) (hP : Pvt w v) : Calls Tryz.prog 174 #[.agg #[.int .i64 v.kind, .int .i64 v.n, .slice v.ao v.m v.cap, .int .i64 v.set, .int .i64 v.clr, .bool v.goes, .string v.link]] w fun e w' => e = .returned (.int .i64 (Ac.err1 v.pt)) ∧ Below w.heap.size w w' := by
  obtain ⟨kind, n, ao, m, cap, items, st, cl, gs, lk⟩ := v
  by_cases h1 : kind = 1
  · subst h1
    exact Rch_keep n ao m cap items st cl gs lk w hP.doc.len hP.fit _ rfl
  · by_cases h2 : kind = 2
    · subst h2
      exact Rch_put n ao m cap items st cl gs lk w hP.doc _ rfl
    · by_cases h3 : kind = 3
      · subst h3
        exact Rch_cut n ao m cap items st cl gs lk w hP.doc.len _ rfl
      · have e4 : Ac.err1 (PV.pt ⟨kind, n, ao, m, cap, items, st, cl, gs, lk⟩) = 4 := by
          have : Ac.err0 (PV.pt ⟨kind, n, ao, m, cap, items, st, cl, gs, lk⟩) = 4 := by show (if kind = 1 then _ else if kind = 2 then _ else if kind = 3 then _ else (4 : Int)) = 4; rw [if_neg h1, if_neg h2, if_neg h3]
          unfold Ac.err1
          rw [this]
          rfl
        rw [e4]
        have H1 : Hid (Below w.heap.size w (boxp ⟨kind, n, ao, m, cap, items, st, cl, gs, lk⟩ w)) := boxp_below _ w
        have k1 : (kind == 1) = false := by simp [h1]
        have k2 : (kind == 2) = false := by simp [h2]
        have k3 : (kind == 3) = false := by simp [h3]
        clear e4 hP h1 h2 h3
        go_enter Tryz.func174, Tryz.ntmps174
        go_wp2
        go_ret
        exact ⟨rfl, H1.out⟩

set_option maxRecDepth 100000 in
set_option maxHeartbeats 3200000 in
theorem CheckOp_any (ao : Option Addr) (n cap : Nat) (vs : List PV) (w : World) (hO : Ops w ao n cap vs) :
    Calls Tryz.prog 102 #[.slice ao n cap] w fun e w' => e = .returned (.int .i64 (Ac.chk (vs.map PV.pt))) ∧ Below w.heap.size w w' := by
  have HO : Hid (Ops w ao n cap vs) := hO
  have hlen : (vs.map PV.pt).length = n := by rw [List.length_map]; exact hO.len
  have HN : Hid ((vs.map PV.pt).length = n) := hlen
  have hcap := hO.row.room
  have hbig := hO.row.big
  have CP : Hid (∀ v ∈ vs, ∀ w', Below w.heap.size w w' → Calls Tryz.prog 174 #[.agg #[.int .i64 v.kind, .int .i64 v.n, .slice v.ao v.m v.cap, .int .i64 v.set, .int .i64 v.clr, .bool v.goes, .string v.link]] w' fun e w'' => e = .returned (.int .i64 (Ac.err1 v.pt)) ∧ Below w'.heap.size w' w'') := fun v hv w' hw => Rch_any v w' ((hO.pts v hv).below hw)
  clear hO hlen
  obtain ⟨r, hr⟩ : ∃ r, Ac.chk (vs.map PV.pt) = r := ⟨_, rfl⟩
  have HR : Hid (Ac.chk (vs.map PV.pt) = r) := hr
  rw [hr]
  clear hr
  by_cases h1 : n < 1
  · obtain rfl : r = 2 := HR.out.symm.trans (Ac.chk_many (by rw [HN.out]; exact .inl h1))
    obtain rfl : n = 0 := by omega
    clear HR CP
    go_enter Tryz.func102, Tryz.ntmps102
    go_wp2
    go_ret
    exact ⟨rfl, Below.refl _ _⟩
  · by_cases h2 : 40 < n
    · obtain rfl : r = 2 := HR.out.symm.trans (Ac.chk_many (by rw [HN.out]; exact .inr h2))
      clear HR CP
      go_enter Tryz.func102, Tryz.ntmps102
      go_wp2
      go_ret
      exact ⟨rfl, Below.refl _ _⟩
    · have HM : Hid (¬ ((vs.map PV.pt).length < 1 ∨ 40 < (vs.map PV.pt).length)) := by show ¬ _; rw [HN.out]; omega
      obtain ⟨b, off, rfl, hG⟩ := HO.out.get (by omega)
      have HG : Hid (∀ i (hi : i < vs.length), Seven w b (off + i * 7) vs[i]) := hG
      clear hG
      go_enter Tryz.func102, Tryz.ntmps102
      go_wp2
      go_loopw [3, 17] (fun s i wr => ∃ k : Nat, ∃ z : Int, k ≤ n ∧ i = .int .i64 k ∧ s = .int .i64 z ∧ 0 ≤ z ∧ z ≤ 80 ∧ Below w.heap.size w wr ∧ Ac.chks 0 (vs.map PV.pt) = Ac.chks z ((vs.map PV.pt).drop k)) (fun _ i _ => n - (intOf i).toNat)
      case atStart => exact ⟨0, 0, Nat.zero_le _, rfl, rfl, by decide, by decide, Below.refl _ _, rfl⟩
      case round =>
        obtain ⟨k, z, hk, rfl, rfl, hz0, hz1, hbr, hch⟩ := hrel
        have HE : Hid (Ac.chks 0 (vs.map PV.pt) = Ac.chks z ((vs.map PV.pt).drop k)) := hch
        have HBR : Hid (Below w.heap.size w wr) := hbr
        clear hch hbr
        by_cases hlt : k < n
        · have hkl : k < (vs.map PV.pt).length := by rw [HN.out]; exact hlt
          have hkv : k < vs.length := by rw [List.length_map] at hkl; exact hkl
          have HX : Hid (Ac.chks z ((vs.map PV.pt).drop k) = if Ac.err1 vs[k].pt = 0 then (if 80 < z + vs[k].n then 2 else Ac.chks (z + vs[k].n) ((vs.map PV.pt).drop (k + 1))) else Ac.err1 vs[k].pt) := by
            have := Ac.chks_step z _ k hkl
            rw [List.getElem_map] at this
            exact this
          obtain ⟨c0, c1, c2, c3, c4, c5, c6⟩ := (HG.out k hkv).below HBR.out
          have CP1 : Hid (∀ w', Below w.heap.size w w' → Calls Tryz.prog 174 #[.agg #[.int .i64 vs[k].kind, .int .i64 vs[k].n, .slice vs[k].ao vs[k].m vs[k].cap, .int .i64 vs[k].set, .int .i64 vs[k].clr, .bool vs[k].goes, .string vs[k].link]] w' fun e w'' => e = .returned (.int .i64 (Ac.err1 vs[k].pt)) ∧ Below w'.heap.size w' w'') := CP.out vs[k] (List.getElem_mem hkv)
          have HB1 : Hid (Below w.heap.size w (boxp vs[k] wr)) := HBR.out.trans ((boxp_below _ wr).mono HBR.out.size)
          have HSV : Hid (Seven (boxp vs[k] wr) wr.heap.size 0 vs[k]) := boxp_at _ wr
          clear hkl
          generalize vs[k] = v at *
          clear hkv
          go_wp2_with fail
          change Calls Tryz.prog 174 _ (boxp v wr) _
          refine (CP1.out _ HB1.out).mono ?_
          rintro e w1 ⟨rfl, hb⟩
          have H2 : Hid (Below w.heap.size w w1) := HB1.out.trans (hb.mono HB1.out.size)
          have d1 : w1.cell? ⟨wr.heap.size, 1, none⟩ = some (.int .i64 v.n) := (HSV.out.below hb).c1
          clear hb c0 c1 c2 c3 c4 c5 c6
          by_cases h0 : Ac.err1 v.pt = 0
          · have hvn : 0 ≤ v.n ∧ v.n ≤ 80 := Ac.err1_n h0
            have HX2 : Hid (Ac.chks z ((vs.map PV.pt).drop k) = if 80 < z + v.n then 2 else Ac.chks (z + v.n) ((vs.map PV.pt).drop (k + 1))) := by show _ = _; rw [HX.out, if_pos h0]
            rw [h0]
            clear h0 HX
            obtain ⟨vn0, vn1⟩ := hvn
            generalize v.n = q at *
            by_cases h80 : 80 < z + q
            · obtain rfl : r = 2 := by
                rw [← HR.out, Ac.chk_bad HM.out (by rw [HE.out, HX2.out, if_pos h80]; decide), HE.out, HX2.out, if_pos h80]
              go_wp2
              go_ret
              exact ⟨rfl, H2.out⟩
            · have HX3 : Hid (Ac.chks 0 (vs.map PV.pt) = Ac.chks (z + q) ((vs.map PV.pt).drop (k + 1))) := by show _ = _; rw [HE.out, HX2.out, if_neg h80]
              go_wp2
              go_roundw
              case rel => exact ⟨k + 1, z + q, by omega, by go_num, by go_num, by omega, by omega, H2.out, HX3.out⟩
              case measure => simp [intOf]; omega
          · have hrr : Ac.err1 v.pt = r := by
              rw [← HR.out, Ac.chk_bad HM.out (by rw [HE.out, HX.out, if_neg h0]; exact h0), HE.out, HX.out, if_neg h0]
            rw [hrr] at h0 ⊢
            clear HR HX hrr
            go_wp2
            go_ret
            exact ⟨rfl, H2.out⟩
        · have hkn : k = n := by omega
          have hc0 : Ac.chks 0 (vs.map PV.pt) = 0 := by rw [HE.out, List.drop_eq_nil_of_le (by rw [HN.out]; omega)]; rfl
          obtain ⟨j, rfl⟩ : ∃ j, n = j + 1 := ⟨n - 1, by omega⟩
          have hjl : j < (vs.map PV.pt).length := by rw [HN.out]; omega
          have hjv : j < vs.length := by rw [List.length_map] at hjl; exact hjl
          have hrl := HR.out.symm.trans (Ac.chk_last HM.out hc0 hjl HN.out)
          rw [List.getElem_map] at hrl
          have cj := ((HG.out j hjv).below HBR.out).c0
          change r = if vs[j].kind = 1 then 0 else 4 at hrl
          generalize vs[j].kind = kd at *
          subst hkn
          clear hjl hjv hc0 HR HE
          by_cases hk1 : kd = 1
          · obtain rfl : r = 0 := by rw [hrl, if_pos hk1]
            subst hk1
            clear hrl
            go_wp2
            go_ret
            exact ⟨rfl, HBR.out⟩
          · obtain rfl : r = 4 := by rw [hrl, if_neg hk1]
            have hk1' : (kd != 1) = true := by simp [hk1]
            clear hrl
            go_wp2
            go_ret
            exact ⟨rfl, HBR.out⟩
end Go.Proofs.YtbhcklkbckacpaaGreatDoor
