/-
  The reference's SameOp, and op.Same, of whatever operations.
-/
import Derived.Test.YtgidmnoinbbajaaDoorM4
namespace Go.Proofs.YtgidmnoinbbajaaDoor
open Go.RowKit

set_option maxRecDepth 100000 in
set_option maxHeartbeats 3200000 in
theorem sameR_any (a b : PV) (w : World) (ha : Pvt w a) (hb : Pvt w b) : Calls Tryd.prog 41 #[.agg #[.int .i64 a.kind, .int .i64 a.n, .slice a.ao a.m a.cap, .int .i64 a.set, .int .i64 a.clr, .bool a.goes, .string a.link], .agg #[.int .i64 b.kind, .int .i64 b.n, .slice b.ao b.m b.cap, .int .i64 b.set, .int .i64 b.clr, .bool b.goes, .string b.link]] w fun e w' => e = .returned (.bool (Ac.same1 a.pt b.pt)) ∧ Below w.heap.size w w' := by
  have H1 : Hid (Below w.heap.size w (boxp b (boxp a w))) := boxp2_below a b w
  have CE : Hid (Calls Tryd.prog 42 #[.slice a.ao a.m a.cap, .slice b.ao b.m b.cap] (boxp b (boxp a w)) fun e w' => e = .returned (.bool (Dc.same a.items b.items)) ∧ ∃ m, w' = (boxp b (boxp a w)).drewN m) := equalI_any _ _ _ _ _ _ _ _ _ (ha.doc.below H1.out) (hb.doc.below H1.out)
  clear ha hb
  obtain ⟨r, hr⟩ : ∃ r, Ac.same1 a.pt b.pt = r := ⟨_, rfl⟩
  rw [hr]
  simp only [Ac.same1, Ac.says, PV.pt] at hr
  generalize Dc.same a.items b.items = sm at *
  cases h1 : (a.kind == b.kind)
  · obtain rfl := hr.symm.trans (show _ = false by simp [h1])
    clear hr
    go_enter Tryd.func41, Tryd.ntmps41
    go_wp2
    go_ret
    exact ⟨rfl, H1.out⟩
  · skip
    cases h2 : (a.n == b.n)
    · obtain rfl := hr.symm.trans (show _ = false by simp [h1, h2])
      clear hr
      go_enter Tryd.func41, Tryd.ntmps41
      go_wp2
      go_ret
      exact ⟨rfl, H1.out⟩
    · skip
      cases sm
      · obtain rfl := hr.symm.trans (show _ = false by simp [h1, h2])
        clear hr
        go_enter Tryd.func41, Tryd.ntmps41
        go_wp2_with fail
        change Calls Tryd.prog 42 _ (boxp b (boxp a w)) _
        refine CE.out.mono ?_
        rintro e w1 ⟨rfl, m, hm⟩
        have HB : Hid (Below (boxp b (boxp a w)).heap.size (boxp b (boxp a w)) w1) := by rw [hm]; exact drewN_blw _ m
        have H2 : Hid (Below w.heap.size w w1) := H1.out.trans (HB.out.mono H1.out.size)
        have SA := (boxp2_fst a b w).below HB.out
        have SB := (boxp2_snd a b w).below HB.out
        obtain ⟨a0, a1, a2, a3, a4, a5, a6⟩ := SA
        obtain ⟨b0, b1, b2, b3, b4, b5, b6⟩ := SB
        clear hm HB
        go_wp2
        go_ret
        exact ⟨rfl, H2.out⟩
      · skip
        cases h4 : (a.set == b.set)
        · obtain rfl := hr.symm.trans (show _ = false by simp [h1, h2, h4])
          clear hr
          go_enter Tryd.func41, Tryd.ntmps41
          go_wp2_with fail
          change Calls Tryd.prog 42 _ (boxp b (boxp a w)) _
          refine CE.out.mono ?_
          rintro e w1 ⟨rfl, m, hm⟩
          have HB : Hid (Below (boxp b (boxp a w)).heap.size (boxp b (boxp a w)) w1) := by rw [hm]; exact drewN_blw _ m
          have H2 : Hid (Below w.heap.size w w1) := H1.out.trans (HB.out.mono H1.out.size)
          have SA := (boxp2_fst a b w).below HB.out
          have SB := (boxp2_snd a b w).below HB.out
          obtain ⟨a0, a1, a2, a3, a4, a5, a6⟩ := SA
          obtain ⟨b0, b1, b2, b3, b4, b5, b6⟩ := SB
          clear hm HB
          go_wp2
          go_ret
          exact ⟨rfl, H2.out⟩
        · skip
          cases h5 : (a.clr == b.clr)
          · obtain rfl := hr.symm.trans (show _ = false by simp [h1, h2, h4, h5])
            clear hr
            go_enter Tryd.func41, Tryd.ntmps41
            go_wp2_with fail
            change Calls Tryd.prog 42 _ (boxp b (boxp a w)) _
            refine CE.out.mono ?_
            rintro e w1 ⟨rfl, m, hm⟩
            have HB : Hid (Below (boxp b (boxp a w)).heap.size (boxp b (boxp a w)) w1) := by rw [hm]; exact drewN_blw _ m
            have H2 : Hid (Below w.heap.size w w1) := H1.out.trans (HB.out.mono H1.out.size)
            have SA := (boxp2_fst a b w).below HB.out
            have SB := (boxp2_snd a b w).below HB.out
            obtain ⟨a0, a1, a2, a3, a4, a5, a6⟩ := SA
            obtain ⟨b0, b1, b2, b3, b4, b5, b6⟩ := SB
            clear hm HB
            go_wp2
            go_ret
            exact ⟨rfl, H2.out⟩
          · skip
            cases h6 : (a.goes == b.goes)
            · obtain rfl := hr.symm.trans (show _ = false by simp [h1, h2, h4, h5, h6])
              clear hr
              go_enter Tryd.func41, Tryd.ntmps41
              go_wp2_with fail
              change Calls Tryd.prog 42 _ (boxp b (boxp a w)) _
              refine CE.out.mono ?_
              rintro e w1 ⟨rfl, m, hm⟩
              have HB : Hid (Below (boxp b (boxp a w)).heap.size (boxp b (boxp a w)) w1) := by rw [hm]; exact drewN_blw _ m
              have H2 : Hid (Below w.heap.size w w1) := H1.out.trans (HB.out.mono H1.out.size)
              have SA := (boxp2_fst a b w).below HB.out
              have SB := (boxp2_snd a b w).below HB.out
              obtain ⟨a0, a1, a2, a3, a4, a5, a6⟩ := SA
              obtain ⟨b0, b1, b2, b3, b4, b5, b6⟩ := SB
              clear hm HB
              go_wp2
              go_ret
              exact ⟨rfl, H2.out⟩
            · skip
              cases h7 : (a.link.toList == b.link.toList)
              · obtain rfl := hr.symm.trans (show _ = false by simp [h1, h2, h4, h5, h6, h7])
                clear hr
                go_enter Tryd.func41, Tryd.ntmps41
                go_wp2_with fail
                change Calls Tryd.prog 42 _ (boxp b (boxp a w)) _
                refine CE.out.mono ?_
                rintro e w1 ⟨rfl, m, hm⟩
                have HB : Hid (Below (boxp b (boxp a w)).heap.size (boxp b (boxp a w)) w1) := by rw [hm]; exact drewN_blw _ m
                have H2 : Hid (Below w.heap.size w w1) := H1.out.trans (HB.out.mono H1.out.size)
                have SA := (boxp2_fst a b w).below HB.out
                have SB := (boxp2_snd a b w).below HB.out
                obtain ⟨a0, a1, a2, a3, a4, a5, a6⟩ := SA
                obtain ⟨b0, b1, b2, b3, b4, b5, b6⟩ := SB
                clear hm HB
                go_wp2
                go_ret
                exact ⟨rfl, H2.out⟩
              · obtain rfl := hr.symm.trans (show _ = true by simp [h1, h2, h4, h5, h6, h7])
                clear hr
                go_enter Tryd.func41, Tryd.ntmps41
                go_wp2_with fail
                change Calls Tryd.prog 42 _ (boxp b (boxp a w)) _
                refine CE.out.mono ?_
                rintro e w1 ⟨rfl, m, hm⟩
                have HB : Hid (Below (boxp b (boxp a w)).heap.size (boxp b (boxp a w)) w1) := by rw [hm]; exact drewN_blw _ m
                have H2 : Hid (Below w.heap.size w w1) := H1.out.trans (HB.out.mono H1.out.size)
                have SA := (boxp2_fst a b w).below HB.out
                have SB := (boxp2_snd a b w).below HB.out
                obtain ⟨a0, a1, a2, a3, a4, a5, a6⟩ := SA
                obtain ⟨b0, b1, b2, b3, b4, b5, b6⟩ := SB
                clear hm HB
                go_wp2
                go_ret
                exact ⟨rfl, H2.out⟩

set_option maxRecDepth 100000 in
set_option maxHeartbeats 3200000 in
theorem eqFunc_any (G : FuncId) (ao ao' : Option Addr) (n cap n' cap' : Nat) (vs us : List PV) (w : World) (hO : Ops w ao n cap vs) (hO' : Ops w ao' n' cap' us) (hG : G = 40 ∨ G = 41) :
    Calls Tryd.prog 39 #[.slice ao n cap, .slice ao' n' cap', .func (.func G) #[] #[]] w fun e w' => e = .returned (.bool (Ac.sameO (vs.map PV.pt) (us.map PV.pt))) ∧ Below w.heap.size w w' := by
  have HO : Hid (Ops w ao n cap vs) := hO
  have HO' : Hid (Ops w ao' n' cap' us) := hO'
  have HN : Hid (vs.length = n) := hO.len
  have HN' : Hid (us.length = n') := hO'.len
  have hcap := hO.row.room
  have hbig := hO.row.big
  have CG : Hid (∀ (a b : PV) (w : World), Pvt w a → Pvt w b → Calls Tryd.prog G #[.agg #[.int .i64 a.kind, .int .i64 a.n, .slice a.ao a.m a.cap, .int .i64 a.set, .int .i64 a.clr, .bool a.goes, .string a.link], .agg #[.int .i64 b.kind, .int .i64 b.n, .slice b.ao b.m b.cap, .int .i64 b.set, .int .i64 b.clr, .bool b.goes, .string b.link]] w fun e w' => e = .returned (.bool (Ac.same1 a.pt b.pt)) ∧ Below w.heap.size w w') := fun a b w ha hb => by
    rcases hG with rfl | rfl
    · exact same1_any a b w ha hb
    · exact sameR_any a b w ha hb
  have HGH : Hid (G = 40 ∨ G = 41) := hG
  clear hO hO' hG
  obtain ⟨r, hr⟩ : ∃ r, Ac.sameO (vs.map PV.pt) (us.map PV.pt) = r := ⟨_, rfl⟩
  have HR : Hid (Ac.sameO (vs.map PV.pt) (us.map PV.pt) = r) := hr
  rw [hr]
  clear hr
  by_cases hnn : n = n'
  · subst hnn
    go_enter Tryd.func39, Tryd.ntmps39
    go_wp2
    go_loopw [17] (fun i wr => ∃ k : Nat, k ≤ n ∧ i = .int .i64 k ∧ Below w.heap.size w wr ∧ Ac.sameO ((vs.map PV.pt).drop k) ((us.map PV.pt).drop k) = r) (fun i _ => n - (intOf i).toNat)
    case atStart => exact ⟨0, Nat.zero_le _, rfl, Below.refl _ _, HR.out⟩
    case round =>
      obtain ⟨k, hk, rfl, hbr, hsm⟩ := hrel
      have HM : Hid (Ac.sameO ((vs.map PV.pt).drop k) ((us.map PV.pt).drop k) = r) := hsm
      have HBR : Hid (Below w.heap.size w wr) := hbr
      clear hsm hbr
      by_cases hlt : k < n
      · obtain ⟨b, off, rfl, hGt⟩ := HO.out.get (by omega)
        obtain ⟨b', off', rfl, hGt'⟩ := HO'.out.get (by omega)
        have h1 : k < vs.length := by rw [HN.out]; exact hlt
        have h2 : k < us.length := by rw [HN'.out]; exact hlt
        have HX : Hid (Ac.sameO ((vs.map PV.pt).drop k) ((us.map PV.pt).drop k) = (Ac.same1 vs[k].pt us[k].pt && Ac.sameO ((vs.map PV.pt).drop (k + 1)) ((us.map PV.pt).drop (k + 1)))) := by
          have := Ac.sameO_step (vs.map PV.pt) (us.map PV.pt) k (by rw [List.length_map]; exact h1) (by rw [List.length_map]; exact h2)
          rw [List.getElem_map, List.getElem_map] at this
          exact this
        obtain ⟨a0, a1, a2, a3, a4, a5, a6⟩ := (hGt k h1).below HBR.out
        have Sb := hGt' k h2
        have HSb : Hid (Seven w b' (off' + k * 7) us[k]) := Sb
        obtain ⟨b0, b1, b2, b3, b4, b5, b6⟩ := Sb.below (HBR.out.trans ((boxp_below vs[k] wr).mono HBR.out.size))
        have HB1 : Hid (Below w.heap.size w (boxp us[k] (boxp vs[k] wr))) := HBR.out.trans ((boxp2_below _ _ wr).mono HBR.out.size)
        have HPa : Hid (Pvt (boxp us[k] (boxp vs[k] wr)) vs[k]) := (HO.out.pts _ (List.getElem_mem h1)).below HB1.out
        have HPb : Hid (Pvt (boxp us[k] (boxp vs[k] wr)) us[k]) := (HO'.out.pts _ (List.getElem_mem h2)).below HB1.out
        have S1 := boxp2_fst vs[k] us[k] wr
        have S2 := boxp_at us[k] (boxp vs[k] wr)
        have HS1 : Hid (Seven (boxp us[k] (boxp vs[k] wr)) wr.heap.size 0 vs[k]) := S1
        have HS2 : Hid (Seven (boxp us[k] (boxp vs[k] wr)) (boxp vs[k] wr).heap.size 0 us[k]) := S2
        clear hGt hGt' S1 S2 Sb
        generalize vs[k] = v at *
        generalize us[k] = u at *
        clear h1 h2
        go_upto_region 6 with fail
        change Code.wp Tryd.prog _ _ _ (boxp v wr)
        go_upto_region 7 with fail
        change Code.wp Tryd.prog _ _ _ (boxp u (boxp v wr))
        generalize boxp u (boxp v wr) = W at *
        clear a0 a1 a2 a3 a4 a5 a6 b0 b1 b2 b3 b4 b5 b6
        obtain ⟨a0, a1, a2, a3, a4, a5, a6⟩ := HS1.out
        obtain ⟨b0, b1, b2, b3, b4, b5, b6⟩ := HS2.out
        simp only [Nat.zero_add] at a0 a1 a2 a3 a4 a5 a6 b0 b1 b2 b3 b4 b5 b6
        rcases HGH.out with rfl | rfl
        all_goals
          go_wp2_with fail
          refine (CG.out v u _ HPa.out HPb.out).mono ?_
          rintro e w1 ⟨rfl, hb⟩
          have H2 : Hid (Below w.heap.size w w1) := HB1.out.trans (hb.mono HB1.out.size)
          clear hb a0 a1 a2 a3 a4 a5 a6 b0 b1 b2 b3 b4 b5 b6
          cases hal : Ac.same1 v.pt u.pt
          · obtain rfl : r = false := by rw [← HM.out, HX.out, hal]; rfl
            clear hal
            go_wp2
            go_ret
            exact ⟨rfl, H2.out⟩
          · have HM2 : Hid (Ac.sameO ((vs.map PV.pt).drop (k + 1)) ((us.map PV.pt).drop (k + 1)) = r) := by show _ = _; rw [← HM.out, HX.out, hal, Bool.true_and]
            clear hal
            go_wp2
            go_roundw
            case rel => exact ⟨k + 1, by omega, by go_num, H2.out, HM2.out⟩
            case measure => simp [intOf]; omega
      · obtain rfl : r = true := by
          rw [← HM.out, List.drop_eq_nil_of_le (by rw [List.length_map, HN.out]; omega), List.drop_eq_nil_of_le (by rw [List.length_map, HN'.out]; omega)]
          rfl
        go_wp2
        go_ret
        exact ⟨rfl, HBR.out⟩
  · obtain rfl : r = false := HR.out.symm.trans (Ac.sameO_len _ _ (by rw [List.length_map, List.length_map, HN.out, HN'.out]; exact hnn))
    go_enter Tryd.func39, Tryd.ntmps39
    go_wp2
    go_ret
    exact ⟨rfl, Below.refl _ _⟩

theorem sameO_any (ao ao' : Option Addr) (n cap n' cap' : Nat) (vs us : List PV) (w : World) (hO : Ops w ao n cap vs) (hO' : Ops w ao' n' cap' us) :
    Calls Tryd.prog 18 #[.slice ao n cap, .slice ao' n' cap'] w fun e w' => e = .returned (.bool (Ac.sameO (vs.map PV.pt) (us.map PV.pt))) ∧ Below w.heap.size w w' := by
  have HE := eqFunc_any 40 ao ao' n cap n' cap' vs us w hO hO' (.inl rfl)
  clear hO hO'
  generalize Ac.sameO (vs.map PV.pt) (us.map PV.pt) = r at *
  have H : Hid (Calls Tryd.prog 39 #[.slice ao n cap, .slice ao' n' cap', .func (.func 40) #[] #[]] w fun e w' => e = .returned (.bool r) ∧ Below w.heap.size w w') := HE
  clear HE
  go_enter Tryd.func18, Tryd.ntmps18
  go_wp2_with fail
  refine H.out.mono ?_
  rintro e w1 ⟨rfl, hb⟩
  go_wp2
  go_ret
  exact ⟨rfl, hb⟩

theorem SameOp_any (ao ao' : Option Addr) (n cap n' cap' : Nat) (vs us : List PV) (w : World) (hO : Ops w ao n cap vs) (hO' : Ops w ao' n' cap' us) :
    Calls Tryd.prog 19 #[.slice ao n cap, .slice ao' n' cap'] w fun e w' => e = .returned (.bool (Ac.sameO (vs.map PV.pt) (us.map PV.pt))) ∧ Below w.heap.size w w' := by
  have HE := eqFunc_any 41 ao ao' n cap n' cap' vs us w hO hO' (.inr rfl)
  clear hO hO'
  generalize Ac.sameO (vs.map PV.pt) (us.map PV.pt) = r at *
  have H : Hid (Calls Tryd.prog 39 #[.slice ao n cap, .slice ao' n' cap', .func (.func 41) #[] #[]] w fun e w' => e = .returned (.bool r) ∧ Below w.heap.size w w') := HE
  clear HE
  go_enter Tryd.func19, Tryd.ntmps19
  go_wp2_with fail
  refine H.out.mono ?_
  rintro e w1 ⟨rfl, hb⟩
  go_wp2
  go_ret
  exact ⟨rfl, hb⟩
end Go.Proofs.YtgidmnoinbbajaaDoor
