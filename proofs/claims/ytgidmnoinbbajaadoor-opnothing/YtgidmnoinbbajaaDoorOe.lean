/-
  Package op: Check, of whatever operation.
-/
import Derived.Test.YtgidmnoinbbajaaDoorOd
namespace Go.Proofs.YtgidmnoinbbajaaDoor
open Go.RowKit
namespace Ac
theorem says_nil {p q : Pt} (h : same1 p q = true) : p.n = q.n := by
  unfold same1 at h
  simp only [Bool.and_eq_true, beq_iff_eq] at h
  exact h.2.1
theorem err1_0 {p : Pt} (h : err1 p = 0) : err0 p = 0 ∧ same1 p (usedP p) = true := by
  unfold err1 at h
  by_cases h0 : err0 p = 0
  · rw [if_pos h0] at h
    refine ⟨h0, ?_⟩
    cases hs : same1 p (usedP p)
    · rw [hs] at h; cases h
    · rfl
  · rw [if_neg h0] at h
    exact absurd h h0
theorem errN_0 {n : Int} (h : errN n = 0) : 1 ≤ n ∧ n ≤ 80 := by
  unfold errN at h
  by_cases hh : n < 1 ∨ 80 < n
  · rw [if_pos hh] at h; cases h
  · omega
theorem errK_0 {p : Pt} (h : errK p = 0) : marksBad p.set p.clr = false ∧ linkBad p.goes p.link = false ∧ errN p.n = 0 := by
  unfold errK at h
  cases h1 : marksBad p.set p.clr
  · rw [h1] at h
    cases h2 : linkBad p.goes p.link
    · rw [h2] at h; exact ⟨rfl, rfl, h⟩
    · rw [h2] at h; cases h
  · rw [h1] at h; cases h
theorem err0_kind {p : Pt} (h : err0 p = 0) : p.kind = 1 ∧ errK p = 0 ∨ p.kind = 2 ∧ errPut p.items = 0 ∨ p.kind = 3 ∧ errN p.n = 0 := by
  unfold err0 at h
  by_cases h1 : p.kind = 1
  · rw [if_pos h1] at h; exact .inl ⟨h1, h⟩
  · rw [if_neg h1] at h
    by_cases h2 : p.kind = 2
    · rw [if_pos h2] at h; exact .inr (.inl ⟨h2, h⟩)
    · rw [if_neg h2] at h
      by_cases h3 : p.kind = 3
      · rw [if_pos h3] at h; exact .inr (.inr ⟨h3, h⟩)
      · rw [if_neg h3] at h; cases h
theorem err1_n {p : Pt} (h : err1 p = 0) : 0 ≤ p.n ∧ p.n ≤ 80 := by
  obtain ⟨h0, hs⟩ := err1_0 h
  rcases err0_kind h0 with ⟨_, hk⟩ | ⟨hk, _⟩ | ⟨_, hn⟩
  · have := errN_0 (errK_0 hk).2.2; omega
  · have hn := says_nil hs
    unfold usedP at hn
    rw [if_neg (by omega), if_pos hk] at hn
    simp only at hn
    omega
  · have := errN_0 hn; omega
theorem chks_step (z : Int) (o : List Pt) (k : Nat) (h : k < o.length) : chks z (o.drop k) = if err1 o[k] = 0 then (if 80 < z + o[k].n then 2 else chks (z + o[k].n) (o.drop (k + 1))) else err1 o[k] := by
  rw [List.drop_eq_getElem_cons h, chks]
theorem chk_many {o : List Pt} (h : o.length < 1 ∨ 40 < o.length) : chk o = 2 := by unfold chk; rw [if_pos h]
theorem chk_bad {o : List Pt} (h : ¬ (o.length < 1 ∨ 40 < o.length)) (h0 : ¬ chks 0 o = 0) : chk o = chks 0 o := by unfold chk; rw [if_neg h, if_neg h0]
theorem chk_last {o : List Pt} {j : Nat} (h : ¬ (o.length < 1 ∨ 40 < o.length)) (h0 : chks 0 o = 0) (hj : j < o.length) (hl : o.length = j + 1) : chk o = if o[j].kind = 1 then 0 else 4 := by
  unfold chk
  rw [if_neg h, if_pos h0, List.getLast?_eq_getElem?, show o.length - 1 = j by omega, List.getElem?_eq_getElem hj]
end Ac

set_option maxRecDepth 100000 in
set_option maxHeartbeats 1600000 in
theorem chP_any (v : PV) (w : World) (hP : Pvt w v) (hS : Sch w) : Calls Tryd.prog 38 #[.agg #[.int .i64 v.kind, .int .i64 v.n, .slice v.ao v.m v.cap, .int .i64 v.set, .int .i64 v.clr, .bool v.goes, .string v.link]] w fun e w' => e = .returned (.int .i64 (Ac.err1 v.pt)) ∧ Below w.heap.size w w' := by
  obtain ⟨kind, n, ao, m, cap, items, st, cl, gs, lk⟩ := v
  have hb := boxp_below ⟨kind, n, ao, m, cap, items, st, cl, gs, lk⟩ w
  by_cases h1 : kind = 1
  · subst h1
    exact chP_rest 1 n ao m cap items st cl gs lk w (Ac.errK (PV.pt ⟨1, n, ao, m, cap, items, st, cl, gs, lk⟩)) _ (.inl rfl) (chK_any ⟨1, n, ao, m, cap, items, st, cl, gs, lk⟩ _ hP.fit (hS.below hb)) hP rfl
  · by_cases h2 : kind = 2
    · subst h2
      exact chP_rest 2 n ao m cap items st cl gs lk w (Ac.errPut items) _ (.inr (.inl rfl)) (chPut_any ao m cap items _ (hP.doc.below hb) (hS.below hb)) hP rfl
    · by_cases h3 : kind = 3
      · subst h3
        exact chP_rest 3 n ao m cap items st cl gs lk w (Ac.errN n) _ (.inr (.inr rfl)) ((chN_any n _).mono (fun e w' ⟨he, hw⟩ => ⟨he, by rw [hw]; exact Below.refl _ _⟩)) hP rfl
      · have e4 : Ac.err1 (PV.pt ⟨kind, n, ao, m, cap, items, st, cl, gs, lk⟩) = 4 := by
          have : Ac.err0 (PV.pt ⟨kind, n, ao, m, cap, items, st, cl, gs, lk⟩) = 4 := by show (if kind = 1 then _ else if kind = 2 then _ else if kind = 3 then _ else (4 : Int)) = 4; rw [if_neg h1, if_neg h2, if_neg h3]
          unfold Ac.err1
          rw [this]
          rfl
        rw [e4]
        have H1 : Hid (Below w.heap.size w (boxp ⟨kind, n, ao, m, cap, items, st, cl, gs, lk⟩ w)) := hb
        have k1 : (kind == 1) = false := by simp [h1]
        have k2 : (kind == 2) = false := by simp [h2]
        have k3 : (kind == 3) = false := by simp [h3]
        clear e4 hb hP hS h1 h2 h3
        go_enter Tryd.func38, Tryd.ntmps38
        go_wp2
        go_quiet (fail)
        go_wp2
        go_ret
        exact ⟨rfl, H1.out.trans ((drewN_blw _ _).mono H1.out.size)⟩

set_option maxRecDepth 100000 in
set_option maxHeartbeats 3200000 in
theorem chk_any (ao : Option Addr) (n cap : Nat) (vs : List PV) (w : World) (hO : Ops w ao n cap vs) (hS : Sch w) :
    Calls Tryd.prog 17 #[.slice ao n cap] w fun e w' => e = .returned (.int .i64 (Ac.chk (vs.map PV.pt))) ∧ Below w.heap.size w w' := by
  have HO : Hid (Ops w ao n cap vs) := hO
  have hlen : (vs.map PV.pt).length = n := by rw [List.length_map]; exact hO.len
  have HN : Hid ((vs.map PV.pt).length = n) := hlen
  have hcap := hO.row.room
  have hbig := hO.row.big
  have CP : Hid (∀ v ∈ vs, ∀ w', Below w.heap.size w w' → Calls Tryd.prog 38 #[.agg #[.int .i64 v.kind, .int .i64 v.n, .slice v.ao v.m v.cap, .int .i64 v.set, .int .i64 v.clr, .bool v.goes, .string v.link]] w' fun e w'' => e = .returned (.int .i64 (Ac.err1 v.pt)) ∧ Below w'.heap.size w' w'') := fun v hv w' hw => chP_any v w' ((hO.pts v hv).below hw) (hS.below hw)
  clear hO hlen hS
  obtain ⟨r, hr⟩ : ∃ r, Ac.chk (vs.map PV.pt) = r := ⟨_, rfl⟩
  have HR : Hid (Ac.chk (vs.map PV.pt) = r) := hr
  rw [hr]
  clear hr
  by_cases h1 : n < 1
  · obtain rfl : r = 2 := HR.out.symm.trans (Ac.chk_many (by rw [HN.out]; exact .inl h1))
    obtain rfl : n = 0 := by omega
    clear HR CP
    go_enter Tryd.func17, Tryd.ntmps17
    go_wp2
    go_ret
    exact ⟨rfl, Below.refl _ _⟩
  · by_cases h2 : 40 < n
    · obtain rfl : r = 2 := HR.out.symm.trans (Ac.chk_many (by rw [HN.out]; exact .inr h2))
      clear HR CP
      go_enter Tryd.func17, Tryd.ntmps17
      go_wp2
      go_ret
      exact ⟨rfl, Below.refl _ _⟩
    · have HM : Hid (¬ ((vs.map PV.pt).length < 1 ∨ 40 < (vs.map PV.pt).length)) := by show ¬ _; rw [HN.out]; omega
      obtain ⟨b, off, rfl, hG⟩ := HO.out.get (by omega)
      have HG : Hid (∀ i (hi : i < vs.length), Seven w b (off + i * 7) vs[i]) := hG
      clear hG
      go_enter Tryd.func17, Tryd.ntmps17
      go_wp2
      go_loopw [3, 17] (fun s i wr => ∃ k : Nat, ∃ z : Int, k ≤ n ∧ i = .int .i64 k ∧ s = .int .i64 z ∧ 0 ≤ z ∧ z ≤ 80 ∧ Below w.heap.size w wr ∧ Ac.chks 0 (vs.map PV.pt) = Ac.chks z ((vs.map PV.pt).drop k)) (fun _ i _ => n - (intOf i).toNat)
      case atStart => exact ⟨0, 0, Nat.zero_le _, rfl, rfl, by decide, by decide, Below.refl _ _, rfl⟩
      case round =>
        obtain ⟨k, z, hk, rfl, rfl, hz0, hz1, hbr, hch⟩ := hrel
        have HE : Hid (Ac.chks 0 (vs.map PV.pt) = Ac.chks z ((vs.map PV.pt).drop k)) := hch
        have HBR : Hid (Below w.heap.size w wr) := hbr
        clear hch hbr
        by_cases hlt : k < n
        · have hkl : k < (vs.map PV.pt).length := by rw [HN.out]; exact hlt
          have hkv : k < vs.length := by rw [List.length_map] at hkl; exact hkl
          have HX : Hid (Ac.chks z ((vs.map PV.pt).drop k) = if Ac.err1 vs[k].pt = 0 then (if 80 < z + vs[k].n then 2 else Ac.chks (z + vs[k].n) ((vs.map PV.pt).drop (k + 1))) else Ac.err1 vs[k].pt) := by
            have := Ac.chks_step z _ k hkl
            rw [List.getElem_map] at this
            exact this
          obtain ⟨c0, c1, c2, c3, c4, c5, c6⟩ := (HG.out k hkv).below HBR.out
          have CP1 : Hid (∀ w', Below w.heap.size w w' → Calls Tryd.prog 38 #[.agg #[.int .i64 vs[k].kind, .int .i64 vs[k].n, .slice vs[k].ao vs[k].m vs[k].cap, .int .i64 vs[k].set, .int .i64 vs[k].clr, .bool vs[k].goes, .string vs[k].link]] w' fun e w'' => e = .returned (.int .i64 (Ac.err1 vs[k].pt)) ∧ Below w'.heap.size w' w'') := CP.out vs[k] (List.getElem_mem hkv)
          have HB1 : Hid (Below w.heap.size w (boxp vs[k] wr)) := HBR.out.trans ((boxp_below _ wr).mono HBR.out.size)
          have HSV : Hid (Seven (boxp vs[k] wr) wr.heap.size 0 vs[k]) := boxp_at _ wr
          clear hkl
          generalize vs[k] = v at *
          clear hkv
          go_wp2_with fail
          change Calls Tryd.prog 38 _ (boxp v wr) _
          refine (CP1.out _ HB1.out).mono ?_
          rintro e w1 ⟨rfl, hb⟩
          have H2 : Hid (Below w.heap.size w w1) := HB1.out.trans (hb.mono HB1.out.size)
          have d1 : w1.cell? ⟨wr.heap.size, 1, none⟩ = some (.int .i64 v.n) := (HSV.out.below hb).c1
          clear hb c0 c1 c2 c3 c4 c5 c6
          by_cases h0 : Ac.err1 v.pt = 0
          · have hvn : 0 ≤ v.n ∧ v.n ≤ 80 := Ac.err1_n h0
            have HX2 : Hid (Ac.chks z ((vs.map PV.pt).drop k) = if 80 < z + v.n then 2 else Ac.chks (z + v.n) ((vs.map PV.pt).drop (k + 1))) := by show _ = _; rw [HX.out, if_pos h0]
            rw [h0]
            clear h0 HX
            obtain ⟨vn0, vn1⟩ := hvn
            generalize v.n = q at *
            by_cases h80 : 80 < z + q
            · obtain rfl : r = 2 := by
                rw [← HR.out, Ac.chk_bad HM.out (by rw [HE.out, HX2.out, if_pos h80]; decide), HE.out, HX2.out, if_pos h80]
              go_wp2
              go_ret
              exact ⟨rfl, H2.out⟩
            · have HX3 : Hid (Ac.chks 0 (vs.map PV.pt) = Ac.chks (z + q) ((vs.map PV.pt).drop (k + 1))) := by show _ = _; rw [HE.out, HX2.out, if_neg h80]
              go_wp2
              go_roundw
              case rel => exact ⟨k + 1, z + q, by omega, by go_num, by go_num, by omega, by omega, H2.out, HX3.out⟩
              case measure => simp [intOf]; omega
          · have hrr : Ac.err1 v.pt = r := by
              rw [← HR.out, Ac.chk_bad HM.out (by rw [HE.out, HX.out, if_neg h0]; exact h0), HE.out, HX.out, if_neg h0]
            rw [hrr] at h0 ⊢
            clear HR HX hrr
            go_wp2
            go_ret
            exact ⟨rfl, H2.out⟩
        · have hkn : k = n := by omega
          have hc0 : Ac.chks 0 (vs.map PV.pt) = 0 := by rw [HE.out, List.drop_eq_nil_of_le (by rw [HN.out]; omega)]; rfl
          obtain ⟨j, rfl⟩ : ∃ j, n = j + 1 := ⟨n - 1, by omega⟩
          have hjl : j < (vs.map PV.pt).length := by rw [HN.out]; omega
          have hjv : j < vs.length := by rw [List.length_map] at hjl; exact hjl
          have hrl := HR.out.symm.trans (Ac.chk_last HM.out hc0 hjl HN.out)
          rw [List.getElem_map] at hrl
          have cj := ((HG.out j hjv).below HBR.out).c0
          change r = if vs[j].kind = 1 then 0 else 4 at hrl
          generalize vs[j].kind = kd at *
          subst hkn
          clear hjl hjv hc0 HR HE
          by_cases hk1 : kd = 1
          · obtain rfl : r = 0 := by rw [hrl, if_pos hk1]
            subst hk1
            clear hrl
            go_wp2
            go_ret
            exact ⟨rfl, HBR.out⟩
          · obtain rfl : r = 4 := by rw [hrl, if_neg hk1]
            have hk1' : (kd != 1) = true := by simp [hk1]
            clear hrl
            go_wp2
            go_ret
            exact ⟨rfl, HBR.out⟩
end Go.Proofs.YtgidmnoinbbajaaDoor
