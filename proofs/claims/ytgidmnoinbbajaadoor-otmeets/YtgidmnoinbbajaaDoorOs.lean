/-
  OpKeeps: what an operation makes of a document is one; made tidy it does the same.
-/
import Derived.Test.YtgidmnoinbbajaaDoorOq
import Derived.Deep.RegionHeld3
namespace Go.Proofs.YtgidmnoinbbajaaDoor
open Go.RowKit

set_option maxRecDepth 100000 in
set_option maxHeartbeats 6400000 in
theorem keeps_any (ao ao' : Option Addr) (n cap n' cap' : Nat) (l : List It) (vs : List PV) (w : World) (hD : Doc w ao n cap l) (hO : Ops w ao' n' cap' vs) (hS : Sch w) :
    Calls Tryd.prog 4 #[.slice ao n cap, .slice ao' n' cap'] w fun e w' => e = .returned (.bool true) ∧ Below w.heap.size w w' := by
  have CA := apply_any ao ao' n cap n' cap' l vs w hD hO hS
  have HS : Hid (∀ w', Below w.heap.size w w' → Sch w') := fun w' h => hS.below h
  have HD : Hid (∀ w', Below w.heap.size w w' → Doc w' ao n cap l) := fun w' h => hD.below h
  have HOO : Hid (∀ w', Below w.heap.size w w' → Ops w' ao' n' cap' vs) := fun w' h => hO.below h
  have HL : Hid (l.length = n) := hD.len
  have CO : Hid (∀ w', Below w.heap.size w w' → Calls Tryd.prog 16 #[] w' fun e w'' => e = .returned (.bool true) ∧ Below w'.heap.size w' w'') := fun w' h => opened_any w' (hS.below h)
  by_cases hE : Ac.fitE l (vs.map PV.pt) = 0
  · obtain ⟨hck, hri, hnd, hlv⟩ := Ac.fit_0 hE
    have hdn : Ac.done l (vs.map PV.pt) = (Ac.mk l (vs.map PV.pt)).1 := if_pos hE
    obtain ⟨hmc, hml, d', x, p', y, ed, ep, exy⟩ := Ac.made_doc hck hri hnd hlv
    obtain ⟨htr, htn, htl⟩ := Ac.tidy_right hri hlv
    have hfit := Ac.fit_of hck htr (htn.trans hnd) (by rw [htl]; exact hlv)
    have hdone : Ac.done l (Ac.tidy (vs.map PV.pt)) = (Ac.mk l (vs.map PV.pt)).1 := by unfold Ac.done; rw [if_pos hfit]; exact Ac.tidy_mk hri hnd hlv
    have htid : Ac.tid (vs.map PV.pt) = Ac.tidy (vs.map PV.pt) := by unfold Ac.tid; rw [if_pos (Ac.chk_right.2 hri)]; exact Ac.ts_tidy hri
    have htid2 : Ac.tid (Ac.tidy (vs.map PV.pt)) = Ac.tidy (vs.map PV.pt) := by unfold Ac.tid; rw [if_pos (Ac.chk_right.2 htr), Ac.ts_tidy htr, Ac.tidy_tidy]
    have hlt := hri.lt
    have HCK1 : Hid (Ac.chk (vs.map PV.pt) = 0) := Ac.chk_right.2 hri
    have HCK2 : Hid (Ac.chk (Ac.tidy (vs.map PV.pt)) = 0) := Ac.chk_right.2 htr
    rw [hE, hdn] at CA
    have CT : Hid (∀ w', Below w.heap.size w w' → Calls Tryd.prog 11 #[.slice ao' n' cap'] w' fun e w'' => (∃ a m c us, e = .returned (.tuple #[.slice a m c, .int .i64 0]) ∧ Ops w'' a m c us ∧ us.map PV.pt = Ac.tidy (vs.map PV.pt)) ∧ Below w'.heap.size w' w'') := fun w' hw => by
      have := tidy_any ao' n' cap' vs w' (hO.below hw) (hS.below hw)
      rw [HCK1.out, htid] at this
      exact this
    have CT2 : Hid (∀ w' a m c us, Below w.heap.size w w' → Ops w' a m c us → us.map PV.pt = Ac.tidy (vs.map PV.pt) → Calls Tryd.prog 11 #[.slice a m c] w' fun e w'' => (∃ a m c us, e = .returned (.tuple #[.slice a m c, .int .i64 0]) ∧ Ops w'' a m c us ∧ us.map PV.pt = Ac.tidy (vs.map PV.pt)) ∧ Below w'.heap.size w' w'') := fun w' a m c us hw ho hu => by
      have := tidy_any a m c us w' ho (hS.below hw)
      rw [hu, HCK2.out, htid2] at this
      exact this
    have CA2 : Hid (∀ w' a m c us, Below w.heap.size w w' → Ops w' a m c us → us.map PV.pt = Ac.tidy (vs.map PV.pt) → Calls Tryd.prog 10 #[.slice ao n cap, .slice a m c] w' fun e w'' => (∃ a k, e = .returned (.tuple #[.slice a (Ac.mk l (vs.map PV.pt)).1.length k, .int .i64 0]) ∧ Doc w'' a (Ac.mk l (vs.map PV.pt)).1.length k (Ac.mk l (vs.map PV.pt)).1) ∧ Below w'.heap.size w' w'') := fun w' a m c us hw ho hu => by
      have := apply_any ao a n cap m c l us w' (hD.below hw) ho (hS.below hw)
      rw [hu, hfit, hdone] at this
      exact this
    have CL : Hid (∀ w', Below w.heap.size w w' → Calls Tryd.prog 12 #[.slice ao' n' cap'] w' fun e w'' => e = .returned (.tuple #[.int .i64 (Ac.lf (vs.map PV.pt)), .int .i64 ((Ac.mk l (vs.map PV.pt)).1.length : Nat)]) ∧ Below w'.heap.size w' w'') := fun w' hw => by
      have := long_any ao' n' cap' vs w' (hO.below hw)
      rw [hlt, ← hml] at this
      exact this
    have hn80 := (Ac.check_0 hck).1
    rw [HL.out] at hn80
    clear hD hO hS hE hck hri hnd hlv hdn htr htn htl hfit hdone htid htid2 hlt HCK1 HCK2 hml
    generalize Ac.tidy (vs.map PV.pt) = tp at *
    generalize Ac.lf (vs.map PV.pt) = lfv at *
    generalize (Ac.mk l (vs.map PV.pt)).1 = c at *
    obtain ⟨pm, hpm⟩ : ∃ pm, p'.length = pm := ⟨_, rfl⟩
    obtain ⟨dm, hdm⟩ : ∃ dm, d'.length = dm := ⟨_, rfl⟩
    obtain ⟨cm, hcl⟩ : ∃ cm, c.length = cm := ⟨_, rfl⟩
    have hcm : cm = pm + 1 := by rw [← hcl, ep, List.length_append, hpm]; rfl
    have hnm : n = dm + 1 := by rw [← HL.out, ed, List.length_append, hdm]; rfl
    have HCX : Hid (c[pm]? = some y) := by show _ = _; rw [ep, ← hpm, List.getElem?_append_right (Nat.le_refl _), Nat.sub_self]; rfl
    have HDX : Hid (l[dm]? = some x) := by show _ = _; rw [ed, ← hdm, List.getElem?_append_right (Nat.le_refl _), Nat.sub_self]; rfl
    rw [hcl] at CA CA2 CL
    have HCL : Hid (c.length = cm) := hcl
    have HMC : Hid (Dc.check c = 0) := hmc
    have HXY : Hid (x.c = y.c) := exy
    have HCA : Hid (Calls Tryd.prog 10 #[.slice ao n cap, .slice ao' n' cap'] w fun e w' => (∃ a k, e = .returned (.tuple #[.slice a cm k, .int .i64 0]) ∧ Doc w' a cm k c) ∧ Below w.heap.size w w') := CA
    have HNZ : Hid (n ≠ 0) := by show _ ≠ _; omega
    have HCZ : Hid (cm ≠ 0) := by show _ ≠ _; omega
    have HCM : Hid (cm = pm + 1) := hcm
    have HNM : Hid (n = dm + 1) := hnm
    have hmc80 := (Ac.check_0 hmc).1
    rw [hcl] at hmc80
    have HC80 : Hid (cm ≤ 80) := hmc80
    have HN80 : Hid (n ≤ 80) := hn80
    clear CA ed ep exy hmc hcl hpm hdm hcm hnm hmc80 hn80
    obtain ⟨db, doff, rfl, -⟩ := (HD.out w (Below.refl _ _)).lies HNZ.out
    have hdr := (HD.out w (Below.refl _ _)).room
    have hdbg := (HD.out w (Below.refl _ _)).big
    have HDA : Hid (∀ w', Below w.heap.size w w' → At w' db doff l) := fun w' h => by
      obtain ⟨b, o, e, hA⟩ := (HD.out w' h).lies HNZ.out
      cases e
      exact hA
    go_enter Tryd.func4, Tryd.ntmps4
    go_wp2_with fail
    refine HCA.out.mono ?_
    rintro e w1 ⟨⟨a, k, rfl, hD1⟩, hb⟩
    have H1 : Hid (Below w.heap.size w w1) := hb
    obtain ⟨cb, coff, rfl, hCA⟩ := hD1.lies HCZ.out
    have hcr := hD1.room
    have hcbg := hD1.big
    have HD1 : Hid (Doc w1 (some ⟨cb, coff, none⟩) cm k c) := hD1
    have HC1 : Hid (At w1 cb coff c) := hCA
    clear hb hD1 HCA hCA
    go_wp2_with fail
    refine (CO.out _ H1.out).mono ?_
    rintro e w2 ⟨rfl, hb⟩
    have H2 : Hid (Below w.heap.size w w2) := H1.out.trans (hb.mono H1.out.size)
    have HB2 : Hid (Below w1.heap.size w1 w2) := hb
    clear hb
    go_wp2_with fail
    refine (CL.out _ H2.out).mono ?_
    rintro e w3 ⟨rfl, hb⟩
    have H3 : Hid (Below w.heap.size w w3) := H2.out.trans (hb.mono H2.out.size)
    have HB3 : Hid (Below w1.heap.size w1 w3) := HB2.out.trans (hb.mono HB2.out.size)
    clear hb
    go_wp2_with fail
    refine (CT.out _ H3.out).mono ?_
    rintro e w4 ⟨⟨ta, tn, tc, us, rfl, hT, hu⟩, hb⟩
    have H4 : Hid (Below w.heap.size w w4) := H3.out.trans (hb.mono H3.out.size)
    have HB4 : Hid (Below w1.heap.size w1 w4) := HB3.out.trans (hb.mono HB3.out.size)
    have HT4 : Hid (Ops w4 ta tn tc us) := hT
    have HU : Hid (us.map PV.pt = tp) := hu
    clear hb hT hu
    go_wp2_with fail
    refine (CT2.out _ _ _ _ _ H4.out HT4.out HU.out).mono ?_
    rintro e w5 ⟨⟨ua, un, uc, us2, rfl, hT, hu⟩, hb⟩
    have H5 : Hid (Below w.heap.size w w5) := H4.out.trans (hb.mono H4.out.size)
    have HB5 : Hid (Below w1.heap.size w1 w5) := HB4.out.trans (hb.mono HB4.out.size)
    have HT5 : Hid (Ops w5 ta tn tc us) := HT4.out.below hb
    have HV5 : Hid (Ops w5 ua un uc us2) := hT
    have HU2 : Hid (us2.map PV.pt = tp) := hu
    clear hb hT hu
    go_wp2_with fail
    refine (CA2.out _ _ _ _ _ H5.out HT5.out HU.out).mono ?_
    rintro e w6 ⟨⟨xa, xk, rfl, hX⟩, hb⟩
    have H6 : Hid (Below w.heap.size w w6) := H5.out.trans (hb.mono H5.out.size)
    have hB6 : Below w1.heap.size w1 w6 := HB5.out.trans (hb.mono HB5.out.size)
    have K1 : Hid (∀ w', Below w6.heap.size w6 w' → Calls Tryd.prog 22 #[.slice (some ⟨cb, coff, none⟩) cm k] w' fun e w'' => e = .returned (.int .i64 0) ∧ Below w6.heap.size w6 w'') := fun w' hw => by
      have := check_any (some ⟨cb, coff, none⟩) cm k c w' ((HD1.out.below hB6).below hw) (HS.out _ (H6.out.trans (hw.mono H6.out.size)))
      rw [HMC.out] at this
      exact this.mono (fun e w2 ⟨he, hb⟩ => ⟨he, hw.trans (hb.mono hw.size)⟩)
    have K2 : Hid (∀ w', Below w6.heap.size w6 w' → Calls Tryd.prog 23 #[.slice (some ⟨cb, coff, none⟩) cm k, .slice xa cm xk] w' fun e w'' => e = .returned (.bool true) ∧ Below w6.heap.size w6 w'') := fun w' hw => by
      have := same_any (some ⟨cb, coff, none⟩) xa cm k cm xk c c w' ((HD1.out.below hB6).below hw) (hX.below hw)
      rw [(its_same _ _).2 rfl] at this
      exact this.mono (fun e w2 ⟨he, m, hm⟩ => ⟨he, by rw [hm]; exact hw.trans ((drewN_blw _ _).mono hw.size)⟩)
    have K3 : Hid (∀ w', Below w6.heap.size w6 w' → Calls Tryd.prog 18 #[.slice ta tn tc, .slice ua un uc] w' fun e w'' => e = .returned (.bool true) ∧ Below w6.heap.size w6 w'') := fun w' hw => by
      have := sameO_any ta ua tn tc un uc us us2 w' ((HT5.out.below hb).below hw) ((HV5.out.below hb).below hw)
      rw [HU.out, HU2.out, Ac.sameO_self] at this
      exact this.mono (fun e w2 ⟨he, hb⟩ => ⟨he, hw.trans (hb.mono hw.size)⟩)
    obtain ⟨cc0, -, -⟩ := (HC1.out.below hB6).get HCX.out
    obtain ⟨dd0, -, -⟩ := (HDA.out _ H6.out).get HDX.out
    rw [HXY.out] at dd0
    generalize y.c = yc at *
    have e1 := HCM.out
    have e2 := HNM.out
    have e3 := HC80.out
    have e4 := HN80.out
    have q1 : (0 : Int) ≤ (pm : Int) := by omega
    have q2 : (0 : Int) ≤ (dm : Int) := by omega
    have q3 : (pm : Int) < (cm : Int) := by omega
    have q4 : (dm : Int) < (n : Int) := by omega
    have hw1 : IntKind.i64.wrap ((cm : Int) - 1) = (pm : Int) := by rw [show (cm : Int) - 1 = (pm : Int) by omega]; exact IntWalk.i64_in _ ⟨by omega, by omega⟩
    have hw2 : IntKind.i64.wrap ((n : Int) - 1) = (dm : Int) := by rw [show (n : Int) - 1 = (dm : Int) by omega]; exact IntWalk.i64_in _ ⟨by omega, by omega⟩
    clear e1 e2 e3 e4
    clear hb hX hB6
    go_upto_region 8 with fail
    go_region_held3 (fun w' => w'.cell? ⟨cb, coff + pm * 3, none⟩ = some (.int .u8 yc.toNat) ∧ w'.cell? ⟨db, doff + dm * 3, none⟩ = some (.int .u8 yc.toNat) ∧ Below w6.heap.size w6 w') (first | exact ⟨cc0, dd0, (Below.refl _ _).drew⟩ | exact ⟨cell_below cc0 (by assumption), cell_below dd0 (by assumption), by assumption⟩) (first | (go_at_call 22; refine (K1.out _ ?_).mono ?_; exact (by assumption : _ ∧ _ ∧ Below w6.heap.size w6 _).2.2; rintro e w7 ⟨rfl, hb⟩) | (go_at_call 23; refine (K2.out _ ?_).mono ?_; exact (by assumption : _ ∧ _ ∧ Below w6.heap.size w6 _).2.2; rintro e w7 ⟨rfl, hb⟩) | (go_at_call 18; refine (K3.out _ ?_).mono ?_; exact (by assumption : _ ∧ _ ∧ Below w6.heap.size w6 _).2.2; rintro e w7 ⟨rfl, hb⟩))
    all_goals
      go_wp2
      go_ret
      exact ⟨rfl, H6.out.trans ((by assumption : Below w6.heap.size w6 _).mono H6.out.size)⟩
  · have HCA : Hid (Calls Tryd.prog 10 #[.slice ao n cap, .slice ao' n' cap'] w fun e w' => (∃ a k, e = .returned (.tuple #[.slice a (Ac.done l (vs.map PV.pt)).length k, .int .i64 (Ac.fitE l (vs.map PV.pt))])) ∧ Below w.heap.size w w') := CA.mono (fun e w' ⟨⟨a, k, h, _⟩, hb⟩ => ⟨⟨a, k, h⟩, hb⟩)
    clear CA hD hO hS
    generalize (Ac.done l (vs.map PV.pt)).length = dl at *
    generalize Ac.fitE l (vs.map PV.pt) = r at *
    have hE' : (r != 0) = true := by simp [hE]
    go_enter Tryd.func4, Tryd.ntmps4
    go_wp2_with fail
    refine HCA.out.mono ?_
    rintro e w1 ⟨⟨a, k, rfl⟩, hb⟩
    have H1 : Hid (Below w.heap.size w w1) := hb
    clear hb HCA
    go_wp2_with fail
    refine (CO.out _ H1.out).mono ?_
    rintro e w2 ⟨rfl, hb⟩
    have H2 : Hid (Below w.heap.size w w2) := H1.out.trans (hb.mono H1.out.size)
    clear hb
    go_wp2_with fail
    refine (CO.out _ H2.out).mono ?_
    rintro e w3 ⟨rfl, hb⟩
    have H3 : Hid (Below w.heap.size w w3) := H2.out.trans (hb.mono H2.out.size)
    clear hb
    go_wp2
    go_ret
    exact ⟨rfl, H3.out⟩
end Go.Proofs.YtgidmnoinbbajaaDoor
