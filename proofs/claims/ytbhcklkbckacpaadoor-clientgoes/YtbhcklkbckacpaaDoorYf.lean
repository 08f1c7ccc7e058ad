/-
  Package client: what a client does.
-/
import Derived.Test.YtbhcklkbckacpaaDoorYd
import Derived.Test.YtbhcklkbckacpaaDoorYe
namespace Go.Proofs.YtbhcklkbckacpaaDoor
open Go.RowKit
/-- What a function that works on a client answers: whether something is sent, an error. -/
def SentP (g : Nat) (E : Int) (S : Bool) (C : Kl.Cl) (e : Ending) (w' : World) : Prop := ∃ c' s, e = .returned (.tuple #[.bool s, .int .i64 E]) ∧ KAt w' g c' ∧ (E = 0 → s = S ∧ c'.cl = C)

set_option maxRecDepth 100000 in
set_option maxHeartbeats 3200000 in
theorem do_any (g : Nat) (c : CV) (oa : Option Addr) (on oc : Nat) (us : List PV) (w : World) (hK : KAt w g c) (hO : Ops w oa on oc us) (hS : Sch w) (hq : 0 ≤ c.seq) (hq2 : c.seq ≤ 10000) :
    Calls Tryd.prog 66 #[.pointer (some ⟨g, 0, none⟩), .slice oa on oc] w fun e w' => SentP g (Kl.doE c.cl (us.map PV.pt)) (Kl.doS c.cl) (Kl.doC c.cl (us.map PV.pt)) e w' ∧ Kept w w' [g] := by
  have HFW : Hid (Ac.fitE c.now (us.map PV.pt) = 0 → Few on us) := fun h => by
    have h1 := ops_few hO (Ac.chk_right.2 (Ac.fit_0 h).2.1)
    exact ⟨h1.2.1, h1.2.2⟩
  have HK : Hid (KAt w g c) := hK
  have HO : Hid (Ops w oa on oc us) := hO
  have HSC : Hid (Sch w) := hS
  have hsl : (c.sent.map PV.pt).length = c.sn := len_pt hK.cli.sent
  have hhl : (c.held.map PV.pt).length = c.hn := len_pt hK.cli.held
  have CA : Hid (Calls Tryd.prog 24 #[.slice c.na c.nn c.nc, .slice oa on oc] w fun e w' => (∃ a' c', e = .returned (.tuple #[.slice a' (Ac.done c.now (us.map PV.pt)).length c', .int .i64 (Ac.fitE c.now (us.map PV.pt))]) ∧ Doc w' a' (Ac.done c.now (us.map PV.pt)).length c' (Ac.done c.now (us.map PV.pt))) ∧ Below w.heap.size w w') := apply_any _ _ _ _ _ _ _ _ _ hK.cli.now hO hS
  have p2 : w.cell? ⟨g, 2, none⟩ = some (.slice c.na c.nn c.nc) := hK.blk.cell 2
  clear hK hO hS
  obtain ⟨D, hD⟩ : ∃ D, Ac.done c.now (us.map PV.pt) = D := ⟨_, rfl⟩
  have HD1 : Hid (Ac.done c.now (us.map PV.pt) = D) := hD
  rw [hD] at CA
  clear hD
  obtain ⟨q, hqq⟩ : ∃ q, D.length = q := ⟨_, rfl⟩
  rw [hqq] at CA
  clear hqq
  obtain ⟨F, hF⟩ : ∃ F, Ac.fitE c.now (us.map PV.pt) = F := ⟨_, rfl⟩
  have HF : Hid (Ac.fitE c.now (us.map PV.pt) = F) := hF
  rw [hF] at CA
  clear hF
  by_cases hz : F = 0
  · have HFW : Hid (Few on us) := HFW.out (HF.out.trans hz)
    have HF0 : Hid (Ac.fitE c.cl.now (us.map PV.pt) = 0) := HF.out.trans hz
    subst hz
    by_cases hs : c.sn = 0
    · have HSL : Hid (c.cl.sent.length = 0) := hsl.trans hs
      have HS0 : Hid (c.sn = 0) := hs
      clear hs
      have hE : Kl.doE c.cl (us.map PV.pt) = (if c.seq = 10000 then 2 else 0) := by unfold Kl.doE; rw [if_pos HF0.out, if_pos HSL.out]; rfl
      have hC : Kl.doC c.cl (us.map PV.pt) = ⟨c.rev, c.base, Ac.done c.now (us.map PV.pt), c.seq + 1, us.map PV.pt, c.held.map PV.pt, c.jo⟩ := by unfold Kl.doC; rw [if_pos HSL.out]; rfl
      have hS2 : Kl.doS c.cl = true := by unfold Kl.doS; exact decide_eq_true HSL.out
      obtain ⟨E0, hE0⟩ : ∃ E0, (if c.seq = 10000 then (2 : Int) else 0) = E0 := ⟨_, rfl⟩
      rw [hE, hC, hS2, hE0]
      have HE0 : Hid ((if c.seq = 10000 then (2 : Int) else 0) = E0) := hE0
      clear hE hC hS2 hsl hhl hE0
      go_enter Tryd.func66, Tryd.ntmps66
      go_wp2_with fail
      refine CA.out.mono ?_
      rintro e w1 ⟨⟨a1, c1, rfl, hd⟩, hb⟩
      have hk1 := HK.out.below hb
      have HO1 : Hid (Ops (w1.setCell ⟨g, 2, none⟩ (.slice a1 q c1)) oa on oc us) := (HO.out.below hb).keptK hk1.blk (kept_g ..)
      have HS1 : Hid (Sch (w1.setCell ⟨g, 2, none⟩ (.slice a1 q c1))) := (HSC.out.below hb).keptK hk1.blk (kept_g ..)
      have HK1 : Hid (KAt (w1.setCell ⟨g, 2, none⟩ (.slice a1 q c1)) g (c.toNow a1 q c1 D)) := hk1.toNow a1 q c1 D hd
      have HKP : Hid (Kept w (w1.setCell ⟨g, 2, none⟩ (.slice a1 q c1)) [g]) := (Kept.of_below hb).trans (kept_g ..)
      clear p2
      have p2 : w1.cell? ⟨g, 2, none⟩ = some (.slice c.na c.nn c.nc) := hk1.blk.cell 2
      have f2 := hk1.blk.frozen 2
      clear hk1 hb hd CA HK HO HSC
      go_upto_region 2 with fail
      change Code.wp Tryd.prog _ _ _ (w1.setCell ⟨g, 2, none⟩ (.slice a1 q c1))
      generalize w1.setCell ⟨g, 2, none⟩ (.slice a1 q c1) = W at *
      clear p2 f2
      have p4 : W.cell? ⟨g, 4, none⟩ = some (.slice c.sa c.sn c.sc) := HK1.out.blk.cell 4
      have p5 : W.cell? ⟨g, 5, none⟩ = some (.slice c.ha c.hn c.hc) := HK1.out.blk.cell 5
      have CIS : Hid (Calls Tryd.prog 67 #[.slice c.sa c.sn c.sc] W fun e w' => e = .returned (.bool false) ∧ w' = W) := by have := isThere_any c.sa c.sn c.sc W; rw [show decide (0 < c.sn) = false by have h := HS0.out; simp; omega] at this; exact this
      go_wp2_with fail
      refine CIS.out.mono ?_
      rintro e w3 ⟨rfl, hw⟩
      obtain rfl := hw.symm
      try clear hw
      clear CIS
      have CP : Hid (Calls Tryd.prog 85 #[.slice oa on oc] W fun e w' => (∃ a c vs, e = .returned (.slice a on c) ∧ Ops w' a on c vs ∧ vs.map PV.pt = us.map PV.pt) ∧ Below W.heap.size W w') := copyA_any _ _ _ _ _ HO1.out HFW.out
      go_wp2_with fail
      refine CP.out.mono ?_
      rintro e w4 ⟨⟨a4, c4, u4, rfl, ho4, hu4⟩, hb⟩
      have HK4 : Hid (KAt w4 g (c.toNow a1 q c1 D)) := HK1.out.below hb
      have HKP4 : Hid (Kept w w4 [g]) := HKP.out.trans (Kept.of_below hb)
      have HO4 : Hid (Ops w4 a4 on c4 u4) := ho4
      have HU4 : Hid (u4.map PV.pt = us.map PV.pt) := hu4
      clear ho4 hu4 hb CP p4 p5
      have CSN : Hid (Calls Tryd.prog 92 #[.pointer (some ⟨g, 0, none⟩), .slice a4 on c4] w4 fun e w' => e = .returned (.bool (!decide (c.seq = 10000))) ∧ KAt w' g (if c.seq = 10000 then (c.toNow a1 q c1 D) else ((c.toNow a1 q c1 D).toSent a4 on c4 u4).toSeq (c.seq + 1)) ∧ Kept w4 w' [g]) := send_any g (c.toNow a1 q c1 D) a4 on c4 u4 w4 HK4.out HO4.out hq hq2
      by_cases h10 : c.seq = 10000
      · obtain rfl : E0 = 2 := by rw [← HE0.out, if_pos h10]
        rw [if_pos h10, show (!decide (c.seq = 10000)) = false by simp [h10]] at CSN
        go_wp2_with fail
        refine CSN.out.mono ?_
        rintro e w5 ⟨rfl, hk5, hkp⟩
        have HK5 : Hid (KAt w5 g (c.toNow a1 q c1 D)) := hk5
        have HKP5 : Hid (Kept w w5 [g]) := HKP4.out.trans hkp
        clear hk5 hkp CSN h10
        go_wp2
        exact bodyPost_ret (v := .tuple #[.bool false, .int .i64 2]) (by simp [results, Tryd.results66, go_sem]) rfl ⟨⟨_, false, rfl, HK5.out, fun h => absurd h (by decide)⟩, HKP5.out⟩
      · obtain rfl : E0 = 0 := by rw [← HE0.out, if_neg h10]
        rw [if_neg h10, show (!decide (c.seq = 10000)) = true by simp [h10]] at CSN
        go_wp2_with fail
        refine CSN.out.mono ?_
        rintro e w5 ⟨rfl, hk5, hkp⟩
        have HK5 : Hid (KAt w5 g (((c.toNow a1 q c1 D).toSent a4 on c4 u4).toSeq (c.seq + 1))) := hk5
        have HKP5 : Hid (Kept w w5 [g]) := HKP4.out.trans hkp
        clear hk5 hkp CSN h10
        go_wp2
        refine bodyPost_ret (v := .tuple #[.bool true, .int .i64 0]) (by simp [results, Tryd.results66, go_sem]) rfl ⟨⟨_, true, rfl, HK5.out, fun _ => ⟨rfl, ?_⟩⟩, HKP5.out⟩
        show (⟨c.rev, c.base, D, c.seq + 1, u4.map PV.pt, c.held.map PV.pt, c.jo⟩ : Kl.Cl) = _
        rw [HU4.out, HD1.out]
    · have HSL : Hid (¬ c.cl.sent.length = 0) := fun h => hs (hsl.symm.trans h)
      have HS0 : Hid (¬ c.sn = 0) := hs
      clear hs
      have hS2 : Kl.doS c.cl = false := by unfold Kl.doS; exact decide_eq_false HSL.out
      by_cases hh : c.hn = 0
      · have HHL : Hid (c.cl.held.length = 0) := hhl.trans hh
        have HH0 : Hid (c.hn = 0) := hh
        clear hh
        have hE : Kl.doE c.cl (us.map PV.pt) = 0 := by unfold Kl.doE; rw [if_pos HF0.out, if_neg HSL.out, if_pos HHL.out]
        have hC : Kl.doC c.cl (us.map PV.pt) = ⟨c.rev, c.base, Ac.done c.now (us.map PV.pt), c.seq, c.sent.map PV.pt, us.map PV.pt, c.jo⟩ := by unfold Kl.doC; rw [if_neg HSL.out, if_pos HHL.out]; rfl
        rw [hE, hC, hS2]
        clear hE hC hS2 hsl hhl
        go_enter Tryd.func66, Tryd.ntmps66
        go_wp2_with fail
        refine CA.out.mono ?_
        rintro e w1 ⟨⟨a1, c1, rfl, hd⟩, hb⟩
        have hk1 := HK.out.below hb
        have HO1 : Hid (Ops (w1.setCell ⟨g, 2, none⟩ (.slice a1 q c1)) oa on oc us) := (HO.out.below hb).keptK hk1.blk (kept_g ..)
        have HS1 : Hid (Sch (w1.setCell ⟨g, 2, none⟩ (.slice a1 q c1))) := (HSC.out.below hb).keptK hk1.blk (kept_g ..)
        have HK1 : Hid (KAt (w1.setCell ⟨g, 2, none⟩ (.slice a1 q c1)) g (c.toNow a1 q c1 D)) := hk1.toNow a1 q c1 D hd
        have HKP : Hid (Kept w (w1.setCell ⟨g, 2, none⟩ (.slice a1 q c1)) [g]) := (Kept.of_below hb).trans (kept_g ..)
        clear p2
        have p2 : w1.cell? ⟨g, 2, none⟩ = some (.slice c.na c.nn c.nc) := hk1.blk.cell 2
        have f2 := hk1.blk.frozen 2
        clear hk1 hb hd CA HK HO HSC
        go_upto_region 2 with fail
        change Code.wp Tryd.prog _ _ _ (w1.setCell ⟨g, 2, none⟩ (.slice a1 q c1))
        generalize w1.setCell ⟨g, 2, none⟩ (.slice a1 q c1) = W at *
        clear p2 f2
        have p4 : W.cell? ⟨g, 4, none⟩ = some (.slice c.sa c.sn c.sc) := HK1.out.blk.cell 4
        have p5 : W.cell? ⟨g, 5, none⟩ = some (.slice c.ha c.hn c.hc) := HK1.out.blk.cell 5
        have CIS : Hid (Calls Tryd.prog 67 #[.slice c.sa c.sn c.sc] W fun e w' => e = .returned (.bool true) ∧ w' = W) := by have := isThere_any c.sa c.sn c.sc W; rw [show decide (0 < c.sn) = true by have h := HS0.out; simp; omega] at this; exact this
        go_wp2_with fail
        refine CIS.out.mono ?_
        rintro e w3 ⟨rfl, hw⟩
        obtain rfl := hw.symm
        try clear hw
        clear CIS
        have CIH : Hid (Calls Tryd.prog 67 #[.slice c.ha c.hn c.hc] W fun e w' => e = .returned (.bool false) ∧ w' = W) := by have := isThere_any c.ha c.hn c.hc W; rw [show decide (0 < c.hn) = false by have h := HH0.out; simp; omega] at this; exact this
        go_wp2_with fail
        refine CIH.out.mono ?_
        rintro e w3 ⟨rfl, hw⟩
        obtain rfl := hw.symm
        try clear hw
        clear CIH
        have CP : Hid (Calls Tryd.prog 85 #[.slice oa on oc] W fun e w' => (∃ a c vs, e = .returned (.slice a on c) ∧ Ops w' a on c vs ∧ vs.map PV.pt = us.map PV.pt) ∧ Below W.heap.size W w') := copyA_any _ _ _ _ _ HO1.out HFW.out
        go_wp2_with fail
        refine CP.out.mono ?_
        rintro e w4 ⟨⟨a4, c4, u4, rfl, ho4, hu4⟩, hb⟩
        have HK4 : Hid (KAt w4 g (c.toNow a1 q c1 D)) := HK1.out.below hb
        have HKP4 : Hid (Kept w w4 [g]) := HKP.out.trans (Kept.of_below hb)
        have HO4 : Hid (Ops w4 a4 on c4 u4) := ho4
        have HU4 : Hid (u4.map PV.pt = us.map PV.pt) := hu4
        clear ho4 hu4 hb CP p4 p5
        have HK5 : Hid (KAt (w4.setCell ⟨g, 5, none⟩ (.slice a4 on c4)) g ((c.toNow a1 q c1 D).toHeld a4 on c4 u4)) := HK4.out.toHeld a4 on c4 u4 HO4.out
        have p5 : w4.cell? ⟨g, 5, none⟩ = some (.slice c.ha c.hn c.hc) := HK4.out.blk.cell 5
        have f5 := HK4.out.blk.frozen 5
        go_wp2
        refine bodyPost_ret (v := .tuple #[.bool false, .int .i64 0]) (by simp [results, Tryd.results66, go_sem]) rfl ⟨⟨_, false, rfl, HK5.out, fun _ => ⟨rfl, ?_⟩⟩, HKP4.out.trans (kept_g ..)⟩
        show (⟨c.rev, c.base, D, c.seq, c.sent.map PV.pt, u4.map PV.pt, c.jo⟩ : Kl.Cl) = _
        rw [HU4.out, HD1.out]
      · have HHL : Hid (¬ c.cl.held.length = 0) := fun h => hh (hhl.symm.trans h)
        have HH0 : Hid (¬ c.hn = 0) := hh
        clear hh
        have hE : Kl.doE c.cl (us.map PV.pt) = Ac.jonE (c.held.map PV.pt) (us.map PV.pt) := by unfold Kl.doE; rw [if_pos HF0.out, if_neg HSL.out, if_neg HHL.out]; rfl
        have hC : Kl.doC c.cl (us.map PV.pt) = ⟨c.rev, c.base, Ac.done c.now (us.map PV.pt), c.seq, c.sent.map PV.pt, Ac.jonX (c.held.map PV.pt) (us.map PV.pt), c.jo⟩ := by unfold Kl.doC; rw [if_neg HSL.out, if_neg HHL.out]; rfl
        rw [hE, hC, hS2]
        obtain ⟨X, hX⟩ : ∃ X, Ac.jonX (c.held.map PV.pt) (us.map PV.pt) = X := ⟨_, rfl⟩
        obtain ⟨E, hEE⟩ : ∃ E, Ac.jonE (c.held.map PV.pt) (us.map PV.pt) = E := ⟨_, rfl⟩
        have HXX : Hid (Ac.jonX (c.held.map PV.pt) (us.map PV.pt) = X) := hX
        have HEE : Hid (Ac.jonE (c.held.map PV.pt) (us.map PV.pt) = E) := hEE
        rw [hX, hEE]
        clear hE hC hS2 hsl hhl hX hEE
        go_enter Tryd.func66, Tryd.ntmps66
        go_wp2_with fail
        refine CA.out.mono ?_
        rintro e w1 ⟨⟨a1, c1, rfl, hd⟩, hb⟩
        have hk1 := HK.out.below hb
        have HO1 : Hid (Ops (w1.setCell ⟨g, 2, none⟩ (.slice a1 q c1)) oa on oc us) := (HO.out.below hb).keptK hk1.blk (kept_g ..)
        have HS1 : Hid (Sch (w1.setCell ⟨g, 2, none⟩ (.slice a1 q c1))) := (HSC.out.below hb).keptK hk1.blk (kept_g ..)
        have HK1 : Hid (KAt (w1.setCell ⟨g, 2, none⟩ (.slice a1 q c1)) g (c.toNow a1 q c1 D)) := hk1.toNow a1 q c1 D hd
        have HKP : Hid (Kept w (w1.setCell ⟨g, 2, none⟩ (.slice a1 q c1)) [g]) := (Kept.of_below hb).trans (kept_g ..)
        clear p2
        have p2 : w1.cell? ⟨g, 2, none⟩ = some (.slice c.na c.nn c.nc) := hk1.blk.cell 2
        have f2 := hk1.blk.frozen 2
        clear hk1 hb hd CA HK HO HSC
        go_upto_region 2 with fail
        change Code.wp Tryd.prog _ _ _ (w1.setCell ⟨g, 2, none⟩ (.slice a1 q c1))
        generalize w1.setCell ⟨g, 2, none⟩ (.slice a1 q c1) = W at *
        clear p2 f2
        have p4 : W.cell? ⟨g, 4, none⟩ = some (.slice c.sa c.sn c.sc) := HK1.out.blk.cell 4
        have p5 : W.cell? ⟨g, 5, none⟩ = some (.slice c.ha c.hn c.hc) := HK1.out.blk.cell 5
        have CIS : Hid (Calls Tryd.prog 67 #[.slice c.sa c.sn c.sc] W fun e w' => e = .returned (.bool true) ∧ w' = W) := by have := isThere_any c.sa c.sn c.sc W; rw [show decide (0 < c.sn) = true by have h := HS0.out; simp; omega] at this; exact this
        go_wp2_with fail
        refine CIS.out.mono ?_
        rintro e w3 ⟨rfl, hw⟩
        obtain rfl := hw.symm
        try clear hw
        clear CIS
        have CIH : Hid (Calls Tryd.prog 67 #[.slice c.ha c.hn c.hc] W fun e w' => e = .returned (.bool true) ∧ w' = W) := by have := isThere_any c.ha c.hn c.hc W; rw [show decide (0 < c.hn) = true by have h := HH0.out; simp; omega] at this; exact this
        go_wp2_with fail
        refine CIH.out.mono ?_
        rintro e w3 ⟨rfl, hw⟩
        obtain rfl := hw.symm
        try clear hw
        clear CIH
        have CJ : Hid (Calls Tryd.prog 10 #[.slice c.ha c.hn c.hc, .slice oa on oc] W fun e w' => JoinP (Ac.jonX (c.held.map PV.pt) (us.map PV.pt)) (Ac.jonE (c.held.map PV.pt) (us.map PV.pt)) e w' ∧ Below W.heap.size W w') := join_any _ _ _ _ _ _ _ _ _ HK1.out.cli.held HO1.out HS1.out
        rw [HXX.out, HEE.out] at CJ
        clear HXX HEE
        go_wp2_with fail
        refine CJ.out.mono ?_
        rintro e w4 ⟨⟨a4, n4, c4, u4, rfl, ho4, hu4⟩, hb⟩
        have HK4 : Hid (KAt w4 g (c.toNow a1 q c1 D)) := HK1.out.below hb
        have HKP4 : Hid (Kept w w4 [g]) := HKP.out.trans (Kept.of_below hb)
        have HU4 : Hid (u4.map PV.pt = X) := hu4
        have HK5 : Hid (KAt (w4.setCell ⟨g, 5, none⟩ (.slice a4 n4 c4)) g ((c.toNow a1 q c1 D).toHeld a4 n4 c4 u4)) := HK4.out.toHeld a4 n4 c4 u4 ho4
        clear ho4 hu4 hb CJ p4 p5
        have p5 : w4.cell? ⟨g, 5, none⟩ = some (.slice c.ha c.hn c.hc) := HK4.out.blk.cell 5
        have f5 := HK4.out.blk.frozen 5
        go_wp2
        refine bodyPost_ret (v := .tuple #[.bool false, .int .i64 E]) (by simp [results, Tryd.results66, go_sem]) rfl ⟨⟨_, false, rfl, HK5.out, fun _ => ⟨rfl, ?_⟩⟩, HKP4.out.trans (kept_g ..)⟩
        show (⟨c.rev, c.base, D, c.seq, c.sent.map PV.pt, u4.map PV.pt, c.jo⟩ : Kl.Cl) = _
        rw [HU4.out, HD1.out]
  · have hE : Kl.doE c.cl (us.map PV.pt) = F := by unfold Kl.doE; rw [if_neg (show ¬ Ac.fitE c.cl.now (us.map PV.pt) = 0 from fun h => hz (HF.out.symm.trans h))]; exact HF.out
    rw [hE]
    have hne : (F != 0) = true := by simp [hz]
    clear hE hsl hhl
    go_enter Tryd.func66, Tryd.ntmps66
    go_wp2_with fail
    refine CA.out.mono ?_
    rintro e w1 ⟨⟨a1, c1, rfl, hd⟩, hb⟩
    have hk1 := HK.out.below hb
    have HO1 : Hid (Ops (w1.setCell ⟨g, 2, none⟩ (.slice a1 q c1)) oa on oc us) := (HO.out.below hb).keptK hk1.blk (kept_g ..)
    have HS1 : Hid (Sch (w1.setCell ⟨g, 2, none⟩ (.slice a1 q c1))) := (HSC.out.below hb).keptK hk1.blk (kept_g ..)
    have HK1 : Hid (KAt (w1.setCell ⟨g, 2, none⟩ (.slice a1 q c1)) g (c.toNow a1 q c1 D)) := hk1.toNow a1 q c1 D hd
    have HKP : Hid (Kept w (w1.setCell ⟨g, 2, none⟩ (.slice a1 q c1)) [g]) := (Kept.of_below hb).trans (kept_g ..)
    clear p2
    have p2 : w1.cell? ⟨g, 2, none⟩ = some (.slice c.na c.nn c.nc) := hk1.blk.cell 2
    have f2 := hk1.blk.frozen 2
    clear hk1 hb hd CA HK HO HSC
    go_upto_region 2 with fail
    change Code.wp Tryd.prog _ _ _ (w1.setCell ⟨g, 2, none⟩ (.slice a1 q c1))
    generalize w1.setCell ⟨g, 2, none⟩ (.slice a1 q c1) = W at *
    clear p2 f2
    have p4 : W.cell? ⟨g, 4, none⟩ = some (.slice c.sa c.sn c.sc) := HK1.out.blk.cell 4
    have p5 : W.cell? ⟨g, 5, none⟩ = some (.slice c.ha c.hn c.hc) := HK1.out.blk.cell 5
    go_wp2
    exact bodyPost_ret (v := .tuple #[.bool false, .int .i64 F]) (by simp [results, Tryd.results66, go_sem]) rfl ⟨⟨_, false, rfl, HK1.out, fun h => absurd h hz⟩, HKP.out⟩

theorem results_cell_tmp2 {fn : Func} {p u v : Tmp} {ty : TypeId} (h : fn.results = #[.cell p ty, .tmp u, .tmp v]) (tmps : Array Value) (P : Program) (w : World) :
    (results fn tmps).run P w = ((asAddr (tmps.getD p undef)).run P w).andThen fun a w₁ => ((loadVar ty a).run P w₁).andThen fun x w₂ => .ok (.tuple #[x, tmps.getD u undef, tmps.getD v undef]) w₂ := by
  simp only [results, h]
  simp [Sem.run_bind, Result.andThen]
theorem ret_cli3 {fn : Func} {p u v : Tmp} {t : CV} {c d : Value} {w : World} {g : Nat} (h : fn.results = #[.cell p 51, .tmp u, .tmp v]) (tmps : Array Value) (hp : tmps.getD p undef = .pointer (some ⟨g, 0, none⟩)) (hu : tmps.getD u undef = c) (hv : tmps.getD v undef = d) (hB : Blk w g (cvC t) 51) : (results fn tmps).run Tryd.prog w = .ok (.tuple #[cvA t, c, d]) w := by
  have hl := run_loadVar_row (P := Tryd.prog) w g 51 51 (cvC t).toArray (0, 0) _ hB Tryd.underlying51 rfl (szCv t)
  rw [results_cell_tmp2 h, hp, hu, hv]
  simp only [asAddr, Sem.run_pure, Result.andThen_ok, hl]
  rfl
theorem cli_few {w : World} {c : CV} (hC : Cli w c) (h : Kl.cliE c.cl = 0) : c.bn ≤ 80 ∧ c.nn ≤ 80 ∧ Few c.sn c.sent ∧ Few c.hn c.held := by
  have R := Kl.cli_0 h
  have h1 := Dc.check_few R.ck
  have h2 := Dc.check_few R.now_ck
  have e1 : c.base.length = c.bn := hC.base.len
  have e2 : c.now.length = c.nn := hC.now.len
  have g1 : c.cl.base.length = c.base.length := rfl
  have g2 : c.cl.now.length = c.now.length := rfl
  refine ⟨by omega, by omega, ?_, ?_⟩
  · by_cases h0 : (c.sent.map PV.pt).length = 0
    · have e : c.sent = [] := List.length_eq_zero_iff.1 (by rw [List.length_map] at h0; exact h0)
      exact ⟨by rw [← hC.sent.len, e]; exact Nat.zero_le _, fun v hv => absurd hv (by rw [e]; simp)⟩
    · have h3 := R.e1
      rw [(Kl.op_some (show 0 < c.cl.sent.length by have : c.cl.sent.length = (c.sent.map PV.pt).length := rfl; omega)).1] at h3
      have h4 := ops_few hC.sent (Ac.chk_right.2 (Ac.fit_0 h3).2.1)
      exact ⟨h4.2.1, h4.2.2⟩
  · by_cases h0 : (c.held.map PV.pt).length = 0
    · have e : c.held = [] := List.length_eq_zero_iff.1 (by rw [List.length_map] at h0; exact h0)
      exact ⟨by rw [← hC.held.len, e]; exact Nat.zero_le _, fun v hv => absurd hv (by rw [e]; simp)⟩
    · have h3 := R.e2
      rw [(Kl.op_some (show 0 < c.cl.held.length by have : c.cl.held.length = (c.held.map PV.pt).length := rfl; omega)).1] at h3
      have h4 := ops_few hC.held (Ac.chk_right.2 (Ac.fit_0 h3).2.1)
      exact ⟨h4.2.1, h4.2.2⟩
/-- What Do and Hear answer. -/
def Ans (E : Int) (S : Bool) (C : Kl.Cl) (e : Ending) (w' : World) : Prop := ∃ t, e = .returned (.tuple #[cvA t, .bool S, .int .i64 E]) ∧ Cli w' t ∧ t.cl = C
theorem CV.ext_cl {t c : CV} (h : t.cl = c.cl) : t.rev = c.rev ∧ t.base = c.base ∧ t.now = c.now ∧ t.seq = c.seq ∧ t.sent.map PV.pt = c.sent.map PV.pt ∧ t.held.map PV.pt = c.held.map PV.pt ∧ t.jo = c.jo := by
  unfold CV.cl at h
  simp only [Kl.Cl.mk.injEq] at h
  exact h

set_option maxRecDepth 100000 in
set_option maxHeartbeats 3200000 in
theorem Do_any (c : CV) (oa : Option Addr) (on oc : Nat) (us : List PV) (w : World) (hC : Cli w c) (hO : Ops w oa on oc us) (hS : Sch w) :
    Calls Tryd.prog 26 #[.agg #[.int .i64 c.rev, .slice c.ba c.bn c.bc, .slice c.na c.nn c.nc, .int .i64 c.seq, .slice c.sa c.sn c.sc, .slice c.ha c.hn c.hc, .bool c.jo], .slice oa on oc] w fun e w' => Ans (Kl.DoE c.cl (us.map PV.pt)) (Kl.DoS c.cl (us.map PV.pt)) (Kl.DoC c.cl (us.map PV.pt)) e w' ∧ Below w.heap.size w w' := by
  have H1 : Hid (Below w.heap.size w (boxk cv0 (boxk c w))) := (boxk_below c w).trans ((boxk_below cv0 _).mono (boxk_below c w).size)
  have HP : Hid (Blk (boxk cv0 (boxk c w)) (w.heap.size) (cvC c) 51) := (boxk_blk c w).alloc _
  have HQ : Hid (Blk (boxk cv0 (boxk c w)) (w.heap.size + 1) (cvC cv0) 51) := by have := boxk_blk cv0 (boxk c w); rw [boxk_size] at this; exact this
  have C1 : Hid (Calls Tryd.prog 27 #[.agg #[.int .i64 c.rev, .slice c.ba c.bn c.bc, .slice c.na c.nn c.nc, .int .i64 c.seq, .slice c.sa c.sn c.sc, .slice c.ha c.hn c.hc, .bool c.jo]] (boxk cv0 (boxk c w)) fun e w' => e = .returned (.int .i64 (Kl.cliE c.cl)) ∧ Below (boxk cv0 (boxk c w)).heap.size (boxk cv0 (boxk c w)) w') := cliE_any c _ (hC.below H1.out) (hS.below H1.out)
  have HC : Hid (Cli w c) := hC
  have HO : Hid (Ops w oa on oc us) := hO
  have HSC : Hid (Sch w) := hS
  clear hC hO hS
  by_cases hz : Kl.cliE c.cl = 0
  · have hf := cli_few HC.out hz
    have HR : Hid (Kl.Rc c.cl) := Kl.cli_0 hz
    have C2 : Hid (∀ w', Below w.heap.size w w' → Calls Tryd.prog 65 #[.agg #[.int .i64 c.rev, .slice c.ba c.bn c.bc, .slice c.na c.nn c.nc, .int .i64 c.seq, .slice c.sa c.sn c.sc, .slice c.ha c.hn c.hc, .bool c.jo]] w' fun e w'' => (∃ t, e = .returned (.agg #[.int .i64 t.rev, .slice t.ba t.bn t.bc, .slice t.na t.nn t.nc, .int .i64 t.seq, .slice t.sa t.sn t.sc, .slice t.ha t.hn t.hc, .bool t.jo]) ∧ Cli w'' t ∧ t.cl = c.cl) ∧ Below w'.heap.size w' w'') := fun w' hb => copyK_any c w' (HC.out.below hb) hf.1 hf.2.1 hf.2.2.1 hf.2.2.2
    have hDE : Kl.DoE c.cl (us.map PV.pt) = Kl.doE c.cl (us.map PV.pt) := if_pos hz
    have hDS : Kl.DoS c.cl (us.map PV.pt) = (if Kl.doE c.cl (us.map PV.pt) = 0 then Kl.doS c.cl else false) := by unfold Kl.DoS; rw [hDE]
    have hDC : Kl.DoC c.cl (us.map PV.pt) = (if Kl.doE c.cl (us.map PV.pt) = 0 then Kl.doC c.cl (us.map PV.pt) else Kl.none) := by unfold Kl.DoC; rw [hDE]
    rw [hDE, hDS, hDC]
    obtain ⟨E, hEE⟩ : ∃ E, Kl.doE c.cl (us.map PV.pt) = E := ⟨_, rfl⟩
    obtain ⟨S, hSS⟩ : ∃ S, Kl.doS c.cl = S := ⟨_, rfl⟩
    obtain ⟨C, hCC⟩ : ∃ C, Kl.doC c.cl (us.map PV.pt) = C := ⟨_, rfl⟩
    have HEE : Hid (Kl.doE c.cl (us.map PV.pt) = E) := hEE
    have HSS : Hid (Kl.doS c.cl = S) := hSS
    have HCC : Hid (Kl.doC c.cl (us.map PV.pt) = C) := hCC
    rw [hEE, hSS, hCC]
    obtain ⟨S0, hS0⟩ : ∃ S0, (if E = 0 then S else false) = S0 := ⟨_, rfl⟩
    obtain ⟨C0, hC0⟩ : ∃ C0, (if E = 0 then C else Kl.none) = C0 := ⟨_, rfl⟩
    rw [hS0, hC0]
    have HS0 : Hid ((if E = 0 then S else false) = S0) := hS0
    have HC0 : Hid ((if E = 0 then C else Kl.none) = C0) := hC0
    clear hEE hSS hCC
    rw [hz] at C1
    clear hf hz hDE hDS hDC hS0 hC0
    go_enter Tryd.func26, Tryd.ntmps26
    go_upto_region 1 with fail
    change Code.wp Tryd.prog _ _ _ (boxk cv0 (boxk c w))
    generalize (boxk cv0 (boxk c w)) = W at *
    have p0 : W.cell? ⟨w.heap.size, 0, none⟩ = some (.int .i64 c.rev) := HP.out.cell 0
    have p1 : W.cell? ⟨w.heap.size, 1, none⟩ = some (.slice c.ba c.bn c.bc) := HP.out.cell 1
    have p2 : W.cell? ⟨w.heap.size, 2, none⟩ = some (.slice c.na c.nn c.nc) := HP.out.cell 2
    have p3 : W.cell? ⟨w.heap.size, 3, none⟩ = some (.int .i64 c.seq) := HP.out.cell 3
    have p4 : W.cell? ⟨w.heap.size, 4, none⟩ = some (.slice c.sa c.sn c.sc) := HP.out.cell 4
    have p5 : W.cell? ⟨w.heap.size, 5, none⟩ = some (.slice c.ha c.hn c.hc) := HP.out.cell 5
    have p6 : W.cell? ⟨w.heap.size, 6, none⟩ = some (.bool c.jo) := HP.out.cell 6
    go_wp2_with fail
    refine C1.out.mono ?_
    rintro e w1 ⟨rfl, hb⟩
    have HW1 : Hid (Below w.heap.size w w1) := H1.out.trans (hb.mono H1.out.size)
    have HP1 : Hid (Blk w1 (w.heap.size) (cvC c) 51) := (hb.block _ HP.out.lt).trans HP.out
    have HQ1 : Hid (Blk w1 (w.heap.size + 1) (cvC cv0) 51) := (hb.block _ HQ.out.lt).trans HQ.out
    clear hb C1 p0 p1 p2 p3 p4 p5 p6 HP HQ H1
    have p0 : w1.cell? ⟨w.heap.size, 0, none⟩ = some (.int .i64 c.rev) := HP1.out.cell 0
    have p1 : w1.cell? ⟨w.heap.size, 1, none⟩ = some (.slice c.ba c.bn c.bc) := HP1.out.cell 1
    have p2 : w1.cell? ⟨w.heap.size, 2, none⟩ = some (.slice c.na c.nn c.nc) := HP1.out.cell 2
    have p3 : w1.cell? ⟨w.heap.size, 3, none⟩ = some (.int .i64 c.seq) := HP1.out.cell 3
    have p4 : w1.cell? ⟨w.heap.size, 4, none⟩ = some (.slice c.sa c.sn c.sc) := HP1.out.cell 4
    have p5 : w1.cell? ⟨w.heap.size, 5, none⟩ = some (.slice c.ha c.hn c.hc) := HP1.out.cell 5
    have p6 : w1.cell? ⟨w.heap.size, 6, none⟩ = some (.bool c.jo) := HP1.out.cell 6
    go_wp2_with fail
    refine (C2.out _ HW1.out).mono ?_
    rintro e w2 ⟨⟨t, rfl, ht, hcl⟩, hb⟩
    have HW2 : Hid (Below w.heap.size w w2) := HW1.out.trans (hb.mono HW1.out.size)
    have HQ2 : Hid (Blk w2 (w.heap.size + 1) (cvC cv0) 51) := (hb.block _ HQ1.out.lt).trans HQ1.out
    have HT2 : Hid (Cli w2 t) := ht
    have HCL : Hid (t.cl = c.cl) := hcl
    clear hb ht hcl C2 p0 p1 p2 p3 p4 p5 p6 HP1 HQ1
    have q0 : w2.cell? ⟨w.heap.size + 1, 0, none⟩ = some (.int .i64 0) := HQ2.out.cell 0
    have q1 : w2.cell? ⟨w.heap.size + 1, 1, none⟩ = some (.slice none 0 0) := HQ2.out.cell 1
    have q2 : w2.cell? ⟨w.heap.size + 1, 2, none⟩ = some (.slice none 0 0) := HQ2.out.cell 2
    have q3 : w2.cell? ⟨w.heap.size + 1, 3, none⟩ = some (.int .i64 0) := HQ2.out.cell 3
    have q4 : w2.cell? ⟨w.heap.size + 1, 4, none⟩ = some (.slice none 0 0) := HQ2.out.cell 4
    have q5 : w2.cell? ⟨w.heap.size + 1, 5, none⟩ = some (.slice none 0 0) := HQ2.out.cell 5
    have q6 : w2.cell? ⟨w.heap.size + 1, 6, none⟩ = some (.bool false) := HQ2.out.cell 6
    have g0 := HQ2.out.frozen 0
    have g1 := HQ2.out.frozen 1
    have g2 := HQ2.out.frozen 2
    have g3 := HQ2.out.frozen 3
    have g4 := HQ2.out.frozen 4
    have g5 := HQ2.out.frozen 5
    have g6 := HQ2.out.frozen 6
    have HK3 : Hid (KAt (putK w2 (w.heap.size + 1) t) (w.heap.size + 1) t) := KAt.put HQ2.out HT2.out
    have HKP3 : Hid (Kept w2 (putK w2 (w.heap.size + 1) t) [w.heap.size + 1]) := putK_kept _ _ _
    go_upto_region 5 with fail
    change Code.wp Tryd.prog _ _ _ (putK w2 (w.heap.size + 1) t)
    have CD : Hid (Calls Tryd.prog 66 #[.pointer (some ⟨w.heap.size + 1, 0, none⟩), .slice oa on oc] (putK w2 (w.heap.size + 1) t) fun e w' => SentP (w.heap.size + 1) (Kl.doE t.cl (us.map PV.pt)) (Kl.doS t.cl) (Kl.doC t.cl (us.map PV.pt)) e w' ∧ Kept (putK w2 (w.heap.size + 1) t) w' [w.heap.size + 1]) := do_any (w.heap.size + 1) t oa on oc us _ HK3.out ((HO.out.below HW2.out).keptK HQ2.out HKP3.out) ((HSC.out.below HW2.out).keptK HQ2.out HKP3.out) (by have := HR.out.qlo; rw [(CV.ext_cl HCL.out).2.2.2.1]; exact this) (by have := HR.out.qhi; rw [(CV.ext_cl HCL.out).2.2.2.1]; exact this)
    rw [HCL.out, HEE.out, HSS.out, HCC.out] at CD
    clear HEE HSS HCC
    generalize putK w2 (w.heap.size + 1) t = W3 at *
    clear q0 q1 q2 q3 q4 q5 q6 g0 g1 g2 g3 g4 g5 g6
    have hB1 : w.heap.size + 1 ≤ w2.heap.size := by have := HQ2.out.lt; omega
    have HBL : Hid (∀ w', Kept W3 w' [w.heap.size + 1] → Below w.heap.size w w') := fun w' hk => HW2.out.trans (((HKP3.out.trans hk).low hB1).mono (by omega))
    go_wp2_with fail
    refine CD.out.mono ?_
    rintro e w4 ⟨⟨c4, s4, rfl, hk4, hi4⟩, hkp⟩
    have HK4 : Hid (KAt w4 (w.heap.size + 1) c4) := hk4
    have HI4 : Hid (E = 0 → s4 = S ∧ c4.cl = C) := hi4
    have HKP4 : Hid (Kept W3 w4 [w.heap.size + 1]) := hkp
    clear hk4 hi4 hkp CD
    have p0 : w4.cell? ⟨w.heap.size + 1, 0, none⟩ = some (.int .i64 c4.rev) := HK4.out.blk.cell 0
    have p1 : w4.cell? ⟨w.heap.size + 1, 1, none⟩ = some (.slice c4.ba c4.bn c4.bc) := HK4.out.blk.cell 1
    have p2 : w4.cell? ⟨w.heap.size + 1, 2, none⟩ = some (.slice c4.na c4.nn c4.nc) := HK4.out.blk.cell 2
    have p3 : w4.cell? ⟨w.heap.size + 1, 3, none⟩ = some (.int .i64 c4.seq) := HK4.out.blk.cell 3
    have p4 : w4.cell? ⟨w.heap.size + 1, 4, none⟩ = some (.slice c4.sa c4.sn c4.sc) := HK4.out.blk.cell 4
    have p5 : w4.cell? ⟨w.heap.size + 1, 5, none⟩ = some (.slice c4.ha c4.hn c4.hc) := HK4.out.blk.cell 5
    have p6 : w4.cell? ⟨w.heap.size + 1, 6, none⟩ = some (.bool c4.jo) := HK4.out.blk.cell 6
    have f0 := HK4.out.blk.frozen 0
    have f1 := HK4.out.blk.frozen 1
    have f2 := HK4.out.blk.frozen 2
    have f3 := HK4.out.blk.frozen 3
    have f4 := HK4.out.blk.frozen 4
    have f5 := HK4.out.blk.frozen 5
    have f6 := HK4.out.blk.frozen 6
    by_cases hz : E = 0
    · obtain ⟨e1, e2⟩ := HI4.out hz
      obtain rfl : S0 = s4 := by have := HS0.out; rw [if_pos hz] at this; rw [← this, e1]
      have HE2 : Hid (c4.cl = C0) := by have := HC0.out; rw [if_pos hz] at this; show _ = _; rw [← this, e2]
      clear e1 e2 HI4 HS0 HC0
      subst hz
      go_wp2
      change bodyPost Tryd.prog _ _ Exit.ret _ (putK w4 (w.heap.size + 1) c4)
      exact bodyPost_ret (ret_cli3 (t := c4) rfl _ rfl rfl rfl (putK_blk HK4.out.blk)) rfl ⟨⟨c4, rfl, HK4.out.cli.keptK HK4.out.blk (putK_kept _ _ _), HE2.out⟩, HBL.out _ (HKP4.out.trans (putK_kept _ _ _))⟩
    · obtain rfl : S0 = false := by have := HS0.out; rw [if_neg hz] at this; exact this.symm
      have HE2 : Hid (Kl.none = C0) := by have := HC0.out; rw [if_neg hz] at this; exact this
      have hne : (E != 0) = true := by simp [hz]
      clear HI4 HS0 HC0
      go_wp2
      change bodyPost Tryd.prog _ _ Exit.ret _ (putK w4 (w.heap.size + 1) cv0)
      exact bodyPost_ret (ret_cli3 (t := cv0) rfl _ rfl rfl rfl (putK_blk HK4.out.blk)) rfl ⟨⟨cv0, rfl, Cli.nil _, HE2.out⟩, HBL.out _ (HKP4.out.trans (putK_kept _ _ _))⟩
  · have hDE : Kl.DoE c.cl (us.map PV.pt) = Kl.cliE c.cl := if_neg hz
    have hDS : Kl.DoS c.cl (us.map PV.pt) = false := by unfold Kl.DoS; rw [hDE, if_neg hz]
    have hDC : Kl.DoC c.cl (us.map PV.pt) = Kl.none := by unfold Kl.DoC; rw [hDE, if_neg hz]
    rw [hDE, hDS, hDC]
    generalize Kl.cliE c.cl = E at *
    have hne : (E != 0) = true := by simp [hz]
    clear hDE hDS hDC
    go_enter Tryd.func26, Tryd.ntmps26
    go_upto_region 1 with fail
    change Code.wp Tryd.prog _ _ _ (boxk cv0 (boxk c w))
    generalize (boxk cv0 (boxk c w)) = W at *
    have p0 : W.cell? ⟨w.heap.size, 0, none⟩ = some (.int .i64 c.rev) := HP.out.cell 0
    have p1 : W.cell? ⟨w.heap.size, 1, none⟩ = some (.slice c.ba c.bn c.bc) := HP.out.cell 1
    have p2 : W.cell? ⟨w.heap.size, 2, none⟩ = some (.slice c.na c.nn c.nc) := HP.out.cell 2
    have p3 : W.cell? ⟨w.heap.size, 3, none⟩ = some (.int .i64 c.seq) := HP.out.cell 3
    have p4 : W.cell? ⟨w.heap.size, 4, none⟩ = some (.slice c.sa c.sn c.sc) := HP.out.cell 4
    have p5 : W.cell? ⟨w.heap.size, 5, none⟩ = some (.slice c.ha c.hn c.hc) := HP.out.cell 5
    have p6 : W.cell? ⟨w.heap.size, 6, none⟩ = some (.bool c.jo) := HP.out.cell 6
    go_wp2_with fail
    refine C1.out.mono ?_
    rintro e w1 ⟨rfl, hb⟩
    have HW1 : Hid (Below w.heap.size w w1) := H1.out.trans (hb.mono H1.out.size)
    have HQ1 : Hid (Blk w1 (w.heap.size + 1) (cvC cv0) 51) := (hb.block _ HQ.out.lt).trans HQ.out
    clear hb C1 p0 p1 p2 p3 p4 p5 p6 HP HQ H1
    have q0 : w1.cell? ⟨w.heap.size + 1, 0, none⟩ = some (.int .i64 0) := HQ1.out.cell 0
    have q1 : w1.cell? ⟨w.heap.size + 1, 1, none⟩ = some (.slice none 0 0) := HQ1.out.cell 1
    have q2 : w1.cell? ⟨w.heap.size + 1, 2, none⟩ = some (.slice none 0 0) := HQ1.out.cell 2
    have q3 : w1.cell? ⟨w.heap.size + 1, 3, none⟩ = some (.int .i64 0) := HQ1.out.cell 3
    have q4 : w1.cell? ⟨w.heap.size + 1, 4, none⟩ = some (.slice none 0 0) := HQ1.out.cell 4
    have q5 : w1.cell? ⟨w.heap.size + 1, 5, none⟩ = some (.slice none 0 0) := HQ1.out.cell 5
    have q6 : w1.cell? ⟨w.heap.size + 1, 6, none⟩ = some (.bool false) := HQ1.out.cell 6
    have g0 := HQ1.out.frozen 0
    have g1 := HQ1.out.frozen 1
    have g2 := HQ1.out.frozen 2
    have g3 := HQ1.out.frozen 3
    have g4 := HQ1.out.frozen 4
    have g5 := HQ1.out.frozen 5
    have g6 := HQ1.out.frozen 6
    go_wp2
    change bodyPost Tryd.prog _ _ Exit.ret _ (putK w1 (w.heap.size + 1) cv0)
    exact bodyPost_ret (ret_cli3 (t := cv0) rfl _ rfl rfl rfl (putK_blk HQ1.out)) rfl ⟨⟨cv0, rfl, Cli.nil _, rfl⟩, HW1.out.trans (((putK_kept w1 (w.heap.size + 1) cv0).low (by have := HQ1.out.lt; omega)).mono (by omega))⟩
end Go.Proofs.YtbhcklkbckacpaaDoor
