/-
  Package client: what a client hears of its own operation, and of another one's.
-/
import Derived.Test.YtbhcklkbckacpaaDoorYf
import Derived.Test.YtbhcklkbckacpaaDoorYc
namespace Go.Proofs.YtbhcklkbckacpaaDoor
open Go.RowKit
/-- Behind advance. -/
theorem adv_is {c c1 : CV} {o : List Ac.Pt} (h : c1.cl = Kl.adv c.cl o) : c1.rev = c.rev + 1 ∧ c1.base = Ac.done c.base o ∧ c1.now = c.now ∧ c1.seq = c.seq ∧ c1.sent.map PV.pt = c.sent.map PV.pt ∧ c1.held.map PV.pt = c.held.map PV.pt ∧ c1.jo = c.jo := by
  unfold CV.cl Kl.adv at h
  simp only [Kl.Cl.mk.injEq] at h
  exact h
theorem gv_is {c1 : CV} {x : Kl.Cl} (h : c1.cl = Kl.gv x) : c1.rev = x.rev ∧ c1.base = x.base ∧ c1.now = x.base ∧ c1.seq = x.seq ∧ c1.sent.map PV.pt = [] ∧ c1.held.map PV.pt = [] ∧ c1.jo = x.jo := by
  unfold CV.cl Kl.gv at h
  simp only [Kl.Cl.mk.injEq] at h
  exact h
theorem done_few {w : World} {a : Option Addr} {n c : Nat} {d : List It} {o : List Ac.Pt} (h : Ac.fitE d o = 0) (hd : Doc w a n c (Ac.done d o)) : n ≤ 80 := by
  have := Dc.check_few (Ac.done_is h).2.1
  rw [hd.len] at this
  exact this.2

set_option maxRecDepth 100000 in
set_option maxHeartbeats 3200000 in
theorem hearOwn_any (g : Nat) (c : CV) (oa : Option Addr) (on oc : Nat) (us : List PV) (w : World) (hK : KAt w g c) (hO : Ops w oa on oc us) (hS : Sch w) (hR : Kl.Rc c.cl) :
    Calls Tryd.prog 94 #[.pointer (some ⟨g, 0, none⟩), .slice oa on oc] w fun e w' => SentP g (Ac.fitE c.base (us.map PV.pt)) (Kl.canB c.cl (us.map PV.pt)) (Kl.ownC c.cl (us.map PV.pt)) e w' ∧ Kept w w' [g] := by
  have CA : Hid (Calls Tryd.prog 110 #[.pointer (some ⟨g, 0, none⟩), .slice oa on oc] w fun e w' => e = .returned (.int .i64 (Ac.fitE c.base (us.map PV.pt))) ∧ (∃ c', KAt w' g c' ∧ c'.cl = (if Ac.fitE c.base (us.map PV.pt) = 0 then Kl.adv c.cl (us.map PV.pt) else c.cl)) ∧ Kept w w' [g]) := advance_any g c oa on oc us w hK hO hS hR.lo hR.hi
  have HK0 : Hid (KAt w g c) := hK
  have HO : Hid (Ops w oa on oc us) := hO
  have HSC : Hid (Sch w) := hS
  have HR : Hid (Kl.Rc c.cl) := hR
  clear hK hO hS hR
  obtain ⟨E, hE⟩ : ∃ E, Ac.fitE c.base (us.map PV.pt) = E := ⟨_, rfl⟩
  have HE : Hid (Ac.fitE c.base (us.map PV.pt) = E) := hE
  rw [hE] at CA ⊢
  clear hE
  by_cases hz : E = 0
  · have HE0 : Hid (Ac.fitE c.base (us.map PV.pt) = 0) := HE.out.trans hz
    rw [if_pos hz] at CA
    subst hz
    obtain ⟨B, hB⟩ : ∃ B, Kl.canB c.cl (us.map PV.pt) = B := ⟨_, rfl⟩
    have HBB : Hid ((decide (0 < (c.held.map PV.pt).length) && (decide (Ac.fitE (Ac.done c.base (us.map PV.pt)) (c.held.map PV.pt) = 0) && !decide (c.seq = 10000))) = B) := hB
    obtain ⟨C, hC⟩ : ∃ C, Kl.ownC c.cl (us.map PV.pt) = C := ⟨_, rfl⟩
    have HCC : Hid ((if B = true then (⟨c.rev + 1, Ac.done c.base (us.map PV.pt), Ac.done (Ac.done c.base (us.map PV.pt)) (c.held.map PV.pt), c.seq + 1, c.held.map PV.pt, [], c.jo⟩ : Kl.Cl) else Kl.gv (Kl.adv c.cl (us.map PV.pt))) = C) := by
      have : Kl.ownC c.cl (us.map PV.pt) = C := hC
      unfold Kl.ownC at this
      rw [hB] at this
      exact this
    rw [hB, hC]
    clear hB hC HE
    go_enter Tryd.func94, Tryd.ntmps94
    go_wp2_with fail
    refine CA.out.mono ?_
    rintro e w1 ⟨rfl, ⟨c1, hk1, hc1⟩, hkp⟩
    have HC1 : Hid (c1.cl = Kl.adv c.cl (us.map PV.pt)) := hc1
    have HK1 : Hid (KAt w1 g c1) := hk1
    have HKP1 : Hid (Kept w w1 [g]) := hkp
    have hbase := (adv_is hc1).2.1
    have hbn : c1.bn ≤ 80 := done_few HE0.out (by have := hk1.cli.base; rw [hbase] at this; exact this)
    have CG : Hid (Calls Tryd.prog 93 #[.pointer (some ⟨g, 0, none⟩)] w1 fun e w' => e = .returned (.tuple #[]) ∧ (∃ c', KAt w' g c' ∧ c'.cl = Kl.gv c1.cl ∧ c'.bn = c1.bn) ∧ Kept w1 w' [g]) := giveUp_any g c1 w1 hk1 hbn
    have p5 : w1.cell? ⟨g, 5, none⟩ = some (.slice c1.ha c1.hn c1.hc) := hk1.blk.cell 5
    clear hc1 hk1 hkp hbase CA
    go_wp2_with fail
    refine CG.out.mono ?_
    rintro e w2 ⟨rfl, ⟨c2, hk2, hc2, -⟩, hkp⟩
    have HK2 : Hid (KAt w2 g c2) := hk2
    have HC2 : Hid (c2.cl = Kl.gv (Kl.adv c.cl (us.map PV.pt))) := by show _ = _; rw [hc2, HC1.out]
    have HKP2 : Hid (Kept w w2 [g]) := HKP1.out.trans hkp
    have HH2 : Hid (Ops w2 c1.ha c1.hn c1.hc c1.held) := HK1.out.cli.held.keptK HK1.out.blk hkp
    have HSC2 : Hid (Sch w2) := HSC.out.keptK HK0.out.blk HKP2.out
    have HPH : Hid (c1.held.map PV.pt = c.held.map PV.pt) := (adv_is HC1.out).2.2.2.2.2.1
    have HHL : Hid ((c.held.map PV.pt).length = c1.hn) := by show _ = _; rw [← HPH.out]; exact len_pt HK1.out.cli.held
    clear hk2 hc2 hkp p5 CG hbn
    by_cases h0 : c1.hn = 0
    · have hB0 : B = false := by rw [← HBB.out, HHL.out, h0]; rfl
      have HCF : Hid (Kl.gv (Kl.adv c.cl (us.map PV.pt)) = C) := by have := HCC.out; rw [hB0, if_neg Bool.false_ne_true] at this; exact this
      have CI : Hid (Calls Tryd.prog 67 #[.slice c1.ha c1.hn c1.hc] w2 fun e w' => e = .returned (.bool false) ∧ w' = w2) := by have := isThere_any c1.ha c1.hn c1.hc w2; rw [show decide (0 < c1.hn) = false by simp [h0]] at this; exact this
      subst hB0
      clear h0
      go_wp2_with fail
      refine CI.out.mono ?_
      rintro e w3 ⟨rfl, hw⟩
      obtain rfl := hw.symm
      try clear hw
      go_wp2
      exact bodyPost_ret (v := .tuple #[.bool false, .int .i64 0]) (by simp [results, Tryd.results94, go_sem]) rfl ⟨⟨c2, false, rfl, HK2.out, fun _ => ⟨rfl, HC2.out.trans HCF.out⟩⟩, HKP2.out⟩
    · have CI : Hid (Calls Tryd.prog 67 #[.slice c1.ha c1.hn c1.hc] w2 fun e w' => e = .returned (.bool true) ∧ w' = w2) := by have := isThere_any c1.ha c1.hn c1.hc w2; rw [show decide (0 < c1.hn) = true by simp; omega] at this; exact this
      have HB1 : Hid (B = (decide (Ac.fitE (Ac.done c.base (us.map PV.pt)) (c.held.map PV.pt) = 0) && !decide (c.seq = 10000))) := by show _ = _; rw [← HBB.out, HHL.out, show decide (0 < c1.hn) = true by simp; omega, Bool.true_and]
      have CAP : Hid (Calls Tryd.prog 24 #[.slice c2.ba c2.bn c2.bc, .slice c1.ha c1.hn c1.hc] w2 fun e w' => (∃ a' c', e = .returned (.tuple #[.slice a' (Ac.done (Ac.done c.base (us.map PV.pt)) (c.held.map PV.pt)).length c', .int .i64 (Ac.fitE (Ac.done c.base (us.map PV.pt)) (c.held.map PV.pt))]) ∧ Doc w' a' (Ac.done (Ac.done c.base (us.map PV.pt)) (c.held.map PV.pt)).length c' (Ac.done (Ac.done c.base (us.map PV.pt)) (c.held.map PV.pt))) ∧ Below w2.heap.size w2 w') := by
        have := apply_any _ _ _ _ _ _ _ _ _ HK2.out.cli.base HH2.out HSC2.out
        rw [HPH.out, show c2.base = Ac.done c.base (us.map PV.pt) from (gv_is HC2.out).2.1] at this
        exact this
      have p1 : w2.cell? ⟨g, 1, none⟩ = some (.slice c2.ba c2.bn c2.bc) := HK2.out.blk.cell 1
      clear h0 HBB
      obtain ⟨D, hD⟩ : ∃ D, Ac.done (Ac.done c.base (us.map PV.pt)) (c.held.map PV.pt) = D := ⟨_, rfl⟩
      obtain ⟨F, hF⟩ : ∃ F, Ac.fitE (Ac.done c.base (us.map PV.pt)) (c.held.map PV.pt) = F := ⟨_, rfl⟩
      rw [hD] at CAP HCC
      rw [hF] at CAP HB1
      obtain ⟨q, hq⟩ : ∃ q, D.length = q := ⟨_, rfl⟩
      rw [hq] at CAP
      clear hD hF hq
      go_wp2_with fail
      refine CI.out.mono ?_
      rintro e w3 ⟨rfl, hw⟩
      obtain rfl := hw.symm
      try clear hw
      go_wp2_with fail
      refine CAP.out.mono ?_
      rintro e w4 ⟨⟨a4, k4, rfl, hd4⟩, hb⟩
      have HK4 : Hid (KAt w4 g c2) := HK2.out.below hb
      have HKP4 : Hid (Kept w w4 [g]) := HKP2.out.trans (Kept.of_below hb)
      have HD4 : Hid (Doc w4 a4 q k4 D) := hd4
      have HH4 : Hid (Ops w4 c1.ha c1.hn c1.hc c1.held) := HH2.out.below hb
      clear hd4 hb CAP CI p1
      have hseq : c2.seq = c.seq := (gv_is HC2.out).2.2.2.1
      by_cases hF : F = 0
      · have CSN : Hid (Calls Tryd.prog 92 #[.pointer (some ⟨g, 0, none⟩), .slice c1.ha c1.hn c1.hc] w4 fun e w' => e = .returned (.bool (!decide (c2.seq = 10000))) ∧ KAt w' g (if c2.seq = 10000 then c2 else (c2.toSent c1.ha c1.hn c1.hc c1.held).toSeq (c2.seq + 1)) ∧ Kept w4 w' [g]) := send_any g c2 c1.ha c1.hn c1.hc c1.held w4 HK4.out HH4.out (by rw [hseq]; exact HR.out.qlo) (by rw [hseq]; exact HR.out.qhi)
        rw [hF] at HB1
        subst hF
        by_cases h10 : c2.seq = 10000
        · rw [if_pos h10, show (!decide (c2.seq = 10000)) = false by simp [h10]] at CSN
          have hB0 : B = false := by rw [HB1.out, ← hseq, h10]; rfl
          have HCF : Hid (Kl.gv (Kl.adv c.cl (us.map PV.pt)) = C) := by have := HCC.out; rw [hB0, if_neg Bool.false_ne_true] at this; exact this
          subst hB0
          clear h10 hseq HB1 HCC
          go_wp2_with fail
          refine CSN.out.mono ?_
          rintro e w5 ⟨rfl, hk5, hkp⟩
          have HK5 : Hid (KAt w5 g c2) := hk5
          have HKP5 : Hid (Kept w w5 [g]) := HKP4.out.trans hkp
          clear hk5 hkp CSN
          go_wp2
          exact bodyPost_ret (v := .tuple #[.bool false, .int .i64 0]) (by simp [results, Tryd.results94, go_sem]) rfl ⟨⟨c2, false, rfl, HK5.out, fun _ => ⟨rfl, HC2.out.trans HCF.out⟩⟩, HKP5.out⟩
        · rw [if_neg h10, show (!decide (c2.seq = 10000)) = true by simp [h10]] at CSN
          have hB0 : B = true := by rw [HB1.out, ← hseq]; simp [h10]
          have HCF : Hid ((⟨c.rev + 1, Ac.done c.base (us.map PV.pt), D, c.seq + 1, c.held.map PV.pt, [], c.jo⟩ : Kl.Cl) = C) := by have := HCC.out; rw [hB0, if_pos rfl] at this; exact this
          have HSQ : Hid (c2.seq = c.seq) := hseq
          subst hB0
          clear h10 hseq HB1 HCC
          go_wp2_with fail
          refine CSN.out.mono ?_
          rintro e w5 ⟨rfl, hk5, hkp⟩
          have HK5 : Hid (KAt w5 g ((c2.toSent c1.ha c1.hn c1.hc c1.held).toSeq (c2.seq + 1))) := hk5
          have HKP5 : Hid (Kept w w5 [g]) := HKP4.out.trans hkp
          have HK6 : Hid (KAt (w5.setCell ⟨g, 2, none⟩ (.slice a4 q k4)) g (((c2.toSent c1.ha c1.hn c1.hc c1.held).toSeq (c2.seq + 1)).toNow a4 q k4 D)) := hk5.toNow a4 q k4 D (HD4.out.keptK HK4.out.blk hkp)
          have p2 : w5.cell? ⟨g, 2, none⟩ = some (.slice c2.na c2.nn c2.nc) := hk5.blk.cell 2
          have f2 := hk5.blk.frozen 2
          clear hk5 hkp CSN
          go_wp2
          refine bodyPost_ret (v := .tuple #[.bool true, .int .i64 0]) (by simp [results, Tryd.results94, go_sem]) rfl ⟨⟨_, true, rfl, HK6.out, fun _ => ⟨rfl, ?_⟩⟩, HKP5.out.trans (kept_g ..)⟩
          obtain ⟨i1, i2, i3, i4, i5, i6, i7⟩ := gv_is HC2.out
          rw [← HCF.out]
          show (⟨c2.rev, c2.base, D, c2.seq + 1, c1.held.map PV.pt, c2.held.map PV.pt, c2.jo⟩ : Kl.Cl) = _
          rw [i1, i2, i4, i6, i7, HPH.out]
          rfl
      · have hne : (F != 0) = true := by simp [hF]
        have hB0 : B = false := by rw [HB1.out, decide_eq_false hF]; rfl
        have HCF : Hid (Kl.gv (Kl.adv c.cl (us.map PV.pt)) = C) := by have := HCC.out; rw [hB0, if_neg Bool.false_ne_true] at this; exact this
        subst hB0
        clear hF hseq HB1 HCC
        go_wp2
        exact bodyPost_ret (v := .tuple #[.bool false, .int .i64 0]) (by simp [results, Tryd.results94, go_sem]) rfl ⟨⟨c2, false, rfl, HK4.out, fun _ => ⟨rfl, HC2.out.trans HCF.out⟩⟩, HKP4.out⟩
  · have hne : (E != 0) = true := by simp [hz]
    rw [if_neg hz] at CA
    go_enter Tryd.func94, Tryd.ntmps94
    go_wp2_with fail
    refine CA.out.mono ?_
    rintro e w1 ⟨rfl, ⟨c1, hk1, -⟩, hkp⟩
    have HK1 : Hid (KAt w1 g c1) := hk1
    have HKP1 : Hid (Kept w w1 [g]) := hkp
    clear hk1 hkp CA
    go_wp2
    exact bodyPost_ret (v := .tuple #[.bool false, .int .i64 E]) (by simp [results, Tryd.results94, go_sem]) rfl ⟨⟨c1, false, rfl, HK1.out, fun h => absurd h hz⟩, HKP1.out⟩
end Go.Proofs.YtbhcklkbckacpaaDoor
