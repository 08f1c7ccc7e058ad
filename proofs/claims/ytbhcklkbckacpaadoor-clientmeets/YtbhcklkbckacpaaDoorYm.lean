/-
  The statement ClientMeets: what a client shows behind another one's operation.
-/
import Derived.Test.YtbhcklkbckacpaaDoorYl
namespace Go.Proofs.YtbhcklkbckacpaaDoor
open Go.RowKit
namespace Kl
/-- With nothing on its way nothing is given up. -/
theorem oth_free {c : Cl} {o : List Ac.Pt} (h : Rc c) (hf : Ac.fitE c.base o = 0) (hs : c.sent.length = 0) : Ot2 c o := by
  have hh := h.held_none hs
  obtain ⟨t1, t2, t3⟩ := t_none (o := o) hs
  obtain ⟨u1, u2, u3⟩ := t_none (o := tX o c.sent) hh
  have hb : bhE o c.sent c.held = 0 := by unfold bhE; rw [if_pos t1, u1]
  have e1 : opE (Ac.done c.base o) (tY o c.sent) = 0 := by rw [t3]; exact (op_none hs).1
  have e2 : opE (opD (Ac.done c.base o) (tY o c.sent)) (bhH o c.sent c.held) = 0 := by unfold bhH; rw [u3]; exact (op_none hh).1
  exact ⟨hf, t1, u1, e1, e2, by unfold othC; rw [if_pos hf, if_pos hb, if_pos (dn_of e1 e2)]⟩
/-- What a client heard, another one's, that brought it on. -/
theorem meets_start {c : Cl} {r : Int} {o : List Ac.Pt} (h : HearE c 0 r ⟨1, 1, o⟩ = 0) (hr : (HearC c 0 r ⟨1, 1, o⟩).rev ≠ c.rev) :
    Rc c ∧ Ac.fitE c.base o = 0 ∧ ((0 < c.sent.length ∧ HearC c 0 r ⟨1, 1, o⟩ = gv (adv c o)) ∨ (Ot2 c o ∧ HearC c 0 r ⟨1, 1, o⟩ = othC c o)) := by
  obtain ⟨g1, g2, g3, g4⟩ := hear_0 h
  rw [g3] at hr ⊢
  have ho : isOwn c 0 ⟨1, 1, o⟩ = false := rfl
  unfold heC at hr ⊢
  rw [ho] at hr ⊢
  by_cases k1 : o.length = 0
  · rw [if_pos (show (⟨1, 1, o⟩ : Sv.En).o.length = 0 from k1), if_neg Bool.false_ne_true] at hr
    exact absurd rfl hr
  · rw [if_neg (show ¬ (⟨1, 1, o⟩ : Sv.En).o.length = 0 from k1)] at hr ⊢
    by_cases k2 : r ≠ c.rev + 1 ∨ c.rev = 60
    · rw [if_pos k2] at hr
      exact absurd rfl hr
    · rw [if_neg k2, if_neg Bool.false_ne_true] at hr ⊢
      rcases oth_cases c o with ⟨m1, m2⟩ | ⟨m1, m2⟩ | m
      · have hr2 : (othC c o).rev ≠ c.rev := hr
        rw [m2] at hr2
        exact absurd rfl hr2
      · by_cases hs : c.sent.length = 0
        · exact ⟨g1, m1, .inr ⟨oth_free g1 m1 hs, rfl⟩⟩
        · exact ⟨g1, m1, .inl ⟨by omega, m2⟩⟩
      · exact ⟨g1, m.fit, .inr ⟨m, rfl⟩⟩
/-- How far the law has gone: what O has become, what is made. -/
def Mt (c : Cl) (o : List Ac.Pt) (k : Nat) (P : List Ac.Pt) (L : List It) : Prop :=
  (k = 0 ∧ P = o ∧ L = Ac.done c.base o) ∨ (k = 1 ∧ P = tX o c.sent ∧ L = opD (Ac.done c.base o) (tY o c.sent)) ∨ (k = 2 ∧ P = tX (tX o c.sent) c.held ∧ L = opD (opD (Ac.done c.base o) (tY o c.sent)) (bhH o c.sent c.held))
theorem Mt.none0 {c : Cl} {o P : List Ac.Pt} {L : List It} (m : Mt c o 0 P L) (h : Rc c) (hs : c.sent.length = 0) : Mt c o 2 P L := by
  have hh := h.held_none hs
  obtain ⟨t1, t2, t3⟩ := t_none (o := o) hs
  obtain ⟨u1, u2, u3⟩ := t_none (o := tX o c.sent) hh
  rcases m with ⟨_, rfl, rfl⟩ | ⟨e, _⟩ | ⟨e, _⟩
  · refine .inr (.inr ⟨rfl, by rw [u2, t2], ?_⟩)
    unfold bhH
    rw [u3, t3, (op_none hs).2, (op_none hh).2]
  · cases e
  · cases e
theorem Mt.none1 {c : Cl} {o P : List Ac.Pt} {L : List It} (m : Mt c o 1 P L) (hh : c.held.length = 0) : Mt c o 2 P L := by
  obtain ⟨u1, u2, u3⟩ := t_none (o := tX o c.sent) hh
  rcases m with ⟨e, _⟩ | ⟨_, rfl, rfl⟩ | ⟨e, _⟩
  · cases e
  · refine .inr (.inr ⟨rfl, u2.symm, ?_⟩)
    unfold bhH
    rw [u3, (op_none hh).2]
  · cases e
theorem Mt.some0 {c : Cl} {o P : List Ac.Pt} {L : List It} (m : Mt c o 0 P L) (g : Ot2 c o) (hs : 0 < c.sent.length) : Ac.trnE P c.sent = 0 ∧ Ac.fitE L (Ac.trnY P c.sent) = 0 ∧ Mt c o 1 (Ac.trnX P c.sent) (Ac.done L (Ac.trnY P c.sent)) := by
  obtain ⟨t1, t2, t3⟩ := t_some (o := o) hs
  rcases m with ⟨_, rfl, rfl⟩ | ⟨e, _⟩ | ⟨e, _⟩
  · have b1 := g.b1
    rw [t1] at b1
    have hp := (trn_pos b1).2
    have d1 := g.d1
    rw [t3, (op_some hp).1] at d1
    exact ⟨b1, d1, .inr (.inl ⟨rfl, t2.symm, by rw [t3, (op_some hp).2]⟩)⟩
  · cases e
  · cases e
theorem Mt.some1 {c : Cl} {o P : List Ac.Pt} {L : List It} (m : Mt c o 1 P L) (g : Ot2 c o) (hs : 0 < c.held.length) : Ac.trnE P c.held = 0 ∧ Ac.fitE L (Ac.trnY P c.held) = 0 ∧ Mt c o 2 (Ac.trnX P c.held) (Ac.done L (Ac.trnY P c.held)) := by
  obtain ⟨t1, t2, t3⟩ := t_some (o := tX o c.sent) hs
  rcases m with ⟨e, _⟩ | ⟨_, rfl, rfl⟩ | ⟨e, _⟩
  · cases e
  · have b1 := g.b2
    rw [t1] at b1
    have hp := (trn_pos b1).2
    have d1 := g.d2
    unfold bhH at d1
    rw [t3, (op_some hp).1] at d1
    refine ⟨b1, d1, .inr (.inr ⟨rfl, t2.symm, ?_⟩)⟩
    unfold bhH
    rw [t3, (op_some hp).2]
  · cases e
theorem Mt.last {c : Cl} {o P : List Ac.Pt} {L : List It} (m : Mt c o 2 P L) (h : Rc c) (g : Ot2 c o) : L = (othC c o).now ∧ Ac.fitE c.now P = 0 ∧ Ac.done c.now P = (othC c o).now := by
  obtain ⟨a1, a2⟩ := meets_all h g
  rcases m with ⟨e, _⟩ | ⟨e, _⟩ | ⟨_, rfl, rfl⟩
  · cases e
  · cases e
  · exact ⟨by rw [g.is]; rfl, a1, a2⟩
end Kl
theorem ixa0 (a b : Option Addr) (n c m d : Nat) (w : World) : (Instr.index 59 (.agg #[.slice a n c, .slice b m d]) (.int .i64 0)).run Tryd.prog w = .ok (.slice a n c) w := by kernel_rfl
theorem ixa1 (a b : Option Addr) (n c m d : Nat) (w : World) : (Instr.index 59 (.agg #[.slice a n c, .slice b m d]) (.int .i64 1)).run Tryd.prog w = .ok (.slice b m d) w := by kernel_rfl

set_option maxRecDepth 100000 in
set_option maxHeartbeats 12800000 in
theorem meetsK_any (c : CV) (oa : Option Addr) (on oc : Nat) (os : List PV) (w : World) (hC : Cli w c) (hO : Ops w oa on oc os) (hS : Sch w) :
    Calls Tryd.prog 7 #[.agg #[.int .i64 c.rev, .slice c.ba c.bn c.bc, .slice c.na c.nn c.nc, .int .i64 c.seq, .slice c.sa c.sn c.sc, .slice c.ha c.hn c.hc, .bool c.jo], .slice oa on oc] w fun e w' => e = .returned (.bool true) ∧ Below w.heap.size w w' := by
  have hV : Below w.heap.size w (boxk c w) := boxk_below c w
  have HV0 : Hid (Below w.heap.size w (boxk c w)) := hV
  have HP0 : Hid (Blk (boxk c w) (w.heap.size) (cvC c) 51) := boxk_blk c w
  obtain ⟨r, hr⟩ : ∃ r, IntKind.i64.wrap (c.rev + 1) = r := ⟨_, rfl⟩
  have hr2 : wrap64 (c.rev + 1) = r := by rw [← hr, IntWalk.i64_left]
  obtain ⟨E2, hE2⟩ : ∃ E, Kl.HearE c.cl 0 r ⟨1, 1, os.map PV.pt⟩ = E := ⟨_, rfl⟩
  obtain ⟨S2, hS2⟩ : ∃ S, Kl.HearS c.cl 0 r ⟨1, 1, os.map PV.pt⟩ = S := ⟨_, rfl⟩
  obtain ⟨C2, hC2⟩ : ∃ C, Kl.HearC c.cl 0 r ⟨1, 1, os.map PV.pt⟩ = C := ⟨_, rfl⟩
  have HHR : Hid (Calls Tryd.prog 28 #[.agg #[.int .i64 c.rev, .slice c.ba c.bn c.bc, .slice c.na c.nn c.nc, .int .i64 c.seq, .slice c.sa c.sn c.sc, .slice c.ha c.hn c.hc, .bool c.jo], .int .i64 0, .agg #[.int .i64 r, .int .i64 1, .int .i64 1, .slice oa on oc]] (boxk c w) fun e w'' => (∃ q, e = .returned (.tuple #[.agg #[.int .i64 q.rev, .slice q.ba q.bn q.bc, .slice q.na q.nn q.nc, .int .i64 q.seq, .slice q.sa q.sn q.sc, .slice q.ha q.hn q.hc, .bool q.jo], .bool S2, .int .i64 E2]) ∧ Cli w'' q ∧ q.cl = C2) ∧ Below (boxk c w).heap.size (boxk c w) w'') := by
    have := Hear_any c 0 ⟨r, ⟨1, 1, oa, on, oc, os⟩⟩ (boxk c w) (hC.below hV) (hO.below hV) (hS.below hV)
    rw [show EV.en ⟨1, 1, oa, on, oc, os⟩ = ⟨1, 1, os.map PV.pt⟩ from rfl] at this
    rw [hE2, hS2, hC2] at this
    exact this
  have HST : Hid (E2 = 0 → C2.rev ≠ c.rev → Kl.Rc c.cl ∧ Ac.fitE c.base (os.map PV.pt) = 0 ∧ ((0 < c.cl.sent.length ∧ C2 = Kl.gv (Kl.adv c.cl (os.map PV.pt))) ∨ (Kl.Ot2 c.cl (os.map PV.pt) ∧ C2 = Kl.othC c.cl (os.map PV.pt)))) := fun h1 h2 => by
    have := Kl.meets_start (hE2.trans h1) (by rw [hC2]; exact h2)
    rw [hC2] at this
    exact this
  have HCW : Hid (Cli (boxk c w) c) := hC.below hV
  have HOW : Hid (Ops (boxk c w) oa on oc os) := hO.below hV
  have HSW : Hid (Sch (boxk c w)) := hS.below hV
  clear hC hO hS hV hE2 hS2 hC2
  go_enter Tryd.func7, Tryd.ntmps7
  go_upto_region 1 with fail
  change Code.wp Tryd.prog _ _ _ (boxk c w)
  generalize boxk c w = V0 at *
  have p0 : V0.cell? ⟨w.heap.size, 0, none⟩ = some (.int .i64 c.rev) := HP0.out.cell 0
  have p1 : V0.cell? ⟨w.heap.size, 1, none⟩ = some (.slice c.ba c.bn c.bc) := HP0.out.cell 1
  have p2 : V0.cell? ⟨w.heap.size, 2, none⟩ = some (.slice c.na c.nn c.nc) := HP0.out.cell 2
  have p3 : V0.cell? ⟨w.heap.size, 3, none⟩ = some (.int .i64 c.seq) := HP0.out.cell 3
  have p4 : V0.cell? ⟨w.heap.size, 4, none⟩ = some (.slice c.sa c.sn c.sc) := HP0.out.cell 4
  have p5 : V0.cell? ⟨w.heap.size, 5, none⟩ = some (.slice c.ha c.hn c.hc) := HP0.out.cell 5
  have p6 : V0.cell? ⟨w.heap.size, 6, none⟩ = some (.bool c.jo) := HP0.out.cell 6
  go_wp2_with fail
  refine HHR.out.mono ?_
  rintro e w1 ⟨⟨y, rfl, hy, hyc⟩, hb⟩
  have hbb : Below V0.heap.size V0 (boxk y w1) := hb.trans ((boxk_below y w1).mono hb.size)
  have HYC : Hid (y.cl = C2) := hyc
  have HYW : Hid (Cli (boxk y w1) y) := hy.below (boxk_below y w1)
  have HBY : Hid (Blk (boxk y w1) w1.heap.size (cvC y) 51) := boxk_blk y w1
  have HBP : Hid (Blk (boxk y w1) (w.heap.size) (cvC c) 51) := (hbb.block _ HP0.out.lt).trans HP0.out
  have HV : Hid (Below w.heap.size w (boxk y w1)) := HV0.out.trans (hbb.mono HV0.out.size)
  have HCV : Hid (Cli (boxk y w1) c) := HCW.out.below hbb
  have HOV : Hid (Ops (boxk y w1) oa on oc os) := HOW.out.below hbb
  have HSV : Hid (Sch (boxk y w1)) := HSW.out.below hbb
  clear hy hyc hb hbb HHR HP0 HCW HOW HSW HV0 hr hr2
  clear p0 p1 p2 p3 p4 p5 p6
  go_upto_region 2 with fail
  change Code.wp Tryd.prog _ _ _ (boxk y w1)
  generalize boxk y w1 = V at *
  generalize w1.heap.size = b1 at *
  have HCM : Hid (∀ w', Below V.heap.size V w' → Blk w' (w.heap.size) (cvC c) 51 ∧ Blk w' b1 (cvC y) 51) := fun w' hb => ⟨(hb.block _ HBP.out.lt).trans HBP.out, (hb.block _ HBY.out.lt).trans HBY.out⟩
  have HSC : Hid (∀ w', Below V.heap.size V w' → Sch w') := fun w' hb => HSV.out.below hb
  have HCB : Hid (∀ w', Below V.heap.size V w' → Cli w' c) := fun w' hb => HCV.out.below hb
  have HCY : Hid (∀ w', Below V.heap.size V w' → Cli w' c ∧ Cli w' y) := fun w' hb => ⟨HCV.out.below hb, HYW.out.below hb⟩
  have HOA : Hid (∀ w', Below V.heap.size V w' → Ops w' oa on oc os) := fun w' hb => HOV.out.below hb
  have CH : Hid (∀ w', Below V.heap.size V w' → Calls Tryd.prog 29 #[] w' fun e w'' => e = .returned (.bool true) ∧ Below w'.heap.size w' w'') := fun w' hb => heard_any w' (HSC.out w' hb)
  go_wp2_with fail
  refine (CH.out _ (Below.refl _ _)).mono ?_
  rintro e w2 ⟨rfl, hb⟩
  have HB2 : Hid (Below V.heap.size V w2) := hb
  clear hb
  have hB := HCM.out w2 HB2.out
  have p0 : w2.cell? ⟨w.heap.size, 0, none⟩ = some (.int .i64 c.rev) := hB.1.cell 0
  have p1 : w2.cell? ⟨w.heap.size, 1, none⟩ = some (.slice c.ba c.bn c.bc) := hB.1.cell 1
  have p2 : w2.cell? ⟨w.heap.size, 2, none⟩ = some (.slice c.na c.nn c.nc) := hB.1.cell 2
  have p3 : w2.cell? ⟨w.heap.size, 3, none⟩ = some (.int .i64 c.seq) := hB.1.cell 3
  have p4 : w2.cell? ⟨w.heap.size, 4, none⟩ = some (.slice c.sa c.sn c.sc) := hB.1.cell 4
  have p5 : w2.cell? ⟨w.heap.size, 5, none⟩ = some (.slice c.ha c.hn c.hc) := hB.1.cell 5
  have p6 : w2.cell? ⟨w.heap.size, 6, none⟩ = some (.bool c.jo) := hB.1.cell 6
  have z0 : w2.cell? ⟨b1, 0, none⟩ = some (.int .i64 y.rev) := hB.2.cell 0
  have z1 : w2.cell? ⟨b1, 1, none⟩ = some (.slice y.ba y.bn y.bc) := hB.2.cell 1
  have z2 : w2.cell? ⟨b1, 2, none⟩ = some (.slice y.na y.nn y.nc) := hB.2.cell 2
  have z3 : w2.cell? ⟨b1, 3, none⟩ = some (.int .i64 y.seq) := hB.2.cell 3
  have z4 : w2.cell? ⟨b1, 4, none⟩ = some (.slice y.sa y.sn y.sc) := hB.2.cell 4
  have z5 : w2.cell? ⟨b1, 5, none⟩ = some (.slice y.ha y.hn y.hc) := hB.2.cell 5
  have z6 : w2.cell? ⟨b1, 6, none⟩ = some (.bool y.jo) := hB.2.cell 6
  clear hB
  by_cases h2 : E2 = 0
  · by_cases hrv : y.rev = c.rev
    · have hb1 : (y.rev == c.rev) = true := by simp [hrv]
      subst h2
      clear hrv
      go_wp2_with fail
      refine (CH.out _ HB2.out).mono ?_
      rintro e wa ⟨rfl, hb⟩
      have HBA : Hid (Below V.heap.size V wa) := HB2.out.trans (hb.mono HB2.out.size)
      clear hb
      go_wp2
      go_ret
      exact ⟨rfl, HV.out.trans (HBA.out.mono HV.out.size)⟩
    · have hb1 : (y.rev == c.rev) = false := by simp [hrv]
      obtain ⟨hR, hf, hcs⟩ := HST.out h2 (by rw [← HYC.out]; exact hrv)
      have HR : Hid (Kl.Rc c.cl) := hR
      have HF : Hid (Ac.fitE c.base (os.map PV.pt) = 0) := hf
      subst h2
      have CA : Hid (Calls Tryd.prog 24 #[.slice c.ba c.bn c.bc, .slice oa on oc] w2 fun e w' => (∃ a' n' c', e = .returned (.tuple #[.slice a' n' c', .int .i64 0]) ∧ Doc w' a' n' c' (Ac.done c.base (os.map PV.pt))) ∧ Below w2.heap.size w2 w') := by
        have := apply_any _ _ _ _ _ _ _ _ _ (HCB.out _ HB2.out).base (HOA.out _ HB2.out) (HSC.out _ HB2.out)
        rw [hf] at this
        exact this.mono fun e w' ⟨⟨a', c', h1, h2⟩, hb⟩ => ⟨⟨a', _, c', h1, h2⟩, hb⟩
      clear hR hf hrv HST
      have hsl : (c.sent.map PV.pt).length = c.sn := len_pt (HCB.out _ HB2.out).sent
      have hyl : (y.sent.map PV.pt).length = y.sn := len_pt (HCY.out _ HB2.out).2.sent
      go_wp2_with fail
      refine CA.out.mono ?_
      rintro e w3 ⟨⟨da, dn, dc, rfl, hd⟩, hb⟩
      have HB3 : Hid (Below V.heap.size V w3) := HB2.out.trans (hb.mono HB2.out.size)
      have HD3 : Hid (Doc w3 da dn dc (Ac.done c.base (os.map PV.pt))) := hd
      clear hd hb CA
      clear p0 p1 p2 p3 p4 p5 p6
      clear z0 z1 z2 z3 z4 z5 z6
      have hB := HCM.out w3 HB3.out
      have p0 : w3.cell? ⟨w.heap.size, 0, none⟩ = some (.int .i64 c.rev) := hB.1.cell 0
      have p1 : w3.cell? ⟨w.heap.size, 1, none⟩ = some (.slice c.ba c.bn c.bc) := hB.1.cell 1
      have p2 : w3.cell? ⟨w.heap.size, 2, none⟩ = some (.slice c.na c.nn c.nc) := hB.1.cell 2
      have p3 : w3.cell? ⟨w.heap.size, 3, none⟩ = some (.int .i64 c.seq) := hB.1.cell 3
      have p4 : w3.cell? ⟨w.heap.size, 4, none⟩ = some (.slice c.sa c.sn c.sc) := hB.1.cell 4
      have p5 : w3.cell? ⟨w.heap.size, 5, none⟩ = some (.slice c.ha c.hn c.hc) := hB.1.cell 5
      have p6 : w3.cell? ⟨w.heap.size, 6, none⟩ = some (.bool c.jo) := hB.1.cell 6
      have z0 : w3.cell? ⟨b1, 0, none⟩ = some (.int .i64 y.rev) := hB.2.cell 0
      have z1 : w3.cell? ⟨b1, 1, none⟩ = some (.slice y.ba y.bn y.bc) := hB.2.cell 1
      have z2 : w3.cell? ⟨b1, 2, none⟩ = some (.slice y.na y.nn y.nc) := hB.2.cell 2
      have z3 : w3.cell? ⟨b1, 3, none⟩ = some (.int .i64 y.seq) := hB.2.cell 3
      have z4 : w3.cell? ⟨b1, 4, none⟩ = some (.slice y.sa y.sn y.sc) := hB.2.cell 4
      have z5 : w3.cell? ⟨b1, 5, none⟩ = some (.slice y.ha y.hn y.hc) := hB.2.cell 5
      have z6 : w3.cell? ⟨b1, 6, none⟩ = some (.bool y.jo) := hB.2.cell 6
      clear hB
      rcases hcs with ⟨hs, hg⟩ | ⟨hg, hoth⟩
      · have hs0 : 0 < c.sn := by rw [← hsl]; exact hs
        have hy0 : y.sn = 0 := by
          have e := HYC.out.trans hg
          have e2 : y.cl.sent = [] := congrArg Kl.Cl.sent e
          rw [← hyl, show y.sent.map PV.pt = [] from e2]
          rfl
        have hn1 : decide ((0 : Int) < (c.sn : Int)) = true := by simp; omega
        have hn2 : decide (0 < c.sn) = true := by simp; omega
        have hm1 : ((y.sn : Int) == 0) = true := by simp [hy0]
        have hm2 : (y.sn == 0) = true := by simp [hy0]
        have hm3 : decide (y.sn = 0) = true := by simp [hy0]
        have CS : Hid (Calls Tryd.prog 23 #[.slice y.na y.nn y.nc, .slice da dn dc] w3 fun e w' => e = .returned (.bool true) ∧ Below w3.heap.size w3 w') := same_true (HCY.out _ HB3.out).2.now HD3.out (congrArg Kl.Cl.now (HYC.out.trans hg))
        clear hs hg hs0 hy0 hsl hyl
        go_wp2_with fail
        refine CS.out.mono ?_
        rintro e wa ⟨rfl, hb⟩
        have HBA : Hid (Below V.heap.size V wa) := HB3.out.trans (hb.mono HB3.out.size)
        clear hb
        go_wp2
        go_ret
        exact ⟨rfl, HV.out.trans (HBA.out.mono HV.out.size)⟩
      · have HG : Hid (Kl.Ot2 c.cl (os.map PV.pt)) := hg
        have HYC2 : Hid (y.cl = Kl.othC c.cl (os.map PV.pt)) := HYC.out.trans hoth
        have hiff : y.sn = 0 ↔ c.sn = 0 := by
          have e2 : y.cl.sent = Kl.tY (os.map PV.pt) c.cl.sent := congrArg Kl.Cl.sent (HYC2.out.trans hg.is)
          have e3 := Kl.t_pos hg.b1
          rw [← e2] at e3
          have e4 : y.cl.sent.length = y.sn := hyl
          have e5 : c.cl.sent.length = c.sn := hsl
          rw [e4, e5] at e3
          exact e3
        clear hg hoth HYC hsl hyl
        have HYC : Hid (y.cl = Kl.othC c.cl (os.map PV.pt)) := HYC2.out
        clear HYC2
        obtain ⟨T, hT⟩ : ∃ T, decide (0 < c.sn) = T := ⟨_, rfl⟩
        have hn1 : decide ((0 : Int) < (c.sn : Int)) = T := by rw [← hT]; simp
        have hms : T = true → ((y.sn : Int) == 0) = false ∧ (y.sn == 0) = false ∧ decide (y.sn = 0) = false := fun e => by
          rw [← hT] at e
          have h1 : 0 < c.sn := of_decide_eq_true e
          have h2 : ¬ y.sn = 0 := by omega
          exact ⟨by simp [h2], by simp [h2], by simp [h2]⟩
        have HMS : Hid (T = true → ((y.sn : Int) == 0) = false ∧ (y.sn == 0) = false ∧ decide (y.sn = 0) = false) := hms
        clear hiff hms
        go_upto_region 7 with fail
        go_cut [60] from 51 to 60 (fun v wx => v = .bool false ∧ wx = w3)
        case first =>
          cases T
          · go_wp2_with fail
            go_meet
            exact ⟨rfl, rfl⟩
          · obtain ⟨m1, m2, m3⟩ := HMS.out rfl
            go_wp2_with fail
            go_meet
            exact ⟨rfl, rfl⟩
        case rest =>
          obtain ⟨rfl, rfl⟩ := hcut
          clear hn1 hT HMS
          go_wp2
          go_loopw [71, 9, 8] (fun i p d wr => ∃ k : Nat, k ≤ 2 ∧ i = .int .i64 k ∧ ∃ xa xn xc xs da dn dc L, p = .slice xa xn xc ∧ d = .slice da dn dc ∧ Ops wr xa xn xc xs ∧ Doc wr da dn dc L ∧ Below V.heap.size V wr ∧ Kl.Mt c.cl (os.map PV.pt) k (xs.map PV.pt) L) (fun i _ _ _ => 2 - (intOf i).toNat)
          case atStart => exact ⟨0, by decide, rfl, oa, on, oc, os, da, dn, dc, _, rfl, rfl, HOA.out _ HB3.out, HD3.out, HB3.out, .inl ⟨rfl, rfl, rfl⟩⟩
          case round =>
            clear HD3 HB3 HB2
            try clear p0 p1 p2 p3 p4 p5 p6
            try clear z0 z1 z2 z3 z4 z5 z6
            obtain ⟨k, hk, rfl, xa, xn, xc, xs, da, dn, dc, L, rfl, rfl, hox, hdl, hbr, hm⟩ := hrel
            have HOX : Hid (Ops wr xa xn xc xs) := hox
            have HDL : Hid (Doc wr da dn dc L) := hdl
            have HB : Hid (Below V.heap.size V wr) := hbr
            have HM : Hid (Kl.Mt c.cl (os.map PV.pt) k (xs.map PV.pt) L) := hm
            clear hox hdl hbr hm
            obtain rfl | rfl | rfl : k = 0 ∨ k = 1 ∨ k = 2 := by omega
            · clear hk
              have ix : ∀ w, (Instr.index 59 (.agg #[.slice c.sa c.sn c.sc, .slice c.ha c.hn c.hc]) (.int .i64 0)).run Tryd.prog w = .ok (.slice c.sa c.sn c.sc) w := ixa0 _ _ _ _ _ _
              by_cases h0 : c.sn = 0
              · have HL0 : Hid (c.cl.sent.length = 0) := by show (c.sent.map PV.pt).length = 0; rw [len_pt (HCB.out _ HB.out).sent]; exact h0
                have hn1 : ((c.sn : Int) == 0) = true := by simp [h0]
                have hn2 : (c.sn == 0) = true := by simp [h0]
                have hn3 : decide (c.sn = 0) = true := by simp [h0]
                have HML : Hid (Kl.Mt c.cl (os.map PV.pt) 2 (xs.map PV.pt) L) := HM.out.none0 HR.out HL0.out
                clear h0
                obtain ⟨l1, l2, l3⟩ := HML.out.last HR.out HG.out
                rw [← HYC.out] at l1 l3
                have hyn : y.cl.now = y.now := rfl
                have CS : Hid (Calls Tryd.prog 23 #[.slice y.na y.nn y.nc, .slice da dn dc] wr fun e w' => e = .returned (.bool true) ∧ Below wr.heap.size wr w') := same_true (HCY.out _ HB.out).2.now HDL.out l1.symm
                have CAP : Hid (∀ w', Below wr.heap.size wr w' → Calls Tryd.prog 24 #[.slice c.na c.nn c.nc, .slice xa xn xc] w' fun e w'' => (∃ a' n' c', e = .returned (.tuple #[.slice a' n' c', .int .i64 0]) ∧ Doc w'' a' n' c' y.now) ∧ Below w'.heap.size w' w'') := fun w' hb => by
                  have := apply_any _ _ _ _ _ _ _ _ _ ((HCB.out _ HB.out).now.below hb) (HOX.out.below hb) ((HSC.out _ HB.out).below hb)
                  rw [show Ac.fitE c.now (xs.map PV.pt) = 0 from l2, show Ac.done c.now (xs.map PV.pt) = y.now from l3] at this
                  exact this.mono fun e w'' ⟨⟨a', c', h1, h2⟩, hb⟩ => ⟨⟨a', _, c', h1, h2⟩, hb⟩
                clear l1 l2 l3 hyn
                have hB := HCM.out wr HB.out
                have p0 : wr.cell? ⟨w.heap.size, 0, none⟩ = some (.int .i64 c.rev) := hB.1.cell 0
                have p1 : wr.cell? ⟨w.heap.size, 1, none⟩ = some (.slice c.ba c.bn c.bc) := hB.1.cell 1
                have p2 : wr.cell? ⟨w.heap.size, 2, none⟩ = some (.slice c.na c.nn c.nc) := hB.1.cell 2
                have p3 : wr.cell? ⟨w.heap.size, 3, none⟩ = some (.int .i64 c.seq) := hB.1.cell 3
                have p4 : wr.cell? ⟨w.heap.size, 4, none⟩ = some (.slice c.sa c.sn c.sc) := hB.1.cell 4
                have p5 : wr.cell? ⟨w.heap.size, 5, none⟩ = some (.slice c.ha c.hn c.hc) := hB.1.cell 5
                have p6 : wr.cell? ⟨w.heap.size, 6, none⟩ = some (.bool c.jo) := hB.1.cell 6
                have z0 : wr.cell? ⟨b1, 0, none⟩ = some (.int .i64 y.rev) := hB.2.cell 0
                have z1 : wr.cell? ⟨b1, 1, none⟩ = some (.slice y.ba y.bn y.bc) := hB.2.cell 1
                have z2 : wr.cell? ⟨b1, 2, none⟩ = some (.slice y.na y.nn y.nc) := hB.2.cell 2
                have z3 : wr.cell? ⟨b1, 3, none⟩ = some (.int .i64 y.seq) := hB.2.cell 3
                have z4 : wr.cell? ⟨b1, 4, none⟩ = some (.slice y.sa y.sn y.sc) := hB.2.cell 4
                have z5 : wr.cell? ⟨b1, 5, none⟩ = some (.slice y.ha y.hn y.hc) := hB.2.cell 5
                have z6 : wr.cell? ⟨b1, 6, none⟩ = some (.bool y.jo) := hB.2.cell 6
                clear hB
                go_wp2_with fail
                refine CS.out.mono ?_
                rintro e wa ⟨rfl, hb⟩
                have HBA : Hid (Below V.heap.size V wa) := (HB.out).trans (hb.mono (HB.out).size)
                have CA := CAP.out wa hb
                clear hb CS CAP
                clear p0 p1 p2 p3 p4 p5 p6
                clear z0 z1 z2 z3 z4 z5 z6
                have hB := HCM.out wa HBA.out
                have p0 : wa.cell? ⟨w.heap.size, 0, none⟩ = some (.int .i64 c.rev) := hB.1.cell 0
                have p1 : wa.cell? ⟨w.heap.size, 1, none⟩ = some (.slice c.ba c.bn c.bc) := hB.1.cell 1
                have p2 : wa.cell? ⟨w.heap.size, 2, none⟩ = some (.slice c.na c.nn c.nc) := hB.1.cell 2
                have p3 : wa.cell? ⟨w.heap.size, 3, none⟩ = some (.int .i64 c.seq) := hB.1.cell 3
                have p4 : wa.cell? ⟨w.heap.size, 4, none⟩ = some (.slice c.sa c.sn c.sc) := hB.1.cell 4
                have p5 : wa.cell? ⟨w.heap.size, 5, none⟩ = some (.slice c.ha c.hn c.hc) := hB.1.cell 5
                have p6 : wa.cell? ⟨w.heap.size, 6, none⟩ = some (.bool c.jo) := hB.1.cell 6
                have z0 : wa.cell? ⟨b1, 0, none⟩ = some (.int .i64 y.rev) := hB.2.cell 0
                have z1 : wa.cell? ⟨b1, 1, none⟩ = some (.slice y.ba y.bn y.bc) := hB.2.cell 1
                have z2 : wa.cell? ⟨b1, 2, none⟩ = some (.slice y.na y.nn y.nc) := hB.2.cell 2
                have z3 : wa.cell? ⟨b1, 3, none⟩ = some (.int .i64 y.seq) := hB.2.cell 3
                have z4 : wa.cell? ⟨b1, 4, none⟩ = some (.slice y.sa y.sn y.sc) := hB.2.cell 4
                have z5 : wa.cell? ⟨b1, 5, none⟩ = some (.slice y.ha y.hn y.hc) := hB.2.cell 5
                have z6 : wa.cell? ⟨b1, 6, none⟩ = some (.bool y.jo) := hB.2.cell 6
                clear hB
                go_wp2_with fail
                refine CA.mono ?_
                rintro e wb ⟨⟨a6, n6, c6, rfl, hd⟩, hb⟩
                have HBB : Hid (Below V.heap.size V wb) := HBA.out.trans (hb.mono HBA.out.size)
                have CS2 : Hid (Calls Tryd.prog 23 #[.slice y.na y.nn y.nc, .slice a6 n6 c6] wb fun e w' => e = .returned (.bool true) ∧ Below wb.heap.size wb w') := same_true (HCY.out _ HBB.out).2.now hd rfl
                clear hd hb CA
                clear p0 p1 p2 p3 p4 p5 p6
                clear z0 z1 z2 z3 z4 z5 z6
                have hB := HCM.out wb HBB.out
                have z0 : wb.cell? ⟨b1, 0, none⟩ = some (.int .i64 y.rev) := hB.2.cell 0
                have z1 : wb.cell? ⟨b1, 1, none⟩ = some (.slice y.ba y.bn y.bc) := hB.2.cell 1
                have z2 : wb.cell? ⟨b1, 2, none⟩ = some (.slice y.na y.nn y.nc) := hB.2.cell 2
                have z3 : wb.cell? ⟨b1, 3, none⟩ = some (.int .i64 y.seq) := hB.2.cell 3
                have z4 : wb.cell? ⟨b1, 4, none⟩ = some (.slice y.sa y.sn y.sc) := hB.2.cell 4
                have z5 : wb.cell? ⟨b1, 5, none⟩ = some (.slice y.ha y.hn y.hc) := hB.2.cell 5
                have z6 : wb.cell? ⟨b1, 6, none⟩ = some (.bool y.jo) := hB.2.cell 6
                clear hB
                go_wp2_with fail
                refine CS2.out.mono ?_
                rintro e wd ⟨rfl, hb⟩
                have HBD : Hid (Below V.heap.size V wd) := HBB.out.trans (hb.mono HBB.out.size)
                clear hb CS2
                go_wp2
                go_ret
                exact ⟨rfl, HV.out.trans (HBD.out.mono HV.out.size)⟩
              · have HL0 : Hid (0 < c.cl.sent.length) := by show 0 < (c.sent.map PV.pt).length; rw [len_pt (HCB.out _ HB.out).sent]; omega
                have hn1 : ((c.sn : Int) == 0) = false := by simp [h0]
                have hn2 : (c.sn == 0) = false := by simp [h0]
                have hn3 : decide (c.sn = 0) = false := by simp [h0]
                obtain ⟨t1, t2, t3⟩ := HM.out.some0 HG.out HL0.out
                have CT : Hid (Calls Tryd.prog 9 #[.slice xa xn xc, .slice c.sa c.sn c.sc] wr fun e w' => TurnP (Ac.trnX (xs.map PV.pt) (c.sent.map PV.pt)) (Ac.trnY (xs.map PV.pt) (c.sent.map PV.pt)) 0 e w' ∧ Below wr.heap.size wr w') := by
                  have := turn_any _ _ _ _ _ _ _ _ wr HOX.out (HCB.out _ HB.out).sent (HSC.out _ HB.out)
                  rw [show Ac.trnE (xs.map PV.pt) (c.sent.map PV.pt) = 0 from t1] at this
                  exact this
                have HT2 : Hid (Ac.fitE L (Ac.trnY (xs.map PV.pt) (c.sent.map PV.pt)) = 0) := t2
                have HT3 : Hid (Kl.Mt c.cl (os.map PV.pt) 1 (Ac.trnX (xs.map PV.pt) (c.sent.map PV.pt)) (Ac.done L (Ac.trnY (xs.map PV.pt) (c.sent.map PV.pt)))) := t3
                clear t1 t2 t3 h0
                obtain ⟨X, hX⟩ : ∃ X, Ac.trnX (xs.map PV.pt) (c.sent.map PV.pt) = X := ⟨_, rfl⟩
                obtain ⟨Y, hY⟩ : ∃ Y, Ac.trnY (xs.map PV.pt) (c.sent.map PV.pt) = Y := ⟨_, rfl⟩
                rw [hX, hY] at CT HT3
                rw [hY] at HT2
                clear hX hY
                go_wp2_with fail
                refine CT.out.mono ?_
                rintro e w2 ⟨⟨x2, xn2, xc2, xu2, y2, yn2, yc2, yu2, rfl, hx2, hy2, px2, py2⟩, hb⟩
                have HB2 : Hid (Below V.heap.size V w2) := HB.out.trans (hb.mono HB.out.size)
                have HX2 : Hid (Ops w2 x2 xn2 xc2 xu2) := hx2
                have HPX : Hid (xu2.map PV.pt = X) := px2
                have CA : Hid (Calls Tryd.prog 24 #[.slice da dn dc, .slice y2 yn2 yc2] w2 fun e w' => (∃ a' n' c', e = .returned (.tuple #[.slice a' n' c', .int .i64 0]) ∧ Doc w' a' n' c' (Ac.done L Y)) ∧ Below w2.heap.size w2 w') := by
                  have := apply_any _ _ _ _ _ _ _ _ _ (HDL.out.below hb) hy2 (HSC.out _ HB2.out)
                  rw [py2, HT2.out] at this
                  exact this.mono fun e w' ⟨⟨a', c', h1, h2⟩, hb⟩ => ⟨⟨a', _, c', h1, h2⟩, hb⟩
                clear hx2 hy2 px2 py2 hb CT
                go_wp2_with fail
                refine CA.out.mono ?_
                rintro e w3 ⟨⟨a6, n6, c6, rfl, hd⟩, hb⟩
                have HB3 : Hid (Below V.heap.size V w3) := HB2.out.trans (hb.mono HB2.out.size)
                have HX3 : Hid (Ops w3 x2 xn2 xc2 xu2) := HX2.out.below hb
                have HD3 : Hid (Doc w3 a6 n6 c6 (Ac.done L Y)) := hd
                clear hd hb CA
                go_wp2
                go_roundw
                case rel => exact ⟨1, by decide, rfl, x2, xn2, xc2, xu2, a6, n6, c6, _, rfl, rfl, HX3.out, HD3.out, HB3.out, by rw [HPX.out]; exact HT3.out⟩
                case measure => decide
            · clear hk
              have ix : ∀ w, (Instr.index 59 (.agg #[.slice c.sa c.sn c.sc, .slice c.ha c.hn c.hc]) (.int .i64 1)).run Tryd.prog w = .ok (.slice c.ha c.hn c.hc) w := ixa1 _ _ _ _ _ _
              by_cases h0 : c.hn = 0
              · have HL0 : Hid (c.cl.held.length = 0) := by show (c.held.map PV.pt).length = 0; rw [len_pt (HCB.out _ HB.out).held]; exact h0
                have hn1 : ((c.hn : Int) == 0) = true := by simp [h0]
                have hn2 : (c.hn == 0) = true := by simp [h0]
                have hn3 : decide (c.hn = 0) = true := by simp [h0]
                have HML : Hid (Kl.Mt c.cl (os.map PV.pt) 2 (xs.map PV.pt) L) := HM.out.none1 HL0.out
                clear h0
                obtain ⟨l1, l2, l3⟩ := HML.out.last HR.out HG.out
                rw [← HYC.out] at l1 l3
                have hyn : y.cl.now = y.now := rfl
                have CS : Hid (Calls Tryd.prog 23 #[.slice y.na y.nn y.nc, .slice da dn dc] wr fun e w' => e = .returned (.bool true) ∧ Below wr.heap.size wr w') := same_true (HCY.out _ HB.out).2.now HDL.out l1.symm
                have CAP : Hid (∀ w', Below wr.heap.size wr w' → Calls Tryd.prog 24 #[.slice c.na c.nn c.nc, .slice xa xn xc] w' fun e w'' => (∃ a' n' c', e = .returned (.tuple #[.slice a' n' c', .int .i64 0]) ∧ Doc w'' a' n' c' y.now) ∧ Below w'.heap.size w' w'') := fun w' hb => by
                  have := apply_any _ _ _ _ _ _ _ _ _ ((HCB.out _ HB.out).now.below hb) (HOX.out.below hb) ((HSC.out _ HB.out).below hb)
                  rw [show Ac.fitE c.now (xs.map PV.pt) = 0 from l2, show Ac.done c.now (xs.map PV.pt) = y.now from l3] at this
                  exact this.mono fun e w'' ⟨⟨a', c', h1, h2⟩, hb⟩ => ⟨⟨a', _, c', h1, h2⟩, hb⟩
                clear l1 l2 l3 hyn
                have hB := HCM.out wr HB.out
                have p0 : wr.cell? ⟨w.heap.size, 0, none⟩ = some (.int .i64 c.rev) := hB.1.cell 0
                have p1 : wr.cell? ⟨w.heap.size, 1, none⟩ = some (.slice c.ba c.bn c.bc) := hB.1.cell 1
                have p2 : wr.cell? ⟨w.heap.size, 2, none⟩ = some (.slice c.na c.nn c.nc) := hB.1.cell 2
                have p3 : wr.cell? ⟨w.heap.size, 3, none⟩ = some (.int .i64 c.seq) := hB.1.cell 3
                have p4 : wr.cell? ⟨w.heap.size, 4, none⟩ = some (.slice c.sa c.sn c.sc) := hB.1.cell 4
                have p5 : wr.cell? ⟨w.heap.size, 5, none⟩ = some (.slice c.ha c.hn c.hc) := hB.1.cell 5
                have p6 : wr.cell? ⟨w.heap.size, 6, none⟩ = some (.bool c.jo) := hB.1.cell 6
                have z0 : wr.cell? ⟨b1, 0, none⟩ = some (.int .i64 y.rev) := hB.2.cell 0
                have z1 : wr.cell? ⟨b1, 1, none⟩ = some (.slice y.ba y.bn y.bc) := hB.2.cell 1
                have z2 : wr.cell? ⟨b1, 2, none⟩ = some (.slice y.na y.nn y.nc) := hB.2.cell 2
                have z3 : wr.cell? ⟨b1, 3, none⟩ = some (.int .i64 y.seq) := hB.2.cell 3
                have z4 : wr.cell? ⟨b1, 4, none⟩ = some (.slice y.sa y.sn y.sc) := hB.2.cell 4
                have z5 : wr.cell? ⟨b1, 5, none⟩ = some (.slice y.ha y.hn y.hc) := hB.2.cell 5
                have z6 : wr.cell? ⟨b1, 6, none⟩ = some (.bool y.jo) := hB.2.cell 6
                clear hB
                go_wp2_with fail
                refine CS.out.mono ?_
                rintro e wa ⟨rfl, hb⟩
                have HBA : Hid (Below V.heap.size V wa) := (HB.out).trans (hb.mono (HB.out).size)
                have CA := CAP.out wa hb
                clear hb CS CAP
                clear p0 p1 p2 p3 p4 p5 p6
                clear z0 z1 z2 z3 z4 z5 z6
                have hB := HCM.out wa HBA.out
                have p0 : wa.cell? ⟨w.heap.size, 0, none⟩ = some (.int .i64 c.rev) := hB.1.cell 0
                have p1 : wa.cell? ⟨w.heap.size, 1, none⟩ = some (.slice c.ba c.bn c.bc) := hB.1.cell 1
                have p2 : wa.cell? ⟨w.heap.size, 2, none⟩ = some (.slice c.na c.nn c.nc) := hB.1.cell 2
                have p3 : wa.cell? ⟨w.heap.size, 3, none⟩ = some (.int .i64 c.seq) := hB.1.cell 3
                have p4 : wa.cell? ⟨w.heap.size, 4, none⟩ = some (.slice c.sa c.sn c.sc) := hB.1.cell 4
                have p5 : wa.cell? ⟨w.heap.size, 5, none⟩ = some (.slice c.ha c.hn c.hc) := hB.1.cell 5
                have p6 : wa.cell? ⟨w.heap.size, 6, none⟩ = some (.bool c.jo) := hB.1.cell 6
                have z0 : wa.cell? ⟨b1, 0, none⟩ = some (.int .i64 y.rev) := hB.2.cell 0
                have z1 : wa.cell? ⟨b1, 1, none⟩ = some (.slice y.ba y.bn y.bc) := hB.2.cell 1
                have z2 : wa.cell? ⟨b1, 2, none⟩ = some (.slice y.na y.nn y.nc) := hB.2.cell 2
                have z3 : wa.cell? ⟨b1, 3, none⟩ = some (.int .i64 y.seq) := hB.2.cell 3
                have z4 : wa.cell? ⟨b1, 4, none⟩ = some (.slice y.sa y.sn y.sc) := hB.2.cell 4
                have z5 : wa.cell? ⟨b1, 5, none⟩ = some (.slice y.ha y.hn y.hc) := hB.2.cell 5
                have z6 : wa.cell? ⟨b1, 6, none⟩ = some (.bool y.jo) := hB.2.cell 6
                clear hB
                go_wp2_with fail
                refine CA.mono ?_
                rintro e wb ⟨⟨a6, n6, c6, rfl, hd⟩, hb⟩
                have HBB : Hid (Below V.heap.size V wb) := HBA.out.trans (hb.mono HBA.out.size)
                have CS2 : Hid (Calls Tryd.prog 23 #[.slice y.na y.nn y.nc, .slice a6 n6 c6] wb fun e w' => e = .returned (.bool true) ∧ Below wb.heap.size wb w') := same_true (HCY.out _ HBB.out).2.now hd rfl
                clear hd hb CA
                clear p0 p1 p2 p3 p4 p5 p6
                clear z0 z1 z2 z3 z4 z5 z6
                have hB := HCM.out wb HBB.out
                have z0 : wb.cell? ⟨b1, 0, none⟩ = some (.int .i64 y.rev) := hB.2.cell 0
                have z1 : wb.cell? ⟨b1, 1, none⟩ = some (.slice y.ba y.bn y.bc) := hB.2.cell 1
                have z2 : wb.cell? ⟨b1, 2, none⟩ = some (.slice y.na y.nn y.nc) := hB.2.cell 2
                have z3 : wb.cell? ⟨b1, 3, none⟩ = some (.int .i64 y.seq) := hB.2.cell 3
                have z4 : wb.cell? ⟨b1, 4, none⟩ = some (.slice y.sa y.sn y.sc) := hB.2.cell 4
                have z5 : wb.cell? ⟨b1, 5, none⟩ = some (.slice y.ha y.hn y.hc) := hB.2.cell 5
                have z6 : wb.cell? ⟨b1, 6, none⟩ = some (.bool y.jo) := hB.2.cell 6
                clear hB
                go_wp2_with fail
                refine CS2.out.mono ?_
                rintro e wd ⟨rfl, hb⟩
                have HBD : Hid (Below V.heap.size V wd) := HBB.out.trans (hb.mono HBB.out.size)
                clear hb CS2
                go_wp2
                go_ret
                exact ⟨rfl, HV.out.trans (HBD.out.mono HV.out.size)⟩
              · have HL0 : Hid (0 < c.cl.held.length) := by show 0 < (c.held.map PV.pt).length; rw [len_pt (HCB.out _ HB.out).held]; omega
                have hn1 : ((c.hn : Int) == 0) = false := by simp [h0]
                have hn2 : (c.hn == 0) = false := by simp [h0]
                have hn3 : decide (c.hn = 0) = false := by simp [h0]
                obtain ⟨t1, t2, t3⟩ := HM.out.some1 HG.out HL0.out
                have CT : Hid (Calls Tryd.prog 9 #[.slice xa xn xc, .slice c.ha c.hn c.hc] wr fun e w' => TurnP (Ac.trnX (xs.map PV.pt) (c.held.map PV.pt)) (Ac.trnY (xs.map PV.pt) (c.held.map PV.pt)) 0 e w' ∧ Below wr.heap.size wr w') := by
                  have := turn_any _ _ _ _ _ _ _ _ wr HOX.out (HCB.out _ HB.out).held (HSC.out _ HB.out)
                  rw [show Ac.trnE (xs.map PV.pt) (c.held.map PV.pt) = 0 from t1] at this
                  exact this
                have HT2 : Hid (Ac.fitE L (Ac.trnY (xs.map PV.pt) (c.held.map PV.pt)) = 0) := t2
                have HT3 : Hid (Kl.Mt c.cl (os.map PV.pt) 2 (Ac.trnX (xs.map PV.pt) (c.held.map PV.pt)) (Ac.done L (Ac.trnY (xs.map PV.pt) (c.held.map PV.pt)))) := t3
                clear t1 t2 t3 h0
                obtain ⟨X, hX⟩ : ∃ X, Ac.trnX (xs.map PV.pt) (c.held.map PV.pt) = X := ⟨_, rfl⟩
                obtain ⟨Y, hY⟩ : ∃ Y, Ac.trnY (xs.map PV.pt) (c.held.map PV.pt) = Y := ⟨_, rfl⟩
                rw [hX, hY] at CT HT3
                rw [hY] at HT2
                clear hX hY
                go_wp2_with fail
                refine CT.out.mono ?_
                rintro e w2 ⟨⟨x2, xn2, xc2, xu2, y2, yn2, yc2, yu2, rfl, hx2, hy2, px2, py2⟩, hb⟩
                have HB2 : Hid (Below V.heap.size V w2) := HB.out.trans (hb.mono HB.out.size)
                have HX2 : Hid (Ops w2 x2 xn2 xc2 xu2) := hx2
                have HPX : Hid (xu2.map PV.pt = X) := px2
                have CA : Hid (Calls Tryd.prog 24 #[.slice da dn dc, .slice y2 yn2 yc2] w2 fun e w' => (∃ a' n' c', e = .returned (.tuple #[.slice a' n' c', .int .i64 0]) ∧ Doc w' a' n' c' (Ac.done L Y)) ∧ Below w2.heap.size w2 w') := by
                  have := apply_any _ _ _ _ _ _ _ _ _ (HDL.out.below hb) hy2 (HSC.out _ HB2.out)
                  rw [py2, HT2.out] at this
                  exact this.mono fun e w' ⟨⟨a', c', h1, h2⟩, hb⟩ => ⟨⟨a', _, c', h1, h2⟩, hb⟩
                clear hx2 hy2 px2 py2 hb CT
                go_wp2_with fail
                refine CA.out.mono ?_
                rintro e w3 ⟨⟨a6, n6, c6, rfl, hd⟩, hb⟩
                have HB3 : Hid (Below V.heap.size V w3) := HB2.out.trans (hb.mono HB2.out.size)
                have HX3 : Hid (Ops w3 x2 xn2 xc2 xu2) := HX2.out.below hb
                have HD3 : Hid (Doc w3 a6 n6 c6 (Ac.done L Y)) := hd
                clear hd hb CA
                go_wp2
                go_roundw
                case rel => exact ⟨2, by decide, rfl, x2, xn2, xc2, xu2, a6, n6, c6, _, rfl, rfl, HX3.out, HD3.out, HB3.out, by rw [HPX.out]; exact HT3.out⟩
                case measure => decide
            · clear hk
              have HML : Hid (Kl.Mt c.cl (os.map PV.pt) 2 (xs.map PV.pt) L) := HM.out
              obtain ⟨l1, l2, l3⟩ := HML.out.last HR.out HG.out
              rw [← HYC.out] at l1 l3
              have hyn : y.cl.now = y.now := rfl
              have CS : Hid (Calls Tryd.prog 23 #[.slice y.na y.nn y.nc, .slice da dn dc] wr fun e w' => e = .returned (.bool true) ∧ Below wr.heap.size wr w') := same_true (HCY.out _ HB.out).2.now HDL.out l1.symm
              have CAP : Hid (∀ w', Below wr.heap.size wr w' → Calls Tryd.prog 24 #[.slice c.na c.nn c.nc, .slice xa xn xc] w' fun e w'' => (∃ a' n' c', e = .returned (.tuple #[.slice a' n' c', .int .i64 0]) ∧ Doc w'' a' n' c' y.now) ∧ Below w'.heap.size w' w'') := fun w' hb => by
                have := apply_any _ _ _ _ _ _ _ _ _ ((HCB.out _ HB.out).now.below hb) (HOX.out.below hb) ((HSC.out _ HB.out).below hb)
                rw [show Ac.fitE c.now (xs.map PV.pt) = 0 from l2, show Ac.done c.now (xs.map PV.pt) = y.now from l3] at this
                exact this.mono fun e w'' ⟨⟨a', c', h1, h2⟩, hb⟩ => ⟨⟨a', _, c', h1, h2⟩, hb⟩
              clear l1 l2 l3 hyn
              have hB := HCM.out wr HB.out
              have p0 : wr.cell? ⟨w.heap.size, 0, none⟩ = some (.int .i64 c.rev) := hB.1.cell 0
              have p1 : wr.cell? ⟨w.heap.size, 1, none⟩ = some (.slice c.ba c.bn c.bc) := hB.1.cell 1
              have p2 : wr.cell? ⟨w.heap.size, 2, none⟩ = some (.slice c.na c.nn c.nc) := hB.1.cell 2
              have p3 : wr.cell? ⟨w.heap.size, 3, none⟩ = some (.int .i64 c.seq) := hB.1.cell 3
              have p4 : wr.cell? ⟨w.heap.size, 4, none⟩ = some (.slice c.sa c.sn c.sc) := hB.1.cell 4
              have p5 : wr.cell? ⟨w.heap.size, 5, none⟩ = some (.slice c.ha c.hn c.hc) := hB.1.cell 5
              have p6 : wr.cell? ⟨w.heap.size, 6, none⟩ = some (.bool c.jo) := hB.1.cell 6
              have z0 : wr.cell? ⟨b1, 0, none⟩ = some (.int .i64 y.rev) := hB.2.cell 0
              have z1 : wr.cell? ⟨b1, 1, none⟩ = some (.slice y.ba y.bn y.bc) := hB.2.cell 1
              have z2 : wr.cell? ⟨b1, 2, none⟩ = some (.slice y.na y.nn y.nc) := hB.2.cell 2
              have z3 : wr.cell? ⟨b1, 3, none⟩ = some (.int .i64 y.seq) := hB.2.cell 3
              have z4 : wr.cell? ⟨b1, 4, none⟩ = some (.slice y.sa y.sn y.sc) := hB.2.cell 4
              have z5 : wr.cell? ⟨b1, 5, none⟩ = some (.slice y.ha y.hn y.hc) := hB.2.cell 5
              have z6 : wr.cell? ⟨b1, 6, none⟩ = some (.bool y.jo) := hB.2.cell 6
              clear hB
              go_wp2_with fail
              refine CS.out.mono ?_
              rintro e wa ⟨rfl, hb⟩
              have HBA : Hid (Below V.heap.size V wa) := (HB.out).trans (hb.mono (HB.out).size)
              have CA := CAP.out wa hb
              clear hb CS CAP
              clear p0 p1 p2 p3 p4 p5 p6
              clear z0 z1 z2 z3 z4 z5 z6
              have hB := HCM.out wa HBA.out
              have p0 : wa.cell? ⟨w.heap.size, 0, none⟩ = some (.int .i64 c.rev) := hB.1.cell 0
              have p1 : wa.cell? ⟨w.heap.size, 1, none⟩ = some (.slice c.ba c.bn c.bc) := hB.1.cell 1
              have p2 : wa.cell? ⟨w.heap.size, 2, none⟩ = some (.slice c.na c.nn c.nc) := hB.1.cell 2
              have p3 : wa.cell? ⟨w.heap.size, 3, none⟩ = some (.int .i64 c.seq) := hB.1.cell 3
              have p4 : wa.cell? ⟨w.heap.size, 4, none⟩ = some (.slice c.sa c.sn c.sc) := hB.1.cell 4
              have p5 : wa.cell? ⟨w.heap.size, 5, none⟩ = some (.slice c.ha c.hn c.hc) := hB.1.cell 5
              have p6 : wa.cell? ⟨w.heap.size, 6, none⟩ = some (.bool c.jo) := hB.1.cell 6
              have z0 : wa.cell? ⟨b1, 0, none⟩ = some (.int .i64 y.rev) := hB.2.cell 0
              have z1 : wa.cell? ⟨b1, 1, none⟩ = some (.slice y.ba y.bn y.bc) := hB.2.cell 1
              have z2 : wa.cell? ⟨b1, 2, none⟩ = some (.slice y.na y.nn y.nc) := hB.2.cell 2
              have z3 : wa.cell? ⟨b1, 3, none⟩ = some (.int .i64 y.seq) := hB.2.cell 3
              have z4 : wa.cell? ⟨b1, 4, none⟩ = some (.slice y.sa y.sn y.sc) := hB.2.cell 4
              have z5 : wa.cell? ⟨b1, 5, none⟩ = some (.slice y.ha y.hn y.hc) := hB.2.cell 5
              have z6 : wa.cell? ⟨b1, 6, none⟩ = some (.bool y.jo) := hB.2.cell 6
              clear hB
              go_wp2_with fail
              refine CA.mono ?_
              rintro e wb ⟨⟨a6, n6, c6, rfl, hd⟩, hb⟩
              have HBB : Hid (Below V.heap.size V wb) := HBA.out.trans (hb.mono HBA.out.size)
              have CS2 : Hid (Calls Tryd.prog 23 #[.slice y.na y.nn y.nc, .slice a6 n6 c6] wb fun e w' => e = .returned (.bool true) ∧ Below wb.heap.size wb w') := same_true (HCY.out _ HBB.out).2.now hd rfl
              clear hd hb CA
              clear p0 p1 p2 p3 p4 p5 p6
              clear z0 z1 z2 z3 z4 z5 z6
              have hB := HCM.out wb HBB.out
              have z0 : wb.cell? ⟨b1, 0, none⟩ = some (.int .i64 y.rev) := hB.2.cell 0
              have z1 : wb.cell? ⟨b1, 1, none⟩ = some (.slice y.ba y.bn y.bc) := hB.2.cell 1
              have z2 : wb.cell? ⟨b1, 2, none⟩ = some (.slice y.na y.nn y.nc) := hB.2.cell 2
              have z3 : wb.cell? ⟨b1, 3, none⟩ = some (.int .i64 y.seq) := hB.2.cell 3
              have z4 : wb.cell? ⟨b1, 4, none⟩ = some (.slice y.sa y.sn y.sc) := hB.2.cell 4
              have z5 : wb.cell? ⟨b1, 5, none⟩ = some (.slice y.ha y.hn y.hc) := hB.2.cell 5
              have z6 : wb.cell? ⟨b1, 6, none⟩ = some (.bool y.jo) := hB.2.cell 6
              clear hB
              go_wp2_with fail
              refine CS2.out.mono ?_
              rintro e wd ⟨rfl, hb⟩
              have HBD : Hid (Below V.heap.size V wd) := HBB.out.trans (hb.mono HBB.out.size)
              clear hb CS2
              go_wp2
              go_ret
              exact ⟨rfl, HV.out.trans (HBD.out.mono HV.out.size)⟩
  · have hne : (E2 != 0) = true := by simp [h2]
    go_wp2_with fail
    refine (CH.out _ HB2.out).mono ?_
    rintro e wa ⟨rfl, hb⟩
    have HBA : Hid (Below V.heap.size V wa) := HB2.out.trans (hb.mono HB2.out.size)
    clear hb
    go_wp2
    go_ret
    exact ⟨rfl, HV.out.trans (HBA.out.mono HV.out.size)⟩
end Go.Proofs.YtbhcklkbckacpaaDoor
