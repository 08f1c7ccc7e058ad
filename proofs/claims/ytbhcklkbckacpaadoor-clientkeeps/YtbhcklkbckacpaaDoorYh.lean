/-
  Package client: what a client hears of another one's operation.
-/
import Derived.Test.YtbhcklkbckacpaaDoorYg
import Derived.Deep.CutRange
namespace Go.Proofs.YtbhcklkbckacpaaDoor
open Go.RowKit
/-- Behind client.behind: two operations in a block of their own. -/
structure Tw2 (W : World) (g : Nat) (c1 : CV) (S H : List Ac.Pt) (E : Int) (b : Nat) (a : Option Addr) (n k : Nat) (us : List PV) (a' : Option Addr) (n' k' : Nat) (vs : List PV) (wx : World) : Prop where
  blk : Blk wx b [.slice a n k, .slice a' n' k'] 114
  hk : KAt wx g c1
  ops : E = 0 → Ops wx a n k us ∧ Ops wx a' n' k' vs ∧ us.map PV.pt = S ∧ vs.map PV.pt = H
  blw : Below W.heap.size W wx
  off : b ≠ g
theorem boxtw_of (w : World) (a b : Option Addr) (n c m d : Nat) : Blk ((w.alloc (.cells #[.slice none 0 0, .slice none 0 0] 114)).setCell ⟨w.heap.size, 0, none⟩ (.slice a n c) |>.setCell ⟨w.heap.size, 1, none⟩ (.slice b m d)) w.heap.size [.slice a n c, .slice b m d] 114 := ((boxtw_blk none none 0 0 0 0 w).set 0 (.slice a n c)).set 1 (.slice b m d)
theorem tw_after {W w9 : World} {g : Nat} {c1 : CV} {S H : List Ac.Pt} {E : Int} {a : Option Addr} {n k : Nat} {us : List PV} {a' : Option Addr} {n' k' : Nat} {vs : List PV} (hk : KAt W g c1) (hb : Below W.heap.size W w9) (ho : E = 0 → Ops w9 a n k us ∧ Ops w9 a' n' k' vs ∧ us.map PV.pt = S ∧ vs.map PV.pt = H) :
    Tw2 W g c1 S H E w9.heap.size a n k us a' n' k' vs (boxtw a a' n k n' k' w9) :=
  ⟨boxtw_blk .., (hk.below hb).below (boxtw_below ..), fun h => ⟨(ho h).1.below (boxtw_below ..), (ho h).2.1.below (boxtw_below ..), (ho h).2.2.1, (ho h).2.2.2⟩, hb.trans ((boxtw_below ..).mono hb.size), by have := hk.blk.lt; have := hb.size; omega⟩
theorem tw_first {W w0 w9 : World} {g : Nat} {c1 : CV} {S H : List Ac.Pt} {E : Int} {a : Option Addr} {n k : Nat} {us : List PV} {a' : Option Addr} {n' k' : Nat} {vs : List PV} (hk : KAt W g c1) (h0 : Blk w0 W.heap.size [.slice none 0 0, .slice none 0 0] 114) (hb0 : Below W.heap.size W w0) (hb : Below w0.heap.size w0 w9) (ho : E = 0 → Ops w9 a n k us ∧ Ops w9 a' n' k' vs ∧ us.map PV.pt = S ∧ vs.map PV.pt = H) :
    Tw2 W g c1 S H E W.heap.size a n k us a' n' k' vs ((w9.setCell ⟨W.heap.size, 0, none⟩ (.slice a n k)).setCell ⟨W.heap.size, 1, none⟩ (.slice a' n' k')) := by
  have h9 : Blk w9 W.heap.size [.slice none 0 0, .slice none 0 0] 114 := (hb.block _ h0.lt).trans h0
  have hkk : Kept w9 ((w9.setCell ⟨W.heap.size, 0, none⟩ (.slice a n k)).setCell ⟨W.heap.size, 1, none⟩ (.slice a' n' k')) [W.heap.size] := (kept_g ..).trans (kept_g ..)
  have hk9 : KAt w9 g c1 := (hk.below hb0).below hb
  have hlt := hk.blk.lt
  exact ⟨(h9.set 0 _).set 1 _, ⟨hkk.blk hk9.blk (by simp; omega), hk9.cli.base.keptN h9 rfl hkk, hk9.cli.now.keptN h9 rfl hkk, hk9.cli.sent.keptN h9 rfl hkk, hk9.cli.held.keptN h9 rfl hkk⟩, fun h => ⟨(ho h).1.keptN h9 rfl hkk, (ho h).2.1.keptN h9 rfl hkk, (ho h).2.2.1, (ho h).2.2.2⟩, ((hb0.trans (hb.mono hb0.size)).setCell (Nat.le_refl _) _).setCell (Nat.le_refl _) _, by omega⟩
theorem dal_step {W w' : World} {O : Obj} (h : Below (W.drew.alloc O).heap.size (W.drew.alloc O) w') : Below W.heap.size W w' := by
  have h1 : Below W.heap.size W (W.drew.alloc O) := ((Below.refl W.heap.size W).drew).alloc (by rw [World.size_drew]; exact Nat.le_refl _) O
  exact h1.trans (h.mono h1.size)
theorem tw_box (W w0 : World) (hs : w0.heap.size = W.heap.size) : Blk (w0.alloc (.cells #[.slice none 0 0, .slice none 0 0] 114)) W.heap.size [.slice none 0 0, .slice none 0 0] 114 := Blk.newAt _ _ _ _ hs

set_option maxRecDepth 100000 in
set_option maxHeartbeats 6400000 in
theorem hearOther_any (g : Nat) (c : CV) (oa : Option Addr) (on oc : Nat) (us : List PV) (w : World) (hK : KAt w g c) (hO : Ops w oa on oc us) (hS : Sch w) (hR : Kl.Rc c.cl) :
    Calls Tryd.prog 95 #[.pointer (some ⟨g, 0, none⟩), .slice oa on oc] w fun e w' => e = .returned (.tuple #[]) ∧ (∃ c', KAt w' g c' ∧ c'.cl = Kl.othC c.cl (us.map PV.pt)) ∧ Kept w w' [g] := by
  have CA : Hid (Calls Tryd.prog 110 #[.pointer (some ⟨g, 0, none⟩), .slice oa on oc] w fun e w' => e = .returned (.int .i64 (Ac.fitE c.base (us.map PV.pt))) ∧ (∃ c', KAt w' g c' ∧ c'.cl = (if Ac.fitE c.base (us.map PV.pt) = 0 then Kl.adv c.cl (us.map PV.pt) else c.cl)) ∧ Kept w w' [g]) := advance_any g c oa on oc us w hK hO hS hR.lo hR.hi
  have HK0 : Hid (KAt w g c) := hK
  have HO : Hid (Ops w oa on oc us) := hO
  have HSC : Hid (Sch w) := hS
  have HR : Hid (Kl.Rc c.cl) := hR
  clear hK hO hS hR
  obtain ⟨C, hC⟩ : ∃ C, Kl.othC c.cl (us.map PV.pt) = C := ⟨_, rfl⟩
  have HC : Hid (Kl.othC c.cl (us.map PV.pt) = C) := hC
  rw [hC]
  clear hC
  by_cases hz : Ac.fitE c.base (us.map PV.pt) = 0
  · have HE0 : Hid (Ac.fitE c.base (us.map PV.pt) = 0) := hz
    rw [hz, if_pos rfl] at CA
    clear hz
    have HC2 : Hid ((if Kl.bhE (us.map PV.pt) (c.sent.map PV.pt) (c.held.map PV.pt) = 0 then (if Kl.dnE (Ac.done c.base (us.map PV.pt)) (Kl.tY (us.map PV.pt) (c.sent.map PV.pt)) (Kl.bhH (us.map PV.pt) (c.sent.map PV.pt) (c.held.map PV.pt)) = 0 then (⟨c.rev + 1, Ac.done c.base (us.map PV.pt), Kl.dnD (Ac.done c.base (us.map PV.pt)) (Kl.tY (us.map PV.pt) (c.sent.map PV.pt)) (Kl.bhH (us.map PV.pt) (c.sent.map PV.pt) (c.held.map PV.pt)), c.seq, Kl.tY (us.map PV.pt) (c.sent.map PV.pt), Kl.bhH (us.map PV.pt) (c.sent.map PV.pt) (c.held.map PV.pt), c.jo⟩ : Kl.Cl) else Kl.gv (Kl.adv c.cl (us.map PV.pt))) else Kl.gv (Kl.adv c.cl (us.map PV.pt))) = C) := by
      have := HC.out
      unfold Kl.othC at this
      rw [if_pos (show Ac.fitE c.cl.base (us.map PV.pt) = 0 from HE0.out)] at this
      exact this
    clear HC
    go_enter Tryd.func95, Tryd.ntmps95
    go_wp2_with fail
    refine CA.out.mono ?_
    rintro e W ⟨rfl, ⟨c1, hk1, hc1⟩, hkp⟩
    have HC1 : Hid (c1.cl = Kl.adv c.cl (us.map PV.pt)) := hc1
    have HK1 : Hid (KAt W g c1) := hk1
    have HKP1 : Hid (Kept w W [g]) := hkp
    obtain ⟨i1, i2, i3, i4, i5, i6, i7⟩ := adv_is hc1
    have HI : Hid (c1.rev = c.rev + 1 ∧ c1.base = Ac.done c.base (us.map PV.pt) ∧ c1.seq = c.seq ∧ c1.jo = c.jo) := ⟨i1, i2, i4, i7⟩
    have HBN : Hid (c1.bn ≤ 80) := done_few HE0.out (by have := hk1.cli.base; rw [i2] at this; exact this)
    have HOW : Hid (Ops W oa on oc us) := HO.out.keptK HK0.out.blk hkp
    have HSW : Hid (Sch W) := HSC.out.keptK HK0.out.blk hkp
    have CB : Hid (∀ w', Below W.heap.size W w' → Calls Tryd.prog 111 #[.slice oa on oc, .agg #[.slice c1.sa c1.sn c1.sc, .slice c1.ha c1.hn c1.hc]] w' fun e w'' => BehK (Kl.tY (us.map PV.pt) (c.sent.map PV.pt)) (Kl.bhH (us.map PV.pt) (c.sent.map PV.pt) (c.held.map PV.pt)) (Kl.bhE (us.map PV.pt) (c.sent.map PV.pt) (c.held.map PV.pt)) e w'' ∧ Below w'.heap.size w' w'') := fun w' hb => by
      have := behK_any oa on oc us c1.sa c1.ha c1.sn c1.sc c1.hn c1.hc c1.sent c1.held w' (HOW.out.below hb) (HK1.out.cli.sent.below hb) (HK1.out.cli.held.below hb) (HSW.out.below hb)
      rw [i5, i6] at this
      exact this
    clear hc1 hk1 hkp CA i1 i2 i3 i4 i5 i6 i7
    generalize Kl.bhE (us.map PV.pt) (c.sent.map PV.pt) (c.held.map PV.pt) = E at *
    generalize Kl.tY (us.map PV.pt) (c.sent.map PV.pt) = S at *
    generalize Kl.bhH (us.map PV.pt) (c.sent.map PV.pt) (c.held.map PV.pt) = H at *
    have HCL : Hid (∀ w', Below W.heap.size W w' → w'.cell? ⟨g, 4, none⟩ = some (.slice c1.sa c1.sn c1.sc) ∧ w'.cell? ⟨g, 5, none⟩ = some (.slice c1.ha c1.hn c1.hc)) := fun w' hb => by
      have h := (HK1.out.below hb).blk
      exact ⟨h.cell 4, h.cell 5⟩
    obtain ⟨p4, p5⟩ := HCL.out W (Below.refl _ _)
    have CG : Hid (∀ w', KAt w' g c1 → Calls Tryd.prog 93 #[.pointer (some ⟨g, 0, none⟩)] w' fun e w'' => e = .returned (.tuple #[]) ∧ (∃ c', KAt w'' g c' ∧ c'.cl = Kl.gv (Kl.adv c.cl (us.map PV.pt))) ∧ Kept w' w'' [g]) := fun w' hk => (giveUp_any g c1 w' hk HBN.out).mono fun e w'' ⟨h1, ⟨c', h2, h3, _⟩, h4⟩ => ⟨h1, ⟨c', h2, by rw [h3, HC1.out]⟩, h4⟩
    have hgl : g < W.heap.size := HK1.out.blk.lt
    go_upto_region 1 with fail
    go_cut [4, 5] from 11 to 24 (fun lp v wx => v = .int .i64 E ∧ ∃ b a n k xs a' n' k' ys, lp = .pointer (some ⟨b, 0, none⟩) ∧ Tw2 W g c1 S H E b a n k xs a' n' k' ys wx)
    case first =>
      go_region_with (go_at_call 111; (with_reducible_and_instances refine (CB.out _ ?_).mono ?_); (first | exact (Below.refl _ _).drew | exact ((Below.refl W.heap.size W).drew).alloc (by rw [World.size_drew]; exact Nat.le_refl _) _); rintro e w9 ⟨⟨a, n, k, xs, a', n', k', ys, rfl, hops⟩, hb⟩; (first | (have HB9 : Below W.heap.size W w9 := drew_step hb) | (have HB9 : Below W.heap.size W w9 := dal_step hb; have HN9 : Blk w9 W.heap.size [.slice none 0 0, .slice none 0 0] 114 := (hb.block _ (tw_box W W.drew (World.size_drew _)).lt).trans (tw_box W W.drew (World.size_drew _)); have z0 : w9.cell? ⟨W.heap.size, 0, none⟩ = some (.slice none 0 0) := HN9.cell 0; have z1 : w9.cell? ⟨W.heap.size, 1, none⟩ = some (.slice none 0 0) := HN9.cell 1; have y0 := HN9.frozen 0; have y1 := HN9.frozen 1)); have HOP : Hid (E = 0 → Ops w9 a n k xs ∧ Ops w9 a' n' k' ys ∧ xs.map PV.pt = S ∧ ys.map PV.pt = H) := hops; obtain ⟨p49, p59⟩ := HCL.out _ HB9; clear hops)
      all_goals
        first | go_meet | (go_wp2_with fail; go_meet)
        case rel => first | exact ⟨rfl, w9.heap.size, a, n, k, xs, a', n', k', ys, rfl, tw_after HK1.out HB9 HOP.out⟩ | exact ⟨rfl, W.heap.size, a, n, k, xs, a', n', k', ys, rfl, tw_first HK1.out (tw_box W W.drew (World.size_drew _)) (((Below.refl W.heap.size W).drew).alloc (by rw [World.size_drew]; exact Nat.le_refl _) _) hb HOP.out⟩
    case rest =>
      obtain ⟨rfl, b, a, n, k, xs, a', n', k', ys, rfl, htw⟩ := hcut
      generalize wc = wb at *
      have HTW : Hid (Tw2 W g c1 S H E b a n k xs a' n' k' ys wb) := htw
      clear htw CB HCL p4 p5
      have HKC : Hid (Kept w wb [g]) := HKP1.out.trans (Kept.of_below HTW.out.blw)
      by_cases hE : E = 0
      · obtain ⟨ho1, ho2, hp1, hp2⟩ := HTW.out.ops hE
        have HO1 : Hid (Ops wb a n k xs) := ho1
        have HO2 : Hid (Ops wb a' n' k' ys) := ho2
        have HP1 : Hid (xs.map PV.pt = S) := hp1
        have HP2 : Hid (ys.map PV.pt = H) := hp2
        have HC3 : Hid ((if Kl.dnE (Ac.done c.base (us.map PV.pt)) S H = 0 then (⟨c.rev + 1, Ac.done c.base (us.map PV.pt), Kl.dnD (Ac.done c.base (us.map PV.pt)) S H, c.seq, S, H, c.jo⟩ : Kl.Cl) else Kl.gv (Kl.adv c.cl (us.map PV.pt))) = C) := by have := HC2.out; rw [if_pos hE] at this; exact this
        clear ho1 ho2 hp1 hp2 HC2
        subst hE
        have CD : Hid (∀ w', Below wb.heap.size wb w' → Calls Tryd.prog 68 #[.slice c1.ba c1.bn c1.bc, .agg #[.slice a n k, .slice a' n' k']] w' fun e w'' => (∃ q m r, e = .returned (.tuple #[.slice q m r, .int .i64 (Kl.dnE (Ac.done c.base (us.map PV.pt)) S H)]) ∧ (Kl.dnE (Ac.done c.base (us.map PV.pt)) S H = 0 → Doc w'' q m r (Kl.dnD (Ac.done c.base (us.map PV.pt)) S H))) ∧ Below w'.heap.size w' w'') := fun w' hb => by
          have := done_any c1.ba c1.bn c1.bc c1.base a a' n k n' k' xs ys w' (HTW.out.hk.cli.base.below hb) (HO1.out.below hb) (HO2.out.below hb) ((HSW.out.below HTW.out.blw).below hb) HBN.out
          rw [HP1.out, HP2.out, HI.out.2.1] at this
          exact this
        generalize Kl.dnE (Ac.done c.base (us.map PV.pt)) S H = F at *
        generalize Kl.dnD (Ac.done c.base (us.map PV.pt)) S H = D at *
        have p1 : wb.cell? ⟨g, 1, none⟩ = some (.slice c1.ba c1.bn c1.bc) := HTW.out.hk.blk.cell 1
        have z0 : wb.cell? ⟨b, 0, none⟩ = some (.slice a n k) := HTW.out.blk.cell 0
        have z1 : wb.cell? ⟨b, 1, none⟩ = some (.slice a' n' k') := HTW.out.blk.cell 1
        go_upto_region 4 with fail
        go_cut [6, 5] from 29 to 37 (fun nv v wx => v = .int .i64 F ∧ ∃ q m r, nv = .slice q m r ∧ (F = 0 → Doc wx q m r D) ∧ Below wb.heap.size wb wx)
        case first =>
          go_region_with (go_at_call 68; (with_reducible_and_instances refine (CD.out _ ?_).mono ?_); exact (Below.refl _ _).drew; rintro e w9 ⟨⟨q, m, r, rfl, hd⟩, hb⟩; have HB9 : Below wb.heap.size wb w9 := drew_step hb; have HD9 : Hid (F = 0 → Doc w9 q m r D) := hd; clear hd hb)
          all_goals
            first | go_meet | (go_wp2_with fail; go_meet)
            case rel => exact ⟨rfl, q, m, r, rfl, HD9.out, HB9⟩
        case rest =>
          obtain ⟨rfl, q, m, r, rfl, hd, hb⟩ := hcut
          have HD : Hid (F = 0 → Doc wc q m r D) := hd
          have HKD : Hid (KAt wc g c1) := HTW.out.hk.below hb
          have HKW : Hid (Kept w wc [g]) := HKC.out.trans (Kept.of_below hb)
          have HOD1 : Hid (Ops wc a n k xs) := HO1.out.below hb
          have HOD2 : Hid (Ops wc a' n' k' ys) := HO2.out.below hb
          have HBD : Hid (Blk wc b [.slice a n k, .slice a' n' k'] 114) := (hb.block _ HTW.out.blk.lt).trans HTW.out.blk
          have HOFF : Hid (b ≠ g) := HTW.out.off
          clear hd hb p1 z0 z1 CD
          by_cases hF : F = 0
          · have HCF : Hid ((⟨c.rev + 1, Ac.done c.base (us.map PV.pt), D, c.seq, S, H, c.jo⟩ : Kl.Cl) = C) := by have := HC3.out; rw [if_pos hF] at this; exact this
            have hdoc := HD.out hF
            subst hF
            have hs1 := HKD.out.toSent a n k xs HOD1.out
            have hs2 := hs1.toHeld a' n' k' ys (HOD2.out.keptK HKD.out.blk (kept_g ..))
            have HK9 : Hid (KAt (((wc.setCell ⟨g, 4, none⟩ (.slice a n k)).setCell ⟨g, 5, none⟩ (.slice a' n' k')).setCell ⟨g, 2, none⟩ (.slice q m r)) g (((c1.toSent a n k xs).toHeld a' n' k' ys).toNow q m r D)) := hs2.toNow q m r D ((hdoc.keptK HKD.out.blk (kept_g ..)).keptK hs1.blk (kept_g ..))
            have z0 : wc.cell? ⟨b, 0, none⟩ = some (.slice a n k) := HBD.out.cell 0
            have z1 : wc.cell? ⟨b, 1, none⟩ = some (.slice a' n' k') := HBD.out.cell 1
            have p2 : wc.cell? ⟨g, 2, none⟩ = some (.slice c1.na c1.nn c1.nc) := HKD.out.blk.cell 2
            have p4 : wc.cell? ⟨g, 4, none⟩ = some (.slice c1.sa c1.sn c1.sc) := HKD.out.blk.cell 4
            have p5 : wc.cell? ⟨g, 5, none⟩ = some (.slice c1.ha c1.hn c1.hc) := HKD.out.blk.cell 5
            have f2 := HKD.out.blk.frozen 2
            have f4 := HKD.out.blk.frozen 4
            have f5 := HKD.out.blk.frozen 5
            clear hdoc hs1 hs2
            go_wp2_with fail
            go_region
            all_goals
              go_wp2
              go_end0
              refine ⟨rfl, ⟨_, HK9.out.below (Below.refl _ _).drew, ?_⟩, (((HKW.out.trans (kept_g ..)).trans (kept_g ..)).trans (kept_g ..)).drew⟩
              rw [← HCF.out]
              show (⟨c1.rev, c1.base, D, c1.seq, xs.map PV.pt, ys.map PV.pt, c1.jo⟩ : Kl.Cl) = _
              rw [HI.out.1, HI.out.2.1, HI.out.2.2.1, HI.out.2.2.2, HP1.out, HP2.out]
          · have hne : (F != 0) = true := by simp [hF]
            have HCF : Hid (Kl.gv (Kl.adv c.cl (us.map PV.pt)) = C) := by have := HC3.out; rw [if_neg hF] at this; exact this
            go_wp2_with fail
            refine (CG.out _ HKD.out).mono ?_
            rintro e w9 ⟨rfl, ⟨c9, hk9, hc9⟩, hkp⟩
            have HK9 : Hid (KAt w9 g c9) := hk9
            have HC9 : Hid (c9.cl = C) := hc9.trans HCF.out
            have HKP9 : Hid (Kept w w9 [g]) := HKW.out.trans hkp
            clear hk9 hc9 hkp
            go_wp2
            refine bodyPost_ret (results_none rfl _ _ _) rfl ?_
            exact ⟨rfl, ⟨c9, HK9.out, HC9.out⟩, HKP9.out⟩
      · have hne : (E != 0) = true := by simp [hE]
        have HCF : Hid (Kl.gv (Kl.adv c.cl (us.map PV.pt)) = C) := by have := HC2.out; rw [if_neg hE] at this; exact this
        go_wp2_with fail
        refine (CG.out _ HTW.out.hk).mono ?_
        rintro e w9 ⟨rfl, ⟨c9, hk9, hc9⟩, hkp⟩
        have HK9 : Hid (KAt w9 g c9) := hk9
        have HC9 : Hid (c9.cl = C) := hc9.trans HCF.out
        have HKP9 : Hid (Kept w w9 [g]) := HKC.out.trans hkp
        clear hk9 hc9 hkp
        go_wp2
        refine bodyPost_ret (results_none rfl _ _ _) rfl ?_
        exact ⟨rfl, ⟨c9, HK9.out, HC9.out⟩, HKP9.out⟩
  · have HCF : Hid (c.cl = C) := by
      have := HC.out
      unfold Kl.othC at this
      rw [if_neg (show ¬ Ac.fitE c.cl.base (us.map PV.pt) = 0 from hz)] at this
      exact this
    rw [if_neg hz] at CA
    generalize Ac.fitE c.base (us.map PV.pt) = E at *
    have hne : (E != 0) = true := by simp [hz]
    go_enter Tryd.func95, Tryd.ntmps95
    go_wp2_with fail
    refine CA.out.mono ?_
    rintro e w1 ⟨rfl, ⟨c1, hk1, hc1⟩, hkp⟩
    have HK1 : Hid (KAt w1 g c1) := hk1
    have HC1 : Hid (c1.cl = C) := hc1.trans HCF.out
    have HKP1 : Hid (Kept w w1 [g]) := hkp
    clear hk1 hc1 hkp CA
    go_wp2
    refine bodyPost_ret (results_none rfl _ _ _) rfl ?_
    exact ⟨rfl, ⟨c1, HK1.out, HC1.out⟩, HKP1.out⟩
end Go.Proofs.YtbhcklkbckacpaaDoor
