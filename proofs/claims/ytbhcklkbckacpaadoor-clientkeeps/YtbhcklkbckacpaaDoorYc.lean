/-
  Package client: operations behind another one.
-/
import Derived.Test.YtbhcklkbckacpaaDoorYb
namespace Go.Proofs.YtbhcklkbckacpaaDoor
open Go.RowKit
namespace Kl
/-- How far those that there are are behind o. -/
def BhI (o s h : List Ac.Pt) (k : Nat) (X S H : List Ac.Pt) : Prop := (k = 0 ∧ X = o ∧ S = s ∧ H = h) ∨ (k = 1 ∧ tE o s = 0 ∧ X = tX o s ∧ S = tY o s ∧ H = h) ∨ (k = 2 ∧ tE o s = 0 ∧ tE (tX o s) h = 0 ∧ S = tY o s ∧ H = tY (tX o s) h)
theorem t_none {o s : List Ac.Pt} (h : s.length = 0) : tE o s = 0 ∧ tX o s = o ∧ tY o s = s := ⟨if_pos h, if_pos h, if_pos h⟩
theorem t_some {o s : List Ac.Pt} (h : 0 < s.length) : tE o s = Ac.trnE o s ∧ tX o s = Ac.trnX o s ∧ tY o s = Ac.trnY o s := ⟨if_neg (by omega), if_neg (by omega), if_neg (by omega)⟩
theorem BhI.none0 {o s h X S H : List Ac.Pt} (i : BhI o s h 0 X S H) (h0 : S.length = 0) : BhI o s h 1 X S H := by
  rcases i with ⟨_, rfl, rfl, rfl⟩ | ⟨e, _⟩ | ⟨e, _⟩
  · exact .inr (.inl ⟨rfl, (t_none h0).1, (t_none h0).2.1.symm, (t_none h0).2.2.symm, rfl⟩)
  · cases e
  · cases e
theorem BhI.some0 {o s h X S H : List Ac.Pt} (i : BhI o s h 0 X S H) (h0 : 0 < S.length) (he : Ac.trnE X S = 0) : BhI o s h 1 (Ac.trnX X S) (Ac.trnY X S) H := by
  rcases i with ⟨_, rfl, rfl, rfl⟩ | ⟨e, _⟩ | ⟨e, _⟩
  · exact .inr (.inl ⟨rfl, (t_some h0).1.trans he, (t_some h0).2.1.symm, (t_some h0).2.2.symm, rfl⟩)
  · cases e
  · cases e
theorem BhI.bad0 {o s h X S H : List Ac.Pt} (i : BhI o s h 0 X S H) (h0 : 0 < S.length) (he : ¬ Ac.trnE X S = 0) : bhE o s h = Ac.trnE X S := by
  rcases i with ⟨_, rfl, rfl, rfl⟩ | ⟨e, _⟩ | ⟨e, _⟩
  · unfold bhE
    rw [(t_some h0).1, if_neg he]
  · cases e
  · cases e
theorem BhI.none1 {o s h X S H : List Ac.Pt} (i : BhI o s h 1 X S H) (h0 : H.length = 0) : BhI o s h 2 X S H := by
  rcases i with ⟨e, _⟩ | ⟨_, e1, rfl, rfl, rfl⟩ | ⟨e, _⟩
  · cases e
  · exact .inr (.inr ⟨rfl, e1, (t_none h0).1, rfl, (t_none h0).2.2.symm⟩)
  · cases e
theorem BhI.some1 {o s h X S H : List Ac.Pt} (i : BhI o s h 1 X S H) (h0 : 0 < H.length) (he : Ac.trnE X H = 0) : BhI o s h 2 (Ac.trnX X H) S (Ac.trnY X H) := by
  rcases i with ⟨e, _⟩ | ⟨_, e1, rfl, rfl, rfl⟩ | ⟨e, _⟩
  · cases e
  · exact .inr (.inr ⟨rfl, e1, (t_some h0).1.trans he, rfl, (t_some h0).2.2.symm⟩)
  · cases e
theorem BhI.bad1 {o s h X S H : List Ac.Pt} (i : BhI o s h 1 X S H) (h0 : 0 < H.length) (he : ¬ Ac.trnE X H = 0) : bhE o s h = Ac.trnE X H := by
  rcases i with ⟨e, _⟩ | ⟨_, e1, rfl, rfl, rfl⟩ | ⟨e, _⟩
  · cases e
  · unfold bhE
    rw [if_pos e1, (t_some h0).1]
  · cases e
theorem BhI.last {o s h X S H : List Ac.Pt} (i : BhI o s h 2 X S H) : bhE o s h = 0 ∧ S = tY o s ∧ H = bhH o s h := by
  rcases i with ⟨e, _⟩ | ⟨e, _⟩ | ⟨_, e1, e2, rfl, rfl⟩
  · cases e
  · cases e
  · refine ⟨?_, rfl, rfl⟩
    unfold bhE
    rw [if_pos e1, e2]
end Kl
theorem szOw (a b : Option Addr) (n c m d : Nat) : (Tryd.prog.info? 114).map (·.size) = some ([.slice a n c, .slice b m d] : List Value).toArray.size := by
  have h : (Tryd.prog.info? 114).map (·.size) = some 2 := by kernel_rfl
  exact h
theorem ret_own2 {fn : Func} {p u : Tmp} {a b : Option Addr} {n cc m d : Nat} {c : Value} {w : World} {g : Nat} (h : fn.results = #[.cell p 114, .tmp u]) (tmps : Array Value) (hp : tmps.getD p undef = .pointer (some ⟨g, 0, none⟩)) (hu : tmps.getD u undef = c) (hB : Blk w g [.slice a n cc, .slice b m d] 114) : (results fn tmps).run Tryd.prog w = .ok (.tuple #[.agg #[.slice a n cc, .slice b m d], c]) w := by
  have hl := run_loadVar_row (P := Tryd.prog) w g 114 114 ([.slice a n cc, .slice b m d] : List Value).toArray (0, 0) _ hB Tryd.underlying114 rfl (szOw a b n cc m d)
  rw [results_cell_tmp h, hp, hu]
  simp only [asAddr, Sem.run_pure, Result.andThen_ok, hl]
/-- What client.behind answers. -/
def BehK (S H : List Ac.Pt) (E : Int) (e : Ending) (w' : World) : Prop := ∃ a n c us b m d vs, e = .returned (.tuple #[.agg #[.slice a n c, .slice b m d], .int .i64 E]) ∧ (E = 0 → Ops w' a n c us ∧ Ops w' b m d vs ∧ us.map PV.pt = S ∧ vs.map PV.pt = H)
/-- What is in memory while it goes. -/
structure BhW (w : World) (o s h : List Ac.Pt) (k : Nat) (a : Option Addr) (n c : Nat) (us : List PV) (b : Option Addr) (m d : Nat) (vs : List PV) (x : Option Addr) (xn xc : Nat) (xs : List PV) (wr : World) : Prop where
  p : Blk wr (w.heap.size) [.slice a n c, .slice b m d] 114
  q : Blk wr (w.heap.size + 1) [.slice none 0 0, .slice none 0 0] 114
  os : Ops wr a n c us
  oh : Ops wr b m d vs
  ox : Ops wr x xn xc xs
  i : Kl.BhI o s h k (xs.map PV.pt) (us.map PV.pt) (vs.map PV.pt)
  blw : Below w.heap.size w wr
theorem BhW.under {w : World} {o s h : List Ac.Pt} {k : Nat} {a : Option Addr} {n c : Nat} {us : List PV} {b : Option Addr} {m d : Nat} {vs : List PV} {x : Option Addr} {xn xc : Nat} {xs : List PV} {wr wr' : World} (hb : BhW w o s h k a n c us b m d vs x xn xc xs wr) (hw : Below wr.heap.size wr wr') : BhW w o s h k a n c us b m d vs x xn xc xs wr' :=
  ⟨(hw.block _ hb.p.lt).trans hb.p, (hw.block _ hb.q.lt).trans hb.q, hb.os.below hw, hb.oh.below hw, hb.ox.below hw, hb.i, hb.blw.trans (hw.mono hb.blw.size)⟩
theorem BhW.to0 {w : World} {o s h : List Ac.Pt} {a : Option Addr} {n c : Nat} {us : List PV} {b : Option Addr} {m d : Nat} {vs : List PV} {x : Option Addr} {xn xc : Nat} {xs : List PV} {wr : World} (hb : BhW w o s h 0 a n c us b m d vs x xn xc xs wr) {x' y' : Option Addr} {xn' xc' yn' yc' : Nat} {xs' ys' : List PV} (hx : Ops wr x' xn' xc' xs') (hy : Ops wr y' yn' yc' ys') (px : xs'.map PV.pt = Ac.trnX (xs.map PV.pt) (us.map PV.pt)) (py : ys'.map PV.pt = Ac.trnY (xs.map PV.pt) (us.map PV.pt)) (h0 : 0 < (us.map PV.pt).length) (he : Ac.trnE (xs.map PV.pt) (us.map PV.pt) = 0) :
    BhW w o s h 1 y' yn' yc' ys' b m d vs x' xn' xc' xs' (wr.setCell ⟨w.heap.size, 0, none⟩ (.slice y' yn' yc')) :=
  ⟨hb.p.set 0 _, (kept_g wr _ _ _).blk hb.q (by simp), hy.keptN hb.p rfl (kept_g ..), hb.oh.keptN hb.p rfl (kept_g ..), hx.keptN hb.p rfl (kept_g ..), by rw [px, py]; exact hb.i.some0 h0 he, hb.blw.setCell (Nat.le_refl _) _⟩
theorem BhW.to1 {w : World} {o s h : List Ac.Pt} {a : Option Addr} {n c : Nat} {us : List PV} {b : Option Addr} {m d : Nat} {vs : List PV} {x : Option Addr} {xn xc : Nat} {xs : List PV} {wr : World} (hb : BhW w o s h 1 a n c us b m d vs x xn xc xs wr) {x' y' : Option Addr} {xn' xc' yn' yc' : Nat} {xs' ys' : List PV} (hx : Ops wr x' xn' xc' xs') (hy : Ops wr y' yn' yc' ys') (px : xs'.map PV.pt = Ac.trnX (xs.map PV.pt) (vs.map PV.pt)) (py : ys'.map PV.pt = Ac.trnY (xs.map PV.pt) (vs.map PV.pt)) (h0 : 0 < (vs.map PV.pt).length) (he : Ac.trnE (xs.map PV.pt) (vs.map PV.pt) = 0) :
    BhW w o s h 2 a n c us y' yn' yc' ys' x' xn' xc' xs' (wr.setCell ⟨w.heap.size, 1, none⟩ (.slice y' yn' yc')) :=
  ⟨hb.p.set 1 _, (kept_g wr _ _ _).blk hb.q (by simp), hb.os.keptN hb.p rfl (kept_g ..), hy.keptN hb.p rfl (kept_g ..), hx.keptN hb.p rfl (kept_g ..), by rw [px, py]; exact hb.i.some1 h0 he, hb.blw.setCell (Nat.le_refl _) _⟩

set_option maxRecDepth 100000 in
set_option maxHeartbeats 3200000 in
theorem behK_any (oa : Option Addr) (on oc : Nat) (os : List PV) (sa ha : Option Addr) (sn sc hn hc : Nat) (ss hs : List PV) (w : World) (hO : Ops w oa on oc os) (hs0 : Ops w sa sn sc ss) (hh0 : Ops w ha hn hc hs) (hS : Sch w) :
    Calls Tryd.prog 111 #[.slice oa on oc, .agg #[.slice sa sn sc, .slice ha hn hc]] w fun e w' => BehK (Kl.tY (os.map PV.pt) (ss.map PV.pt)) (Kl.bhH (os.map PV.pt) (ss.map PV.pt) (hs.map PV.pt)) (Kl.bhE (os.map PV.pt) (ss.map PV.pt) (hs.map PV.pt)) e w' ∧ Below w.heap.size w w' := by
  have H1 : Hid (Below w.heap.size w (boxtw none none 0 0 0 0 (boxtw sa ha sn sc hn hc w))) := (boxtw_below ..).trans ((boxtw_below ..).mono (boxtw_below ..).size)
  have HB0 : Hid (BhW w (os.map PV.pt) (ss.map PV.pt) (hs.map PV.pt) 0 sa sn sc ss ha hn hc hs oa on oc os (boxtw none none 0 0 0 0 (boxtw sa ha sn sc hn hc w))) :=
    ⟨(boxtw_blk ..).alloc _, by have := boxtw_blk none none 0 0 0 0 (boxtw sa ha sn sc hn hc w); rw [boxtw_size] at this; exact this, hs0.below H1.out, hh0.below H1.out, hO.below H1.out, .inl ⟨rfl, rfl, rfl, rfl⟩, H1.out⟩
  have HSC : Hid (∀ w', Below w.heap.size w w' → Sch w') := fun w' hb => hS.below hb
  clear hO hs0 hh0 hS
  go_enter Tryd.func111, Tryd.ntmps111
  go_upto_region 1 with fail
  change Code.wp Tryd.prog _ _ _ (boxtw none none 0 0 0 0 (boxtw sa ha sn sc hn hc w))
  generalize (boxtw none none 0 0 0 0 (boxtw sa ha sn sc hn hc w)) = W at *
  go_wp2
  go_loopw [8, 0] (fun i v wr => ∃ k : Nat, k ≤ 2 ∧ i = .int .i64 k ∧ ∃ a n c us b m d vs x xn xc xs, v = .slice x xn xc ∧ BhW w (os.map PV.pt) (ss.map PV.pt) (hs.map PV.pt) k a n c us b m d vs x xn xc xs wr) (fun i _ _ => 2 - (intOf i).toNat)
  case atStart => exact ⟨0, by decide, rfl, sa, sn, sc, ss, ha, hn, hc, hs, oa, on, oc, os, rfl, HB0.out⟩
  case round =>
    obtain ⟨k, hk, rfl, a, n, c, us, b, m, d, vs, x, xn, xc, xs, rfl, hbw⟩ := hrel
    have HBW : Hid (BhW w (os.map PV.pt) (ss.map PV.pt) (hs.map PV.pt) k a n c us b m d vs x xn xc xs wr) := hbw
    have p0 : wr.cell? ⟨w.heap.size, 0, none⟩ = some (.slice a n c) := hbw.p.cell 0
    have p1 : wr.cell? ⟨w.heap.size, 1, none⟩ = some (.slice b m d) := hbw.p.cell 1
    clear hbw HB0
    obtain rfl | rfl | rfl : k = 0 ∨ k = 1 ∨ k = 2 := by omega
    · clear hk
      by_cases h0 : n = 0
      · have HL0 : Hid ((us.map PV.pt).length = 0) := by show _ = _; rw [List.length_map, HBW.out.os.len]; exact h0
        have hd0 : decide (0 < n) = false := by simp [h0]
        have CI : Hid (Calls Tryd.prog 67 #[.slice a n c] wr fun e w' => e = .returned (.bool false) ∧ w' = wr) := by have := isThere_any a n c wr; rw [hd0] at this; exact this
        clear h0 hd0
        go_wp2_with fail
        refine CI.out.mono ?_
        rintro e w1 ⟨rfl, hw⟩
        obtain rfl := hw.symm
        have HN : Hid (BhW w (os.map PV.pt) (ss.map PV.pt) (hs.map PV.pt) 1 a n c us b m d vs x xn xc xs wr) := ⟨HBW.out.p, HBW.out.q, HBW.out.os, HBW.out.oh, HBW.out.ox, HBW.out.i.none0 HL0.out, HBW.out.blw⟩
        go_wp2
        go_roundw
        case rel => exact ⟨1, by decide, rfl, a, n, c, us, b, m, d, vs, x, xn, xc, xs, rfl, HN.out⟩
        case measure => decide
      · have HL0 : Hid (0 < (us.map PV.pt).length) := by show 0 < _; rw [List.length_map, HBW.out.os.len]; omega
        have hd0 : decide (0 < n) = true := by simp; omega
        have CI : Hid (Calls Tryd.prog 67 #[.slice a n c] wr fun e w' => e = .returned (.bool true) ∧ w' = wr) := by have := isThere_any a n c wr; rw [hd0] at this; exact this
        have CA : Hid (Calls Tryd.prog 9 #[.slice x xn xc, .slice a n c] wr fun e w' => TurnP (Ac.trnX (xs.map PV.pt) (us.map PV.pt)) (Ac.trnY (xs.map PV.pt) (us.map PV.pt)) (Ac.trnE (xs.map PV.pt) (us.map PV.pt)) e w' ∧ Below wr.heap.size wr w') := turn_any _ _ _ _ _ _ _ _ wr HBW.out.ox HBW.out.os (HSC.out _ HBW.out.blw)
        clear h0 hd0
        obtain ⟨X, hX⟩ : ∃ X, Ac.trnX (xs.map PV.pt) (us.map PV.pt) = X := ⟨_, rfl⟩
        obtain ⟨Y, hY⟩ : ∃ Y, Ac.trnY (xs.map PV.pt) (us.map PV.pt) = Y := ⟨_, rfl⟩
        obtain ⟨E, hE⟩ : ∃ E, Ac.trnE (xs.map PV.pt) (us.map PV.pt) = E := ⟨_, rfl⟩
        have HX1 : Hid (Ac.trnX (xs.map PV.pt) (us.map PV.pt) = X) := hX
        have HY1 : Hid (Ac.trnY (xs.map PV.pt) (us.map PV.pt) = Y) := hY
        have HE1 : Hid (Ac.trnE (xs.map PV.pt) (us.map PV.pt) = E) := hE
        rw [hX, hY, hE] at CA
        clear hX hY hE
        go_wp2_with fail
        refine CI.out.mono ?_
        rintro e w1 ⟨rfl, hw⟩
        obtain rfl := hw.symm
        go_wp2_with fail
        refine CA.out.mono ?_
        rintro e w2 ⟨⟨x2, xn2, xc2, xu2, y2, yn2, yc2, yu2, rfl, hx2, hy2, px2, py2⟩, hb⟩
        have HB2 : Hid (BhW w (os.map PV.pt) (ss.map PV.pt) (hs.map PV.pt) 0 a n c us b m d vs x xn xc xs w2) := HBW.out.under hb
        have HX2 : Hid (Ops w2 x2 xn2 xc2 xu2) := hx2
        have HY2 : Hid (Ops w2 y2 yn2 yc2 yu2) := hy2
        have HPX : Hid (xu2.map PV.pt = X) := px2
        have HPY : Hid (yu2.map PV.pt = Y) := py2
        clear hx2 hy2 px2 py2 hb p0 p1
        have p0 : w2.cell? ⟨w.heap.size, 0, none⟩ = some (.slice a n c) := HB2.out.p.cell 0
        have p1 : w2.cell? ⟨w.heap.size, 1, none⟩ = some (.slice b m d) := HB2.out.p.cell 1
        have f0 := HB2.out.p.frozen 0
        have f1 := HB2.out.p.frozen 1
        by_cases hz : E = 0
        · have HN := HB2.out.to0 HX2.out HY2.out (HPX.out.trans HX1.out.symm) (HPY.out.trans HY1.out.symm) HL0.out (HE1.out.trans hz)
          have HNH : Hid _ := HN
          clear HN
          subst hz
          go_wp2
          go_roundw
          case rel => exact ⟨1, by decide, rfl, y2, yn2, yc2, yu2, b, m, d, vs, x2, xn2, xc2, xu2, rfl, HNH.out⟩
          case measure => decide
        · have hne : (E != 0) = true := by simp [hz]
          have HN : Hid (Kl.bhE (os.map PV.pt) (ss.map PV.pt) (hs.map PV.pt) = E) := by have := HBW.out.i.bad0 HL0.out (by rw [HE1.out]; exact hz); rw [HE1.out] at this; exact this
          have hq2 : Blk (w2.setCell ⟨w.heap.size, 0, none⟩ (.slice y2 yn2 yc2)) (w.heap.size + 1) [.slice none 0 0, .slice none 0 0] 114 := (kept_g w2 _ _ _).blk HB2.out.q (by simp)
          have HQ2 : Hid (Blk (w2.setCell ⟨w.heap.size, 0, none⟩ (.slice y2 yn2 yc2)) (w.heap.size + 1) [.slice none 0 0, .slice none 0 0] 114) := hq2
          have HBL : Hid (Below w.heap.size w (w2.setCell ⟨w.heap.size, 0, none⟩ (.slice y2 yn2 yc2))) := HB2.out.blw.setCell (Nat.le_refl _) _
          go_upto_region 7 with fail
          change Code.wp Tryd.prog _ _ _ (w2.setCell ⟨w.heap.size, 0, none⟩ (.slice y2 yn2 yc2))
          generalize w2.setCell ⟨w.heap.size, 0, none⟩ (.slice y2 yn2 yc2) = W2 at *
          clear p0 p1 f0 f1
          have q0 : W2.cell? ⟨w.heap.size + 1, 0, none⟩ = some (.slice none 0 0) := HQ2.out.cell 0
          have q1 : W2.cell? ⟨w.heap.size + 1, 1, none⟩ = some (.slice none 0 0) := HQ2.out.cell 1
          have g0 := HQ2.out.frozen 0
          have g1 := HQ2.out.frozen 1
          clear hq2
          go_wp2
          refine bodyPost_ret (ret_own2 rfl _ rfl rfl ((HQ2.out.set 0 (.slice none 0 0)).set 1 (.slice none 0 0))) rfl ⟨⟨none, 0, 0, [], none, 0, 0, [], by rw [HN.out]; rfl, fun h0 => absurd (HN.out.symm.trans h0) hz⟩, (HBL.out.setCell (by show w.heap.size ≤ w.heap.size + 1; omega) _).setCell (by show w.heap.size ≤ w.heap.size + 1; omega) _⟩
    · clear hk
      by_cases h0 : m = 0
      · have HL0 : Hid ((vs.map PV.pt).length = 0) := by show _ = _; rw [List.length_map, HBW.out.oh.len]; exact h0
        have hd0 : decide (0 < m) = false := by simp [h0]
        have CI : Hid (Calls Tryd.prog 67 #[.slice b m d] wr fun e w' => e = .returned (.bool false) ∧ w' = wr) := by have := isThere_any b m d wr; rw [hd0] at this; exact this
        clear h0 hd0
        go_wp2_with fail
        refine CI.out.mono ?_
        rintro e w1 ⟨rfl, hw⟩
        obtain rfl := hw.symm
        have HN : Hid (BhW w (os.map PV.pt) (ss.map PV.pt) (hs.map PV.pt) 2 a n c us b m d vs x xn xc xs wr) := ⟨HBW.out.p, HBW.out.q, HBW.out.os, HBW.out.oh, HBW.out.ox, HBW.out.i.none1 HL0.out, HBW.out.blw⟩
        go_wp2
        go_roundw
        case rel => exact ⟨2, by decide, rfl, a, n, c, us, b, m, d, vs, x, xn, xc, xs, rfl, HN.out⟩
        case measure => decide
      · have HL0 : Hid (0 < (vs.map PV.pt).length) := by show 0 < _; rw [List.length_map, HBW.out.oh.len]; omega
        have hd0 : decide (0 < m) = true := by simp; omega
        have CI : Hid (Calls Tryd.prog 67 #[.slice b m d] wr fun e w' => e = .returned (.bool true) ∧ w' = wr) := by have := isThere_any b m d wr; rw [hd0] at this; exact this
        have CA : Hid (Calls Tryd.prog 9 #[.slice x xn xc, .slice b m d] wr fun e w' => TurnP (Ac.trnX (xs.map PV.pt) (vs.map PV.pt)) (Ac.trnY (xs.map PV.pt) (vs.map PV.pt)) (Ac.trnE (xs.map PV.pt) (vs.map PV.pt)) e w' ∧ Below wr.heap.size wr w') := turn_any _ _ _ _ _ _ _ _ wr HBW.out.ox HBW.out.oh (HSC.out _ HBW.out.blw)
        clear h0 hd0
        obtain ⟨X, hX⟩ : ∃ X, Ac.trnX (xs.map PV.pt) (vs.map PV.pt) = X := ⟨_, rfl⟩
        obtain ⟨Y, hY⟩ : ∃ Y, Ac.trnY (xs.map PV.pt) (vs.map PV.pt) = Y := ⟨_, rfl⟩
        obtain ⟨E, hE⟩ : ∃ E, Ac.trnE (xs.map PV.pt) (vs.map PV.pt) = E := ⟨_, rfl⟩
        have HX1 : Hid (Ac.trnX (xs.map PV.pt) (vs.map PV.pt) = X) := hX
        have HY1 : Hid (Ac.trnY (xs.map PV.pt) (vs.map PV.pt) = Y) := hY
        have HE1 : Hid (Ac.trnE (xs.map PV.pt) (vs.map PV.pt) = E) := hE
        rw [hX, hY, hE] at CA
        clear hX hY hE
        go_wp2_with fail
        refine CI.out.mono ?_
        rintro e w1 ⟨rfl, hw⟩
        obtain rfl := hw.symm
        go_wp2_with fail
        refine CA.out.mono ?_
        rintro e w2 ⟨⟨x2, xn2, xc2, xu2, y2, yn2, yc2, yu2, rfl, hx2, hy2, px2, py2⟩, hb⟩
        have HB2 : Hid (BhW w (os.map PV.pt) (ss.map PV.pt) (hs.map PV.pt) 1 a n c us b m d vs x xn xc xs w2) := HBW.out.under hb
        have HX2 : Hid (Ops w2 x2 xn2 xc2 xu2) := hx2
        have HY2 : Hid (Ops w2 y2 yn2 yc2 yu2) := hy2
        have HPX : Hid (xu2.map PV.pt = X) := px2
        have HPY : Hid (yu2.map PV.pt = Y) := py2
        clear hx2 hy2 px2 py2 hb p0 p1
        have p0 : w2.cell? ⟨w.heap.size, 0, none⟩ = some (.slice a n c) := HB2.out.p.cell 0
        have p1 : w2.cell? ⟨w.heap.size, 1, none⟩ = some (.slice b m d) := HB2.out.p.cell 1
        have f0 := HB2.out.p.frozen 0
        have f1 := HB2.out.p.frozen 1
        by_cases hz : E = 0
        · have HN := HB2.out.to1 HX2.out HY2.out (HPX.out.trans HX1.out.symm) (HPY.out.trans HY1.out.symm) HL0.out (HE1.out.trans hz)
          have HNH : Hid _ := HN
          clear HN
          subst hz
          go_wp2
          go_roundw
          case rel => exact ⟨2, by decide, rfl, a, n, c, us, y2, yn2, yc2, yu2, x2, xn2, xc2, xu2, rfl, HNH.out⟩
          case measure => decide
        · have hne : (E != 0) = true := by simp [hz]
          have HN : Hid (Kl.bhE (os.map PV.pt) (ss.map PV.pt) (hs.map PV.pt) = E) := by have := HBW.out.i.bad1 HL0.out (by rw [HE1.out]; exact hz); rw [HE1.out] at this; exact this
          have hq2 : Blk (w2.setCell ⟨w.heap.size, 1, none⟩ (.slice y2 yn2 yc2)) (w.heap.size + 1) [.slice none 0 0, .slice none 0 0] 114 := (kept_g w2 _ _ _).blk HB2.out.q (by simp)
          have HQ2 : Hid (Blk (w2.setCell ⟨w.heap.size, 1, none⟩ (.slice y2 yn2 yc2)) (w.heap.size + 1) [.slice none 0 0, .slice none 0 0] 114) := hq2
          have HBL : Hid (Below w.heap.size w (w2.setCell ⟨w.heap.size, 1, none⟩ (.slice y2 yn2 yc2))) := HB2.out.blw.setCell (Nat.le_refl _) _
          go_upto_region 7 with fail
          change Code.wp Tryd.prog _ _ _ (w2.setCell ⟨w.heap.size, 1, none⟩ (.slice y2 yn2 yc2))
          generalize w2.setCell ⟨w.heap.size, 1, none⟩ (.slice y2 yn2 yc2) = W2 at *
          clear p0 p1 f0 f1
          have q0 : W2.cell? ⟨w.heap.size + 1, 0, none⟩ = some (.slice none 0 0) := HQ2.out.cell 0
          have q1 : W2.cell? ⟨w.heap.size + 1, 1, none⟩ = some (.slice none 0 0) := HQ2.out.cell 1
          have g0 := HQ2.out.frozen 0
          have g1 := HQ2.out.frozen 1
          clear hq2
          go_wp2
          refine bodyPost_ret (ret_own2 rfl _ rfl rfl ((HQ2.out.set 0 (.slice none 0 0)).set 1 (.slice none 0 0))) rfl ⟨⟨none, 0, 0, [], none, 0, 0, [], by rw [HN.out]; rfl, fun h0 => absurd (HN.out.symm.trans h0) hz⟩, (HBL.out.setCell (by show w.heap.size ≤ w.heap.size + 1; omega) _).setCell (by show w.heap.size ≤ w.heap.size + 1; omega) _⟩
    · clear hk
      obtain ⟨e0, e1, e2⟩ := HBW.out.i.last
      have HE0 : Hid (Kl.bhE (os.map PV.pt) (ss.map PV.pt) (hs.map PV.pt) = 0) := e0
      have HE1 : Hid (us.map PV.pt = Kl.tY (os.map PV.pt) (ss.map PV.pt)) := e1
      have HE2 : Hid (vs.map PV.pt = Kl.bhH (os.map PV.pt) (ss.map PV.pt) (hs.map PV.pt)) := e2
      clear e0 e1 e2
      have q0 : wr.cell? ⟨w.heap.size + 1, 0, none⟩ = some (.slice none 0 0) := HBW.out.q.cell 0
      have q1 : wr.cell? ⟨w.heap.size + 1, 1, none⟩ = some (.slice none 0 0) := HBW.out.q.cell 1
      have g0 := HBW.out.q.frozen 0
      have g1 := HBW.out.q.frozen 1
      have hk2 : Kept wr ((wr.setCell ⟨w.heap.size + 1, 0, none⟩ (.slice a n c)).setCell ⟨w.heap.size + 1, 1, none⟩ (.slice b m d)) [w.heap.size + 1] := (kept_g ..).trans (kept_g ..)
      have HO1 : Hid (Ops ((wr.setCell ⟨w.heap.size + 1, 0, none⟩ (.slice a n c)).setCell ⟨w.heap.size + 1, 1, none⟩ (.slice b m d)) a n c us) := HBW.out.os.keptN HBW.out.q rfl hk2
      have HO2 : Hid (Ops ((wr.setCell ⟨w.heap.size + 1, 0, none⟩ (.slice a n c)).setCell ⟨w.heap.size + 1, 1, none⟩ (.slice b m d)) b m d vs) := HBW.out.oh.keptN HBW.out.q rfl hk2
      clear hk2
      go_wp2
      exact bodyPost_ret (ret_own2 rfl _ rfl rfl ((HBW.out.q.set 0 (.slice a n c)).set 1 (.slice b m d))) rfl ⟨⟨a, n, c, us, b, m, d, vs, by rw [HE0.out]; rfl, fun _ => ⟨HO1.out, HO2.out, HE1.out, HE2.out⟩⟩, (HBW.out.blw.setCell (by show w.heap.size ≤ w.heap.size + 1; omega) _).setCell (by show w.heap.size ≤ w.heap.size + 1; omega) _⟩
end Go.Proofs.YtbhcklkbckacpaaDoor
