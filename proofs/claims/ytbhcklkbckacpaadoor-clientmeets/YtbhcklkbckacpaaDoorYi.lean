/-
  Package client: what a client hears.
-/
import Derived.Test.YtbhcklkbckacpaaDoorYh
namespace Go.Proofs.YtbhcklkbckacpaaDoor
open Go.RowKit
/-- A message in memory. -/
structure MV where
  mr : Int
  e : EV
def mgC (m : MV) : List Value := [.int .i64 m.mr, .int .i64 m.e.who, .int .i64 m.e.seq, .slice m.e.ao m.e.n m.e.cap]
def mgA (m : MV) : Value := .agg #[.int .i64 m.mr, .int .i64 m.e.who, .int .i64 m.e.seq, .slice m.e.ao m.e.n m.e.cap]
def boxmg (m : MV) (w : World) : World := w.alloc (.cells #[.int .i64 m.mr, .int .i64 m.e.who, .int .i64 m.e.seq, .slice m.e.ao m.e.n m.e.cap] 53)
theorem boxmg_below (m : MV) (w : World) : Below w.heap.size w (boxmg m w) := (Below.refl _ _).alloc (Nat.le_refl _) _
theorem boxmg_blk (m : MV) (w : World) : Blk (boxmg m w) w.heap.size (mgC m) 53 := Blk.new w _ _
theorem boxmg_size (m : MV) (w : World) : (boxmg m w).heap.size = w.heap.size + 1 := World.size_alloc ..
theorem own_of (c : CV) (who : Int) (x : EV) (hn : (c.sent.map PV.pt).length = c.sn) : Kl.isOwn c.cl who x.en = ((x.who == who) && ((x.seq == c.seq) && decide (0 < c.sn))) := by
  show ((x.who == who) && ((x.seq == c.seq) && decide (0 < (c.sent.map PV.pt).length))) = _
  rw [hn]
/-- What is in memory while a client hears. -/
structure HrW (w : World) (g : Nat) (c : CV) (m : MV) (wx : World) : Prop where
  k : KAt wx g c
  b : Blk wx (w.heap.size) (mgC m) 53
  o : Ops wx m.e.ao m.e.n m.e.cap m.e.vs
  s : Sch wx
  kp : Kept w wx [g]
theorem HrW.under {w : World} {g : Nat} {c : CV} {m : MV} {wx wy : World} (h : HrW w g c m wx) (hb : Below wx.heap.size wx wy) : HrW w g c m wy :=
  ⟨h.k.below hb, (hb.block _ h.b.lt).trans h.b, h.o.below hb, h.s.below hb, h.kp.trans (Kept.of_below hb)⟩

set_option maxRecDepth 100000 in
set_option maxHeartbeats 6400000 in
theorem hear_any (g : Nat) (c : CV) (who : Int) (m : MV) (w : World) (hK : KAt w g c) (hO : Ops w m.e.ao m.e.n m.e.cap m.e.vs) (hS : Sch w) (hR : Kl.Rc c.cl) :
    Calls Tryd.prog 69 #[.pointer (some ⟨g, 0, none⟩), .int .i64 who, .agg #[.int .i64 m.mr, .int .i64 m.e.who, .int .i64 m.e.seq, .slice m.e.ao m.e.n m.e.cap]] w fun e w' => SentP g (Kl.heE c.cl who m.mr m.e.en) (Kl.heS c.cl who m.mr m.e.en) (Kl.heC c.cl who m.mr m.e.en) e w' ∧ Kept w w' [g] := by
  have hsl : (c.sent.map PV.pt).length = c.sn := len_pt hK.cli.sent
  have hml : m.e.en.o.length = m.e.n := len_pt hO
  have HB0 : Hid (HrW w g c m (boxmg m w)) := ⟨hK.below (boxmg_below ..), boxmg_blk .., hO.below (boxmg_below ..), hS.below (boxmg_below ..), Kept.of_below (boxmg_below ..)⟩
  have hbn : c.bn ≤ 80 := by have h1 := Dc.check_few hR.ck; have h2 : c.base.length = c.bn := hK.cli.base.len; have h3 : c.cl.base.length = c.base.length := rfl; omega
  have HBN : Hid (c.bn ≤ 80) := hbn
  have HR : Hid (Kl.Rc c.cl) := hR
  have HOW : Hid (Kl.isOwn c.cl who m.e.en = ((m.e.who == who) && ((m.e.seq == c.seq) && decide (0 < c.sn)))) := own_of c who m.e hsl
  have hrl := hR.lo
  have hrh := hR.hi
  have hlo2 : (0 : Int) ≤ c.rev := hrl
  have hhi2 : c.rev ≤ 60 := hrh
  obtain ⟨E, hE⟩ : ∃ E, Kl.heE c.cl who m.mr m.e.en = E := ⟨_, rfl⟩
  obtain ⟨S, hS2⟩ : ∃ S, Kl.heS c.cl who m.mr m.e.en = S := ⟨_, rfl⟩
  obtain ⟨C, hC2⟩ : ∃ C, Kl.heC c.cl who m.mr m.e.en = C := ⟨_, rfl⟩
  rw [hE, hS2, hC2]
  unfold Kl.heE at hE
  unfold Kl.heS at hS2
  unfold Kl.heC at hC2
  obtain ⟨W, hW⟩ : ∃ W, Kl.isOwn c.cl who m.e.en = W := ⟨_, rfl⟩
  rw [hW] at hE hS2 hC2
  rw [hml] at hE hS2 hC2
  have HE : Hid ((if m.e.n = 0 then (0 : Int) else if Ac.chk (m.e.vs.map PV.pt) = 0 then (if m.mr ≠ c.rev + 1 ∨ c.rev = 60 then 0 else if W = true then Ac.fitE c.base (m.e.vs.map PV.pt) else 0) else Ac.chk (m.e.vs.map PV.pt)) = E) := hE
  have HS : Hid ((if m.e.n = 0 then false else if m.mr ≠ c.rev + 1 ∨ c.rev = 60 then false else if W = true then Kl.canB c.cl (m.e.vs.map PV.pt) else false) = S) := hS2
  have HC : Hid ((if m.e.n = 0 then (if W = true then Kl.gv c.cl else c.cl) else if m.mr ≠ c.rev + 1 ∨ c.rev = 60 then c.cl else if W = true then Kl.ownC c.cl (m.e.vs.map PV.pt) else Kl.othC c.cl (m.e.vs.map PV.pt)) = C) := hC2
  have HWW : Hid (W = ((m.e.who == who) && ((m.e.seq == c.seq) && decide (0 < c.sn)))) := hW.symm.trans HOW.out
  clear hK hO hS hR hE hS2 hC2 hW HOW hml hsl hbn hrl hrh
  go_enter Tryd.func69, Tryd.ntmps69
  go_upto_region 1 with fail
  change Code.wp Tryd.prog _ _ _ (boxmg m w)
  generalize boxmg m w = W0 at *
  have q0 : W0.cell? ⟨w.heap.size, 0, none⟩ = some (.int .i64 m.mr) := HB0.out.b.cell 0
  have q1 : W0.cell? ⟨w.heap.size, 1, none⟩ = some (.int .i64 m.e.who) := HB0.out.b.cell 1
  have q2 : W0.cell? ⟨w.heap.size, 2, none⟩ = some (.int .i64 m.e.seq) := HB0.out.b.cell 2
  have q3 : W0.cell? ⟨w.heap.size, 3, none⟩ = some (.slice m.e.ao m.e.n m.e.cap) := HB0.out.b.cell 3
  have p3 : W0.cell? ⟨g, 3, none⟩ = some (.int .i64 c.seq) := HB0.out.k.blk.cell 3
  have p4 : W0.cell? ⟨g, 4, none⟩ = some (.slice c.sa c.sn c.sc) := HB0.out.k.blk.cell 4
  obtain ⟨b1, hb1⟩ : ∃ b, (m.e.who == who) = b := ⟨_, rfl⟩
  obtain ⟨b2, hb2⟩ : ∃ b, (m.e.seq == c.seq) = b := ⟨_, rfl⟩
  obtain ⟨b3, hb3⟩ : ∃ b, decide (0 < c.sn) = b := ⟨_, rfl⟩
  have CI : Hid (∀ w', Calls Tryd.prog 67 #[.slice c.sa c.sn c.sc] w' fun e w'' => e = .returned (.bool b3) ∧ w'' = w') := fun w' => by have := isThere_any c.sa c.sn c.sc w'; rw [hb3] at this; exact this
  rw [hb1, hb2, hb3] at HWW
  clear hb3
  go_cut [8] from 10 to 31 (fun v wx => v = .bool W ∧ HrW w g c m wx)
  case first =>
    cases b1
    · obtain rfl : W = false := HWW.out
      go_quiet (fail)
      all_goals
        first | go_meet | (go_wp2_with fail; go_meet)
        case rel => exact ⟨rfl, by first | exact HB0.out.under ((Below.refl _ _).drew) | exact HB0.out.under (drewN_blw _ _)⟩
    · cases b2
      · obtain rfl : W = false := HWW.out
        go_quiet (fail)
        all_goals
          first | go_meet | (go_wp2_with fail; go_meet)
          case rel => exact ⟨rfl, by first | exact HB0.out.under ((Below.refl _ _).drew) | exact HB0.out.under (drewN_blw _ _)⟩
      · obtain rfl : W = b3 := HWW.out
        go_region_with (go_at_call 67; refine (CI.out _).mono ?_; rintro e w9 ⟨rfl, rfl⟩)
        all_goals
          first | go_meet | (go_wp2_with fail; go_meet)
          case rel => exact ⟨rfl, HB0.out.under ((Below.refl _ _).drew)⟩
  case rest =>
    obtain ⟨rfl, hh⟩ := hcut
    generalize wc = W1 at *
    have HB1 : Hid (HrW w g c m W1) := hh
    clear hh HB0 CI HWW hb1 hb2 q0 q1 q2 q3 p3 p4
    have q0 : W1.cell? ⟨w.heap.size, 0, none⟩ = some (.int .i64 m.mr) := HB1.out.b.cell 0
    have q1 : W1.cell? ⟨w.heap.size, 1, none⟩ = some (.int .i64 m.e.who) := HB1.out.b.cell 1
    have q2 : W1.cell? ⟨w.heap.size, 2, none⟩ = some (.int .i64 m.e.seq) := HB1.out.b.cell 2
    have q3 : W1.cell? ⟨w.heap.size, 3, none⟩ = some (.slice m.e.ao m.e.n m.e.cap) := HB1.out.b.cell 3
    by_cases h0 : m.e.n = 0
    · obtain rfl : E = 0 := by rw [← HE.out, if_pos h0]
      obtain rfl : S = false := by rw [← HS.out, if_pos h0]
      have HCF : Hid ((if W = true then Kl.gv c.cl else c.cl) = C) := by have := HC.out; rw [if_pos h0] at this; exact this
      have CM : Hid (Calls Tryd.prog 67 #[.slice m.e.ao m.e.n m.e.cap] W1 fun e w'' => e = .returned (.bool false) ∧ w'' = W1) := by have := isThere_any m.e.ao m.e.n m.e.cap W1; rw [show decide (0 < m.e.n) = false by simp [h0]] at this; exact this
      have CG : Hid (Calls Tryd.prog 93 #[.pointer (some ⟨g, 0, none⟩)] W1 fun e w'' => e = .returned (.tuple #[]) ∧ (∃ c', KAt w'' g c' ∧ c'.cl = Kl.gv c.cl ∧ c'.bn = c.bn) ∧ Kept W1 w'' [g]) := giveUp_any g c W1 HB1.out.k HBN.out
      clear HE HS HC h0
      go_wp2_with fail
      refine CM.out.mono ?_
      rintro e w3 ⟨rfl, hw⟩
      obtain rfl := hw.symm
      try clear hw
      cases W
      · have HCF2 : Hid (c.cl = C) := HCF.out
        go_wp2
        exact bodyPost_ret (v := .tuple #[.bool false, .int .i64 0]) (by simp [results, Tryd.results69, go_sem]) rfl ⟨⟨c, false, rfl, HB1.out.k, fun _ => ⟨rfl, HCF2.out⟩⟩, HB1.out.kp⟩
      · have HCF2 : Hid (Kl.gv c.cl = C) := HCF.out
        go_wp2_with fail
        refine CG.out.mono ?_
        rintro e w4 ⟨rfl, ⟨c4, hk4, hc4, -⟩, hkp⟩
        have HK4 : Hid (KAt w4 g c4) := hk4
        have HC4 : Hid (c4.cl = C) := hc4.trans HCF2.out
        have HKP4 : Hid (Kept w w4 [g]) := HB1.out.kp.trans hkp
        clear hk4 hc4 hkp
        go_wp2
        exact bodyPost_ret (v := .tuple #[.bool false, .int .i64 0]) (by simp [results, Tryd.results69, go_sem]) rfl ⟨⟨c4, false, rfl, HK4.out, fun _ => ⟨rfl, HC4.out⟩⟩, HKP4.out⟩
    · have HE1 : Hid ((if Ac.chk (m.e.vs.map PV.pt) = 0 then (if m.mr ≠ c.rev + 1 ∨ c.rev = 60 then 0 else if W = true then Ac.fitE c.base (m.e.vs.map PV.pt) else 0) else Ac.chk (m.e.vs.map PV.pt)) = E) := by have := HE.out; rw [if_neg h0] at this; exact this
      have HS1 : Hid ((if m.mr ≠ c.rev + 1 ∨ c.rev = 60 then false else if W = true then Kl.canB c.cl (m.e.vs.map PV.pt) else false) = S) := by have := HS.out; rw [if_neg h0] at this; exact this
      have HC1 : Hid ((if m.mr ≠ c.rev + 1 ∨ c.rev = 60 then c.cl else if W = true then Kl.ownC c.cl (m.e.vs.map PV.pt) else Kl.othC c.cl (m.e.vs.map PV.pt)) = C) := by have := HC.out; rw [if_neg h0] at this; exact this
      have CM : Hid (Calls Tryd.prog 67 #[.slice m.e.ao m.e.n m.e.cap] W1 fun e w'' => e = .returned (.bool true) ∧ w'' = W1) := by have := isThere_any m.e.ao m.e.n m.e.cap W1; rw [show decide (0 < m.e.n) = true by simp; omega] at this; exact this
      have CC : Hid (Calls Tryd.prog 35 #[.slice m.e.ao m.e.n m.e.cap] W1 fun e w'' => e = .returned (.int .i64 (Ac.chk (m.e.vs.map PV.pt))) ∧ Below W1.heap.size W1 w'') := chk_any _ _ _ _ _ HB1.out.o HB1.out.s
      clear HE HS HC h0
      obtain ⟨x, hx⟩ : ∃ x, Ac.chk (m.e.vs.map PV.pt) = x := ⟨_, rfl⟩
      rw [hx] at CC HE1
      go_wp2_with fail
      refine CM.out.mono ?_
      rintro e w3 ⟨rfl, hw⟩
      obtain rfl := hw.symm
      try clear hw
      go_wp2_with fail
      refine CC.out.mono ?_
      rintro e W2 ⟨rfl, hb⟩
      have HB2 : Hid (HrW w g c m W2) := HB1.out.under hb
      clear hb CC CM hx q0 q1 q2 q3 HB1
      have HB1 : Hid (HrW w g c m W2) := HB2.out
      clear HB2
      by_cases hz : x = 0
      · have HE2 : Hid ((if m.mr ≠ c.rev + 1 ∨ c.rev = 60 then 0 else if W = true then Ac.fitE c.base (m.e.vs.map PV.pt) else 0) = E) := by have := HE1.out; rw [if_pos hz] at this; exact this
        clear HE1
        subst hz
        have q0 : W2.cell? ⟨w.heap.size, 0, none⟩ = some (.int .i64 m.mr) := HB1.out.b.cell 0
        have q1 : W2.cell? ⟨w.heap.size, 1, none⟩ = some (.int .i64 m.e.who) := HB1.out.b.cell 1
        have q2 : W2.cell? ⟨w.heap.size, 2, none⟩ = some (.int .i64 m.e.seq) := HB1.out.b.cell 2
        have q3 : W2.cell? ⟨w.heap.size, 3, none⟩ = some (.slice m.e.ao m.e.n m.e.cap) := HB1.out.b.cell 3
        have p0 : W2.cell? ⟨g, 0, none⟩ = some (.int .i64 c.rev) := HB1.out.k.blk.cell 0
        have hwr : wrap64 (c.rev + 1) = c.rev + 1 := by unfold wrap64; omega
        have hwr2 : IntKind.i64.wrap (c.rev + 1) = c.rev + 1 := IntWalk.i64_in _ ⟨by omega, by omega⟩
        obtain ⟨T, hT⟩ : ∃ T, ((m.mr != c.rev + 1) || (c.rev == 60)) = T := ⟨_, rfl⟩
        have HT : Hid (((m.mr != c.rev + 1) || (c.rev == 60)) = T) := hT
        have HTI : Hid ((m.mr ≠ c.rev + 1 ∨ c.rev = 60) ↔ T = true) := by
          show _ ↔ _
          rw [← hT]
          simp
        clear hT
        go_upto_region 9 with fail
        go_cut [61] from 47 to 61 (fun v wx => v = .bool T ∧ HrW w g c m wx)
        case first =>
          cases h1 : (m.mr != c.rev + 1)
          · obtain rfl : T = (c.rev == 60) := by rw [← HT.out, h1]; rfl
            first
            | go_quiet (fail)
            | go_region
            all_goals
              first | go_meet | (go_wp2_with fail; go_meet)
              case rel => exact ⟨rfl, by first | exact HB1.out.under ((Below.refl _ _).drew) | exact HB1.out.under (drewN_blw _ _)⟩
          · obtain rfl : T = true := by rw [← HT.out, h1]; rfl
            first
            | go_quiet (fail)
            | go_region
            all_goals
              first | go_meet | (go_wp2_with fail; go_meet)
              case rel => exact ⟨rfl, by first | exact HB1.out.under ((Below.refl _ _).drew) | exact HB1.out.under (drewN_blw _ _)⟩
        case rest =>
          obtain ⟨rfl, hh⟩ := hcut
          generalize wc = W3 at *
          have HB3 : Hid (HrW w g c m W3) := hh
          clear hh HB1 HT q0 q1 q2 q3 p0 hwr hwr2
          cases T
          · have hno : ¬ (m.mr ≠ c.rev + 1 ∨ c.rev = 60) := fun h => Bool.false_ne_true (HTI.out.1 h)
            have HE3 : Hid ((if W = true then Ac.fitE c.base (m.e.vs.map PV.pt) else 0) = E) := by have := HE2.out; rw [if_neg hno] at this; exact this
            have HS3 : Hid ((if W = true then Kl.canB c.cl (m.e.vs.map PV.pt) else false) = S) := by have := HS1.out; rw [if_neg hno] at this; exact this
            have HC3 : Hid ((if W = true then Kl.ownC c.cl (m.e.vs.map PV.pt) else Kl.othC c.cl (m.e.vs.map PV.pt)) = C) := by have := HC1.out; rw [if_neg hno] at this; exact this
            clear hno HE2 HS1 HC1 HTI
            have q0 : W3.cell? ⟨w.heap.size, 0, none⟩ = some (.int .i64 m.mr) := HB3.out.b.cell 0
            have q1 : W3.cell? ⟨w.heap.size, 1, none⟩ = some (.int .i64 m.e.who) := HB3.out.b.cell 1
            have q2 : W3.cell? ⟨w.heap.size, 2, none⟩ = some (.int .i64 m.e.seq) := HB3.out.b.cell 2
            have q3 : W3.cell? ⟨w.heap.size, 3, none⟩ = some (.slice m.e.ao m.e.n m.e.cap) := HB3.out.b.cell 3
            cases W
            · obtain rfl : E = 0 := HE3.out.symm
              obtain rfl : S = false := HS3.out.symm
              have CO : Hid (Calls Tryd.prog 95 #[.pointer (some ⟨g, 0, none⟩), .slice m.e.ao m.e.n m.e.cap] W3 fun e w' => e = .returned (.tuple #[]) ∧ (∃ c', KAt w' g c' ∧ c'.cl = C) ∧ Kept W3 w' [g]) := by have := hearOther_any g c m.e.ao m.e.n m.e.cap m.e.vs W3 HB3.out.k HB3.out.o HB3.out.s HR.out; rw [show Kl.othC c.cl (m.e.vs.map PV.pt) = C from HC3.out] at this; exact this
              go_wp2_with fail
              refine CO.out.mono ?_
              rintro e w4 ⟨rfl, ⟨c4, hk4, hc4⟩, hkp⟩
              have HK4 : Hid (KAt w4 g c4) := hk4
              have HC4 : Hid (c4.cl = C) := hc4
              have HKP4 : Hid (Kept w w4 [g]) := HB3.out.kp.trans hkp
              clear hk4 hc4 hkp CO
              go_wp2
              exact bodyPost_ret (v := .tuple #[.bool false, .int .i64 0]) (by simp [results, Tryd.results69, go_sem]) rfl ⟨⟨c4, false, rfl, HK4.out, fun _ => ⟨rfl, HC4.out⟩⟩, HKP4.out⟩
            · have CO : Hid (Calls Tryd.prog 94 #[.pointer (some ⟨g, 0, none⟩), .slice m.e.ao m.e.n m.e.cap] W3 fun e w' => SentP g E S C e w' ∧ Kept W3 w' [g]) := by have := hearOwn_any g c m.e.ao m.e.n m.e.cap m.e.vs W3 HB3.out.k HB3.out.o HB3.out.s HR.out; rw [show Ac.fitE c.base (m.e.vs.map PV.pt) = E from HE3.out, show Kl.canB c.cl (m.e.vs.map PV.pt) = S from HS3.out, show Kl.ownC c.cl (m.e.vs.map PV.pt) = C from HC3.out] at this; exact this
              go_wp2_with fail
              refine CO.out.mono ?_
              rintro e w4 ⟨⟨c4, s4, rfl, hk4, hc4⟩, hkp⟩
              have HK4 : Hid (KAt w4 g c4) := hk4
              have HC4 : Hid (E = 0 → s4 = S ∧ c4.cl = C) := hc4
              have HKP4 : Hid (Kept w w4 [g]) := HB3.out.kp.trans hkp
              clear hk4 hc4 hkp CO
              go_wp2
              exact bodyPost_ret (v := .tuple #[.bool s4, .int .i64 E]) (by simp [results, Tryd.results69, go_sem]) rfl ⟨⟨c4, s4, rfl, HK4.out, HC4.out⟩, HKP4.out⟩
          · have hyes : (m.mr ≠ c.rev + 1 ∨ c.rev = 60) := HTI.out.2 rfl
            obtain rfl : E = 0 := by rw [← HE2.out, if_pos hyes]
            obtain rfl : S = false := by rw [← HS1.out, if_pos hyes]
            have HC3 : Hid (c.cl = C) := by have := HC1.out; rw [if_pos hyes] at this; exact this
            clear hyes HE2 HS1 HC1 HTI
            go_wp2
            exact bodyPost_ret (v := .tuple #[.bool false, .int .i64 0]) (by simp [results, Tryd.results69, go_sem]) rfl ⟨⟨c, false, rfl, HB3.out.k, fun _ => ⟨rfl, HC3.out⟩⟩, HB3.out.kp⟩
      · obtain rfl : E = x := by have := HE1.out; rw [if_neg hz] at this; exact this.symm
        have hne : (E != 0) = true := by simp [hz]
        clear HE1
        go_wp2
        exact bodyPost_ret (v := .tuple #[.bool false, .int .i64 E]) (by simp [results, Tryd.results69, go_sem]) rfl ⟨⟨c, false, rfl, HB1.out.k, fun h => absurd h hz⟩, HB1.out.kp⟩

set_option maxRecDepth 100000 in
set_option maxHeartbeats 3200000 in
theorem Hear_any (c : CV) (who : Int) (m : MV) (w : World) (hC : Cli w c) (hO : Ops w m.e.ao m.e.n m.e.cap m.e.vs) (hS : Sch w) :
    Calls Tryd.prog 28 #[.agg #[.int .i64 c.rev, .slice c.ba c.bn c.bc, .slice c.na c.nn c.nc, .int .i64 c.seq, .slice c.sa c.sn c.sc, .slice c.ha c.hn c.hc, .bool c.jo], .int .i64 who, .agg #[.int .i64 m.mr, .int .i64 m.e.who, .int .i64 m.e.seq, .slice m.e.ao m.e.n m.e.cap]] w fun e w' => Ans (Kl.HearE c.cl who m.mr m.e.en) (Kl.HearS c.cl who m.mr m.e.en) (Kl.HearC c.cl who m.mr m.e.en) e w' ∧ Below w.heap.size w w' := by
  have hA : Below w.heap.size w (boxmg m (boxk c w)) := (boxk_below c w).trans ((boxmg_below m _).mono (boxk_below c w).size)
  have H1 : Hid (Below w.heap.size w (boxk cv0 (boxmg m (boxk c w)))) := hA.trans ((boxk_below cv0 _).mono hA.size)
  have HP : Hid (Blk (boxk cv0 (boxmg m (boxk c w))) (w.heap.size) (cvC c) 51) := ((boxk_blk c w).alloc _).alloc _
  have HM : Hid (Blk (boxk cv0 (boxmg m (boxk c w))) (w.heap.size + 1) (mgC m) 53) := by have := (boxmg_blk m (boxk c w)).alloc (.cells #[.int .i64 0, .slice none 0 0, .slice none 0 0, .int .i64 0, .slice none 0 0, .slice none 0 0, .bool false] 51); rw [boxk_size] at this; exact this
  have HQ : Hid (Blk (boxk cv0 (boxmg m (boxk c w))) (w.heap.size + 2) (cvC cv0) 51) := by have := boxk_blk cv0 (boxmg m (boxk c w)); rw [boxmg_size, boxk_size] at this; exact this
  have C1 : Hid (Calls Tryd.prog 27 #[.agg #[.int .i64 c.rev, .slice c.ba c.bn c.bc, .slice c.na c.nn c.nc, .int .i64 c.seq, .slice c.sa c.sn c.sc, .slice c.ha c.hn c.hc, .bool c.jo]] (boxk cv0 (boxmg m (boxk c w))) fun e w' => e = .returned (.int .i64 (Kl.cliE c.cl)) ∧ Below (boxk cv0 (boxmg m (boxk c w))).heap.size (boxk cv0 (boxmg m (boxk c w))) w') := cliE_any c _ (hC.below H1.out) (hS.below H1.out)
  have HC : Hid (Cli w c) := hC
  have HO : Hid (Ops w m.e.ao m.e.n m.e.cap m.e.vs) := hO
  have HSC : Hid (Sch w) := hS
  clear hC hO hS hA
  by_cases hz : Kl.cliE c.cl = 0
  · have hf := cli_few HC.out hz
    have HR : Hid (Kl.Rc c.cl) := Kl.cli_0 hz
    have C2 : Hid (∀ w', Below w.heap.size w w' → Calls Tryd.prog 65 #[.agg #[.int .i64 c.rev, .slice c.ba c.bn c.bc, .slice c.na c.nn c.nc, .int .i64 c.seq, .slice c.sa c.sn c.sc, .slice c.ha c.hn c.hc, .bool c.jo]] w' fun e w'' => (∃ t, e = .returned (.agg #[.int .i64 t.rev, .slice t.ba t.bn t.bc, .slice t.na t.nn t.nc, .int .i64 t.seq, .slice t.sa t.sn t.sc, .slice t.ha t.hn t.hc, .bool t.jo]) ∧ Cli w'' t ∧ t.cl = c.cl) ∧ Below w'.heap.size w' w'') := fun w' hb => copyK_any c w' (HC.out.below hb) hf.1 hf.2.1 hf.2.2.1 hf.2.2.2
    have hDE : Kl.HearE c.cl who m.mr m.e.en = Kl.heE c.cl who m.mr m.e.en := if_pos hz
    have hDS : Kl.HearS c.cl who m.mr m.e.en = (if Kl.heE c.cl who m.mr m.e.en = 0 then Kl.heS c.cl who m.mr m.e.en else false) := by unfold Kl.HearS; rw [hDE]
    have hDC : Kl.HearC c.cl who m.mr m.e.en = (if Kl.heE c.cl who m.mr m.e.en = 0 then Kl.heC c.cl who m.mr m.e.en else Kl.none) := by unfold Kl.HearC; rw [hDE]
    rw [hDE, hDS, hDC]
    obtain ⟨E, hEE⟩ : ∃ E, Kl.heE c.cl who m.mr m.e.en = E := ⟨_, rfl⟩
    obtain ⟨S, hSS⟩ : ∃ S, Kl.heS c.cl who m.mr m.e.en = S := ⟨_, rfl⟩
    obtain ⟨C, hCC⟩ : ∃ C, Kl.heC c.cl who m.mr m.e.en = C := ⟨_, rfl⟩
    have HEE : Hid (Kl.heE c.cl who m.mr m.e.en = E) := hEE
    have HSS : Hid (Kl.heS c.cl who m.mr m.e.en = S) := hSS
    have HCC : Hid (Kl.heC c.cl who m.mr m.e.en = C) := hCC
    rw [hEE, hSS, hCC]
    obtain ⟨S0, hS0⟩ : ∃ S0, (if E = 0 then S else false) = S0 := ⟨_, rfl⟩
    obtain ⟨C0, hC0⟩ : ∃ C0, (if E = 0 then C else Kl.none) = C0 := ⟨_, rfl⟩
    rw [hS0, hC0]
    have HS0 : Hid ((if E = 0 then S else false) = S0) := hS0
    have HC0 : Hid ((if E = 0 then C else Kl.none) = C0) := hC0
    rw [hz] at C1
    clear hf hz hDE hDS hDC hEE hSS hCC hS0 hC0
    go_enter Tryd.func28, Tryd.ntmps28
    go_upto_region 1 with fail
    change Code.wp Tryd.prog _ _ _ (boxk cv0 (boxmg m (boxk c w)))
    generalize (boxk cv0 (boxmg m (boxk c w))) = W at *
    have p0 : W.cell? ⟨w.heap.size, 0, none⟩ = some (.int .i64 c.rev) := HP.out.cell 0
    have p1 : W.cell? ⟨w.heap.size, 1, none⟩ = some (.slice c.ba c.bn c.bc) := HP.out.cell 1
    have p2 : W.cell? ⟨w.heap.size, 2, none⟩ = some (.slice c.na c.nn c.nc) := HP.out.cell 2
    have p3 : W.cell? ⟨w.heap.size, 3, none⟩ = some (.int .i64 c.seq) := HP.out.cell 3
    have p4 : W.cell? ⟨w.heap.size, 4, none⟩ = some (.slice c.sa c.sn c.sc) := HP.out.cell 4
    have p5 : W.cell? ⟨w.heap.size, 5, none⟩ = some (.slice c.ha c.hn c.hc) := HP.out.cell 5
    have p6 : W.cell? ⟨w.heap.size, 6, none⟩ = some (.bool c.jo) := HP.out.cell 6
    go_wp2_with fail
    refine C1.out.mono ?_
    rintro e w1 ⟨rfl, hb⟩
    have HW1 : Hid (Below w.heap.size w w1) := H1.out.trans (hb.mono H1.out.size)
    have HP1 : Hid (Blk w1 (w.heap.size) (cvC c) 51) := (hb.block _ HP.out.lt).trans HP.out
    have HM1 : Hid (Blk w1 (w.heap.size + 1) (mgC m) 53) := (hb.block _ HM.out.lt).trans HM.out
    have HQ1 : Hid (Blk w1 (w.heap.size + 2) (cvC cv0) 51) := (hb.block _ HQ.out.lt).trans HQ.out
    clear hb C1 p0 p1 p2 p3 p4 p5 p6 HP HM HQ H1
    have p0 : w1.cell? ⟨w.heap.size, 0, none⟩ = some (.int .i64 c.rev) := HP1.out.cell 0
    have p1 : w1.cell? ⟨w.heap.size, 1, none⟩ = some (.slice c.ba c.bn c.bc) := HP1.out.cell 1
    have p2 : w1.cell? ⟨w.heap.size, 2, none⟩ = some (.slice c.na c.nn c.nc) := HP1.out.cell 2
    have p3 : w1.cell? ⟨w.heap.size, 3, none⟩ = some (.int .i64 c.seq) := HP1.out.cell 3
    have p4 : w1.cell? ⟨w.heap.size, 4, none⟩ = some (.slice c.sa c.sn c.sc) := HP1.out.cell 4
    have p5 : w1.cell? ⟨w.heap.size, 5, none⟩ = some (.slice c.ha c.hn c.hc) := HP1.out.cell 5
    have p6 : w1.cell? ⟨w.heap.size, 6, none⟩ = some (.bool c.jo) := HP1.out.cell 6
    go_wp2_with fail
    refine (C2.out _ HW1.out).mono ?_
    rintro e w2 ⟨⟨t, rfl, ht, hcl⟩, hb⟩
    have HW2 : Hid (Below w.heap.size w w2) := HW1.out.trans (hb.mono HW1.out.size)
    have HM2 : Hid (Blk w2 (w.heap.size + 1) (mgC m) 53) := (hb.block _ HM1.out.lt).trans HM1.out
    have HQ2 : Hid (Blk w2 (w.heap.size + 2) (cvC cv0) 51) := (hb.block _ HQ1.out.lt).trans HQ1.out
    have HT2 : Hid (Cli w2 t) := ht
    have HCL : Hid (t.cl = c.cl) := hcl
    clear hb ht hcl C2 p0 p1 p2 p3 p4 p5 p6 HP1 HM1 HQ1
    have q0 : w2.cell? ⟨w.heap.size + 2, 0, none⟩ = some (.int .i64 0) := HQ2.out.cell 0
    have q1 : w2.cell? ⟨w.heap.size + 2, 1, none⟩ = some (.slice none 0 0) := HQ2.out.cell 1
    have q2 : w2.cell? ⟨w.heap.size + 2, 2, none⟩ = some (.slice none 0 0) := HQ2.out.cell 2
    have q3 : w2.cell? ⟨w.heap.size + 2, 3, none⟩ = some (.int .i64 0) := HQ2.out.cell 3
    have q4 : w2.cell? ⟨w.heap.size + 2, 4, none⟩ = some (.slice none 0 0) := HQ2.out.cell 4
    have q5 : w2.cell? ⟨w.heap.size + 2, 5, none⟩ = some (.slice none 0 0) := HQ2.out.cell 5
    have q6 : w2.cell? ⟨w.heap.size + 2, 6, none⟩ = some (.bool false) := HQ2.out.cell 6
    have g0 := HQ2.out.frozen 0
    have g1 := HQ2.out.frozen 1
    have g2 := HQ2.out.frozen 2
    have g3 := HQ2.out.frozen 3
    have g4 := HQ2.out.frozen 4
    have g5 := HQ2.out.frozen 5
    have g6 := HQ2.out.frozen 6
    have HK3 : Hid (KAt (putK w2 (w.heap.size + 2) t) (w.heap.size + 2) t) := KAt.put HQ2.out HT2.out
    have HKP3 : Hid (Kept w2 (putK w2 (w.heap.size + 2) t) [w.heap.size + 2]) := putK_kept _ _ _
    have HM3 : Hid (Blk (putK w2 (w.heap.size + 2) t) (w.heap.size + 1) (mgC m) 53) := HKP3.out.blk HM2.out (by simp)
    go_upto_region 5 with fail
    change Code.wp Tryd.prog _ _ _ (putK w2 (w.heap.size + 2) t)
    have CD : Hid (Calls Tryd.prog 69 #[.pointer (some ⟨w.heap.size + 2, 0, none⟩), .int .i64 who, .agg #[.int .i64 m.mr, .int .i64 m.e.who, .int .i64 m.e.seq, .slice m.e.ao m.e.n m.e.cap]] (putK w2 (w.heap.size + 2) t) fun e w' => SentP (w.heap.size + 2) (Kl.heE t.cl who m.mr m.e.en) (Kl.heS t.cl who m.mr m.e.en) (Kl.heC t.cl who m.mr m.e.en) e w' ∧ Kept (putK w2 (w.heap.size + 2) t) w' [w.heap.size + 2]) := hear_any (w.heap.size + 2) t who m _ HK3.out ((HO.out.below HW2.out).keptK HQ2.out HKP3.out) ((HSC.out.below HW2.out).keptK HQ2.out HKP3.out) (by rw [HCL.out]; exact HR.out)
    rw [HCL.out, HEE.out, HSS.out, HCC.out] at CD
    clear HEE HSS HCC
    generalize putK w2 (w.heap.size + 2) t = W3 at *
    clear q0 q1 q2 q3 q4 q5 q6 g0 g1 g2 g3 g4 g5 g6
    have hB1 : w.heap.size + 2 ≤ w2.heap.size := by have := HQ2.out.lt; omega
    have HBL : Hid (∀ w', Kept W3 w' [w.heap.size + 2] → Below w.heap.size w w') := fun w' hk => HW2.out.trans (((HKP3.out.trans hk).low hB1).mono (by omega))
    have r0 : W3.cell? ⟨w.heap.size + 1, 0, none⟩ = some (.int .i64 m.mr) := HM3.out.cell 0
    have r1 : W3.cell? ⟨w.heap.size + 1, 1, none⟩ = some (.int .i64 m.e.who) := HM3.out.cell 1
    have r2 : W3.cell? ⟨w.heap.size + 1, 2, none⟩ = some (.int .i64 m.e.seq) := HM3.out.cell 2
    have r3 : W3.cell? ⟨w.heap.size + 1, 3, none⟩ = some (.slice m.e.ao m.e.n m.e.cap) := HM3.out.cell 3
    go_wp2_with fail
    refine CD.out.mono ?_
    rintro e w4 ⟨⟨c4, s4, rfl, hk4, hi4⟩, hkp⟩
    have HK4 : Hid (KAt w4 (w.heap.size + 2) c4) := hk4
    have HI4 : Hid (E = 0 → s4 = S ∧ c4.cl = C) := hi4
    have HKP4 : Hid (Kept W3 w4 [w.heap.size + 2]) := hkp
    clear hk4 hi4 hkp CD r0 r1 r2 r3
    have p0 : w4.cell? ⟨w.heap.size + 2, 0, none⟩ = some (.int .i64 c4.rev) := HK4.out.blk.cell 0
    have p1 : w4.cell? ⟨w.heap.size + 2, 1, none⟩ = some (.slice c4.ba c4.bn c4.bc) := HK4.out.blk.cell 1
    have p2 : w4.cell? ⟨w.heap.size + 2, 2, none⟩ = some (.slice c4.na c4.nn c4.nc) := HK4.out.blk.cell 2
    have p3 : w4.cell? ⟨w.heap.size + 2, 3, none⟩ = some (.int .i64 c4.seq) := HK4.out.blk.cell 3
    have p4 : w4.cell? ⟨w.heap.size + 2, 4, none⟩ = some (.slice c4.sa c4.sn c4.sc) := HK4.out.blk.cell 4
    have p5 : w4.cell? ⟨w.heap.size + 2, 5, none⟩ = some (.slice c4.ha c4.hn c4.hc) := HK4.out.blk.cell 5
    have p6 : w4.cell? ⟨w.heap.size + 2, 6, none⟩ = some (.bool c4.jo) := HK4.out.blk.cell 6
    have f0 := HK4.out.blk.frozen 0
    have f1 := HK4.out.blk.frozen 1
    have f2 := HK4.out.blk.frozen 2
    have f3 := HK4.out.blk.frozen 3
    have f4 := HK4.out.blk.frozen 4
    have f5 := HK4.out.blk.frozen 5
    have f6 := HK4.out.blk.frozen 6
    by_cases hz : E = 0
    · obtain ⟨e1, e2⟩ := HI4.out hz
      obtain rfl : S0 = s4 := by have := HS0.out; rw [if_pos hz] at this; rw [← this, e1]
      have HE2 : Hid (c4.cl = C0) := by have := HC0.out; rw [if_pos hz] at this; show _ = _; rw [← this, e2]
      clear e1 e2 HI4 HS0 HC0
      subst hz
      go_wp2
      change bodyPost Tryd.prog _ _ Exit.ret _ (putK w4 (w.heap.size + 2) c4)
      exact bodyPost_ret (ret_cli3 (t := c4) rfl _ rfl rfl rfl (putK_blk HK4.out.blk)) rfl ⟨⟨c4, rfl, HK4.out.cli.keptK HK4.out.blk (putK_kept _ _ _), HE2.out⟩, HBL.out _ (HKP4.out.trans (putK_kept _ _ _))⟩
    · obtain rfl : S0 = false := by have := HS0.out; rw [if_neg hz] at this; exact this.symm
      have HE2 : Hid (Kl.none = C0) := by have := HC0.out; rw [if_neg hz] at this; exact this
      have hne : (E != 0) = true := by simp [hz]
      clear HI4 HS0 HC0
      go_wp2
      change bodyPost Tryd.prog _ _ Exit.ret _ (putK w4 (w.heap.size + 2) cv0)
      exact bodyPost_ret (ret_cli3 (t := cv0) rfl _ rfl rfl rfl (putK_blk HK4.out.blk)) rfl ⟨⟨cv0, rfl, Cli.nil _, HE2.out⟩, HBL.out _ (HKP4.out.trans (putK_kept _ _ _))⟩
  · have hDE : Kl.HearE c.cl who m.mr m.e.en = Kl.cliE c.cl := if_neg hz
    have hDS : Kl.HearS c.cl who m.mr m.e.en = false := by unfold Kl.HearS; rw [hDE, if_neg hz]
    have hDC : Kl.HearC c.cl who m.mr m.e.en = Kl.none := by unfold Kl.HearC; rw [hDE, if_neg hz]
    rw [hDE, hDS, hDC]
    generalize Kl.cliE c.cl = E at *
    have hne : (E != 0) = true := by simp [hz]
    clear hDE hDS hDC
    go_enter Tryd.func28, Tryd.ntmps28
    go_upto_region 1 with fail
    change Code.wp Tryd.prog _ _ _ (boxk cv0 (boxmg m (boxk c w)))
    generalize (boxk cv0 (boxmg m (boxk c w))) = W at *
    have p0 : W.cell? ⟨w.heap.size, 0, none⟩ = some (.int .i64 c.rev) := HP.out.cell 0
    have p1 : W.cell? ⟨w.heap.size, 1, none⟩ = some (.slice c.ba c.bn c.bc) := HP.out.cell 1
    have p2 : W.cell? ⟨w.heap.size, 2, none⟩ = some (.slice c.na c.nn c.nc) := HP.out.cell 2
    have p3 : W.cell? ⟨w.heap.size, 3, none⟩ = some (.int .i64 c.seq) := HP.out.cell 3
    have p4 : W.cell? ⟨w.heap.size, 4, none⟩ = some (.slice c.sa c.sn c.sc) := HP.out.cell 4
    have p5 : W.cell? ⟨w.heap.size, 5, none⟩ = some (.slice c.ha c.hn c.hc) := HP.out.cell 5
    have p6 : W.cell? ⟨w.heap.size, 6, none⟩ = some (.bool c.jo) := HP.out.cell 6
    go_wp2_with fail
    refine C1.out.mono ?_
    rintro e w1 ⟨rfl, hb⟩
    have HW1 : Hid (Below w.heap.size w w1) := H1.out.trans (hb.mono H1.out.size)
    have HQ1 : Hid (Blk w1 (w.heap.size + 2) (cvC cv0) 51) := (hb.block _ HQ.out.lt).trans HQ.out
    clear hb C1 p0 p1 p2 p3 p4 p5 p6 HP HM HQ H1
    have q0 : w1.cell? ⟨w.heap.size + 2, 0, none⟩ = some (.int .i64 0) := HQ1.out.cell 0
    have q1 : w1.cell? ⟨w.heap.size + 2, 1, none⟩ = some (.slice none 0 0) := HQ1.out.cell 1
    have q2 : w1.cell? ⟨w.heap.size + 2, 2, none⟩ = some (.slice none 0 0) := HQ1.out.cell 2
    have q3 : w1.cell? ⟨w.heap.size + 2, 3, none⟩ = some (.int .i64 0) := HQ1.out.cell 3
    have q4 : w1.cell? ⟨w.heap.size + 2, 4, none⟩ = some (.slice none 0 0) := HQ1.out.cell 4
    have q5 : w1.cell? ⟨w.heap.size + 2, 5, none⟩ = some (.slice none 0 0) := HQ1.out.cell 5
    have q6 : w1.cell? ⟨w.heap.size + 2, 6, none⟩ = some (.bool false) := HQ1.out.cell 6
    have g0 := HQ1.out.frozen 0
    have g1 := HQ1.out.frozen 1
    have g2 := HQ1.out.frozen 2
    have g3 := HQ1.out.frozen 3
    have g4 := HQ1.out.frozen 4
    have g5 := HQ1.out.frozen 5
    have g6 := HQ1.out.frozen 6
    go_wp2
    change bodyPost Tryd.prog _ _ Exit.ret _ (putK w1 (w.heap.size + 2) cv0)
    exact bodyPost_ret (ret_cli3 (t := cv0) rfl _ rfl rfl rfl (putK_blk HQ1.out)) rfl ⟨⟨cv0, rfl, Cli.nil _, rfl⟩, HW1.out.trans (((putK_kept w1 (w.heap.size + 2) cv0).low (by have := HQ1.out.lt; omega)).mono (by omega))⟩
end Go.Proofs.YtbhcklkbckacpaaDoor
