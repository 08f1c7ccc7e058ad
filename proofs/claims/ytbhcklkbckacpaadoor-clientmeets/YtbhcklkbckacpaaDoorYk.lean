/-
  The statement ClientGoes: what a client does it shows at once; what waits is one operation.
-/
import Derived.Test.YtbhcklkbckacpaaDoorYj
namespace Go.Proofs.YtbhcklkbckacpaaDoor
open Go.RowKit
namespace Kl
theorem do_0 {c : Cl} {o : List Ac.Pt} (h : DoE c o = 0) : cliE c = 0 ∧ doE c o = 0 ∧ DoC c o = doC c o ∧ DoS c o = doS c := by
  have h2 := h
  unfold DoE at h2
  by_cases g : cliE c = 0
  · rw [if_pos g] at h2
    exact ⟨g, h2, if_pos h, if_pos h⟩
  · rw [if_neg g] at h2
    exact absurd h2 g
/-- Everything that ClientGoes asks. -/
structure Goes (x y : Cl) (b : List Ac.Pt) : Prop where
  fit : Ac.fitE x.now b = 0
  sent : DoS x b = false
  now : Ac.done x.now b = y.now
  held : 0 < y.held.length
  same : y.sent = x.sent
  seq : y.seq = x.seq
theorem goes {c : Cl} {a b : List Ac.Pt} (h1 : DoE c a = 0) (h2 : DoE (DoC c a) b = 0) : Goes (DoC c a) (DoC (DoC c a) b) b := by
  obtain ⟨a1, a2, a3, a4⟩ := do_0 h1
  obtain ⟨b1, b2, b3, b4⟩ := do_0 h2
  obtain ⟨c1, c2, c3, c4, c5, c6⟩ := do_rc (cli_0 b1) b2
  have hs : 0 < (DoC c a).sent.length := by rw [a3]; exact (do_sent a2).1
  obtain ⟨d1, d2⟩ := do_sent b2
  obtain ⟨d3, d4, d5⟩ := d2 hs
  rw [b3]
  exact ⟨c2, by rw [b4]; exact decide_eq_false (by omega), c3.symm, d5, d3, d4⟩
end Kl

set_option maxRecDepth 100000 in
set_option maxHeartbeats 6400000 in
theorem goes_any (c : CV) (aa : Option Addr) (an ac : Nat) (ws : List PV) (ba : Option Addr) (bn bc : Nat) (bs : List PV) (w : World) (hC : Cli w c) (hA : Ops w aa an ac ws) (hB : Ops w ba bn bc bs) (hS : Sch w) :
    Calls Tryd.prog 8 #[.agg #[.int .i64 c.rev, .slice c.ba c.bn c.bc, .slice c.na c.nn c.nc, .int .i64 c.seq, .slice c.sa c.sn c.sc, .slice c.ha c.hn c.hc, .bool c.jo], .slice aa an ac, .slice ba bn bc] w fun e w' => e = .returned (.bool true) ∧ Below w.heap.size w w' := by
  have H0 : Hid (Below w.heap.size w (boxk c w)) := boxk_below c w
  have HP0 : Hid (Blk (boxk c w) (w.heap.size) (cvC c) 51) := boxk_blk c w
  have C1 : Hid (Calls Tryd.prog 26 #[.agg #[.int .i64 c.rev, .slice c.ba c.bn c.bc, .slice c.na c.nn c.nc, .int .i64 c.seq, .slice c.sa c.sn c.sc, .slice c.ha c.hn c.hc, .bool c.jo], .slice aa an ac] (boxk c w) fun e w' => (∃ q, e = .returned (.tuple #[.agg #[.int .i64 q.rev, .slice q.ba q.bn q.bc, .slice q.na q.nn q.nc, .int .i64 q.seq, .slice q.sa q.sn q.sc, .slice q.ha q.hn q.hc, .bool q.jo], .bool (Kl.DoS c.cl (ws.map PV.pt)), .int .i64 (Kl.DoE c.cl (ws.map PV.pt))]) ∧ Cli w' q ∧ q.cl = (Kl.DoC c.cl (ws.map PV.pt))) ∧ Below (boxk c w).heap.size (boxk c w) w') := Do_any c aa an ac ws _ (hC.below H0.out) (hA.below H0.out) (hS.below H0.out)
  have CH : Hid (∀ w', Below w.heap.size w w' → Calls Tryd.prog 29 #[] w' fun e w'' => e = .returned (.bool true) ∧ Below w'.heap.size w' w'') := fun w' hb => heard_any w' (hS.below hb)
  have HSC : Hid (∀ w', Below w.heap.size w w' → Sch w') := fun w' hb => hS.below hb
  have HOB : Hid (∀ w', Below w.heap.size w w' → Ops w' ba bn bc bs) := fun w' hb => hB.below hb
  clear hC hA hB hS
  obtain ⟨E, hE⟩ : ∃ E, Kl.DoE c.cl (ws.map PV.pt) = E := ⟨_, rfl⟩
  have HE : Hid (Kl.DoE c.cl (ws.map PV.pt) = E) := hE
  rw [hE] at C1
  clear hE
  generalize Kl.DoS c.cl (ws.map PV.pt) = S1 at *
  go_enter Tryd.func8, Tryd.ntmps8
  go_upto_region 1 with fail
  change Code.wp Tryd.prog _ _ _ (boxk c w)
  generalize boxk c w = W at *
  have p0 : W.cell? ⟨w.heap.size, 0, none⟩ = some (.int .i64 c.rev) := HP0.out.cell 0
  have p1 : W.cell? ⟨w.heap.size, 1, none⟩ = some (.slice c.ba c.bn c.bc) := HP0.out.cell 1
  have p2 : W.cell? ⟨w.heap.size, 2, none⟩ = some (.slice c.na c.nn c.nc) := HP0.out.cell 2
  have p3 : W.cell? ⟨w.heap.size, 3, none⟩ = some (.int .i64 c.seq) := HP0.out.cell 3
  have p4 : W.cell? ⟨w.heap.size, 4, none⟩ = some (.slice c.sa c.sn c.sc) := HP0.out.cell 4
  have p5 : W.cell? ⟨w.heap.size, 5, none⟩ = some (.slice c.ha c.hn c.hc) := HP0.out.cell 5
  have p6 : W.cell? ⟨w.heap.size, 6, none⟩ = some (.bool c.jo) := HP0.out.cell 6
  go_wp2_with fail
  refine C1.out.mono ?_
  rintro e w1 ⟨⟨x, rfl, hx, hxc⟩, hb⟩
  have hw1 : Below w.heap.size w w1 := H0.out.trans (hb.mono H0.out.size)
  have HX : Hid (Cli (boxk x w1) x) := hx.below (boxk_below x w1)
  have HXC : Hid (x.cl = Kl.DoC c.cl (ws.map PV.pt)) := hxc
  have HW2 : Hid (Below w.heap.size w (boxk x w1)) := hw1.trans ((boxk_below x w1).mono hw1.size)
  have HBX : Hid (Blk (boxk x w1) w1.heap.size (cvC x) 51) := boxk_blk x w1
  clear hx hxc hb hw1 C1 p0 p1 p2 p3 p4 p5 p6 HP0 H0
  go_upto_region 2 with fail
  change Code.wp Tryd.prog _ _ _ (boxk x w1)
  generalize boxk x w1 = W2 at *
  generalize w1.heap.size = b1 at *
  go_wp2_with fail
  refine (CH.out _ HW2.out).mono ?_
  rintro e w3 ⟨rfl, hb⟩
  have HW3 : Hid (Below w.heap.size w w3) := HW2.out.trans (hb.mono HW2.out.size)
  have HX3 : Hid (Cli w3 x) := HX.out.below hb
  have HBX3 : Hid (Blk w3 b1 (cvC x) 51) := (hb.block _ HBX.out.lt).trans HBX.out
  clear hb HX HBX HW2
  by_cases hz : E = 0
  · have HE0 : Hid (Kl.DoE c.cl (ws.map PV.pt) = 0) := HE.out.trans hz
    subst hz
    have C2 : Hid (Calls Tryd.prog 26 #[.agg #[.int .i64 x.rev, .slice x.ba x.bn x.bc, .slice x.na x.nn x.nc, .int .i64 x.seq, .slice x.sa x.sn x.sc, .slice x.ha x.hn x.hc, .bool x.jo], .slice ba bn bc] w3 fun e w' => (∃ q, e = .returned (.tuple #[.agg #[.int .i64 q.rev, .slice q.ba q.bn q.bc, .slice q.na q.nn q.nc, .int .i64 q.seq, .slice q.sa q.sn q.sc, .slice q.ha q.hn q.hc, .bool q.jo], .bool (Kl.DoS x.cl (bs.map PV.pt)), .int .i64 (Kl.DoE x.cl (bs.map PV.pt))]) ∧ Cli w' q ∧ q.cl = (Kl.DoC x.cl (bs.map PV.pt))) ∧ Below w3.heap.size w3 w') := Do_any x ba bn bc bs _ HX3.out (HOB.out _ HW3.out) (HSC.out _ HW3.out)
    obtain ⟨F, hF⟩ : ∃ F, Kl.DoE x.cl (bs.map PV.pt) = F := ⟨_, rfl⟩
    have HF : Hid (Kl.DoE x.cl (bs.map PV.pt) = F) := hF
    rw [hF] at C2
    clear hF
    obtain ⟨S2, hS2⟩ : ∃ S2, Kl.DoS x.cl (bs.map PV.pt) = S2 := ⟨_, rfl⟩
    have HS2 : Hid (Kl.DoS x.cl (bs.map PV.pt) = S2) := hS2
    rw [hS2] at C2
    clear hS2
    have p0 : w3.cell? ⟨b1, 0, none⟩ = some (.int .i64 x.rev) := HBX3.out.cell 0
    have p1 : w3.cell? ⟨b1, 1, none⟩ = some (.slice x.ba x.bn x.bc) := HBX3.out.cell 1
    have p2 : w3.cell? ⟨b1, 2, none⟩ = some (.slice x.na x.nn x.nc) := HBX3.out.cell 2
    have p3 : w3.cell? ⟨b1, 3, none⟩ = some (.int .i64 x.seq) := HBX3.out.cell 3
    have p4 : w3.cell? ⟨b1, 4, none⟩ = some (.slice x.sa x.sn x.sc) := HBX3.out.cell 4
    have p5 : w3.cell? ⟨b1, 5, none⟩ = some (.slice x.ha x.hn x.hc) := HBX3.out.cell 5
    have p6 : w3.cell? ⟨b1, 6, none⟩ = some (.bool x.jo) := HBX3.out.cell 6
    go_wp2_with fail
    refine C2.out.mono ?_
    rintro e w4 ⟨⟨y, rfl, hy, hyc⟩, hb⟩
    have hw4 : Below w.heap.size w w4 := HW3.out.trans (hb.mono HW3.out.size)
    have HY : Hid (Cli (boxk y w4) y) := hy.below (boxk_below y w4)
    have HX5 : Hid (Cli (boxk y w4) x) := (HX3.out.below hb).below (boxk_below y w4)
    have HYC : Hid (y.cl = Kl.DoC x.cl (bs.map PV.pt)) := hyc
    have HW5 : Hid (Below w.heap.size w (boxk y w4)) := hw4.trans ((boxk_below y w4).mono hw4.size)
    have HBY : Hid (Blk (boxk y w4) w4.heap.size (cvC y) 51) := boxk_blk y w4
    have hbx4 : Blk w4 b1 (cvC x) 51 := (hb.block _ HBX3.out.lt).trans HBX3.out
    have HBX5 : Hid (Blk (boxk y w4) b1 (cvC x) 51) := hbx4.alloc _
    clear hbx4
    clear hy hyc hb hw4 C2 p0 p1 p2 p3 p4 p5 p6 HX3 HBX3 HW3
    go_upto_region 5 with fail
    change Code.wp Tryd.prog _ _ _ (boxk y w4)
    generalize boxk y w4 = W5 at *
    generalize w4.heap.size = b2 at *
    by_cases hy : F = 0
    · have HG : Hid (Kl.Goes x.cl y.cl (bs.map PV.pt)) := by
        have h2 : Kl.DoE (Kl.DoC c.cl (ws.map PV.pt)) (bs.map PV.pt) = 0 := by rw [← HXC.out]; exact HF.out.trans hy
        have := Kl.goes HE0.out h2
        rw [← HXC.out, ← HYC.out] at this
        exact this
      subst hy
      obtain rfl : S2 = false := by rw [← HS2.out]; exact HG.out.sent
      have CA : Hid (Calls Tryd.prog 24 #[.slice x.na x.nn x.nc, .slice ba bn bc] W5 fun e w' => (∃ a' n' c', e = .returned (.tuple #[.slice a' n' c', .int .i64 0]) ∧ Doc w' a' n' c' y.now) ∧ Below W5.heap.size W5 w') := by
        have := apply_any _ _ _ _ _ _ _ _ _ HX5.out.now (HOB.out _ HW5.out) (HSC.out _ HW5.out)
        rw [show Ac.fitE x.now (bs.map PV.pt) = 0 from HG.out.fit, show Ac.done x.now (bs.map PV.pt) = y.now from HG.out.now] at this
        exact this.mono fun e w' ⟨⟨a', c', h1, h2⟩, hb⟩ => ⟨⟨a', _, c', h1, h2⟩, hb⟩
      have HSQ : Hid (y.seq = x.seq) := HG.out.seq
      have HHL : Hid (0 < y.hn) := by have := HG.out.held; have e := len_pt HY.out.held; show 0 < y.hn; rw [← e]; exact this
      have HSE : Hid (y.sent.map PV.pt = x.sent.map PV.pt) := HG.out.same
      clear HG HF HS2 HE HE0 HXC HYC
      have p0 : W5.cell? ⟨b1, 0, none⟩ = some (.int .i64 x.rev) := HBX5.out.cell 0
      have p1 : W5.cell? ⟨b1, 1, none⟩ = some (.slice x.ba x.bn x.bc) := HBX5.out.cell 1
      have p2 : W5.cell? ⟨b1, 2, none⟩ = some (.slice x.na x.nn x.nc) := HBX5.out.cell 2
      have p3 : W5.cell? ⟨b1, 3, none⟩ = some (.int .i64 x.seq) := HBX5.out.cell 3
      have p4 : W5.cell? ⟨b1, 4, none⟩ = some (.slice x.sa x.sn x.sc) := HBX5.out.cell 4
      have p5 : W5.cell? ⟨b1, 5, none⟩ = some (.slice x.ha x.hn x.hc) := HBX5.out.cell 5
      have p6 : W5.cell? ⟨b1, 6, none⟩ = some (.bool x.jo) := HBX5.out.cell 6
      go_wp2_with fail
      refine CA.out.mono ?_
      rintro e w6 ⟨⟨a6, n6, c6, rfl, hd⟩, hb⟩
      have HW6 : Hid (Below w.heap.size w w6) := HW5.out.trans (hb.mono HW5.out.size)
      have HB6 : Hid (Below W5.heap.size W5 w6) := hb
      have HD6 : Hid (Doc w6 a6 n6 c6 y.now) := hd
      clear hd hb CA p0 p1 p2 p3 p4 p5 p6
      have HY6 : Hid (Cli w6 y) := HY.out.below HB6.out
      have HX6 : Hid (Cli w6 x) := HX5.out.below HB6.out
      have HCL : Hid (∀ w', Below w6.heap.size w6 w' → Blk w' b1 (cvC x) 51 ∧ Blk w' b2 (cvC y) 51) := fun w' hb => by
        have h1 : Blk w6 b1 (cvC x) 51 := (HB6.out.block _ HBX5.out.lt).trans HBX5.out
        have h2 : Blk w6 b2 (cvC y) 51 := (HB6.out.block _ HBY.out.lt).trans HBY.out
        exact ⟨(hb.block _ h1.lt).trans h1, (hb.block _ h2.lt).trans h2⟩
      have CS : Hid (Calls Tryd.prog 23 #[.slice a6 n6 c6, .slice y.na y.nn y.nc] w6 fun e w' => e = .returned (.bool true) ∧ Below w6.heap.size w6 w') := by
        have := same_any a6 y.na n6 c6 y.nn y.nc y.now y.now w6 HD6.out HY6.out.now
        rw [Sv.its_self] at this
        exact this.mono fun e w' ⟨h, q, hq⟩ => ⟨h, by rw [hq]; exact drewN_blw _ q⟩
      have CO : Hid (∀ w', Below w6.heap.size w6 w' → Calls Tryd.prog 25 #[.slice y.sa y.sn y.sc, .slice x.sa x.sn x.sc] w' fun e w'' => e = .returned (.bool true) ∧ Below w'.heap.size w' w'') := fun w' hb => by
        have := sameO_any y.sa x.sa y.sn y.sc x.sn x.sc y.sent x.sent w' (HY6.out.sent.below hb) (HX6.out.sent.below hb)
        rw [HSE.out, Ac.sameO_self] at this
        exact this
      have hB := HCL.out w6 (Below.refl _ _)
      have q0 : w6.cell? ⟨b2, 0, none⟩ = some (.int .i64 y.rev) := hB.2.cell 0
      have q1 : w6.cell? ⟨b2, 1, none⟩ = some (.slice y.ba y.bn y.bc) := hB.2.cell 1
      have q2 : w6.cell? ⟨b2, 2, none⟩ = some (.slice y.na y.nn y.nc) := hB.2.cell 2
      have q3 : w6.cell? ⟨b2, 3, none⟩ = some (.int .i64 y.seq) := hB.2.cell 3
      have q4 : w6.cell? ⟨b2, 4, none⟩ = some (.slice y.sa y.sn y.sc) := hB.2.cell 4
      have q5 : w6.cell? ⟨b2, 5, none⟩ = some (.slice y.ha y.hn y.hc) := hB.2.cell 5
      have q6 : w6.cell? ⟨b2, 6, none⟩ = some (.bool y.jo) := hB.2.cell 6
      clear hB
      go_wp2_with fail
      refine CS.out.mono ?_
      rintro e w7 ⟨rfl, hb⟩
      have HB7 : Hid (Below w6.heap.size w6 w7) := hb
      clear hb CS q0 q1 q2 q3 q4 q5 q6
      have hB := HCL.out w7 HB7.out
      have q0 : w7.cell? ⟨b2, 0, none⟩ = some (.int .i64 y.rev) := hB.2.cell 0
      have q1 : w7.cell? ⟨b2, 1, none⟩ = some (.slice y.ba y.bn y.bc) := hB.2.cell 1
      have q2 : w7.cell? ⟨b2, 2, none⟩ = some (.slice y.na y.nn y.nc) := hB.2.cell 2
      have q3 : w7.cell? ⟨b2, 3, none⟩ = some (.int .i64 y.seq) := hB.2.cell 3
      have q4 : w7.cell? ⟨b2, 4, none⟩ = some (.slice y.sa y.sn y.sc) := hB.2.cell 4
      have q5 : w7.cell? ⟨b2, 5, none⟩ = some (.slice y.ha y.hn y.hc) := hB.2.cell 5
      have q6 : w7.cell? ⟨b2, 6, none⟩ = some (.bool y.jo) := hB.2.cell 6
      have p0 : w7.cell? ⟨b1, 0, none⟩ = some (.int .i64 x.rev) := hB.1.cell 0
      have p1 : w7.cell? ⟨b1, 1, none⟩ = some (.slice x.ba x.bn x.bc) := hB.1.cell 1
      have p2 : w7.cell? ⟨b1, 2, none⟩ = some (.slice x.na x.nn x.nc) := hB.1.cell 2
      have p3 : w7.cell? ⟨b1, 3, none⟩ = some (.int .i64 x.seq) := hB.1.cell 3
      have p4 : w7.cell? ⟨b1, 4, none⟩ = some (.slice x.sa x.sn x.sc) := hB.1.cell 4
      have p5 : w7.cell? ⟨b1, 5, none⟩ = some (.slice x.ha x.hn x.hc) := hB.1.cell 5
      have p6 : w7.cell? ⟨b1, 6, none⟩ = some (.bool x.jo) := hB.1.cell 6
      clear hB
      have hh1 : decide ((0 : Int) < (y.hn : Int)) = true := by have := HHL.out; simp; omega
      have hh2 : decide (0 < y.hn) = true := by have := HHL.out; simp; omega
      go_wp2_with fail
      refine (CO.out _ HB7.out).mono ?_
      rintro e w8 ⟨rfl, hb⟩
      have HB8 : Hid (Below w6.heap.size w6 w8) := HB7.out.trans (hb.mono HB7.out.size)
      clear hb CO q0 q1 q2 q3 q4 q5 q6 p0 p1 p2 p3 p4 p5 p6
      have hB := HCL.out w8 HB8.out
      have q0 : w8.cell? ⟨b2, 0, none⟩ = some (.int .i64 y.rev) := hB.2.cell 0
      have q1 : w8.cell? ⟨b2, 1, none⟩ = some (.slice y.ba y.bn y.bc) := hB.2.cell 1
      have q2 : w8.cell? ⟨b2, 2, none⟩ = some (.slice y.na y.nn y.nc) := hB.2.cell 2
      have q3 : w8.cell? ⟨b2, 3, none⟩ = some (.int .i64 y.seq) := hB.2.cell 3
      have q4 : w8.cell? ⟨b2, 4, none⟩ = some (.slice y.sa y.sn y.sc) := hB.2.cell 4
      have q5 : w8.cell? ⟨b2, 5, none⟩ = some (.slice y.ha y.hn y.hc) := hB.2.cell 5
      have q6 : w8.cell? ⟨b2, 6, none⟩ = some (.bool y.jo) := hB.2.cell 6
      have p0 : w8.cell? ⟨b1, 0, none⟩ = some (.int .i64 x.rev) := hB.1.cell 0
      have p1 : w8.cell? ⟨b1, 1, none⟩ = some (.slice x.ba x.bn x.bc) := hB.1.cell 1
      have p2 : w8.cell? ⟨b1, 2, none⟩ = some (.slice x.na x.nn x.nc) := hB.1.cell 2
      have p3 : w8.cell? ⟨b1, 3, none⟩ = some (.int .i64 x.seq) := hB.1.cell 3
      have p4 : w8.cell? ⟨b1, 4, none⟩ = some (.slice x.sa x.sn x.sc) := hB.1.cell 4
      have p5 : w8.cell? ⟨b1, 5, none⟩ = some (.slice x.ha x.hn x.hc) := hB.1.cell 5
      have p6 : w8.cell? ⟨b1, 6, none⟩ = some (.bool x.jo) := hB.1.cell 6
      clear hB
      have hsq : (y.seq == x.seq) = true := by rw [HSQ.out]; simp
      go_wp2
      go_ret
      exact ⟨rfl, HW6.out.trans (HB8.out.mono HW6.out.size)⟩
    · have hne : (F != 0) = true := by simp [hy]
      go_wp2
      go_ret
      exact ⟨rfl, HW5.out⟩
  · have hne : (E != 0) = true := by simp [hz]
    go_wp2_with fail
    refine (CH.out _ HW3.out).mono ?_
    rintro e w4 ⟨rfl, hb⟩
    have HW4 : Hid (Below w.heap.size w w4) := HW3.out.trans (hb.mono HW3.out.size)
    clear hb
    go_wp2
    go_ret
    exact ⟨rfl, HW4.out⟩
end Go.Proofs.YtbhcklkbckacpaaDoor
