/-
  The statement ClientKeeps: a client stays one, whatever it does, or hears.
-/
import Derived.Test.YtbhcklkbckacpaaDoorYk
namespace Go.Proofs.YtbhcklkbckacpaaDoor
open Go.RowKit
namespace Kl
theorem hear_0 {c : Cl} {who rev : Int} {x : Sv.En} (h : HearE c who rev x = 0) : Rc c ∧ heE c who rev x = 0 ∧ HearC c who rev x = heC c who rev x ∧ HearS c who rev x = heS c who rev x := by
  have h2 := h
  unfold HearE at h2
  by_cases g : cliE c = 0
  · rw [if_pos g] at h2
    exact ⟨cli_0 g, h2, if_pos h, if_pos h⟩
  · rw [if_neg g] at h2
    exact absurd h2 g
end Kl
theorem same_true {w : World} {a a' : Option Addr} {n c n' c' : Nat} {l l' : List It} (h : Doc w a n c l) (h' : Doc w a' n' c' l') (e : l = l') : Calls Tryd.prog 23 #[.slice a n c, .slice a' n' c'] w fun e w' => e = .returned (.bool true) ∧ Below w.heap.size w w' := by
  have := same_any a a' n c n' c' l l' w h h'
  rw [e, Sv.its_self] at this
  exact this.mono fun e w' ⟨h, q, hq⟩ => ⟨h, by rw [hq]; exact drewN_blw _ q⟩

set_option maxRecDepth 100000 in
set_option maxHeartbeats 12800000 in
theorem keepsK_any (c : CV) (aa : Option Addr) (an ac : Nat) (ws : List PV) (who : Int) (m : MV) (w : World) (hC : Cli w c) (hA : Ops w aa an ac ws) (hM : Ops w m.e.ao m.e.n m.e.cap m.e.vs) (hS : Sch w) :
    Calls Tryd.prog 6 #[.agg #[.int .i64 c.rev, .slice c.ba c.bn c.bc, .slice c.na c.nn c.nc, .int .i64 c.seq, .slice c.sa c.sn c.sc, .slice c.ha c.hn c.hc, .bool c.jo], .slice aa an ac, .int .i64 who, .agg #[.int .i64 m.mr, .int .i64 m.e.who, .int .i64 m.e.seq, .slice m.e.ao m.e.n m.e.cap]] w fun e w' => e = .returned (.bool true) ∧ Below w.heap.size w w' := by
  have hV : Below w.heap.size w (boxmg m (boxk c w)) := (boxk_below c w).trans ((boxmg_below m _).mono (boxk_below c w).size)
  have HV : Hid (Below w.heap.size w (boxmg m (boxk c w))) := hV
  have hP : Blk (boxmg m (boxk c w)) (w.heap.size) (cvC c) 51 := (boxk_blk c w).alloc _
  have hQ : Blk (boxmg m (boxk c w)) (w.heap.size + 1) (mgC m) 53 := by have := boxmg_blk m (boxk c w); rw [boxk_size] at this; exact this
  have HCM : Hid (∀ w', Below (boxmg m (boxk c w)).heap.size (boxmg m (boxk c w)) w' → Blk w' (w.heap.size) (cvC c) 51 ∧ Blk w' (w.heap.size + 1) (mgC m) 53) := fun w' hb => ⟨(hb.block _ hP.lt).trans hP, (hb.block _ hQ.lt).trans hQ⟩
  have HSC : Hid (∀ w', Below (boxmg m (boxk c w)).heap.size (boxmg m (boxk c w)) w' → Sch w') := fun w' hb => (hS.below hV).below hb
  have HCB : Hid (∀ w', Below (boxmg m (boxk c w)).heap.size (boxmg m (boxk c w)) w' → Cli w' c) := fun w' hb => (hC.below hV).below hb
  have HOA : Hid (∀ w', Below (boxmg m (boxk c w)).heap.size (boxmg m (boxk c w)) w' → Ops w' aa an ac ws) := fun w' hb => (hA.below hV).below hb
  have HOM : Hid (∀ w', Below (boxmg m (boxk c w)).heap.size (boxmg m (boxk c w)) w' → Ops w' m.e.ao m.e.n m.e.cap m.e.vs) := fun w' hb => (hM.below hV).below hb
  have CH : Hid (∀ w', Below (boxmg m (boxk c w)).heap.size (boxmg m (boxk c w)) w' → Calls Tryd.prog 29 #[] w' fun e w'' => e = .returned (.bool true) ∧ Below w'.heap.size w' w'') := fun w' hb => heard_any w' (HSC.out w' hb)
  obtain ⟨E2, hE2⟩ : ∃ E, Kl.HearE c.cl who m.mr m.e.en = E := ⟨_, rfl⟩
  obtain ⟨S2, hS2⟩ : ∃ S, Kl.HearS c.cl who m.mr m.e.en = S := ⟨_, rfl⟩
  obtain ⟨C2, hC2⟩ : ∃ C, Kl.HearC c.cl who m.mr m.e.en = C := ⟨_, rfl⟩
  have HHR : Hid (∀ w', Below (boxmg m (boxk c w)).heap.size (boxmg m (boxk c w)) w' → Calls Tryd.prog 28 #[.agg #[.int .i64 c.rev, .slice c.ba c.bn c.bc, .slice c.na c.nn c.nc, .int .i64 c.seq, .slice c.sa c.sn c.sc, .slice c.ha c.hn c.hc, .bool c.jo], .int .i64 who, .agg #[.int .i64 m.mr, .int .i64 m.e.who, .int .i64 m.e.seq, .slice m.e.ao m.e.n m.e.cap]] w' fun e w'' => (∃ q, e = .returned (.tuple #[.agg #[.int .i64 q.rev, .slice q.ba q.bn q.bc, .slice q.na q.nn q.nc, .int .i64 q.seq, .slice q.sa q.sn q.sc, .slice q.ha q.hn q.hc, .bool q.jo], .bool S2, .int .i64 E2]) ∧ Cli w'' q ∧ q.cl = C2) ∧ Below w'.heap.size w' w'') := fun w' hb => by
    have := Hear_any c who m w' (HCB.out w' hb) (HOM.out w' hb) (HSC.out w' hb)
    rw [hE2, hS2, hC2] at this
    exact this
  have HKK : Hid (E2 = 0 → Kl.Hk c.cl C2 m.e.en.o S2) := fun h => by
    obtain ⟨g1, g2, g3, g4⟩ := Kl.hear_0 (hE2.trans h)
    rw [← hC2, ← hS2, g3, g4]
    exact Kl.hear_hk g1 g2
  have HKR : Hid (E2 = 0 → Kl.Rc c.cl) := fun h => (Kl.hear_0 (hE2.trans h)).1
  have C1 : Hid (Calls Tryd.prog 26 #[.agg #[.int .i64 c.rev, .slice c.ba c.bn c.bc, .slice c.na c.nn c.nc, .int .i64 c.seq, .slice c.sa c.sn c.sc, .slice c.ha c.hn c.hc, .bool c.jo], .slice aa an ac] (boxmg m (boxk c w)) fun e w' => (∃ q, e = .returned (.tuple #[.agg #[.int .i64 q.rev, .slice q.ba q.bn q.bc, .slice q.na q.nn q.nc, .int .i64 q.seq, .slice q.sa q.sn q.sc, .slice q.ha q.hn q.hc, .bool q.jo], .bool (Kl.DoS c.cl (ws.map PV.pt)), .int .i64 (Kl.DoE c.cl (ws.map PV.pt))]) ∧ Cli w' q ∧ q.cl = (Kl.DoC c.cl (ws.map PV.pt))) ∧ Below (boxmg m (boxk c w)).heap.size (boxmg m (boxk c w)) w') := Do_any c aa an ac ws _ (hC.below hV) (hA.below hV) (hS.below hV)
  clear hC hA hM hS hV hP hQ hE2 hS2 hC2
  obtain ⟨E, hE⟩ : ∃ E, Kl.DoE c.cl (ws.map PV.pt) = E := ⟨_, rfl⟩
  have HE : Hid (Kl.DoE c.cl (ws.map PV.pt) = E) := hE
  rw [hE] at C1
  clear hE
  generalize Kl.DoS c.cl (ws.map PV.pt) = S1 at *
  go_enter Tryd.func6, Tryd.ntmps6
  go_upto_region 1 with fail
  change Code.wp Tryd.prog _ _ _ (boxmg m (boxk c w))
  generalize (boxmg m (boxk c w)) = V at *
  have hB := HCM.out V (Below.refl _ _)
  have p0 : V.cell? ⟨w.heap.size, 0, none⟩ = some (.int .i64 c.rev) := hB.1.cell 0
  have p1 : V.cell? ⟨w.heap.size, 1, none⟩ = some (.slice c.ba c.bn c.bc) := hB.1.cell 1
  have p2 : V.cell? ⟨w.heap.size, 2, none⟩ = some (.slice c.na c.nn c.nc) := hB.1.cell 2
  have p3 : V.cell? ⟨w.heap.size, 3, none⟩ = some (.int .i64 c.seq) := hB.1.cell 3
  have p4 : V.cell? ⟨w.heap.size, 4, none⟩ = some (.slice c.sa c.sn c.sc) := hB.1.cell 4
  have p5 : V.cell? ⟨w.heap.size, 5, none⟩ = some (.slice c.ha c.hn c.hc) := hB.1.cell 5
  have p6 : V.cell? ⟨w.heap.size, 6, none⟩ = some (.bool c.jo) := hB.1.cell 6
  clear hB
  go_wp2_with fail
  refine C1.out.mono ?_
  rintro e w1 ⟨⟨x, rfl, hx, hxc⟩, hb⟩
  have HX : Hid (Cli (boxk x w1) x) := hx.below (boxk_below x w1)
  have HXC : Hid (x.cl = Kl.DoC c.cl (ws.map PV.pt)) := hxc
  have HB2 : Hid (Below V.heap.size V (boxk x w1)) := hb.trans ((boxk_below x w1).mono hb.size)
  have HBX : Hid (Blk (boxk x w1) w1.heap.size (cvC x) 51) := boxk_blk x w1
  clear hx hxc hb C1
  clear p0 p1 p2 p3 p4 p5 p6
  go_upto_region 2 with fail
  change Code.wp Tryd.prog _ _ _ (boxk x w1)
  generalize boxk x w1 = W2 at *
  generalize w1.heap.size = b1 at *
  by_cases hz : E = 0
  · obtain ⟨g1, g2, g3, g4⟩ := Kl.do_0 (HE.out.trans hz)
    obtain ⟨k1, k2, k3, k4, k5, k6⟩ := Kl.do_rc (Kl.cli_0 g1) g2
    rw [← g3, ← HXC.out] at k1 k3 k4 k5 k6
    have CA : Hid (Calls Tryd.prog 24 #[.slice c.na c.nn c.nc, .slice aa an ac] W2 fun e w' => (∃ a' n' c', e = .returned (.tuple #[.slice a' n' c', .int .i64 0]) ∧ Doc w' a' n' c' x.now) ∧ Below W2.heap.size W2 w') := by
      have := apply_any _ _ _ _ _ _ _ _ _ (HCB.out _ HB2.out).now (HOA.out _ HB2.out) (HSC.out _ HB2.out)
      rw [show Ac.fitE c.now (ws.map PV.pt) = 0 from k2, show Ac.done c.now (ws.map PV.pt) = x.now from k3.symm] at this
      exact this.mono fun e w' ⟨⟨a', c', h1, h2⟩, hb⟩ => ⟨⟨a', _, c', h1, h2⟩, hb⟩
    have HXE : Hid (Kl.cliE x.cl = 0) := k1.e0
    have HXB : Hid (x.base = c.base) := k4
    have hrv : (x.rev != c.rev) = false := by have : x.rev = c.rev := k5; rw [this]; simp
    subst hz
    clear g1 g2 g3 g4 k1 k2 k3 k4 k5 k6 HE
    have hB := HCM.out W2 HB2.out
    have p0 : W2.cell? ⟨w.heap.size, 0, none⟩ = some (.int .i64 c.rev) := hB.1.cell 0
    have p1 : W2.cell? ⟨w.heap.size, 1, none⟩ = some (.slice c.ba c.bn c.bc) := hB.1.cell 1
    have p2 : W2.cell? ⟨w.heap.size, 2, none⟩ = some (.slice c.na c.nn c.nc) := hB.1.cell 2
    have p3 : W2.cell? ⟨w.heap.size, 3, none⟩ = some (.int .i64 c.seq) := hB.1.cell 3
    have p4 : W2.cell? ⟨w.heap.size, 4, none⟩ = some (.slice c.sa c.sn c.sc) := hB.1.cell 4
    have p5 : W2.cell? ⟨w.heap.size, 5, none⟩ = some (.slice c.ha c.hn c.hc) := hB.1.cell 5
    have p6 : W2.cell? ⟨w.heap.size, 6, none⟩ = some (.bool c.jo) := hB.1.cell 6
    clear hB
    go_wp2_with fail
    refine CA.out.mono ?_
    rintro e w3 ⟨⟨a6, n6, c6, rfl, hd⟩, hb⟩
    have HB3 : Hid (Below V.heap.size V w3) := HB2.out.trans (hb.mono HB2.out.size)
    have HX3 : Hid (Cli w3 x) := HX.out.below hb
    have HBX3 : Hid (Blk w3 b1 (cvC x) 51) := (hb.block _ HBX.out.lt).trans HBX.out
    have HD3 : Hid (Doc w3 a6 n6 c6 x.now) := hd
    clear hd hb CA HX HBX HB2
    clear p0 p1 p2 p3 p4 p5 p6
    have CC : Hid (Calls Tryd.prog 27 #[.agg #[.int .i64 x.rev, .slice x.ba x.bn x.bc, .slice x.na x.nn x.nc, .int .i64 x.seq, .slice x.sa x.sn x.sc, .slice x.ha x.hn x.hc, .bool x.jo]] w3 fun e w' => e = .returned (.int .i64 0) ∧ Below w3.heap.size w3 w') := by have := cliE_any x w3 HX3.out (HSC.out _ HB3.out); rw [HXE.out] at this; exact this
    have z0 : w3.cell? ⟨b1, 0, none⟩ = some (.int .i64 x.rev) := HBX3.out.cell 0
    have z1 : w3.cell? ⟨b1, 1, none⟩ = some (.slice x.ba x.bn x.bc) := HBX3.out.cell 1
    have z2 : w3.cell? ⟨b1, 2, none⟩ = some (.slice x.na x.nn x.nc) := HBX3.out.cell 2
    have z3 : w3.cell? ⟨b1, 3, none⟩ = some (.int .i64 x.seq) := HBX3.out.cell 3
    have z4 : w3.cell? ⟨b1, 4, none⟩ = some (.slice x.sa x.sn x.sc) := HBX3.out.cell 4
    have z5 : w3.cell? ⟨b1, 5, none⟩ = some (.slice x.ha x.hn x.hc) := HBX3.out.cell 5
    have z6 : w3.cell? ⟨b1, 6, none⟩ = some (.bool x.jo) := HBX3.out.cell 6
    go_wp2_with fail
    refine CC.out.mono ?_
    rintro e w4 ⟨rfl, hb⟩
    have HB4 : Hid (Below V.heap.size V w4) := HB3.out.trans (hb.mono HB3.out.size)
    have HX4 : Hid (Cli w4 x) := HX3.out.below hb
    have HBX4 : Hid (Blk w4 b1 (cvC x) 51) := (hb.block _ HBX3.out.lt).trans HBX3.out
    have CS : Hid (Calls Tryd.prog 23 #[.slice a6 n6 c6, .slice x.na x.nn x.nc] w4 fun e w' => e = .returned (.bool true) ∧ Below w4.heap.size w4 w') := same_true (HD3.out.below hb) HX4.out.now rfl
    clear hb CC HX3 HBX3 HB3 HD3
    clear z0 z1 z2 z3 z4 z5 z6
    have z0 : w4.cell? ⟨b1, 0, none⟩ = some (.int .i64 x.rev) := HBX4.out.cell 0
    have z1 : w4.cell? ⟨b1, 1, none⟩ = some (.slice x.ba x.bn x.bc) := HBX4.out.cell 1
    have z2 : w4.cell? ⟨b1, 2, none⟩ = some (.slice x.na x.nn x.nc) := HBX4.out.cell 2
    have z3 : w4.cell? ⟨b1, 3, none⟩ = some (.int .i64 x.seq) := HBX4.out.cell 3
    have z4 : w4.cell? ⟨b1, 4, none⟩ = some (.slice x.sa x.sn x.sc) := HBX4.out.cell 4
    have z5 : w4.cell? ⟨b1, 5, none⟩ = some (.slice x.ha x.hn x.hc) := HBX4.out.cell 5
    have z6 : w4.cell? ⟨b1, 6, none⟩ = some (.bool x.jo) := HBX4.out.cell 6
    go_wp2_with fail
    refine CS.out.mono ?_
    rintro e w5 ⟨rfl, hb⟩
    have HB5 : Hid (Below V.heap.size V w5) := HB4.out.trans (hb.mono HB4.out.size)
    have HX5 : Hid (Cli w5 x) := HX4.out.below hb
    have HBX5 : Hid (Blk w5 b1 (cvC x) 51) := (hb.block _ HBX4.out.lt).trans HBX4.out
    have CS2 : Hid (Calls Tryd.prog 23 #[.slice x.ba x.bn x.bc, .slice c.ba c.bn c.bc] w5 fun e w' => e = .returned (.bool true) ∧ Below w5.heap.size w5 w') := same_true HX5.out.base (HCB.out _ HB5.out).base HXB.out
    clear hb CS HX4 HBX4 HB4
    clear z0 z1 z2 z3 z4 z5 z6
    have hB := HCM.out w5 HB5.out
    have z0 : w5.cell? ⟨b1, 0, none⟩ = some (.int .i64 x.rev) := HBX5.out.cell 0
    have z1 : w5.cell? ⟨b1, 1, none⟩ = some (.slice x.ba x.bn x.bc) := HBX5.out.cell 1
    have z2 : w5.cell? ⟨b1, 2, none⟩ = some (.slice x.na x.nn x.nc) := HBX5.out.cell 2
    have z3 : w5.cell? ⟨b1, 3, none⟩ = some (.int .i64 x.seq) := HBX5.out.cell 3
    have z4 : w5.cell? ⟨b1, 4, none⟩ = some (.slice x.sa x.sn x.sc) := HBX5.out.cell 4
    have z5 : w5.cell? ⟨b1, 5, none⟩ = some (.slice x.ha x.hn x.hc) := HBX5.out.cell 5
    have z6 : w5.cell? ⟨b1, 6, none⟩ = some (.bool x.jo) := HBX5.out.cell 6
    have p0 : w5.cell? ⟨w.heap.size, 0, none⟩ = some (.int .i64 c.rev) := hB.1.cell 0
    have p1 : w5.cell? ⟨w.heap.size, 1, none⟩ = some (.slice c.ba c.bn c.bc) := hB.1.cell 1
    have p2 : w5.cell? ⟨w.heap.size, 2, none⟩ = some (.slice c.na c.nn c.nc) := hB.1.cell 2
    have p3 : w5.cell? ⟨w.heap.size, 3, none⟩ = some (.int .i64 c.seq) := hB.1.cell 3
    have p4 : w5.cell? ⟨w.heap.size, 4, none⟩ = some (.slice c.sa c.sn c.sc) := hB.1.cell 4
    have p5 : w5.cell? ⟨w.heap.size, 5, none⟩ = some (.slice c.ha c.hn c.hc) := hB.1.cell 5
    have p6 : w5.cell? ⟨w.heap.size, 6, none⟩ = some (.bool c.jo) := hB.1.cell 6
    clear hB
    go_wp2_with fail
    refine CS2.out.mono ?_
    rintro e w6 ⟨rfl, hb⟩
    have HB6 : Hid (Below V.heap.size V w6) := HB5.out.trans (hb.mono HB5.out.size)
    have HBX6 : Hid (Blk w6 b1 (cvC x) 51) := (hb.block _ HBX5.out.lt).trans HBX5.out
    clear hb CS2 HX5 HBX5 HB5
    clear z0 z1 z2 z3 z4 z5 z6
    clear p0 p1 p2 p3 p4 p5 p6
    have hB := HCM.out w6 HB6.out
    have z0 : w6.cell? ⟨b1, 0, none⟩ = some (.int .i64 x.rev) := HBX6.out.cell 0
    have z1 : w6.cell? ⟨b1, 1, none⟩ = some (.slice x.ba x.bn x.bc) := HBX6.out.cell 1
    have z2 : w6.cell? ⟨b1, 2, none⟩ = some (.slice x.na x.nn x.nc) := HBX6.out.cell 2
    have z3 : w6.cell? ⟨b1, 3, none⟩ = some (.int .i64 x.seq) := HBX6.out.cell 3
    have z4 : w6.cell? ⟨b1, 4, none⟩ = some (.slice x.sa x.sn x.sc) := HBX6.out.cell 4
    have z5 : w6.cell? ⟨b1, 5, none⟩ = some (.slice x.ha x.hn x.hc) := HBX6.out.cell 5
    have z6 : w6.cell? ⟨b1, 6, none⟩ = some (.bool x.jo) := HBX6.out.cell 6
    have p0 : w6.cell? ⟨w.heap.size, 0, none⟩ = some (.int .i64 c.rev) := hB.1.cell 0
    have p1 : w6.cell? ⟨w.heap.size, 1, none⟩ = some (.slice c.ba c.bn c.bc) := hB.1.cell 1
    have p2 : w6.cell? ⟨w.heap.size, 2, none⟩ = some (.slice c.na c.nn c.nc) := hB.1.cell 2
    have p3 : w6.cell? ⟨w.heap.size, 3, none⟩ = some (.int .i64 c.seq) := hB.1.cell 3
    have p4 : w6.cell? ⟨w.heap.size, 4, none⟩ = some (.slice c.sa c.sn c.sc) := hB.1.cell 4
    have p5 : w6.cell? ⟨w.heap.size, 5, none⟩ = some (.slice c.ha c.hn c.hc) := hB.1.cell 5
    have p6 : w6.cell? ⟨w.heap.size, 6, none⟩ = some (.bool c.jo) := hB.1.cell 6
    clear hB
    go_upto_region 6 with fail
    clear z0 z1 z2 z3 z4 z5 z6
    clear p0 p1 p2 p3 p4 p5 p6
    have hB := HCM.out w6 HB6.out
    have p0 : w6.cell? ⟨w.heap.size, 0, none⟩ = some (.int .i64 c.rev) := hB.1.cell 0
    have p1 : w6.cell? ⟨w.heap.size, 1, none⟩ = some (.slice c.ba c.bn c.bc) := hB.1.cell 1
    have p2 : w6.cell? ⟨w.heap.size, 2, none⟩ = some (.slice c.na c.nn c.nc) := hB.1.cell 2
    have p3 : w6.cell? ⟨w.heap.size, 3, none⟩ = some (.int .i64 c.seq) := hB.1.cell 3
    have p4 : w6.cell? ⟨w.heap.size, 4, none⟩ = some (.slice c.sa c.sn c.sc) := hB.1.cell 4
    have p5 : w6.cell? ⟨w.heap.size, 5, none⟩ = some (.slice c.ha c.hn c.hc) := hB.1.cell 5
    have p6 : w6.cell? ⟨w.heap.size, 6, none⟩ = some (.bool c.jo) := hB.1.cell 6
    have q0 : w6.cell? ⟨w.heap.size + 1, 0, none⟩ = some (.int .i64 m.mr) := hB.2.cell 0
    have q1 : w6.cell? ⟨w.heap.size + 1, 1, none⟩ = some (.int .i64 m.e.who) := hB.2.cell 1
    have q2 : w6.cell? ⟨w.heap.size + 1, 2, none⟩ = some (.int .i64 m.e.seq) := hB.2.cell 2
    have q3 : w6.cell? ⟨w.heap.size + 1, 3, none⟩ = some (.slice m.e.ao m.e.n m.e.cap) := hB.2.cell 3
    clear hB
    have CE : Hid (Calls Tryd.prog 28 #[.agg #[.int .i64 c.rev, .slice c.ba c.bn c.bc, .slice c.na c.nn c.nc, .int .i64 c.seq, .slice c.sa c.sn c.sc, .slice c.ha c.hn c.hc, .bool c.jo], .int .i64 who, .agg #[.int .i64 m.mr, .int .i64 m.e.who, .int .i64 m.e.seq, .slice m.e.ao m.e.n m.e.cap]] w6 fun e w' => (∃ q, e = .returned (.tuple #[.agg #[.int .i64 q.rev, .slice q.ba q.bn q.bc, .slice q.na q.nn q.nc, .int .i64 q.seq, .slice q.sa q.sn q.sc, .slice q.ha q.hn q.hc, .bool q.jo], .bool S2, .int .i64 E2]) ∧ Cli w' q ∧ q.cl = C2) ∧ Below w6.heap.size w6 w') := HHR.out w6 HB6.out
    go_wp2_with fail
    refine CE.out.mono ?_
    rintro e w7 ⟨⟨y, rfl, hy, hyc⟩, hb⟩
    have hb7 : Below V.heap.size V w7 := (HB6.out).trans (hb.mono (HB6.out).size)
    have HYC : Hid (y.cl = C2) := hyc
    have HY : Hid (Cli (boxk y w7) y) := hy.below (boxk_below y w7)
    have HBY : Hid (Blk (boxk y w7) w7.heap.size (cvC y) 51) := boxk_blk y w7
    have HB8 : Hid (Below V.heap.size V (boxk y w7)) := hb7.trans ((boxk_below y w7).mono hb7.size)
    clear hy hyc hb hb7 CE
    clear p0 p1 p2 p3 p4 p5 p6
    clear q0 q1 q2 q3
    go_upto_region 7 with fail
    change Code.wp Tryd.prog _ _ _ (boxk y w7)
    generalize boxk y w7 = W8 at *
    generalize w7.heap.size = b2 at *
    go_wp2_with fail
    refine (CH.out _ HB8.out).mono ?_
    rintro e w9 ⟨rfl, hb⟩
    have HB9 : Hid (Below V.heap.size V w9) := HB8.out.trans (hb.mono HB8.out.size)
    have HY9 : Hid (Cli w9 y) := HY.out.below hb
    have HBY9 : Hid (Blk w9 b2 (cvC y) 51) := (hb.block _ HBY.out.lt).trans HBY.out
    clear hb HY HBY HB8
    by_cases h2 : E2 = 0
    · have hk := HKK.out h2
      rw [← HYC.out] at hk
      have HK : Hid (Kl.Hk c.cl y.cl m.e.en.o S2) := hk
      have HR : Hid (Kl.Rc c.cl) := HKR.out h2
      clear hk HKK HKR
      subst h2
      have CC : Hid (Calls Tryd.prog 27 #[.agg #[.int .i64 y.rev, .slice y.ba y.bn y.bc, .slice y.na y.nn y.nc, .int .i64 y.seq, .slice y.sa y.sn y.sc, .slice y.ha y.hn y.hc, .bool y.jo]] w9 fun e w' => e = .returned (.int .i64 0) ∧ Below w9.heap.size w9 w') := by have := cliE_any y w9 HY9.out (HSC.out _ HB9.out); rw [HK.out.rc.e0] at this; exact this
      have z0 : w9.cell? ⟨b2, 0, none⟩ = some (.int .i64 y.rev) := HBY9.out.cell 0
      have z1 : w9.cell? ⟨b2, 1, none⟩ = some (.slice y.ba y.bn y.bc) := HBY9.out.cell 1
      have z2 : w9.cell? ⟨b2, 2, none⟩ = some (.slice y.na y.nn y.nc) := HBY9.out.cell 2
      have z3 : w9.cell? ⟨b2, 3, none⟩ = some (.int .i64 y.seq) := HBY9.out.cell 3
      have z4 : w9.cell? ⟨b2, 4, none⟩ = some (.slice y.sa y.sn y.sc) := HBY9.out.cell 4
      have z5 : w9.cell? ⟨b2, 5, none⟩ = some (.slice y.ha y.hn y.hc) := HBY9.out.cell 5
      have z6 : w9.cell? ⟨b2, 6, none⟩ = some (.bool y.jo) := HBY9.out.cell 6
      go_wp2_with fail
      refine CC.out.mono ?_
      rintro e wa ⟨rfl, hb⟩
      have HBA : Hid (Below V.heap.size V wa) := HB9.out.trans (hb.mono HB9.out.size)
      have HYA : Hid (Cli wa y) := HY9.out.below hb
      have HBYA : Hid (Blk wa b2 (cvC y) 51) := (hb.block _ HBY9.out.lt).trans HBY9.out
      clear hb HY9 HBY9 HB9 CC
      clear z0 z1 z2 z3 z4 z5 z6
      have hB := HCM.out wa HBA.out
      have p0 : wa.cell? ⟨w.heap.size, 0, none⟩ = some (.int .i64 c.rev) := hB.1.cell 0
      have p1 : wa.cell? ⟨w.heap.size, 1, none⟩ = some (.slice c.ba c.bn c.bc) := hB.1.cell 1
      have p2 : wa.cell? ⟨w.heap.size, 2, none⟩ = some (.slice c.na c.nn c.nc) := hB.1.cell 2
      have p3 : wa.cell? ⟨w.heap.size, 3, none⟩ = some (.int .i64 c.seq) := hB.1.cell 3
      have p4 : wa.cell? ⟨w.heap.size, 4, none⟩ = some (.slice c.sa c.sn c.sc) := hB.1.cell 4
      have p5 : wa.cell? ⟨w.heap.size, 5, none⟩ = some (.slice c.ha c.hn c.hc) := hB.1.cell 5
      have p6 : wa.cell? ⟨w.heap.size, 6, none⟩ = some (.bool c.jo) := hB.1.cell 6
      have q0 : wa.cell? ⟨w.heap.size + 1, 0, none⟩ = some (.int .i64 m.mr) := hB.2.cell 0
      have q1 : wa.cell? ⟨w.heap.size + 1, 1, none⟩ = some (.int .i64 m.e.who) := hB.2.cell 1
      have q2 : wa.cell? ⟨w.heap.size + 1, 2, none⟩ = some (.int .i64 m.e.seq) := hB.2.cell 2
      have q3 : wa.cell? ⟨w.heap.size + 1, 3, none⟩ = some (.slice m.e.ao m.e.n m.e.cap) := hB.2.cell 3
      have z0 : wa.cell? ⟨b2, 0, none⟩ = some (.int .i64 y.rev) := HBYA.out.cell 0
      have z1 : wa.cell? ⟨b2, 1, none⟩ = some (.slice y.ba y.bn y.bc) := HBYA.out.cell 1
      have z2 : wa.cell? ⟨b2, 2, none⟩ = some (.slice y.na y.nn y.nc) := HBYA.out.cell 2
      have z3 : wa.cell? ⟨b2, 3, none⟩ = some (.int .i64 y.seq) := HBYA.out.cell 3
      have z4 : wa.cell? ⟨b2, 4, none⟩ = some (.slice y.sa y.sn y.sc) := HBYA.out.cell 4
      have z5 : wa.cell? ⟨b2, 5, none⟩ = some (.slice y.ha y.hn y.hc) := HBYA.out.cell 5
      have z6 : wa.cell? ⟨b2, 6, none⟩ = some (.bool y.jo) := HBYA.out.cell 6
      clear hB
      have r1 : c.rev ≤ y.rev := HK.out.lo
      have r2 : y.rev ≤ c.rev + 1 := HK.out.hi
      have r3 : (0 : Int) ≤ c.rev := HR.out.lo
      have r4 : c.rev ≤ 60 := HR.out.hi
      have r5 : (0 : Int) ≤ c.seq := HR.out.qlo
      have r6 : c.seq ≤ 10000 := HR.out.qhi
      have hw1 : IntKind.i64.wrap (c.rev + 1) = c.rev + 1 := IntWalk.i64_in _ ⟨by omega, by omega⟩
      have hw2 : IntKind.i64.wrap (c.seq + 1) = c.seq + 1 := IntWalk.i64_in _ ⟨by omega, by omega⟩
      have hd1 : decide (y.rev < c.rev) = false := by simp; omega
      have hd2 : decide (c.rev + 1 < y.rev) = false := by simp; omega
      have hw3 : wrap64 (c.rev + 1) = c.rev + 1 := by unfold wrap64; omega
      have hw4 : wrap64 (c.seq + 1) = c.seq + 1 := by unfold wrap64; omega
      have hjo : (y.jo != c.jo) = false := by have : y.jo = c.jo := HK.out.jo; rw [this]; simp
      rw [show y.jo = c.jo from HK.out.jo] at z6
      clear r1 r2 r3 r4 r5 r6
      cases S2
      · by_cases hrv : y.rev = c.rev
        · have hb1 : (y.rev == c.rev) = true := by simp [hrv]
          have CS : Hid (Calls Tryd.prog 23 #[.slice y.ba y.bn y.bc, .slice c.ba c.bn c.bc] wa fun e w' => e = .returned (.bool true) ∧ Below wa.heap.size wa w') := same_true HYA.out.base (HCB.out _ HBA.out).base (HK.out.old hrv)
          clear hrv
          go_wp2_with fail
          refine CS.out.mono ?_
          rintro e wb ⟨rfl, hb⟩
          have HBB : Hid (Below V.heap.size V wb) := HBA.out.trans (hb.mono HBA.out.size)
          clear hb
          go_wp2
          go_ret
          exact ⟨rfl, HV.out.trans (HBB.out.mono HV.out.size)⟩
        · have hb1 : (y.rev == c.rev) = false := by simp [hrv]
          obtain ⟨hf, hbs⟩ := HK.out.new hrv
          have CA : Hid (Calls Tryd.prog 24 #[.slice c.ba c.bn c.bc, .slice m.e.ao m.e.n m.e.cap] wa fun e w' => (∃ a' n' c', e = .returned (.tuple #[.slice a' n' c', .int .i64 0]) ∧ Doc w' a' n' c' y.base) ∧ Below wa.heap.size wa w') := by
            have := apply_any _ _ _ _ _ _ _ _ _ (HCB.out _ HBA.out).base (HOM.out _ HBA.out) (HSC.out _ HBA.out)
            rw [show Ac.fitE c.base (m.e.vs.map PV.pt) = 0 from hf, show Ac.done c.base (m.e.vs.map PV.pt) = y.base from hbs.symm] at this
            exact this.mono fun e w' ⟨⟨a', c', h1, h2⟩, hb⟩ => ⟨⟨a', _, c', h1, h2⟩, hb⟩
          clear hrv hf hbs
          go_wp2_with fail
          refine CA.out.mono ?_
          rintro e wb ⟨⟨a6, n6, c6, rfl, hd⟩, hb⟩
          have HBB : Hid (Below V.heap.size V wb) := HBA.out.trans (hb.mono HBA.out.size)
          have CS : Hid (Calls Tryd.prog 23 #[.slice a6 n6 c6, .slice y.ba y.bn y.bc] wb fun e w' => e = .returned (.bool true) ∧ Below wb.heap.size wb w') := same_true hd (HYA.out.below hb).base rfl
          have hbl : Blk wb b2 (cvC y) 51 := (hb.block _ HBYA.out.lt).trans HBYA.out
          clear hd hb CA
          clear p0 p1 p2 p3 p4 p5 p6
          clear q0 q1 q2 q3
          clear z0 z1 z2 z3 z4 z5 z6
          have z1 : wb.cell? ⟨b2, 1, none⟩ = some (.slice y.ba y.bn y.bc) := hbl.cell 1
          clear hbl
          go_wp2_with fail
          refine CS.out.mono ?_
          rintro e wd ⟨rfl, hb⟩
          have HBD : Hid (Below V.heap.size V wd) := HBB.out.trans (hb.mono HBB.out.size)
          clear hb
          go_wp2
          go_ret
          exact ⟨rfl, HV.out.trans (HBD.out.mono HV.out.size)⟩
      · have hs := HK.out.sent rfl
        have hsn : y.sn ≠ 0 := by have e := len_pt HYA.out.sent; have h3 : 0 < (y.sent.map PV.pt).length := hs.1; omega
        have hs1 : ((y.sn : Int) == 0) = false := by simp; omega
        have hs2 : (y.sn == 0) = false := by simp; omega
        have hsq : (y.seq != c.seq + 1) = false := by have : y.seq = c.seq + 1 := hs.2; rw [this]; simp
        clear hs hsn
        by_cases hrv : y.rev = c.rev
        · have hb1 : (y.rev == c.rev) = true := by simp [hrv]
          have CS : Hid (Calls Tryd.prog 23 #[.slice y.ba y.bn y.bc, .slice c.ba c.bn c.bc] wa fun e w' => e = .returned (.bool true) ∧ Below wa.heap.size wa w') := same_true HYA.out.base (HCB.out _ HBA.out).base (HK.out.old hrv)
          clear hrv
          go_wp2_with fail
          refine CS.out.mono ?_
          rintro e wb ⟨rfl, hb⟩
          have HBB : Hid (Below V.heap.size V wb) := HBA.out.trans (hb.mono HBA.out.size)
          clear hb
          go_wp2
          go_ret
          exact ⟨rfl, HV.out.trans (HBB.out.mono HV.out.size)⟩
        · have hb1 : (y.rev == c.rev) = false := by simp [hrv]
          obtain ⟨hf, hbs⟩ := HK.out.new hrv
          have CA : Hid (Calls Tryd.prog 24 #[.slice c.ba c.bn c.bc, .slice m.e.ao m.e.n m.e.cap] wa fun e w' => (∃ a' n' c', e = .returned (.tuple #[.slice a' n' c', .int .i64 0]) ∧ Doc w' a' n' c' y.base) ∧ Below wa.heap.size wa w') := by
            have := apply_any _ _ _ _ _ _ _ _ _ (HCB.out _ HBA.out).base (HOM.out _ HBA.out) (HSC.out _ HBA.out)
            rw [show Ac.fitE c.base (m.e.vs.map PV.pt) = 0 from hf, show Ac.done c.base (m.e.vs.map PV.pt) = y.base from hbs.symm] at this
            exact this.mono fun e w' ⟨⟨a', c', h1, h2⟩, hb⟩ => ⟨⟨a', _, c', h1, h2⟩, hb⟩
          clear hrv hf hbs
          go_wp2_with fail
          refine CA.out.mono ?_
          rintro e wb ⟨⟨a6, n6, c6, rfl, hd⟩, hb⟩
          have HBB : Hid (Below V.heap.size V wb) := HBA.out.trans (hb.mono HBA.out.size)
          have CS : Hid (Calls Tryd.prog 23 #[.slice a6 n6 c6, .slice y.ba y.bn y.bc] wb fun e w' => e = .returned (.bool true) ∧ Below wb.heap.size wb w') := same_true hd (HYA.out.below hb).base rfl
          have hbl : Blk wb b2 (cvC y) 51 := (hb.block _ HBYA.out.lt).trans HBYA.out
          clear hd hb CA
          clear p0 p1 p2 p3 p4 p5 p6
          clear q0 q1 q2 q3
          clear z0 z1 z2 z3 z4 z5 z6
          have z1 : wb.cell? ⟨b2, 1, none⟩ = some (.slice y.ba y.bn y.bc) := hbl.cell 1
          clear hbl
          go_wp2_with fail
          refine CS.out.mono ?_
          rintro e wd ⟨rfl, hb⟩
          have HBD : Hid (Below V.heap.size V wd) := HBB.out.trans (hb.mono HBB.out.size)
          clear hb
          go_wp2
          go_ret
          exact ⟨rfl, HV.out.trans (HBD.out.mono HV.out.size)⟩
    · have hne : (E2 != 0) = true := by simp [h2]
      go_wp2_with fail
      refine (CH.out _ HB9.out).mono ?_
      rintro e wa ⟨rfl, hb⟩
      have HBA : Hid (Below V.heap.size V wa) := HB9.out.trans (hb.mono HB9.out.size)
      clear hb
      go_wp2
      go_ret
      exact ⟨rfl, HV.out.trans (HBA.out.mono HV.out.size)⟩
  · have hne : (E == 0) = false := by simp [hz]
    have HB6 : Hid (Below V.heap.size V W2) := HB2.out
    go_upto_region 6 with fail
    have hB := HCM.out W2 HB6.out
    have p0 : W2.cell? ⟨w.heap.size, 0, none⟩ = some (.int .i64 c.rev) := hB.1.cell 0
    have p1 : W2.cell? ⟨w.heap.size, 1, none⟩ = some (.slice c.ba c.bn c.bc) := hB.1.cell 1
    have p2 : W2.cell? ⟨w.heap.size, 2, none⟩ = some (.slice c.na c.nn c.nc) := hB.1.cell 2
    have p3 : W2.cell? ⟨w.heap.size, 3, none⟩ = some (.int .i64 c.seq) := hB.1.cell 3
    have p4 : W2.cell? ⟨w.heap.size, 4, none⟩ = some (.slice c.sa c.sn c.sc) := hB.1.cell 4
    have p5 : W2.cell? ⟨w.heap.size, 5, none⟩ = some (.slice c.ha c.hn c.hc) := hB.1.cell 5
    have p6 : W2.cell? ⟨w.heap.size, 6, none⟩ = some (.bool c.jo) := hB.1.cell 6
    have q0 : W2.cell? ⟨w.heap.size + 1, 0, none⟩ = some (.int .i64 m.mr) := hB.2.cell 0
    have q1 : W2.cell? ⟨w.heap.size + 1, 1, none⟩ = some (.int .i64 m.e.who) := hB.2.cell 1
    have q2 : W2.cell? ⟨w.heap.size + 1, 2, none⟩ = some (.int .i64 m.e.seq) := hB.2.cell 2
    have q3 : W2.cell? ⟨w.heap.size + 1, 3, none⟩ = some (.slice m.e.ao m.e.n m.e.cap) := hB.2.cell 3
    clear hB
    have CE : Hid (Calls Tryd.prog 28 #[.agg #[.int .i64 c.rev, .slice c.ba c.bn c.bc, .slice c.na c.nn c.nc, .int .i64 c.seq, .slice c.sa c.sn c.sc, .slice c.ha c.hn c.hc, .bool c.jo], .int .i64 who, .agg #[.int .i64 m.mr, .int .i64 m.e.who, .int .i64 m.e.seq, .slice m.e.ao m.e.n m.e.cap]] W2 fun e w' => (∃ q, e = .returned (.tuple #[.agg #[.int .i64 q.rev, .slice q.ba q.bn q.bc, .slice q.na q.nn q.nc, .int .i64 q.seq, .slice q.sa q.sn q.sc, .slice q.ha q.hn q.hc, .bool q.jo], .bool S2, .int .i64 E2]) ∧ Cli w' q ∧ q.cl = C2) ∧ Below W2.heap.size W2 w') := HHR.out W2 HB6.out
    go_wp2_with fail
    refine CE.out.mono ?_
    rintro e w7 ⟨⟨y, rfl, hy, hyc⟩, hb⟩
    have hb7 : Below V.heap.size V w7 := (HB6.out).trans (hb.mono (HB6.out).size)
    have HYC : Hid (y.cl = C2) := hyc
    have HY : Hid (Cli (boxk y w7) y) := hy.below (boxk_below y w7)
    have HBY : Hid (Blk (boxk y w7) w7.heap.size (cvC y) 51) := boxk_blk y w7
    have HB8 : Hid (Below V.heap.size V (boxk y w7)) := hb7.trans ((boxk_below y w7).mono hb7.size)
    clear hy hyc hb hb7 CE
    clear p0 p1 p2 p3 p4 p5 p6
    clear q0 q1 q2 q3
    go_upto_region 7 with fail
    change Code.wp Tryd.prog _ _ _ (boxk y w7)
    generalize boxk y w7 = W8 at *
    generalize w7.heap.size = b2 at *
    go_wp2_with fail
    refine (CH.out _ HB8.out).mono ?_
    rintro e w9 ⟨rfl, hb⟩
    have HB9 : Hid (Below V.heap.size V w9) := HB8.out.trans (hb.mono HB8.out.size)
    have HY9 : Hid (Cli w9 y) := HY.out.below hb
    have HBY9 : Hid (Blk w9 b2 (cvC y) 51) := (hb.block _ HBY.out.lt).trans HBY.out
    clear hb HY HBY HB8
    by_cases h2 : E2 = 0
    · have hk := HKK.out h2
      rw [← HYC.out] at hk
      have HK : Hid (Kl.Hk c.cl y.cl m.e.en.o S2) := hk
      have HR : Hid (Kl.Rc c.cl) := HKR.out h2
      clear hk HKK HKR
      subst h2
      have CC : Hid (Calls Tryd.prog 27 #[.agg #[.int .i64 y.rev, .slice y.ba y.bn y.bc, .slice y.na y.nn y.nc, .int .i64 y.seq, .slice y.sa y.sn y.sc, .slice y.ha y.hn y.hc, .bool y.jo]] w9 fun e w' => e = .returned (.int .i64 0) ∧ Below w9.heap.size w9 w') := by have := cliE_any y w9 HY9.out (HSC.out _ HB9.out); rw [HK.out.rc.e0] at this; exact this
      have z0 : w9.cell? ⟨b2, 0, none⟩ = some (.int .i64 y.rev) := HBY9.out.cell 0
      have z1 : w9.cell? ⟨b2, 1, none⟩ = some (.slice y.ba y.bn y.bc) := HBY9.out.cell 1
      have z2 : w9.cell? ⟨b2, 2, none⟩ = some (.slice y.na y.nn y.nc) := HBY9.out.cell 2
      have z3 : w9.cell? ⟨b2, 3, none⟩ = some (.int .i64 y.seq) := HBY9.out.cell 3
      have z4 : w9.cell? ⟨b2, 4, none⟩ = some (.slice y.sa y.sn y.sc) := HBY9.out.cell 4
      have z5 : w9.cell? ⟨b2, 5, none⟩ = some (.slice y.ha y.hn y.hc) := HBY9.out.cell 5
      have z6 : w9.cell? ⟨b2, 6, none⟩ = some (.bool y.jo) := HBY9.out.cell 6
      go_wp2_with fail
      refine CC.out.mono ?_
      rintro e wa ⟨rfl, hb⟩
      have HBA : Hid (Below V.heap.size V wa) := HB9.out.trans (hb.mono HB9.out.size)
      have HYA : Hid (Cli wa y) := HY9.out.below hb
      have HBYA : Hid (Blk wa b2 (cvC y) 51) := (hb.block _ HBY9.out.lt).trans HBY9.out
      clear hb HY9 HBY9 HB9 CC
      clear z0 z1 z2 z3 z4 z5 z6
      have hB := HCM.out wa HBA.out
      have p0 : wa.cell? ⟨w.heap.size, 0, none⟩ = some (.int .i64 c.rev) := hB.1.cell 0
      have p1 : wa.cell? ⟨w.heap.size, 1, none⟩ = some (.slice c.ba c.bn c.bc) := hB.1.cell 1
      have p2 : wa.cell? ⟨w.heap.size, 2, none⟩ = some (.slice c.na c.nn c.nc) := hB.1.cell 2
      have p3 : wa.cell? ⟨w.heap.size, 3, none⟩ = some (.int .i64 c.seq) := hB.1.cell 3
      have p4 : wa.cell? ⟨w.heap.size, 4, none⟩ = some (.slice c.sa c.sn c.sc) := hB.1.cell 4
      have p5 : wa.cell? ⟨w.heap.size, 5, none⟩ = some (.slice c.ha c.hn c.hc) := hB.1.cell 5
      have p6 : wa.cell? ⟨w.heap.size, 6, none⟩ = some (.bool c.jo) := hB.1.cell 6
      have q0 : wa.cell? ⟨w.heap.size + 1, 0, none⟩ = some (.int .i64 m.mr) := hB.2.cell 0
      have q1 : wa.cell? ⟨w.heap.size + 1, 1, none⟩ = some (.int .i64 m.e.who) := hB.2.cell 1
      have q2 : wa.cell? ⟨w.heap.size + 1, 2, none⟩ = some (.int .i64 m.e.seq) := hB.2.cell 2
      have q3 : wa.cell? ⟨w.heap.size + 1, 3, none⟩ = some (.slice m.e.ao m.e.n m.e.cap) := hB.2.cell 3
      have z0 : wa.cell? ⟨b2, 0, none⟩ = some (.int .i64 y.rev) := HBYA.out.cell 0
      have z1 : wa.cell? ⟨b2, 1, none⟩ = some (.slice y.ba y.bn y.bc) := HBYA.out.cell 1
      have z2 : wa.cell? ⟨b2, 2, none⟩ = some (.slice y.na y.nn y.nc) := HBYA.out.cell 2
      have z3 : wa.cell? ⟨b2, 3, none⟩ = some (.int .i64 y.seq) := HBYA.out.cell 3
      have z4 : wa.cell? ⟨b2, 4, none⟩ = some (.slice y.sa y.sn y.sc) := HBYA.out.cell 4
      have z5 : wa.cell? ⟨b2, 5, none⟩ = some (.slice y.ha y.hn y.hc) := HBYA.out.cell 5
      have z6 : wa.cell? ⟨b2, 6, none⟩ = some (.bool y.jo) := HBYA.out.cell 6
      clear hB
      have r1 : c.rev ≤ y.rev := HK.out.lo
      have r2 : y.rev ≤ c.rev + 1 := HK.out.hi
      have r3 : (0 : Int) ≤ c.rev := HR.out.lo
      have r4 : c.rev ≤ 60 := HR.out.hi
      have r5 : (0 : Int) ≤ c.seq := HR.out.qlo
      have r6 : c.seq ≤ 10000 := HR.out.qhi
      have hw1 : IntKind.i64.wrap (c.rev + 1) = c.rev + 1 := IntWalk.i64_in _ ⟨by omega, by omega⟩
      have hw2 : IntKind.i64.wrap (c.seq + 1) = c.seq + 1 := IntWalk.i64_in _ ⟨by omega, by omega⟩
      have hd1 : decide (y.rev < c.rev) = false := by simp; omega
      have hd2 : decide (c.rev + 1 < y.rev) = false := by simp; omega
      have hw3 : wrap64 (c.rev + 1) = c.rev + 1 := by unfold wrap64; omega
      have hw4 : wrap64 (c.seq + 1) = c.seq + 1 := by unfold wrap64; omega
      have hjo : (y.jo != c.jo) = false := by have : y.jo = c.jo := HK.out.jo; rw [this]; simp
      rw [show y.jo = c.jo from HK.out.jo] at z6
      clear r1 r2 r3 r4 r5 r6
      cases S2
      · by_cases hrv : y.rev = c.rev
        · have hb1 : (y.rev == c.rev) = true := by simp [hrv]
          have CS : Hid (Calls Tryd.prog 23 #[.slice y.ba y.bn y.bc, .slice c.ba c.bn c.bc] wa fun e w' => e = .returned (.bool true) ∧ Below wa.heap.size wa w') := same_true HYA.out.base (HCB.out _ HBA.out).base (HK.out.old hrv)
          clear hrv
          go_wp2_with fail
          refine CS.out.mono ?_
          rintro e wb ⟨rfl, hb⟩
          have HBB : Hid (Below V.heap.size V wb) := HBA.out.trans (hb.mono HBA.out.size)
          clear hb
          go_wp2
          go_ret
          exact ⟨rfl, HV.out.trans (HBB.out.mono HV.out.size)⟩
        · have hb1 : (y.rev == c.rev) = false := by simp [hrv]
          obtain ⟨hf, hbs⟩ := HK.out.new hrv
          have CA : Hid (Calls Tryd.prog 24 #[.slice c.ba c.bn c.bc, .slice m.e.ao m.e.n m.e.cap] wa fun e w' => (∃ a' n' c', e = .returned (.tuple #[.slice a' n' c', .int .i64 0]) ∧ Doc w' a' n' c' y.base) ∧ Below wa.heap.size wa w') := by
            have := apply_any _ _ _ _ _ _ _ _ _ (HCB.out _ HBA.out).base (HOM.out _ HBA.out) (HSC.out _ HBA.out)
            rw [show Ac.fitE c.base (m.e.vs.map PV.pt) = 0 from hf, show Ac.done c.base (m.e.vs.map PV.pt) = y.base from hbs.symm] at this
            exact this.mono fun e w' ⟨⟨a', c', h1, h2⟩, hb⟩ => ⟨⟨a', _, c', h1, h2⟩, hb⟩
          clear hrv hf hbs
          go_wp2_with fail
          refine CA.out.mono ?_
          rintro e wb ⟨⟨a6, n6, c6, rfl, hd⟩, hb⟩
          have HBB : Hid (Below V.heap.size V wb) := HBA.out.trans (hb.mono HBA.out.size)
          have CS : Hid (Calls Tryd.prog 23 #[.slice a6 n6 c6, .slice y.ba y.bn y.bc] wb fun e w' => e = .returned (.bool true) ∧ Below wb.heap.size wb w') := same_true hd (HYA.out.below hb).base rfl
          have hbl : Blk wb b2 (cvC y) 51 := (hb.block _ HBYA.out.lt).trans HBYA.out
          clear hd hb CA
          clear p0 p1 p2 p3 p4 p5 p6
          clear q0 q1 q2 q3
          clear z0 z1 z2 z3 z4 z5 z6
          have z1 : wb.cell? ⟨b2, 1, none⟩ = some (.slice y.ba y.bn y.bc) := hbl.cell 1
          clear hbl
          go_wp2_with fail
          refine CS.out.mono ?_
          rintro e wd ⟨rfl, hb⟩
          have HBD : Hid (Below V.heap.size V wd) := HBB.out.trans (hb.mono HBB.out.size)
          clear hb
          go_wp2
          go_ret
          exact ⟨rfl, HV.out.trans (HBD.out.mono HV.out.size)⟩
      · have hs := HK.out.sent rfl
        have hsn : y.sn ≠ 0 := by have e := len_pt HYA.out.sent; have h3 : 0 < (y.sent.map PV.pt).length := hs.1; omega
        have hs1 : ((y.sn : Int) == 0) = false := by simp; omega
        have hs2 : (y.sn == 0) = false := by simp; omega
        have hsq : (y.seq != c.seq + 1) = false := by have : y.seq = c.seq + 1 := hs.2; rw [this]; simp
        clear hs hsn
        by_cases hrv : y.rev = c.rev
        · have hb1 : (y.rev == c.rev) = true := by simp [hrv]
          have CS : Hid (Calls Tryd.prog 23 #[.slice y.ba y.bn y.bc, .slice c.ba c.bn c.bc] wa fun e w' => e = .returned (.bool true) ∧ Below wa.heap.size wa w') := same_true HYA.out.base (HCB.out _ HBA.out).base (HK.out.old hrv)
          clear hrv
          go_wp2_with fail
          refine CS.out.mono ?_
          rintro e wb ⟨rfl, hb⟩
          have HBB : Hid (Below V.heap.size V wb) := HBA.out.trans (hb.mono HBA.out.size)
          clear hb
          go_wp2
          go_ret
          exact ⟨rfl, HV.out.trans (HBB.out.mono HV.out.size)⟩
        · have hb1 : (y.rev == c.rev) = false := by simp [hrv]
          obtain ⟨hf, hbs⟩ := HK.out.new hrv
          have CA : Hid (Calls Tryd.prog 24 #[.slice c.ba c.bn c.bc, .slice m.e.ao m.e.n m.e.cap] wa fun e w' => (∃ a' n' c', e = .returned (.tuple #[.slice a' n' c', .int .i64 0]) ∧ Doc w' a' n' c' y.base) ∧ Below wa.heap.size wa w') := by
            have := apply_any _ _ _ _ _ _ _ _ _ (HCB.out _ HBA.out).base (HOM.out _ HBA.out) (HSC.out _ HBA.out)
            rw [show Ac.fitE c.base (m.e.vs.map PV.pt) = 0 from hf, show Ac.done c.base (m.e.vs.map PV.pt) = y.base from hbs.symm] at this
            exact this.mono fun e w' ⟨⟨a', c', h1, h2⟩, hb⟩ => ⟨⟨a', _, c', h1, h2⟩, hb⟩
          clear hrv hf hbs
          go_wp2_with fail
          refine CA.out.mono ?_
          rintro e wb ⟨⟨a6, n6, c6, rfl, hd⟩, hb⟩
          have HBB : Hid (Below V.heap.size V wb) := HBA.out.trans (hb.mono HBA.out.size)
          have CS : Hid (Calls Tryd.prog 23 #[.slice a6 n6 c6, .slice y.ba y.bn y.bc] wb fun e w' => e = .returned (.bool true) ∧ Below wb.heap.size wb w') := same_true hd (HYA.out.below hb).base rfl
          have hbl : Blk wb b2 (cvC y) 51 := (hb.block _ HBYA.out.lt).trans HBYA.out
          clear hd hb CA
          clear p0 p1 p2 p3 p4 p5 p6
          clear q0 q1 q2 q3
          clear z0 z1 z2 z3 z4 z5 z6
          have z1 : wb.cell? ⟨b2, 1, none⟩ = some (.slice y.ba y.bn y.bc) := hbl.cell 1
          clear hbl
          go_wp2_with fail
          refine CS.out.mono ?_
          rintro e wd ⟨rfl, hb⟩
          have HBD : Hid (Below V.heap.size V wd) := HBB.out.trans (hb.mono HBB.out.size)
          clear hb
          go_wp2
          go_ret
          exact ⟨rfl, HV.out.trans (HBD.out.mono HV.out.size)⟩
    · have hne : (E2 != 0) = true := by simp [h2]
      go_wp2_with fail
      refine (CH.out _ HB9.out).mono ?_
      rintro e wa ⟨rfl, hb⟩
      have HBA : Hid (Below V.heap.size V wa) := HB9.out.trans (hb.mono HB9.out.size)
      clear hb
      go_wp2
      go_ret
      exact ⟨rfl, HV.out.trans (HBA.out.mono HV.out.size)⟩
end Go.Proofs.YtbhcklkbckacpaaDoor
