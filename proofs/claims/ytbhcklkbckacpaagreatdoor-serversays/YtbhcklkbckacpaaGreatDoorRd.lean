/-
  The reference's changed item.
-/
import Derived.Test.YtbhcklkbckacpaaGreatDoorRc
namespace Go.Proofs.YtbhcklkbckacpaaGreatDoor
open Go.RowKit

theorem szIt (y : It) : (Tryz.prog.info? 39).map (·.size) = some (itCells [y]).toArray.size := by
  have h : (Tryz.prog.info? 39).map (·.size) = some 3 := by kernel_rfl
  exact h
theorem ret_item {fn : Func} {p : Tmp} {y : It} {w : World} {g : Nat} (h : fn.results = #[.cell p 39]) (tmps : Array Value) (hp : tmps.getD p undef = .pointer (some ⟨g, 0, none⟩)) (hB : Blk w g (itCells [y]) 39) : (results fn tmps).run Tryz.prog w = .ok (.agg #[.int .u8 y.c.toNat, .int .i64 y.m, .string y.l]) w :=
  results_cell_row h tmps w g 39 (itCells [y]).toArray (0, 0) _ hp hB Tryz.underlying39 rfl (szIt y)
def putI (w : World) (g : Nat) (y : It) : World := ((w.setCell ⟨g, 0, none⟩ (.int .u8 y.c.toNat)).setCell ⟨g, 1, none⟩ (.int .i64 y.m)).setCell ⟨g, 2, none⟩ (.string y.l)
theorem putI_blk {w : World} {g : Nat} {x y : It} (h : Blk w g (itCells [x]) 39) : Blk (putI w g y) g (itCells [y]) 39 := ((h.set 0 (.int .u8 y.c.toNat)).set 1 (.int .i64 y.m)).set 2 (.string y.l)
theorem putI_below (w : World) (g : Nat) (y : It) : Below g w (putI w g y) := (((Below.refl g w).setCell (Nat.le_refl _) _).setCell (Nat.le_refl _) _).setCell (Nat.le_refl _) _
theorem itm_blk (x : It) (w : World) : Blk (boxed x w) w.heap.size (itCells [x]) 39 := Blk.new w _ _

set_option maxRecDepth 100000 in
set_option maxHeartbeats 3200000 in
theorem changedR_any (x : It) (p : PV) (w : World) (hm : Ac.m4 x.m) (hs : Ac.m4 p.set) (hc : Ac.m4 p.clr) :
    Calls Tryz.prog 159 #[.agg #[.int .u8 x.c.toNat, .int .i64 x.m, .string x.l], .agg #[.int .i64 p.kind, .int .i64 p.n, .slice p.ao p.m p.cap, .int .i64 p.set, .int .i64 p.clr, .bool p.goes, .string p.link]] w fun e w' => e = .returned (.agg #[.int .u8 (Ac.change x (Ac.chOf p.pt)).c.toNat, .int .i64 (Ac.change x (Ac.chOf p.pt)).m, .string (Ac.change x (Ac.chOf p.pt)).l]) ∧ Below w.heap.size w w' := by
  obtain ⟨kind, n, ao, m, cap, items, st, cl, gs, lk⟩ := p
  simp only at hs hc
  obtain ⟨y, hy⟩ : ∃ y, Ac.change x (Ac.chOf (PV.pt ⟨kind, n, ao, m, cap, items, st, cl, gs, lk⟩)) = y := ⟨_, rfl⟩
  have HY : Hid (Ac.change x ⟨st, cl, gs, lk⟩ = y) := hy
  rw [hy]
  clear hy
  have s1 : (boxed x w).heap.size = w.heap.size + 1 := World.size_alloc ..
  have s2 : (boxp ⟨kind, n, ao, m, cap, items, st, cl, gs, lk⟩ (boxed x w)).heap.size = w.heap.size + 2 := by rw [boxp_size, s1]
  have HX : Hid (Blk (boxed it0 (boxp ⟨kind, n, ao, m, cap, items, st, cl, gs, lk⟩ (boxed x w))) w.heap.size (itCells [x]) 39) := ((itm_blk x w).alloc _).alloc _
  have HP : Hid (Blk (boxed it0 (boxp ⟨kind, n, ao, m, cap, items, st, cl, gs, lk⟩ (boxed x w))) (w.heap.size + 1) (pvC ⟨kind, n, ao, m, cap, items, st, cl, gs, lk⟩) 162) := by
    have := (boxp_blk ⟨kind, n, ao, m, cap, items, st, cl, gs, lk⟩ (boxed x w)).alloc (.cells (itCells [it0]).toArray 39)
    rw [s1] at this
    exact this
  have HZ : Hid (Blk (boxed it0 (boxp ⟨kind, n, ao, m, cap, items, st, cl, gs, lk⟩ (boxed x w))) (w.heap.size + 2) (itCells [it0]) 39) := by
    have := itm_blk it0 (boxp ⟨kind, n, ao, m, cap, items, st, cl, gs, lk⟩ (boxed x w))
    rw [s2] at this
    exact this
  have H1 : Hid (Below w.heap.size w (boxed it0 (boxp ⟨kind, n, ao, m, cap, items, st, cl, gs, lk⟩ (boxed x w)))) := (((Below.refl _ _).alloc (Nat.le_refl _) _).alloc (by simp) _).alloc (by simp; omega) _
  have hand : bits .and .i64 x.m cl = ((x.m.toNat &&& cl.toNat : Nat) : Int) := bits_and (by unfold Ac.areM; simp; exact hm) (by unfold Ac.areM; simp; exact hc)
  have hle : x.m.toNat &&& cl.toNat ≤ x.m.toNat := Nat.and_le_left
  obtain ⟨av, hav⟩ : ∃ av, x.m.toNat &&& cl.toNat = av := ⟨_, rfl⟩
  have hsub : x.m - (av : Int) = Ac.less x.m cl := by unfold Ac.less; rw [hav]; have := hm.1; omega
  rw [hav] at hand hle
  have hl4 : Ac.m4 (Ac.less x.m cl) := Ac.less_m4 hm hc
  have hor : bits .or .i64 (x.m - (av : Int)) st = Ac.mark x.m cl st := by rw [hsub]; exact (bits_or hl4 hs).trans mark_both
  have hx0 := hm.1
  have hx3 := hm.2
  have hav3 : av ≤ 3 := by omega
  clear hav hsub hl4 hm hs hc s1 s2
  have hnx : x.m = x.m := rfl
  obtain ⟨mk, hmk⟩ : ∃ mk, Ac.mark x.m cl st = mk := ⟨_, rfl⟩
  have HMK : Hid (Ac.mark x.m cl st = mk) := hmk
  rw [hmk] at hor
  clear hmk hnx
  go_enter Tryz.func159, Tryz.ntmps159
  go_upto_region 1 with fail
  change Code.wp Tryz.prog _ _ _ (boxed it0 (boxp ⟨kind, n, ao, m, cap, items, st, cl, gs, lk⟩ (boxed x w)))
  generalize boxed it0 (boxp ⟨kind, n, ao, m, cap, items, st, cl, gs, lk⟩ (boxed x w)) = W at *
  have a0 : W.cell? ⟨w.heap.size, 0, none⟩ = some (.int .u8 x.c.toNat) := HX.out.cell 0
  have a1 : W.cell? ⟨w.heap.size, 1, none⟩ = some (.int .i64 x.m) := HX.out.cell 1
  have a2 : W.cell? ⟨w.heap.size, 2, none⟩ = some (.string x.l) := HX.out.cell 2
  have f1 := HX.out.frozen 1
  have f2 := HX.out.frozen 2
  have b3 : W.cell? ⟨w.heap.size + 1, 3, none⟩ = some (.int .i64 st) := HP.out.cell 3
  have b4 : W.cell? ⟨w.heap.size + 1, 4, none⟩ = some (.int .i64 cl) := HP.out.cell 4
  have b5 : W.cell? ⟨w.heap.size + 1, 5, none⟩ = some (.bool gs) := HP.out.cell 5
  have b6 : W.cell? ⟨w.heap.size + 1, 6, none⟩ = some (.string lk) := HP.out.cell 6
  have r0 : W.cell? ⟨w.heap.size + 2, 0, none⟩ = some (.int .u8 0) := HZ.out.cell 0
  have r1 : W.cell? ⟨w.heap.size + 2, 1, none⟩ = some (.int .i64 0) := HZ.out.cell 1
  have r2 : W.cell? ⟨w.heap.size + 2, 2, none⟩ = some (.string ⟨#[]⟩) := HZ.out.cell 2
  have g0 := HZ.out.frozen 0
  have g1 := HZ.out.frozen 1
  have g2 := HZ.out.frozen 2
  cases gs
  · obtain rfl : y = ⟨x.c, mk, x.l⟩ := by rw [← HY.out]; unfold Ac.change; rw [HMK.out]; rfl
    have HZ2 : Blk ((W.setCell ⟨w.heap.size, 1, none⟩ (.int .i64 (x.m - (av : Int)))).setCell ⟨w.heap.size, 1, none⟩ (.int .i64 mk)) (w.heap.size + 2) (itCells [it0]) 39 := (HZ.out.other _ _ (by simp)).other _ _ (by simp)
    have HB2 : Below w.heap.size w ((W.setCell ⟨w.heap.size, 1, none⟩ (.int .i64 (x.m - (av : Int)))).setCell ⟨w.heap.size, 1, none⟩ (.int .i64 mk)) := (H1.out.setCell (Nat.le_refl _) _).setCell (Nat.le_refl _) _
    go_wp2
    change bodyPost Tryz.prog _ _ Exit.ret _ (putI ((W.setCell ⟨w.heap.size, 1, none⟩ (.int .i64 (x.m - (av : Int)))).setCell ⟨w.heap.size, 1, none⟩ (.int .i64 mk)) (w.heap.size + 2) ⟨x.c, mk, x.l⟩)
    exact bodyPost_ret (ret_item (y := ⟨x.c, mk, x.l⟩) rfl _ rfl (putI_blk HZ2)) rfl ⟨rfl, HB2.trans ((putI_below _ _ _).mono (by omega))⟩
  · cases he : Dc.ends x
    · have hne : ((x.c.toNat : Int) != 10) = true := by have : ((x.c.toNat : Int) == 10) = false := he; simp at this ⊢; exact this
      obtain rfl : y = ⟨x.c, mk, lk⟩ := by rw [← HY.out]; unfold Ac.change; rw [he, HMK.out]; rfl
      have HZ2 : Blk (((W.setCell ⟨w.heap.size, 1, none⟩ (.int .i64 (x.m - (av : Int)))).setCell ⟨w.heap.size, 1, none⟩ (.int .i64 mk)).setCell ⟨w.heap.size, 2, none⟩ (.string lk)) (w.heap.size + 2) (itCells [it0]) 39 := ((HZ.out.other _ _ (by simp)).other _ _ (by simp)).other _ _ (by simp)
      have HB2 : Below w.heap.size w (((W.setCell ⟨w.heap.size, 1, none⟩ (.int .i64 (x.m - (av : Int)))).setCell ⟨w.heap.size, 1, none⟩ (.int .i64 mk)).setCell ⟨w.heap.size, 2, none⟩ (.string lk)) := ((H1.out.setCell (Nat.le_refl _) _).setCell (Nat.le_refl _) _).setCell (Nat.le_refl _) _
      go_wp2
      change bodyPost Tryz.prog _ _ Exit.ret _ (putI (((W.setCell ⟨w.heap.size, 1, none⟩ (.int .i64 (x.m - (av : Int)))).setCell ⟨w.heap.size, 1, none⟩ (.int .i64 mk)).setCell ⟨w.heap.size, 2, none⟩ (.string lk)) (w.heap.size + 2) ⟨x.c, mk, lk⟩)
      exact bodyPost_ret (ret_item (y := ⟨x.c, mk, lk⟩) rfl _ rfl (putI_blk HZ2)) rfl ⟨rfl, HB2.trans ((putI_below _ _ _).mono (by omega))⟩
    · have hne : ((x.c.toNat : Int) != 10) = false := by have : ((x.c.toNat : Int) == 10) = true := he; simp at this ⊢; exact this
      obtain rfl : y = ⟨x.c, mk, x.l⟩ := by rw [← HY.out]; unfold Ac.change; rw [he, HMK.out]; rfl
      have HZ2 : Blk ((W.setCell ⟨w.heap.size, 1, none⟩ (.int .i64 (x.m - (av : Int)))).setCell ⟨w.heap.size, 1, none⟩ (.int .i64 mk)) (w.heap.size + 2) (itCells [it0]) 39 := (HZ.out.other _ _ (by simp)).other _ _ (by simp)
      have HB2 : Below w.heap.size w ((W.setCell ⟨w.heap.size, 1, none⟩ (.int .i64 (x.m - (av : Int)))).setCell ⟨w.heap.size, 1, none⟩ (.int .i64 mk)) := (H1.out.setCell (Nat.le_refl _) _).setCell (Nat.le_refl _) _
      go_wp2
      change bodyPost Tryz.prog _ _ Exit.ret _ (putI ((W.setCell ⟨w.heap.size, 1, none⟩ (.int .i64 (x.m - (av : Int)))).setCell ⟨w.heap.size, 1, none⟩ (.int .i64 mk)) (w.heap.size + 2) ⟨x.c, mk, x.l⟩)
      exact bodyPost_ret (ret_item (y := ⟨x.c, mk, x.l⟩) rfl _ rfl (putI_blk HZ2)) rfl ⟨rfl, HB2.trans ((putI_below _ _ _).mono (by omega))⟩
end Go.Proofs.YtbhcklkbckacpaaGreatDoor
