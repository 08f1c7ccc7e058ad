/-
  Package server: a server with lists of its own.
-/
import Derived.Test.YtbhcklkbckacpaaGreatDoorVe
import Derived.Deep.Onto
namespace Go.Proofs.YtbhcklkbckacpaaGreatDoor
open Go.RowKit
theorem szSv (t : SV) : (Tryz.prog.info? 42).map (·.size) = some (svC t).toArray.size := by
  have h : (Tryz.prog.info? 42).map (·.size) = some 3 := by kernel_rfl
  exact h
theorem ret_srv {fn : Func} {p : Tmp} {t : SV} {w : World} {g : Nat} (h : fn.results = #[.cell p 42]) (tmps : Array Value) (hp : tmps.getD p undef = .pointer (some ⟨g, 0, none⟩)) (hB : Blk w g (svC t) 42) : (results fn tmps).run Tryz.prog w = .ok (svA t) w :=
  results_cell_row h tmps w g 42 (svC t).toArray (0, 0) _ hp hB Tryz.underlying42 rfl (szSv t)
def putS (w : World) (g : Nat) (t : SV) : World := ((w.setCell ⟨g, 0, none⟩ (.slice t.fa t.fn t.fc)).setCell ⟨g, 1, none⟩ (.slice t.la t.ln t.lc)).setCell ⟨g, 2, none⟩ (.slice t.na t.nn t.nc)
theorem putS_blk {w : World} {g : Nat} {x t : SV} (h : Blk w g (svC x) 42) : Blk (putS w g t) g (svC t) 42 := ((h.set 0 (.slice t.fa t.fn t.fc)).set 1 (.slice t.la t.ln t.lc)).set 2 (.slice t.na t.nn t.nc)
theorem putS_below (w : World) (g : Nat) (t : SV) : Below g w (putS w g t) := (((Below.refl g w).setCell (Nat.le_refl _) _).setCell (Nat.le_refl _) _).setCell (Nat.le_refl _) _
theorem putS_kept (w : World) (g : Nat) (t : SV) : Kept w (putS w g t) [g] := (((Kept.refl w [g]).setCell _ _ (.inl (by simp))).setCell _ _ (.inl (by simp))).setCell _ _ (.inl (by simp))
theorem putS_size (w : World) (g : Nat) (t : SV) : (putS w g t).heap.size = w.heap.size := by unfold putS; rw [World.size_setCell, World.size_setCell, World.size_setCell]
theorem evCells_set2 : ∀ (l : List EV) (k : Nat) (h : k < l.length) (a : Option Addr) (m c : Nat) (vs : List PV), (evCells l).set (k * 3 + 2) (.slice a m c) = evCells (l.set k { l[k] with ao := a, n := m, cap := c, vs := vs })
  | [], _, h, _, _, _, _ => by simp at h
  | x :: l, 0, _, a, m, c, vs => rfl
  | x :: l, k + 1, h, a, m, c, vs => by
    have := evCells_set2 l k (by simpa using h) a m c vs
    rw [show (k + 1) * 3 + 2 = k * 3 + 2 + 1 + 1 + 1 by omega]
    show (Value.int .i64 x.who :: Value.int .i64 x.seq :: Value.slice x.ao x.n x.cap :: evCells l).set _ _ = Value.int .i64 x.who :: Value.int .i64 x.seq :: Value.slice x.ao x.n x.cap :: evCells _
    simp only [List.set_cons_succ, List.getElem_cons_succ]
    rw [this]
theorem drew_step {W w' : World} (h : Below W.drew.heap.size W.drew w') : Below W.heap.size W w' := by
  have h1 : Below W.heap.size W W.drew := (Below.refl _ _).drew
  exact h1.trans (h.mono (by rw [World.size_drew]; exact Nat.le_refl _))
def Off (a l : Option Addr) : Prop := ∀ ad bd : Addr, a = some ad → l = some bd → ad.block ≠ bd.block
structure Cpy (B : Nat) (w : World) (t : SV) : Prop where
  first : Doc w t.fa t.fn t.fc t.first
  now : Doc w t.na t.nn t.nc t.now
  own : w.ownsRow B 46 3 (.slice t.la t.ln t.lc) t.ln (evCells t.log)
  offF : Off t.fa t.la
  offN : Off t.na t.la
  loF : ∀ ad : Addr, t.fa = some ad → B ≤ ad.block
  loN : ∀ ad : Addr, t.na = some ad → B ≤ ad.block
  ops : ∀ v ∈ t.log, ∀ bd : Addr, t.la = some bd → OpsFrom (bd.block + 1) w v.ao v.n v.cap v.vs
theorem Cpy.srv {B : Nat} {w : World} {t : SV} (h : Cpy B w t) : Srv w t := by
  obtain ⟨a, c, e, hr, -, hg⟩ := own_slice h.own
  simp only [Value.slice.injEq] at e
  obtain ⟨e1, -, e3⟩ := e
  rw [← e1, ← e3] at hr
  rw [← e1] at hg
  refine ⟨h.first, ⟨hr, fun v hv => ?_⟩, h.now⟩
  have hl := hr.len
  rw [evCells_len] at hl
  obtain ⟨g, hla⟩ := hg (by have := List.length_pos_of_mem hv; omega)
  exact (h.ops v hv _ hla).ops
theorem Cpy.below {B : Nat} {w w' : World} {t : SV} (h : Cpy B w t) (hb : Below w.heap.size w w') : Cpy B w' t :=
  ⟨h.first.below hb, h.now.below hb, own_under h.own hb, h.offF, h.offN, h.loF, h.loN, fun v hv bd e => (h.ops v hv bd e).below hb⟩

theorem Cpy.kept {B : Nat} {w w' : World} {t : SV} {S : List Nat} (h : Cpy B w t) (hk : Kept w w' S) (hS : ∀ x ∈ S, x < B) : Cpy B w' t :=
  ⟨h.first.kept hk (fun ad _ e hx => by have := h.loF ad e; have := hS _ hx; omega), h.now.kept hk (fun ad _ e hx => by have := h.loN ad e; have := hS _ hx; omega), own_keeps h.own hk (fun x hx e => by have := ownBlk_ge h.own x e; have := hS _ hx; omega), h.offF, h.offN, h.loF, h.loN, fun v hv bd e => (h.ops v hv bd e).kept hk (fun x hx => by have := ownBlk_ge h.own bd.block (by rw [e]; rfl); have := hS _ hx; omega)⟩
def midS (s : SV) (aF aL aN : Option Addr) (cF cL cN : Nat) (us : List EV) : SV := ⟨aF, s.fn, cF, s.first, aL, s.ln, cL, us, aN, s.nn, cN, s.now⟩
structure CopI (w : World) (s : SV) (aF aL aN : Option Addr) (cF cL cN k : Nat) (us : List EV) (wr : World) : Prop where
  hP : Blk wr w.heap.size (svC (midS s aF aL aN cF cL cN us)) 42
  hQ : Blk wr (w.heap.size + 1) (svC sv0) 42
  dF : Doc wr aF s.fn cF s.first
  dN : Doc wr aN s.nn cN s.now
  oL : wr.ownsRow (w.heap.size + 2) 46 3 (.slice aL s.ln cL) s.ln (evCells (us ++ s.log.drop k))
  oF : Off aF aL
  oN : Off aN aL
  lF : ∀ ad : Addr, aF = some ad → w.heap.size + 2 ≤ ad.block
  lN : ∀ ad : Addr, aN = some ad → w.heap.size + 2 ≤ ad.block
  blw : Below w.heap.size w wr
  len : us.length = k
  en : us.map EV.en = (s.log.take k).map EV.en
  ops : ∀ v ∈ us, ∀ bd : Addr, aL = some bd → OpsFrom (bd.block + 1) wr v.ao v.n v.cap v.vs
def CopR (w : World) (s : SV) (wr : World) : Prop := ∃ (aF aL aN : Option Addr) (cF cL cN : Nat), CopI w s aF aL aN cF cL cN 0 [] wr
theorem copy_mid {s : SV} {w W wX : World} {aF aL aN : Option Addr} {cF cL cN : Nat} (HP : Blk W w.heap.size (svC s) 42) (HQ : Blk W (w.heap.size + 1) (svC sv0) 42) (H1 : Below w.heap.size w W) (hB : Below W.heap.size W wX)
    (dF : Doc wX aF s.fn cF s.first) (dN : Doc wX aN s.nn cN s.now) (oL : wX.ownsRow (w.heap.size + 2) 46 3 (.slice aL s.ln cL) s.ln (evCells s.log)) (lF : ∀ ad : Addr, aF = some ad → w.heap.size + 2 ≤ ad.block) (lN : ∀ ad : Addr, aN = some ad → w.heap.size + 2 ≤ ad.block) (oF : Off aF aL) (oN : Off aN aL) :
    CopR w s (((wX.setCell ⟨w.heap.size, 0, none⟩ (.slice aF s.fn cF)).setCell ⟨w.heap.size, 1, none⟩ (.slice aL s.ln cL)).setCell ⟨w.heap.size, 2, none⟩ (.slice aN s.nn cN)) := by
  have hk := putS_kept wX w.heap.size (midS s aF aL aN cF cL cN [])
  have hP : Blk wX w.heap.size (svC s) 42 := (hB.block _ HP.lt).trans HP
  have hQ : Blk wX (w.heap.size + 1) (svC sv0) 42 := (hB.block _ HQ.lt).trans HQ
  have hblw : Below w.heap.size w wX := H1.trans (hB.mono H1.size)
  show CopR w s (putS wX w.heap.size (midS s aF aL aN cF cL cN []))
  exact ⟨aF, aL, aN, cF, cL, cN, putS_blk hP, hk.blk hQ (by simp), dF.kept hk (fun ad _ e hx => by have := lF ad e; simp at hx; omega), dN.kept hk (fun ad _ e hx => by have := lN ad e; simp at hx; omega),
    own_keeps oL hk (fun x hx e => by have := ownBlk_ge oL _ e; simp at hx; omega), oF, oN, lF, lN, hblw.trans ((putS_below _ _ _)), rfl, rfl, fun v hv => by cases hv⟩
theorem CopI.step {w : World} {s : SV} {aF aN : Option Addr} {cF cL cN k g : Nat} {us : List EV} {wr w2 : World} {a' : Option Addr} {c' : Nat} {vs' : List PV} (h : CopI w s aF (some ⟨g, 0, none⟩) aN cF cL cN k us wr) (hk : k < s.log.length) (hb : Below wr.heap.size wr w2)
    (ho : OpsFrom wr.heap.size w2 a' s.log[k].n c' vs') (hp : vs'.map PV.pt = s.log[k].vs.map PV.pt) :
    CopI w s aF (some ⟨g, 0, none⟩) aN cF cL cN (k + 1) (us ++ [{ s.log[k] with ao := a', cap := c', vs := vs' }]) (w2.setCell ⟨g, k * 3 + 2, none⟩ (.slice a' s.log[k].n c')) := by
  have hg : w.heap.size + 2 ≤ g ∧ g < wr.heap.size := h.oL.lt g rfl
  have hkp : Kept w2 (w2.setCell ⟨g, k * 3 + 2, none⟩ (.slice a' s.log[k].n c')) [g] := kept_set _ _ _ _ _ (by simp)
  have hP2 : Blk w2 w.heap.size _ 42 := (hb.block _ h.hP.lt).trans h.hP
  have hQ2 : Blk w2 (w.heap.size + 1) _ 42 := (hb.block _ h.hQ.lt).trans h.hQ
  have h2 : k < (us ++ s.log.drop k).length := by rw [List.length_append, List.length_drop, h.len]; omega
  refine ⟨hkp.blk hP2 (by simp; omega), hkp.blk hQ2 (by simp; omega), (h.dF.below hb).kept hkp (fun ad _ e hx => by have : ad.block ≠ g := h.oF ad _ e rfl; simp at hx; omega), (h.dN.below hb).kept hkp (fun ad _ e hx => by have : ad.block ≠ g := h.oN ad _ e rfl; simp at hx; omega), ?_, h.oF, h.oN, h.lF, h.lN, (h.blw.trans (hb.mono h.blw.size)).setCell (by show w.heap.size ≤ g; omega) _, by rw [List.length_append, h.len]; rfl, ?_, ?_⟩
  · have hst := ((own_under h.oL hb).stored (k * 3 + 2) (.slice a' s.log[k].n c')).1
    rw [evCells_set2 _ _ h2 a' s.log[k].n c' vs', get_mid us s.log k hk h.len h2, set_mid us s.log k hk h.len] at hst
    exact hst
  · rw [List.map_append, h.en, List.take_succ_eq_append_getElem hk, List.map_append]
    show _ ++ [(⟨s.log[k].who, s.log[k].seq, vs'.map PV.pt⟩ : Sv.En)] = _
    rw [hp]
    rfl
  · intro v hv bd e
    cases e
    rcases List.mem_append.1 hv with hv | hv
    · exact ((h.ops v hv _ rfl).below hb).kept hkp (fun x hx => by simp at hx; show x < g + 1; omega)
    · rw [List.mem_singleton] at hv
      subst hv
      exact (ho.mono (by show g + 1 ≤ wr.heap.size; omega)).kept hkp (fun x hx => by simp at hx; show x < g + 1; omega)
theorem CopI.done {w : World} {s : SV} {aF aL aN : Option Addr} {cF cL cN : Nat} {us : List EV} {wr : World} (h : CopI w s aF aL aN cF cL cN s.ln us wr) (hn : s.log.length = s.ln) :
    Blk (putS wr (w.heap.size + 1) (midS s aF aL aN cF cL cN us)) (w.heap.size + 1) (svC (midS s aF aL aN cF cL cN us)) 42 ∧ Cpy w.heap.size (putS wr (w.heap.size + 1) (midS s aF aL aN cF cL cN us)) (midS s aF aL aN cF cL cN us) ∧ (midS s aF aL aN cF cL cN us).se = s.se ∧ Below w.heap.size w (putS wr (w.heap.size + 1) (midS s aF aL aN cF cL cN us)) := by
  have hk := putS_kept wr (w.heap.size + 1) (midS s aF aL aN cF cL cN us)
  have hd : s.log.drop s.ln = [] := List.drop_eq_nil_of_le (by rw [hn]; exact Nat.le_refl _)
  have ht : s.log.take s.ln = s.log := List.take_of_length_le (by rw [hn]; exact Nat.le_refl _)
  have hoL := h.oL
  rw [hd, List.append_nil] at hoL
  have hen := h.en
  rw [ht] at hen
  refine ⟨putS_blk h.hQ, ⟨h.dF.kept hk (fun ad _ e hx => by have := h.lF ad e; simp at hx; omega), h.dN.kept hk (fun ad _ e hx => by have := h.lN ad e; simp at hx; omega), (own_keeps hoL hk (fun x hx e => by have := ownBlk_ge hoL _ e; simp at hx; omega)).mono (by omega), h.oF, h.oN, fun ad e => by have := h.lF ad e; omega, fun ad e => by have := h.lN ad e; omega, fun v hv bd e => (h.ops v hv bd e).kept hk (fun x hx => by have := ownBlk_ge hoL bd.block (by have e' : aL = some bd := e; rw [e']; rfl); simp at hx; omega)⟩, ?_, h.blw.trans ((putS_below _ _ _).mono (by omega))⟩
  show (⟨s.first, us.map EV.en, s.now⟩ : Sv.Se) = ⟨s.first, s.log.map EV.en, s.now⟩
  rw [hen]
end Go.Proofs.YtbhcklkbckacpaaGreatDoor
