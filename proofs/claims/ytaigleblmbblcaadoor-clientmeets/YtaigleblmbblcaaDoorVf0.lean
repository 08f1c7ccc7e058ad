/-
  Package server: a server with lists of its own.
-/
import Derived.Test.YtaigleblmbblcaaDoorVe
import Derived.Deep.Onto
namespace Go.Proofs.YtaigleblmbblcaaDoor
open Go.RowKit
def putS (w : World) (g : Nat) (t : SV) : World := ((w.setCell ⟨g, 0, none⟩ (.slice t.fa t.fn t.fc)).setCell ⟨g, 1, none⟩ (.slice t.la t.ln t.lc)).setCell ⟨g, 2, none⟩ (.slice t.na t.nn t.nc)
theorem putS_below (w : World) (g : Nat) (t : SV) : Below g w (putS w g t) := (((Below.refl g w).setCell (Nat.le_refl _) _).setCell (Nat.le_refl _) _).setCell (Nat.le_refl _) _
theorem putS_kept (w : World) (g : Nat) (t : SV) : Kept w (putS w g t) [g] := (((Kept.refl w [g]).setCell _ _ (.inl (by simp))).setCell _ _ (.inl (by simp))).setCell _ _ (.inl (by simp))
theorem putS_size (w : World) (g : Nat) (t : SV) : (putS w g t).heap.size = w.heap.size := by unfold putS; rw [World.size_setCell, World.size_setCell, World.size_setCell]
theorem evCells_set2 : ∀ (l : List EV) (k : Nat) (h : k < l.length) (a : Option Addr) (m c : Nat) (vs : List PV), (evCells l).set (k * 3 + 2) (.slice a m c) = evCells (l.set k { l[k] with ao := a, n := m, cap := c, vs := vs })
  | [], _, h, _, _, _, _ => by simp at h
  | x :: l, 0, _, a, m, c, vs => rfl
  | x :: l, k + 1, h, a, m, c, vs => by
    have := evCells_set2 l k (by simpa using h) a m c vs
    rw [show (k + 1) * 3 + 2 = k * 3 + 2 + 1 + 1 + 1 by omega]
    show (Value.int .i64 x.who :: Value.int .i64 x.seq :: Value.slice x.ao x.n x.cap :: evCells l).set _ _ = Value.int .i64 x.who :: Value.int .i64 x.seq :: Value.slice x.ao x.n x.cap :: evCells _
    simp only [List.set_cons_succ, List.getElem_cons_succ]
    rw [this]
theorem drew_step {W w' : World} (h : Below W.drew.heap.size W.drew w') : Below W.heap.size W w' := by
  have h1 : Below W.heap.size W W.drew := (Below.refl _ _).drew
  exact h1.trans (h.mono (by rw [World.size_drew]; exact Nat.le_refl _))
/-- A block that holds no list of entries that this one is. -/
def Off (a l : Option Addr) : Prop := ∀ ad bd : Addr, a = some ad → l = some bd → ad.block ≠ bd.block
/-- A server of the call's own. -/
structure Cpy (B : Nat) (w : World) (t : SV) : Prop where
  first : Doc w t.fa t.fn t.fc t.first
  now : Doc w t.na t.nn t.nc t.now
  own : w.ownsRow B 29 3 (.slice t.la t.ln t.lc) t.ln (evCells t.log)
  offF : Off t.fa t.la
  offN : Off t.na t.la
  loF : ∀ ad : Addr, t.fa = some ad → B ≤ ad.block
  loN : ∀ ad : Addr, t.na = some ad → B ≤ ad.block
  ops : ∀ v ∈ t.log, ∀ bd : Addr, t.la = some bd → OpsFrom (bd.block + 1) w v.ao v.n v.cap v.vs
theorem Cpy.srv {B : Nat} {w : World} {t : SV} (h : Cpy B w t) : Srv w t := by
  obtain ⟨a, c, e, hr, -, hg⟩ := own_slice h.own
  simp only [Value.slice.injEq] at e
  obtain ⟨e1, -, e3⟩ := e
  rw [← e1, ← e3] at hr
  rw [← e1] at hg
  refine ⟨h.first, ⟨hr, fun v hv => ?_⟩, h.now⟩
  have hl := hr.len
  rw [evCells_len] at hl
  obtain ⟨g, hla⟩ := hg (by have := List.length_pos_of_mem hv; omega)
  exact (h.ops v hv _ hla).ops
theorem Cpy.below {B : Nat} {w w' : World} {t : SV} (h : Cpy B w t) (hb : Below w.heap.size w w') : Cpy B w' t :=
  ⟨h.first.below hb, h.now.below hb, own_under h.own hb, h.offF, h.offN, h.loF, h.loN, fun v hv bd e => (h.ops v hv bd e).below hb⟩

theorem Cpy.kept {B : Nat} {w w' : World} {t : SV} {S : List Nat} (h : Cpy B w t) (hk : Kept w w' S) (hS : ∀ x ∈ S, x < B) : Cpy B w' t :=
  ⟨h.first.kept hk (fun ad _ e hx => by have := h.loF ad e; have := hS _ hx; omega), h.now.kept hk (fun ad _ e hx => by have := h.loN ad e; have := hS _ hx; omega), own_keeps h.own hk (fun x hx e => by have := ownBlk_ge h.own x e; have := hS _ hx; omega), h.offF, h.offN, h.loF, h.loN, fun v hv bd e => (h.ops v hv bd e).kept hk (fun x hx => by have := ownBlk_ge h.own bd.block (by rw [e]; rfl); have := hS _ hx; omega)⟩
def midS (s : SV) (aF aL aN : Option Addr) (cF cL cN : Nat) (us : List EV) : SV := ⟨aF, s.fn, cF, s.first, aL, s.ln, cL, us, aN, s.nn, cN, s.now⟩
end Go.Proofs.YtaigleblmbblcaaDoor
