/-
  The reference's Applied, of whatever document and operation.
-/
import Derived.Test.YtbhcklkbckacpaaDoorRe
import Derived.Test.YtbhcklkbckacpaaDoorG5
import Derived.Deep.RegionHeld3
namespace Go.Proofs.YtbhcklkbckacpaaDoor
open Go.RowKit

theorem al_blw (w : World) (o : Obj) : Below w.heap.size w (w.alloc o) := (Below.refl _ _).alloc (Nat.le_refl _) _
/-- Where the loop of Applied stands. -/
structure AplI (w3 : World) (ov : Value) (s : List It × Nat) (wr : World) : Prop where
  own : wr.ownsRow w3.heap.size 79 3 ov s.1.length (itCells s.1)
  blw : Below w3.heap.size w3 wr
  fit : Fit s.1
theorem AplI.push {w3 wr wa w8 : World} {ov : Value} {s s' : List It × Nat} {ov' : Value} (h : AplI w3 ov s wr) (hal : Below wr.heap.size wr wa) (hown : w8.ownsRow w3.heap.size 79 3 ov' s'.1.length (itCells s'.1)) (hg : wa.grownBy w8 ov.ownBlock) (hf : Fit s'.1) : AplI w3 ov' s' w8 := by
  refine ⟨hown, (h.blw.trans (hal.mono h.blw.size)).trans ⟨hg.os, hg.tape, hg.output, hg.size, fun k hk => hg.block k (by have := h.blw.size; have := hal.size; omega) (fun e => ?_)⟩, hf⟩
  have := ownBlk_ge h.own k e.symm
  omega

end Go.Proofs.YtbhcklkbckacpaaDoor
