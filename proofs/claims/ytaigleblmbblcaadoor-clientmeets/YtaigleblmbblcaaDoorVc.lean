/-
  Package server: what the log has; servers held against each other.
-/
import Derived.Test.YtaigleblmbblcaaDoorVb
namespace Go.Proofs.YtaigleblmbblcaaDoor
open Go.RowKit
def boxi (x : Int) (w : World) : World := w.alloc (.cells #[.int .i64 x] 3)
theorem boxi_below (x : Int) (w : World) : Below w.heap.size w (boxi x w) := (Below.refl _ _).alloc (Nat.le_refl _) _
theorem boxi_blk (x : Int) (w : World) : Blk (boxi x w) w.heap.size [.int .i64 x] 3 := Blk.new w _ _

theorem drewN_belowS (w : World) (m : Nat) : Below w.heap.size w (w.drewN m) := drewN_blw w m
end Go.Proofs.YtaigleblmbblcaaDoor
