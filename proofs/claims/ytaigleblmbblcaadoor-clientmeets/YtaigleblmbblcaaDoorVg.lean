/-
  Package server: an operation behind others; what is wrong with what is to be taken.
-/
import Derived.Test.YtaigleblmbblcaaDoorVe
namespace Go.Proofs.YtaigleblmbblcaaDoor
open Go.RowKit
theorem OpsFrom.poke {B : Nat} {w : World} {a : Option Addr} {n c : Nat} {vs : List PV} {g : Nat} {a0 : Option Addr} {n0 c0 : Nat} {T : TypeId} (h : OpsFrom B w a n c vs) (hB : Blk w g [.slice a0 n0 c0] T) (v : Value) : OpsFrom B (w.setCell ⟨g, 0, none⟩ v) a n c vs := ⟨h.ops.poke hB v, h.row, h.its⟩

def boxop (a : Option Addr) (n c : Nat) (w : World) : World := w.alloc (.cells #[.slice a n c] 25)
theorem boxop_below (a : Option Addr) (n c : Nat) (w : World) : Below w.heap.size w (boxop a n c w) := (Below.refl _ _).alloc (Nat.le_refl _) _
theorem boxop_blk (a : Option Addr) (n c : Nat) (w : World) : Blk (boxop a n c w) w.heap.size [.slice a n c] 25 := Blk.new w _ _

end Go.Proofs.YtaigleblmbblcaaDoor
