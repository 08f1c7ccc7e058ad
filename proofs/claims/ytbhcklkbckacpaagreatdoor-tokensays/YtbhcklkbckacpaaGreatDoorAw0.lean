/-
  The variable 'pairs' of package escape, holding what its initialiser lays; bytes as cells.
-/
import Derived.Test.YtbhcklkbckacpaaGreatDoorRows
import Derived.Test.YtbhcklkbckacpaaGreatDoorPure
import Derived.WalkKit
import Derived.WalkLawsBesides
import Derived.Deep.QuietTactic
import Derived.BigQuiet
import Derived.Deep.Draws
import Derived.Handy
import Derived.Lib.BufSteps
namespace Go.Proofs.YtbhcklkbckacpaaGreatDoor
open Go.RowKit

def pcells : Array Value := #[.int .u8 38, .string ⟨#[38, 97, 109, 112, 59]⟩, .int .u8 60, .string ⟨#[38, 108, 116, 59]⟩, .int .u8 62, .string ⟨#[38, 103, 116, 59]⟩, .int .u8 34, .string ⟨#[38, 113, 117, 111, 116, 59]⟩]
/-- The variable 'pairs' (block 0) holds what its initialiser lays. -/
def Pairs (w : World) : Prop := ∃ t fr, w.heap[7]? = some (.cells pcells t fr)
/-- A byte, as a cell. -/
def b8 (b : UInt8) : Value := .int .u8 b.toNat

theorem Pairs.below {B : Nat} {w w' : World} (h : Pairs w) (hb : Below B w w') (h0 : 7 < B) : Pairs w' := by
  obtain ⟨t, fr, hg⟩ := h
  exact ⟨t, fr, (hb.block 7 h0).trans hg⟩
theorem Pairs.alloc {w : World} (h : Pairs w) (o : Obj) : Pairs (w.alloc o) := by
  obtain ⟨t, fr, hg⟩ := h
  exact ⟨t, fr, (Below.heap_alloc w o 7 (Array.getElem?_eq_some_iff.1 hg).1).trans hg⟩
theorem Pairs.pos {w : World} (h : Pairs w) : 7 < w.heap.size := by
  obtain ⟨t, fr, hg⟩ := h
  exact (Array.getElem?_eq_some_iff.1 hg).1

theorem idx0 (w : World) : (Instr.index 343 (.agg pcells) (.int .i64 0)).run Tryz.prog w = .ok (.agg #[.int .u8 38, .string ⟨#[38, 97, 109, 112, 59]⟩]) w := by kernel_rfl
theorem idx1 (w : World) : (Instr.index 343 (.agg pcells) (.int .i64 1)).run Tryz.prog w = .ok (.agg #[.int .u8 60, .string ⟨#[38, 108, 116, 59]⟩]) w := by kernel_rfl
theorem idx2 (w : World) : (Instr.index 343 (.agg pcells) (.int .i64 2)).run Tryz.prog w = .ok (.agg #[.int .u8 62, .string ⟨#[38, 103, 116, 59]⟩]) w := by kernel_rfl
theorem idx3 (w : World) : (Instr.index 343 (.agg pcells) (.int .i64 3)).run Tryz.prog w = .ok (.agg #[.int .u8 34, .string ⟨#[38, 113, 117, 111, 116, 59]⟩]) w := by kernel_rfl
theorem sz40 : (Tryz.prog.info? 343).map (·.size) = some pcells.size := by kernel_rfl
theorem Tryz.info5w : (Tryz.prog.info? 5).map (fun i => (i.zero, i.size, i.bytes)) = some (some (.int .u8 0), 1, 1) := by kernel_rfl

end Go.Proofs.YtbhcklkbckacpaaGreatDoor
