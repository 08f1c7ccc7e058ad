/-
  The laws' closed fact of a page: torn.
-/
import Derived.Test.YtbhcklkbckacpaaGreatDoorTg
import Derived.Lib.SlBytesConst
namespace Go.Proofs.YtbhcklkbckacpaaGreatDoor
open Go.RowKit

theorem Env.top {w w' : World} (h : Env w w.heap.size) (hb : Below w.heap.size w w') : Env w' w'.heap.size :=
  ⟨(h.below hb).pairs, (h.below hb).mx, ⟨Nat.lt_of_lt_of_le h.low.1 hb.size, Nat.lt_of_lt_of_le h.low.2 hb.size⟩, Nat.le_refl _⟩
def tornL : List UInt8 := [60, 97, 32, 104, 114, 101, 102, 61, 39, 120, 39, 62, 38, 108, 116, 59, 60, 33, 45, 45, 121]
def tornT : List Tk := [⟨2, [97], [], [120]⟩, ⟨1, [], [60], []⟩, ⟨4, [], [], []⟩]
theorem torn_toks : Tk.toks tornL = tornT := by rfl
/-- A row of cells in a block of its own. -/
theorem row_new (w : World) (sz n : Nat) (cs : List Value) (t : TypeId) (fr : Nat × Nat) (hl : cs.length = n * sz) (hn : n ≤ 9223372036854775807) : Row (w.alloc (.cells cs.toArray t fr)) (some ⟨w.heap.size, 0, none⟩) n n sz cs := by
  refine ⟨hl, Nat.le_refl _, hn, fun _ => ⟨_, _, rfl, fun j u hu => ?_⟩⟩
  rw [Nat.zero_add]
  have h := heap_alloc_new w (.cells cs.toArray t fr)
  unfold World.cell?
  rw [h]
  simpa using hu
/-- The world in which a closed page is taken apart. -/
def tornW (w : World) : World := w.alloc (.cells (tornL.map b8).toArray 5 (21, 22))

set_option maxRecDepth 100000 in
set_option maxHeartbeats 800000 in
theorem torn_any (w : World) (hE : Env w w.heap.size) : Calls Tryz.prog 10 #[] w fun e w' => e = .returned (.bool true) ∧ Below w.heap.size w w' := by
  have hb1 : Below w.heap.size w (tornW w) := (Below.refl _ _).alloc (Nat.le_refl _) _
  have hB : Byt (tornW w) (some ⟨w.heap.size, 0, none⟩) 21 21 tornL := row_new w 1 21 (tornL.map b8) 5 (21, 22) rfl (by decide)
  have C1 := tpage_ok _ 21 21 tornL (tornW w) hB (hE.top hb1) (by decide)
  rw [torn_toks] at C1
  have HC : Hid (Calls Tryz.prog 9 #[.slice (some ⟨w.heap.size, 0, none⟩) 21 21] (tornW w) fun e w' => (∃ ao' cap', e = .returned (.tuple #[.slice ao' 3 cap', .int .i64 0]) ∧ Tks w' ao' 3 cap' tornT) ∧ Below (tornW w).heap.size (tornW w) w') := C1
  have H1 : Hid (Below w.heap.size w (tornW w)) := hb1
  have hcs := Lib.run_convert_bytes_const (P := Tryz.prog) w 22 5 (tornL.map b8).toArray 21 21 Tryz.underlying22 Tryz.underlying5
  change (convert 22 22 _).run Tryz.prog (w.alloc (.cells #[.int .u8 60, .int .u8 97, .int .u8 32, .int .u8 104, .int .u8 114, .int .u8 101, .int .u8 102, .int .u8 61, .int .u8 39, .int .u8 120, .int .u8 39, .int .u8 62, .int .u8 38, .int .u8 108, .int .u8 116, .int .u8 59, .int .u8 60, .int .u8 33, .int .u8 45, .int .u8 45, .int .u8 121] 5)) = .ok _ (tornW w) at hcs
  clear hB C1 hE hb1
  generalize tornW w = wt at *
  go_enter Tryz.func10, Tryz.ntmps10
  go_wp2_with fail
  refine HC.out.mono ?_
  rintro e w1 ⟨⟨ao', cap', rfl, hT⟩, hb⟩
  have HT : Hid (Tks w1 ao' 3 cap' tornT) := hT
  have H2 : Hid (Below w.heap.size w w1) := H1.out.trans (hb.mono H1.out.size)
  clear hT hb
  go_wp2_with fail
  refine (equalTk_any ao' (some ⟨w1.heap.size, 0, none⟩) 3 cap' 3 3 tornT tornT (w1.alloc (.cells (tkCells tornT).toArray 30)) (HT.out.below ((Below.refl _ _).alloc (Nat.le_refl _) _)) (row_new w1 4 3 (tkCells tornT) 30 (0, 0) rfl (by decide))).mono ?_
  rintro e w2 ⟨rfl, m, rfl⟩
  rw [Tk.same_self]
  have H3 : Hid (Below w.heap.size w ((w1.alloc (.cells (tkCells tornT).toArray 30)).drewN m)) := ⟨H2.out.os, H2.out.tape, H2.out.output, (H2.out.alloc H2.out.size _).size, (H2.out.alloc H2.out.size _).block⟩
  generalize (w1.alloc (.cells (tkCells tornT).toArray 30)).drewN m = w4 at *
  go_wp2
  go_ret
  exact ⟨rfl, H3.out⟩
end Go.Proofs.YtbhcklkbckacpaaGreatDoor
