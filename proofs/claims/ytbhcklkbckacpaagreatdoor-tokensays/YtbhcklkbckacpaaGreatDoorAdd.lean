/-
  (*strings.trieNode).add: at a node that is empty, with no key left and with one.
-/
import Derived.Test.YtbhcklkbckacpaaGreatDoorMem
import Derived.Test.YtbhcklkbckacpaaGreatDoorShelf
import Derived.Deep.QuietTactic
import Derived.BigQuiet
import Derived.Handy
import Derived.Lib.LazyBuf
namespace Go.Proofs.YtbhcklkbckacpaaGreatDoor
open Go.RowKit

abbrev nilS : Value := .slice none 0 0
abbrev ptr (b : Nat) : Value := .pointer (some ⟨b, 0, none⟩)
/-- A node's cells. -/
def node (val : ByteArray) (pri : Int) (pre : ByteArray) (nxt tab : Value) : List Value := [.string val, .int .i64 pri, .string pre, nxt, tab]
def leafN (val : ByteArray) (pri : Int) : List Value := node val pri ⟨#[]⟩ (.pointer none) nilS
def emptyN : List Value := leafN ⟨#[]⟩ 0

set_option maxRecDepth 100000 in
set_option maxHeartbeats 800000 in
theorem add_leaf (b : Nat) (val : ByteArray) (pri : Int) (r : Value) (w : World) (hb : Blk w b emptyN 354) :
    Calls Tryz.prog 293 #[ptr b, .string ⟨#[]⟩, .string val, .int .i64 pri, r] w fun e w' => e = .returned (.tuple #[]) ∧ Blk w' b (leafN val pri) 354 ∧ Kept w w' [b] ∧ w'.heap.size = w.heap.size := by
  have h0 : w.cell? ⟨b, 0, none⟩ = some (.string ⟨#[]⟩) := hb.cell 0
  have h1 : w.cell? ⟨b, 1, none⟩ = some (.int .i64 0) := hb.cell 1
  have f0 := hb.frozen 0
  have f1 := hb.frozen 1
  have HB : Hid (Blk w b emptyN 354) := hb
  clear hb
  go_enter Tryz.func293, Tryz.ntmps293
  go_wp2
  go_returns
  refine ⟨rfl, (HB.out.set 0 _).set 1 _, ((Kept.refl w [b]).setCell _ _ (.inl (by simp))).setCell _ _ (.inl (by simp)), by simp⟩

set_option maxRecDepth 100000 in
set_option maxHeartbeats 800000 in
theorem add_plain (b : Nat) (key val : ByteArray) (pri : Int) (r : Value) (w : World) (hb : Blk w b emptyN 354) (hk : key.toList.isEmpty = false) :
    Calls Tryz.prog 293 #[ptr b, .string key, .string val, .int .i64 pri, r] w fun e w' => e = .returned (.tuple #[]) ∧ Blk w' b (node ⟨#[]⟩ 0 key (ptr w.heap.size) nilS) 354 ∧ Blk w' w.heap.size (leafN val pri) 354 ∧ Kept w w' [b] ∧ w'.heap.size = w.heap.size + 1 := by
  have h2 : w.cell? ⟨b, 2, none⟩ = some (.string ⟨#[]⟩) := hb.cell 2
  have h3 : w.cell? ⟨b, 3, none⟩ = some (.pointer none) := hb.cell 3
  have h4 : w.cell? ⟨b, 4, none⟩ = some nilS := hb.cell 4
  have f2 := hb.frozen 2
  have f3 := hb.frozen 3
  have HB : Hid (Blk w b emptyN 354) := hb
  have hlt := hb.lt
  clear hb
  have hnq := fun w => run_neq_slice_nil (P := Tryz.prog) w 352 351 none 0 0 Tryz.underlying352
  go_enter Tryz.func293, Tryz.ntmps293
  go_wp2_with fail
  refine (add_leaf w.heap.size val pri r _ ?_).mono ?_
  · exact Blk.newAt _ _ emptyN 354 (by simp)
  rintro e w1 ⟨rfl, hb1, hk1, hs1⟩
  have HB1 : Hid (Blk w1 w.heap.size (leafN val pri) 354) := hb1
  have HK1 : Hid (Kept w w1 [b]) := ((((Kept.refl w [b]).setCell ⟨b, 2, none⟩ (.string key) (.inl (by simp))).setCell ⟨b, 3, none⟩ (ptr w.heap.size) (.inl (by simp))).alloc _).trans_new hk1 (by simp)
  have HBb : Hid (Blk w1 b (node ⟨#[]⟩ 0 key (ptr w.heap.size) nilS) 354) := hk1.blk ((((HB.out.set 2 (.string key)).set 3 (ptr w.heap.size))).alloc _) (by simp; omega)
  have HS : Hid (w1.heap.size = w.heap.size + 1) := by simp at hs1; exact hs1
  clear hb1 hk1 hs1
  go_wp2
  go_returns
  exact ⟨rfl, HBb.out, HB1.out, HK1.out, HS.out⟩
end Go.Proofs.YtbhcklkbckacpaaGreatDoor
