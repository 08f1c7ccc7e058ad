/-
  Texts of this proof, one behind the other.
-/
import Derived.Test.YtbhcklkbckacpaaGreatDoorG6
import Derived.Test.YtbhcklkbckacpaaGreatDoorG4
import Derived.Test.YtbhcklkbckacpaaGreatDoorG2
import Derived.Test.YtbhcklkbckacpaaGreatDoorG5
import Derived.Deep.RegionWith

/-
  Package sanitize, its small functions: characters, marks, names of blocks, what hides, how deep.
-/
namespace Go.Proofs.YtbhcklkbckacpaaGreatDoor
open Go.RowKit

def bncells : Array Value := #[.string ⟨#[112]⟩, .int .i64 0, .string ⟨#[100, 105, 118]⟩, .int .i64 0, .string ⟨#[104, 49]⟩, .int .i64 1, .string ⟨#[108, 105]⟩, .int .i64 2, .string ⟨#[104, 50]⟩, .int .i64 3]
def Bn (w : World) : Prop := ∃ t fr, w.heap[5]? = some (.cells bncells t fr)
theorem Bn.pos {w : World} (h : Bn w) : 5 < w.heap.size := by
  obtain ⟨t, fr, hg⟩ := h
  exact (Array.getElem?_eq_some_iff.1 hg).1
theorem Bn.below {w w' : World} {b : Nat} (h : Bn w) (hb : Below b w w') (h6 : 5 < b) : Bn w' := by
  obtain ⟨t, fr, hg⟩ := h
  exact ⟨t, fr, (hb.block 5 h6).trans hg⟩
theorem bidx0 (w : World) : (Instr.index 294 (.agg bncells) (.int .i64 0)).run Tryz.prog w = .ok (.agg #[.string ⟨#[112]⟩, .int .i64 0]) w := by kernel_rfl
theorem bidx1 (w : World) : (Instr.index 294 (.agg bncells) (.int .i64 1)).run Tryz.prog w = .ok (.agg #[.string ⟨#[100, 105, 118]⟩, .int .i64 0]) w := by kernel_rfl
theorem bidx2 (w : World) : (Instr.index 294 (.agg bncells) (.int .i64 2)).run Tryz.prog w = .ok (.agg #[.string ⟨#[104, 49]⟩, .int .i64 1]) w := by kernel_rfl
theorem bidx3 (w : World) : (Instr.index 294 (.agg bncells) (.int .i64 3)).run Tryz.prog w = .ok (.agg #[.string ⟨#[108, 105]⟩, .int .i64 2]) w := by kernel_rfl
theorem bidx4 (w : World) : (Instr.index 294 (.agg bncells) (.int .i64 4)).run Tryz.prog w = .ok (.agg #[.string ⟨#[104, 50]⟩, .int .i64 3]) w := by kernel_rfl
theorem szBn : (Tryz.prog.info? 294).map (·.size) = some bncells.size := by kernel_rfl
def hncells : Array Value := #[.string ⟨#[115, 99, 114, 105, 112, 116]⟩, .string ⟨#[115, 116, 121, 108, 101]⟩, .string ⟨#[116, 101, 109, 112, 108, 97, 116, 101]⟩, .string ⟨#[115, 118, 103]⟩, .string ⟨#[109, 97, 116, 104]⟩, .string ⟨#[105, 102, 114, 97, 109, 101]⟩, .string ⟨#[116, 105, 116, 108, 101]⟩, .string ⟨#[116, 101, 120, 116, 97, 114, 101, 97]⟩, .string ⟨#[110, 111, 115, 99, 114, 105, 112, 116]⟩]
def Hn (w : World) : Prop := ∃ t fr, w.heap[6]? = some (.cells hncells t fr)
theorem Hn.pos {w : World} (h : Hn w) : 6 < w.heap.size := by
  obtain ⟨t, fr, hg⟩ := h
  exact (Array.getElem?_eq_some_iff.1 hg).1
theorem Hn.below {w w' : World} {b : Nat} (h : Hn w) (hb : Below b w w') (h6 : 6 < b) : Hn w' := by
  obtain ⟨t, fr, hg⟩ := h
  exact ⟨t, fr, (hb.block 6 h6).trans hg⟩
theorem hidx0 (w : World) : (Instr.index 295 (.agg hncells) (.int .i64 0)).run Tryz.prog w = .ok (.string ⟨#[115, 99, 114, 105, 112, 116]⟩) w := by kernel_rfl
theorem hidx1 (w : World) : (Instr.index 295 (.agg hncells) (.int .i64 1)).run Tryz.prog w = .ok (.string ⟨#[115, 116, 121, 108, 101]⟩) w := by kernel_rfl
theorem hidx2 (w : World) : (Instr.index 295 (.agg hncells) (.int .i64 2)).run Tryz.prog w = .ok (.string ⟨#[116, 101, 109, 112, 108, 97, 116, 101]⟩) w := by kernel_rfl
theorem hidx3 (w : World) : (Instr.index 295 (.agg hncells) (.int .i64 3)).run Tryz.prog w = .ok (.string ⟨#[115, 118, 103]⟩) w := by kernel_rfl
theorem hidx4 (w : World) : (Instr.index 295 (.agg hncells) (.int .i64 4)).run Tryz.prog w = .ok (.string ⟨#[109, 97, 116, 104]⟩) w := by kernel_rfl
theorem hidx5 (w : World) : (Instr.index 295 (.agg hncells) (.int .i64 5)).run Tryz.prog w = .ok (.string ⟨#[105, 102, 114, 97, 109, 101]⟩) w := by kernel_rfl
theorem hidx6 (w : World) : (Instr.index 295 (.agg hncells) (.int .i64 6)).run Tryz.prog w = .ok (.string ⟨#[116, 105, 116, 108, 101]⟩) w := by kernel_rfl
theorem hidx7 (w : World) : (Instr.index 295 (.agg hncells) (.int .i64 7)).run Tryz.prog w = .ok (.string ⟨#[116, 101, 120, 116, 97, 114, 101, 97]⟩) w := by kernel_rfl
theorem hidx8 (w : World) : (Instr.index 295 (.agg hncells) (.int .i64 8)).run Tryz.prog w = .ok (.string ⟨#[110, 111, 115, 99, 114, 105, 112, 116]⟩) w := by kernel_rfl
theorem szHn : (Tryz.prog.info? 295).map (·.size) = some hncells.size := by kernel_rfl
theorem zbelow1 {w : World} (o1 : Obj) : Below w.heap.size w (w.alloc o1) := (Below.refl w.heap.size w).alloc (Nat.le_refl _) o1
theorem zbelow2 {w : World} (o1 o2 : Obj) : Below w.heap.size w ((w.alloc o1).alloc o2) := (zbelow1 o1).alloc (zbelow1 o1).size o2
theorem zbelow3 {w : World} (o1 o2 o3 : Obj) : Below w.heap.size w (((w.alloc o1).alloc o2).alloc o3) := (zbelow2 o1 o2).alloc (zbelow2 o1 o2).size o3
theorem zbelow4 {w : World} (o1 o2 o3 o4 : Obj) : Below w.heap.size w ((((w.alloc o1).alloc o2).alloc o3).alloc o4) := (zbelow3 o1 o2 o3).alloc (zbelow3 o1 o2 o3).size o4
theorem zbelow5 {w : World} (o1 o2 o3 o4 o5 : Obj) : Below w.heap.size w (((((w.alloc o1).alloc o2).alloc o3).alloc o4).alloc o5) := (zbelow4 o1 o2 o3 o4).alloc (zbelow4 o1 o2 o3 o4).size o5

set_option maxRecDepth 100000 in
set_option maxHeartbeats 1600000 in
theorem kind_0 (b : ByteArray) (w : World) (hB : Bn w) (q0 : ([112] == b.toList) = true) : Calls Tryz.prog 204 #[.string b] w fun e w' => e = .returned (.tuple #[.int .i64 0, .bool true]) ∧ Below w.heap.size w w' := by
  obtain ⟨t, fr, hg⟩ := hB
  have Hg : Hid (w.heap[5]? = some (.cells bncells t fr)) := hg
  clear hg
  have i0 := bidx0
  go_enter Tryz.func204, Tryz.ntmps204
  go_wp2_with (refine wpList_load_row rfl 294 _ rfl 5 rfl t _ fr _ Hg.out Tryz.underlying294 rfl szBn ?_)
  refine wp_loop_rounds 7 ?_
  rw [rounds_succ]
  go_wp2
  go_ret2
  exact ⟨rfl, zbelow1 _⟩
set_option maxRecDepth 100000 in
set_option maxHeartbeats 1600000 in
theorem kind_1 (b : ByteArray) (w : World) (hB : Bn w) (q0 : ([112] == b.toList) = false) (q1 : ([100, 105, 118] == b.toList) = true) : Calls Tryz.prog 204 #[.string b] w fun e w' => e = .returned (.tuple #[.int .i64 0, .bool true]) ∧ Below w.heap.size w w' := by
  obtain ⟨t, fr, hg⟩ := hB
  have Hg : Hid (w.heap[5]? = some (.cells bncells t fr)) := hg
  clear hg
  have i0 := bidx0
  have i1 := bidx1
  go_enter Tryz.func204, Tryz.ntmps204
  go_wp2_with (refine wpList_load_row rfl 294 _ rfl 5 rfl t _ fr _ Hg.out Tryz.underlying294 rfl szBn ?_)
  refine wp_loop_rounds 7 ?_
  rw [rounds_succ]
  go_wp2
  rw [rounds_succ]
  go_wp2
  go_ret2
  exact ⟨rfl, zbelow2 _ _⟩
set_option maxRecDepth 100000 in
set_option maxHeartbeats 1600000 in
theorem kind_2 (b : ByteArray) (w : World) (hB : Bn w) (q0 : ([112] == b.toList) = false) (q1 : ([100, 105, 118] == b.toList) = false) (q2 : ([104, 49] == b.toList) = true) : Calls Tryz.prog 204 #[.string b] w fun e w' => e = .returned (.tuple #[.int .i64 1, .bool true]) ∧ Below w.heap.size w w' := by
  obtain ⟨t, fr, hg⟩ := hB
  have Hg : Hid (w.heap[5]? = some (.cells bncells t fr)) := hg
  clear hg
  have i0 := bidx0
  have i1 := bidx1
  have i2 := bidx2
  go_enter Tryz.func204, Tryz.ntmps204
  go_wp2_with (refine wpList_load_row rfl 294 _ rfl 5 rfl t _ fr _ Hg.out Tryz.underlying294 rfl szBn ?_)
  refine wp_loop_rounds 7 ?_
  rw [rounds_succ]
  go_wp2
  rw [rounds_succ]
  go_wp2
  rw [rounds_succ]
  go_wp2
  go_ret2
  exact ⟨rfl, zbelow3 _ _ _⟩
set_option maxRecDepth 100000 in
set_option maxHeartbeats 1600000 in
theorem kind_3 (b : ByteArray) (w : World) (hB : Bn w) (q0 : ([112] == b.toList) = false) (q1 : ([100, 105, 118] == b.toList) = false) (q2 : ([104, 49] == b.toList) = false) (q3 : ([108, 105] == b.toList) = true) : Calls Tryz.prog 204 #[.string b] w fun e w' => e = .returned (.tuple #[.int .i64 2, .bool true]) ∧ Below w.heap.size w w' := by
  obtain ⟨t, fr, hg⟩ := hB
  have Hg : Hid (w.heap[5]? = some (.cells bncells t fr)) := hg
  clear hg
  have i0 := bidx0
  have i1 := bidx1
  have i2 := bidx2
  have i3 := bidx3
  go_enter Tryz.func204, Tryz.ntmps204
  go_wp2_with (refine wpList_load_row rfl 294 _ rfl 5 rfl t _ fr _ Hg.out Tryz.underlying294 rfl szBn ?_)
  refine wp_loop_rounds 7 ?_
  rw [rounds_succ]
  go_wp2
  rw [rounds_succ]
  go_wp2
  rw [rounds_succ]
  go_wp2
  rw [rounds_succ]
  go_wp2
  go_ret2
  exact ⟨rfl, zbelow4 _ _ _ _⟩
set_option maxRecDepth 100000 in
set_option maxHeartbeats 1600000 in
theorem kind_4 (b : ByteArray) (w : World) (hB : Bn w) (q0 : ([112] == b.toList) = false) (q1 : ([100, 105, 118] == b.toList) = false) (q2 : ([104, 49] == b.toList) = false) (q3 : ([108, 105] == b.toList) = false) (q4 : ([104, 50] == b.toList) = true) : Calls Tryz.prog 204 #[.string b] w fun e w' => e = .returned (.tuple #[.int .i64 3, .bool true]) ∧ Below w.heap.size w w' := by
  obtain ⟨t, fr, hg⟩ := hB
  have Hg : Hid (w.heap[5]? = some (.cells bncells t fr)) := hg
  clear hg
  have i0 := bidx0
  have i1 := bidx1
  have i2 := bidx2
  have i3 := bidx3
  have i4 := bidx4
  go_enter Tryz.func204, Tryz.ntmps204
  go_wp2_with (refine wpList_load_row rfl 294 _ rfl 5 rfl t _ fr _ Hg.out Tryz.underlying294 rfl szBn ?_)
  refine wp_loop_rounds 7 ?_
  rw [rounds_succ]
  go_wp2
  rw [rounds_succ]
  go_wp2
  rw [rounds_succ]
  go_wp2
  rw [rounds_succ]
  go_wp2
  rw [rounds_succ]
  go_wp2
  go_ret2
  exact ⟨rfl, zbelow5 _ _ _ _ _⟩
set_option maxRecDepth 100000 in
set_option maxHeartbeats 1600000 in
theorem kind_5 (b : ByteArray) (w : World) (hB : Bn w) (q0 : ([112] == b.toList) = false) (q1 : ([100, 105, 118] == b.toList) = false) (q2 : ([104, 49] == b.toList) = false) (q3 : ([108, 105] == b.toList) = false) (q4 : ([104, 50] == b.toList) = false) : Calls Tryz.prog 204 #[.string b] w fun e w' => e = .returned (.tuple #[.int .i64 0, .bool false]) ∧ Below w.heap.size w w' := by
  obtain ⟨t, fr, hg⟩ := hB
  have Hg : Hid (w.heap[5]? = some (.cells bncells t fr)) := hg
  clear hg
  have i0 := bidx0
  have i1 := bidx1
  have i2 := bidx2
  have i3 := bidx3
  have i4 := bidx4
  go_enter Tryz.func204, Tryz.ntmps204
  go_wp2_with (refine wpList_load_row rfl 294 _ rfl 5 rfl t _ fr _ Hg.out Tryz.underlying294 rfl szBn ?_)
  refine wp_loop_rounds 7 ?_
  rw [rounds_succ]
  go_wp2
  rw [rounds_succ]
  go_wp2
  rw [rounds_succ]
  go_wp2
  rw [rounds_succ]
  go_wp2
  rw [rounds_succ]
  go_wp2
  rw [rounds_succ]
  go_wp2
  go_ret2
  exact ⟨rfl, zbelow5 _ _ _ _ _⟩

theorem kindOf_any (x : List UInt8) (w : World) (hB : Bn w) : Calls Tryz.prog 204 #[.string (B x)] w fun e w' => e = .returned (.tuple #[.int .i64 ((Sn.blockOf x).getD 0), .bool (Sn.blockOf x).isSome]) ∧ Below w.heap.size w w' := by
  have q0 := eqB [112] x
  by_cases h0 : [112] = x
  · rw [decide_eq_true h0] at q0
    have hl : Sn.blockOf x = some 0 := by subst h0; rfl
    rw [hl]
    exact kind_0 (B x) w hB q0
  rw [decide_eq_false h0] at q0
  have q1 := eqB [100, 105, 118] x
  by_cases h1 : [100, 105, 118] = x
  · rw [decide_eq_true h1] at q1
    have hl : Sn.blockOf x = some 0 := by subst h1; rfl
    rw [hl]
    exact kind_1 (B x) w hB q0 q1
  rw [decide_eq_false h1] at q1
  have q2 := eqB [104, 49] x
  by_cases h2 : [104, 49] = x
  · rw [decide_eq_true h2] at q2
    have hl : Sn.blockOf x = some 1 := by subst h2; rfl
    rw [hl]
    exact kind_2 (B x) w hB q0 q1 q2
  rw [decide_eq_false h2] at q2
  have q3 := eqB [108, 105] x
  by_cases h3 : [108, 105] = x
  · rw [decide_eq_true h3] at q3
    have hl : Sn.blockOf x = some 2 := by subst h3; rfl
    rw [hl]
    exact kind_3 (B x) w hB q0 q1 q2 q3
  rw [decide_eq_false h3] at q3
  have q4 := eqB [104, 50] x
  by_cases h4 : [104, 50] = x
  · rw [decide_eq_true h4] at q4
    have hl : Sn.blockOf x = some 3 := by subst h4; rfl
    rw [hl]
    exact kind_4 (B x) w hB q0 q1 q2 q3 q4
  rw [decide_eq_false h4] at q4
  have hl : Sn.blockOf x = none := by
    unfold Sn.blockOf
    simp [Ne.symm h0, Ne.symm h1, Ne.symm h2, Ne.symm h3, Ne.symm h4]
  rw [hl]
  exact kind_5 (B x) w hB q0 q1 q2 q3 q4

set_option maxRecDepth 100000 in
set_option maxHeartbeats 1600000 in
theorem hide_0 (b : ByteArray) (w : World) (hB : Hn w) (q0 : ([115, 99, 114, 105, 112, 116] == b.toList) = true) : Calls Tryz.prog 208 #[.string b] w fun e w' => e = .returned (.bool true) ∧ w' = w := by
  obtain ⟨t, fr, hg⟩ := hB
  have Hg : Hid (w.heap[6]? = some (.cells hncells t fr)) := hg
  clear hg
  have i0 := hidx0
  go_enter Tryz.func208, Tryz.ntmps208
  go_wp2_with (refine wpList_load_row rfl 295 _ rfl 6 rfl t _ fr _ Hg.out Tryz.underlying295 rfl szHn ?_)
  refine wp_loop_rounds 11 ?_
  rw [rounds_succ]
  go_wp2
  go_ret
  exact ⟨rfl, rfl⟩
set_option maxRecDepth 100000 in
set_option maxHeartbeats 1600000 in
theorem hide_1 (b : ByteArray) (w : World) (hB : Hn w) (q0 : ([115, 99, 114, 105, 112, 116] == b.toList) = false) (q1 : ([115, 116, 121, 108, 101] == b.toList) = true) : Calls Tryz.prog 208 #[.string b] w fun e w' => e = .returned (.bool true) ∧ w' = w := by
  obtain ⟨t, fr, hg⟩ := hB
  have Hg : Hid (w.heap[6]? = some (.cells hncells t fr)) := hg
  clear hg
  have i0 := hidx0
  have i1 := hidx1
  go_enter Tryz.func208, Tryz.ntmps208
  go_wp2_with (refine wpList_load_row rfl 295 _ rfl 6 rfl t _ fr _ Hg.out Tryz.underlying295 rfl szHn ?_)
  refine wp_loop_rounds 11 ?_
  rw [rounds_succ]
  go_wp2
  rw [rounds_succ]
  go_wp2
  go_ret
  exact ⟨rfl, rfl⟩
set_option maxRecDepth 100000 in
set_option maxHeartbeats 1600000 in
theorem hide_2 (b : ByteArray) (w : World) (hB : Hn w) (q0 : ([115, 99, 114, 105, 112, 116] == b.toList) = false) (q1 : ([115, 116, 121, 108, 101] == b.toList) = false) (q2 : ([116, 101, 109, 112, 108, 97, 116, 101] == b.toList) = true) : Calls Tryz.prog 208 #[.string b] w fun e w' => e = .returned (.bool true) ∧ w' = w := by
  obtain ⟨t, fr, hg⟩ := hB
  have Hg : Hid (w.heap[6]? = some (.cells hncells t fr)) := hg
  clear hg
  have i0 := hidx0
  have i1 := hidx1
  have i2 := hidx2
  go_enter Tryz.func208, Tryz.ntmps208
  go_wp2_with (refine wpList_load_row rfl 295 _ rfl 6 rfl t _ fr _ Hg.out Tryz.underlying295 rfl szHn ?_)
  refine wp_loop_rounds 11 ?_
  rw [rounds_succ]
  go_wp2
  rw [rounds_succ]
  go_wp2
  rw [rounds_succ]
  go_wp2
  go_ret
  exact ⟨rfl, rfl⟩
set_option maxRecDepth 100000 in
set_option maxHeartbeats 1600000 in
theorem hide_3 (b : ByteArray) (w : World) (hB : Hn w) (q0 : ([115, 99, 114, 105, 112, 116] == b.toList) = false) (q1 : ([115, 116, 121, 108, 101] == b.toList) = false) (q2 : ([116, 101, 109, 112, 108, 97, 116, 101] == b.toList) = false) (q3 : ([115, 118, 103] == b.toList) = true) : Calls Tryz.prog 208 #[.string b] w fun e w' => e = .returned (.bool true) ∧ w' = w := by
  obtain ⟨t, fr, hg⟩ := hB
  have Hg : Hid (w.heap[6]? = some (.cells hncells t fr)) := hg
  clear hg
  have i0 := hidx0
  have i1 := hidx1
  have i2 := hidx2
  have i3 := hidx3
  go_enter Tryz.func208, Tryz.ntmps208
  go_wp2_with (refine wpList_load_row rfl 295 _ rfl 6 rfl t _ fr _ Hg.out Tryz.underlying295 rfl szHn ?_)
  refine wp_loop_rounds 11 ?_
  rw [rounds_succ]
  go_wp2
  rw [rounds_succ]
  go_wp2
  rw [rounds_succ]
  go_wp2
  rw [rounds_succ]
  go_wp2
  go_ret
  exact ⟨rfl, rfl⟩
set_option maxRecDepth 100000 in
set_option maxHeartbeats 1600000 in
theorem hide_4 (b : ByteArray) (w : World) (hB : Hn w) (q0 : ([115, 99, 114, 105, 112, 116] == b.toList) = false) (q1 : ([115, 116, 121, 108, 101] == b.toList) = false) (q2 : ([116, 101, 109, 112, 108, 97, 116, 101] == b.toList) = false) (q3 : ([115, 118, 103] == b.toList) = false) (q4 : ([109, 97, 116, 104] == b.toList) = true) : Calls Tryz.prog 208 #[.string b] w fun e w' => e = .returned (.bool true) ∧ w' = w := by
  obtain ⟨t, fr, hg⟩ := hB
  have Hg : Hid (w.heap[6]? = some (.cells hncells t fr)) := hg
  clear hg
  have i0 := hidx0
  have i1 := hidx1
  have i2 := hidx2
  have i3 := hidx3
  have i4 := hidx4
  go_enter Tryz.func208, Tryz.ntmps208
  go_wp2_with (refine wpList_load_row rfl 295 _ rfl 6 rfl t _ fr _ Hg.out Tryz.underlying295 rfl szHn ?_)
  refine wp_loop_rounds 11 ?_
  rw [rounds_succ]
  go_wp2
  rw [rounds_succ]
  go_wp2
  rw [rounds_succ]
  go_wp2
  rw [rounds_succ]
  go_wp2
  rw [rounds_succ]
  go_wp2
  go_ret
  exact ⟨rfl, rfl⟩
set_option maxRecDepth 100000 in
set_option maxHeartbeats 1600000 in
theorem hide_5 (b : ByteArray) (w : World) (hB : Hn w) (q0 : ([115, 99, 114, 105, 112, 116] == b.toList) = false) (q1 : ([115, 116, 121, 108, 101] == b.toList) = false) (q2 : ([116, 101, 109, 112, 108, 97, 116, 101] == b.toList) = false) (q3 : ([115, 118, 103] == b.toList) = false) (q4 : ([109, 97, 116, 104] == b.toList) = false) (q5 : ([105, 102, 114, 97, 109, 101] == b.toList) = true) : Calls Tryz.prog 208 #[.string b] w fun e w' => e = .returned (.bool true) ∧ w' = w := by
  obtain ⟨t, fr, hg⟩ := hB
  have Hg : Hid (w.heap[6]? = some (.cells hncells t fr)) := hg
  clear hg
  have i0 := hidx0
  have i1 := hidx1
  have i2 := hidx2
  have i3 := hidx3
  have i4 := hidx4
  have i5 := hidx5
  go_enter Tryz.func208, Tryz.ntmps208
  go_wp2_with (refine wpList_load_row rfl 295 _ rfl 6 rfl t _ fr _ Hg.out Tryz.underlying295 rfl szHn ?_)
  refine wp_loop_rounds 11 ?_
  rw [rounds_succ]
  go_wp2
  rw [rounds_succ]
  go_wp2
  rw [rounds_succ]
  go_wp2
  rw [rounds_succ]
  go_wp2
  rw [rounds_succ]
  go_wp2
  rw [rounds_succ]
  go_wp2
  go_ret
  exact ⟨rfl, rfl⟩
set_option maxRecDepth 100000 in
set_option maxHeartbeats 1600000 in
theorem hide_6 (b : ByteArray) (w : World) (hB : Hn w) (q0 : ([115, 99, 114, 105, 112, 116] == b.toList) = false) (q1 : ([115, 116, 121, 108, 101] == b.toList) = false) (q2 : ([116, 101, 109, 112, 108, 97, 116, 101] == b.toList) = false) (q3 : ([115, 118, 103] == b.toList) = false) (q4 : ([109, 97, 116, 104] == b.toList) = false) (q5 : ([105, 102, 114, 97, 109, 101] == b.toList) = false) (q6 : ([116, 105, 116, 108, 101] == b.toList) = true) : Calls Tryz.prog 208 #[.string b] w fun e w' => e = .returned (.bool true) ∧ w' = w := by
  obtain ⟨t, fr, hg⟩ := hB
  have Hg : Hid (w.heap[6]? = some (.cells hncells t fr)) := hg
  clear hg
  have i0 := hidx0
  have i1 := hidx1
  have i2 := hidx2
  have i3 := hidx3
  have i4 := hidx4
  have i5 := hidx5
  have i6 := hidx6
  go_enter Tryz.func208, Tryz.ntmps208
  go_wp2_with (refine wpList_load_row rfl 295 _ rfl 6 rfl t _ fr _ Hg.out Tryz.underlying295 rfl szHn ?_)
  refine wp_loop_rounds 11 ?_
  rw [rounds_succ]
  go_wp2
  rw [rounds_succ]
  go_wp2
  rw [rounds_succ]
  go_wp2
  rw [rounds_succ]
  go_wp2
  rw [rounds_succ]
  go_wp2
  rw [rounds_succ]
  go_wp2
  rw [rounds_succ]
  go_wp2
  go_ret
  exact ⟨rfl, rfl⟩
set_option maxRecDepth 100000 in
set_option maxHeartbeats 1600000 in
theorem hide_7 (b : ByteArray) (w : World) (hB : Hn w) (q0 : ([115, 99, 114, 105, 112, 116] == b.toList) = false) (q1 : ([115, 116, 121, 108, 101] == b.toList) = false) (q2 : ([116, 101, 109, 112, 108, 97, 116, 101] == b.toList) = false) (q3 : ([115, 118, 103] == b.toList) = false) (q4 : ([109, 97, 116, 104] == b.toList) = false) (q5 : ([105, 102, 114, 97, 109, 101] == b.toList) = false) (q6 : ([116, 105, 116, 108, 101] == b.toList) = false) (q7 : ([116, 101, 120, 116, 97, 114, 101, 97] == b.toList) = true) : Calls Tryz.prog 208 #[.string b] w fun e w' => e = .returned (.bool true) ∧ w' = w := by
  obtain ⟨t, fr, hg⟩ := hB
  have Hg : Hid (w.heap[6]? = some (.cells hncells t fr)) := hg
  clear hg
  have i0 := hidx0
  have i1 := hidx1
  have i2 := hidx2
  have i3 := hidx3
  have i4 := hidx4
  have i5 := hidx5
  have i6 := hidx6
  have i7 := hidx7
  go_enter Tryz.func208, Tryz.ntmps208
  go_wp2_with (refine wpList_load_row rfl 295 _ rfl 6 rfl t _ fr _ Hg.out Tryz.underlying295 rfl szHn ?_)
  refine wp_loop_rounds 11 ?_
  rw [rounds_succ]
  go_wp2
  rw [rounds_succ]
  go_wp2
  rw [rounds_succ]
  go_wp2
  rw [rounds_succ]
  go_wp2
  rw [rounds_succ]
  go_wp2
  rw [rounds_succ]
  go_wp2
  rw [rounds_succ]
  go_wp2
  rw [rounds_succ]
  go_wp2
  go_ret
  exact ⟨rfl, rfl⟩
set_option maxRecDepth 100000 in
set_option maxHeartbeats 1600000 in
theorem hide_8 (b : ByteArray) (w : World) (hB : Hn w) (q0 : ([115, 99, 114, 105, 112, 116] == b.toList) = false) (q1 : ([115, 116, 121, 108, 101] == b.toList) = false) (q2 : ([116, 101, 109, 112, 108, 97, 116, 101] == b.toList) = false) (q3 : ([115, 118, 103] == b.toList) = false) (q4 : ([109, 97, 116, 104] == b.toList) = false) (q5 : ([105, 102, 114, 97, 109, 101] == b.toList) = false) (q6 : ([116, 105, 116, 108, 101] == b.toList) = false) (q7 : ([116, 101, 120, 116, 97, 114, 101, 97] == b.toList) = false) (q8 : ([110, 111, 115, 99, 114, 105, 112, 116] == b.toList) = true) : Calls Tryz.prog 208 #[.string b] w fun e w' => e = .returned (.bool true) ∧ w' = w := by
  obtain ⟨t, fr, hg⟩ := hB
  have Hg : Hid (w.heap[6]? = some (.cells hncells t fr)) := hg
  clear hg
  have i0 := hidx0
  have i1 := hidx1
  have i2 := hidx2
  have i3 := hidx3
  have i4 := hidx4
  have i5 := hidx5
  have i6 := hidx6
  have i7 := hidx7
  have i8 := hidx8
  go_enter Tryz.func208, Tryz.ntmps208
  go_wp2_with (refine wpList_load_row rfl 295 _ rfl 6 rfl t _ fr _ Hg.out Tryz.underlying295 rfl szHn ?_)
  refine wp_loop_rounds 11 ?_
  rw [rounds_succ]
  go_wp2
  rw [rounds_succ]
  go_wp2
  rw [rounds_succ]
  go_wp2
  rw [rounds_succ]
  go_wp2
  rw [rounds_succ]
  go_wp2
  rw [rounds_succ]
  go_wp2
  rw [rounds_succ]
  go_wp2
  rw [rounds_succ]
  go_wp2
  rw [rounds_succ]
  go_wp2
  go_ret
  exact ⟨rfl, rfl⟩
set_option maxRecDepth 100000 in
set_option maxHeartbeats 1600000 in
theorem hide_9 (b : ByteArray) (w : World) (hB : Hn w) (q0 : ([115, 99, 114, 105, 112, 116] == b.toList) = false) (q1 : ([115, 116, 121, 108, 101] == b.toList) = false) (q2 : ([116, 101, 109, 112, 108, 97, 116, 101] == b.toList) = false) (q3 : ([115, 118, 103] == b.toList) = false) (q4 : ([109, 97, 116, 104] == b.toList) = false) (q5 : ([105, 102, 114, 97, 109, 101] == b.toList) = false) (q6 : ([116, 105, 116, 108, 101] == b.toList) = false) (q7 : ([116, 101, 120, 116, 97, 114, 101, 97] == b.toList) = false) (q8 : ([110, 111, 115, 99, 114, 105, 112, 116] == b.toList) = false) : Calls Tryz.prog 208 #[.string b] w fun e w' => e = .returned (.bool false) ∧ w' = w := by
  obtain ⟨t, fr, hg⟩ := hB
  have Hg : Hid (w.heap[6]? = some (.cells hncells t fr)) := hg
  clear hg
  have i0 := hidx0
  have i1 := hidx1
  have i2 := hidx2
  have i3 := hidx3
  have i4 := hidx4
  have i5 := hidx5
  have i6 := hidx6
  have i7 := hidx7
  have i8 := hidx8
  go_enter Tryz.func208, Tryz.ntmps208
  go_wp2_with (refine wpList_load_row rfl 295 _ rfl 6 rfl t _ fr _ Hg.out Tryz.underlying295 rfl szHn ?_)
  refine wp_loop_rounds 11 ?_
  rw [rounds_succ]
  go_wp2
  rw [rounds_succ]
  go_wp2
  rw [rounds_succ]
  go_wp2
  rw [rounds_succ]
  go_wp2
  rw [rounds_succ]
  go_wp2
  rw [rounds_succ]
  go_wp2
  rw [rounds_succ]
  go_wp2
  rw [rounds_succ]
  go_wp2
  rw [rounds_succ]
  go_wp2
  rw [rounds_succ]
  go_wp2
  go_ret
  exact ⟨rfl, rfl⟩

theorem hides_any (x : List UInt8) (w : World) (hB : Hn w) : Calls Tryz.prog 208 #[.string (B x)] w fun e w' => e = .returned (.bool (Sn.hiddenL.contains x)) ∧ w' = w := by
  have q0 := eqB [115, 99, 114, 105, 112, 116] x
  by_cases h0 : [115, 99, 114, 105, 112, 116] = x
  · rw [decide_eq_true h0] at q0
    have hl : Sn.hiddenL.contains x = true := by subst h0; rfl
    rw [hl]
    exact hide_0 (B x) w hB q0
  rw [decide_eq_false h0] at q0
  have q1 := eqB [115, 116, 121, 108, 101] x
  by_cases h1 : [115, 116, 121, 108, 101] = x
  · rw [decide_eq_true h1] at q1
    have hl : Sn.hiddenL.contains x = true := by subst h1; rfl
    rw [hl]
    exact hide_1 (B x) w hB q0 q1
  rw [decide_eq_false h1] at q1
  have q2 := eqB [116, 101, 109, 112, 108, 97, 116, 101] x
  by_cases h2 : [116, 101, 109, 112, 108, 97, 116, 101] = x
  · rw [decide_eq_true h2] at q2
    have hl : Sn.hiddenL.contains x = true := by subst h2; rfl
    rw [hl]
    exact hide_2 (B x) w hB q0 q1 q2
  rw [decide_eq_false h2] at q2
  have q3 := eqB [115, 118, 103] x
  by_cases h3 : [115, 118, 103] = x
  · rw [decide_eq_true h3] at q3
    have hl : Sn.hiddenL.contains x = true := by subst h3; rfl
    rw [hl]
    exact hide_3 (B x) w hB q0 q1 q2 q3
  rw [decide_eq_false h3] at q3
  have q4 := eqB [109, 97, 116, 104] x
  by_cases h4 : [109, 97, 116, 104] = x
  · rw [decide_eq_true h4] at q4
    have hl : Sn.hiddenL.contains x = true := by subst h4; rfl
    rw [hl]
    exact hide_4 (B x) w hB q0 q1 q2 q3 q4
  rw [decide_eq_false h4] at q4
  have q5 := eqB [105, 102, 114, 97, 109, 101] x
  by_cases h5 : [105, 102, 114, 97, 109, 101] = x
  · rw [decide_eq_true h5] at q5
    have hl : Sn.hiddenL.contains x = true := by subst h5; rfl
    rw [hl]
    exact hide_5 (B x) w hB q0 q1 q2 q3 q4 q5
  rw [decide_eq_false h5] at q5
  have q6 := eqB [116, 105, 116, 108, 101] x
  by_cases h6 : [116, 105, 116, 108, 101] = x
  · rw [decide_eq_true h6] at q6
    have hl : Sn.hiddenL.contains x = true := by subst h6; rfl
    rw [hl]
    exact hide_6 (B x) w hB q0 q1 q2 q3 q4 q5 q6
  rw [decide_eq_false h6] at q6
  have q7 := eqB [116, 101, 120, 116, 97, 114, 101, 97] x
  by_cases h7 : [116, 101, 120, 116, 97, 114, 101, 97] = x
  · rw [decide_eq_true h7] at q7
    have hl : Sn.hiddenL.contains x = true := by subst h7; rfl
    rw [hl]
    exact hide_7 (B x) w hB q0 q1 q2 q3 q4 q5 q6 q7
  rw [decide_eq_false h7] at q7
  have q8 := eqB [110, 111, 115, 99, 114, 105, 112, 116] x
  by_cases h8 : [110, 111, 115, 99, 114, 105, 112, 116] = x
  · rw [decide_eq_true h8] at q8
    have hl : Sn.hiddenL.contains x = true := by subst h8; rfl
    rw [hl]
    exact hide_8 (B x) w hB q0 q1 q2 q3 q4 q5 q6 q7 q8
  rw [decide_eq_false h8] at q8
  have hl : Sn.hiddenL.contains x = false := by
    unfold Sn.hiddenL
    simp [Ne.symm h0, Ne.symm h1, Ne.symm h2, Ne.symm h3, Ne.symm h4, Ne.symm h5, Ne.symm h6, Ne.symm h7, Ne.symm h8]
  rw [hl]
  exact hide_9 (B x) w hB q0 q1 q2 q3 q4 q5 q6 q7 q8

theorem chr_blank {c : UInt8} (h : c = 9 ∨ c = 10 ∨ c = 13 ∨ c = 12) : Sn.chr c = 32 := by
  rcases h with rfl | rfl | rfl | rfl <;> rfl
theorem chr_rest {c : UInt8} (h9 : c ≠ 9) (h10 : c ≠ 10) (h13 : c ≠ 13) (h12 : c ≠ 12) : Sn.chr c = if c < 32 || 126 < c then 63 else c := by
  unfold Sn.chr
  have : (c == 9 || c == 10 || c == 13 || c == 12) = false := by simp [h9, h10, h13, h12]
  rw [this, if_neg Bool.false_ne_true]
theorem eq_byte (c : UInt8) (k : Nat) (hk : k < 256) : ((c.toNat : Int) == (k : Int)) = decide (c = UInt8.ofNat k) := by
  by_cases h : c = UInt8.ofNat k
  · rw [decide_eq_true h, h, beq_iff_eq, UInt8.toNat_ofNat', Nat.mod_eq_of_lt hk]
  · rw [decide_eq_false h, beq_eq_false_iff_ne]
    intro e
    exact h (UInt8.toNat_inj.1 (by rw [UInt8.toNat_ofNat', Nat.mod_eq_of_lt hk]; omega))

set_option maxHeartbeats 1600000 in
theorem character_any (c : UInt8) (w : World) : Calls Tryz.prog 202 #[.int .u8 c.toNat] w fun e w' => e = .returned (.int .u8 (Sn.chr c).toNat) ∧ w' = w := by
  have e9 : ((c.toNat : Int) == 9) = decide (c = 9) := eq_byte c 9 (by decide)
  by_cases h9 : c = 9
  · rw [decide_eq_true h9] at e9
    rw [chr_blank (by simp [h9])]
    clear h9
    show Calls Tryz.prog 202 #[.int .u8 c.toNat] w fun e w' => e = .returned (.int .u8 32) ∧ w' = w
    go_enter Tryz.func202, Tryz.ntmps202
    go_wp2
    go_ret
    exact ⟨rfl, rfl⟩
  rw [decide_eq_false h9] at e9
  have e10 : ((c.toNat : Int) == 10) = decide (c = 10) := eq_byte c 10 (by decide)
  by_cases h10 : c = 10
  · rw [decide_eq_true h10] at e10
    rw [chr_blank (by simp [h10])]
    clear h9 h10
    show Calls Tryz.prog 202 #[.int .u8 c.toNat] w fun e w' => e = .returned (.int .u8 32) ∧ w' = w
    go_enter Tryz.func202, Tryz.ntmps202
    go_wp2
    go_ret
    exact ⟨rfl, rfl⟩
  rw [decide_eq_false h10] at e10
  have e13 : ((c.toNat : Int) == 13) = decide (c = 13) := eq_byte c 13 (by decide)
  by_cases h13 : c = 13
  · rw [decide_eq_true h13] at e13
    rw [chr_blank (by simp [h13])]
    clear h9 h10 h13
    show Calls Tryz.prog 202 #[.int .u8 c.toNat] w fun e w' => e = .returned (.int .u8 32) ∧ w' = w
    go_enter Tryz.func202, Tryz.ntmps202
    go_wp2
    go_ret
    exact ⟨rfl, rfl⟩
  rw [decide_eq_false h13] at e13
  have e12 : ((c.toNat : Int) == 12) = decide (c = 12) := eq_byte c 12 (by decide)
  by_cases h12 : c = 12
  · rw [decide_eq_true h12] at e12
    rw [chr_blank (by simp [h12])]
    clear h9 h10 h13 h12
    show Calls Tryz.prog 202 #[.int .u8 c.toNat] w fun e w' => e = .returned (.int .u8 32) ∧ w' = w
    go_enter Tryz.func202, Tryz.ntmps202
    go_wp2
    go_ret
    exact ⟨rfl, rfl⟩
  rw [decide_eq_false h12] at e12
  rw [chr_rest h9 h10 h13 h12]
  clear h9 h10 h13 h12
  by_cases h1 : c.toNat < 32
  · have hc : c < 32 := by rw [UInt8.lt_iff_toNat_lt]; exact h1
    rw [if_pos (by simp [hc])]
    clear hc
    show Calls Tryz.prog 202 #[.int .u8 c.toNat] w fun e w' => e = .returned (.int .u8 63) ∧ w' = w
    go_enter Tryz.func202, Tryz.ntmps202
    go_wp2
    go_ret
    exact ⟨rfl, rfl⟩
  have hc : ¬ c < 32 := by rw [UInt8.lt_iff_toNat_lt]; exact h1
  by_cases h2 : 126 < c.toNat
  · have hd : 126 < c := by rw [UInt8.lt_iff_toNat_lt]; exact h2
    rw [if_pos (by simp [hd])]
    clear hc hd
    show Calls Tryz.prog 202 #[.int .u8 c.toNat] w fun e w' => e = .returned (.int .u8 63) ∧ w' = w
    go_enter Tryz.func202, Tryz.ntmps202
    go_wp2
    go_ret
    exact ⟨rfl, rfl⟩
  have hd : ¬ 126 < c := by rw [UInt8.lt_iff_toNat_lt]; exact h2
  rw [if_neg (by simp [hc, hd])]
  clear hc hd
  go_enter Tryz.func202, Tryz.ntmps202
  go_wp2
  go_ret
  exact ⟨rfl, rfl⟩

def dp (b : Nat) (x : List UInt8) : Option Addr := if Sn.boldL.contains x then some ⟨b, 1, none⟩ else if Sn.slantL.contains x then some ⟨b, 2, none⟩ else none
set_option maxHeartbeats 800000 in
theorem deep_0 (b : Nat) (x : ByteArray) (w : World) (q0 : (x.toList == [98]) = true) : Calls Tryz.prog 205 #[.pointer (some ⟨b, 0, none⟩), .string x] w fun e w' => e = .returned (.pointer (some ⟨b, 1, none⟩)) ∧ w' = w := by
  go_enter Tryz.func205, Tryz.ntmps205
  go_wp2
  go_ret
  exact ⟨rfl, rfl⟩
set_option maxHeartbeats 800000 in
theorem deep_1 (b : Nat) (x : ByteArray) (w : World) (q0 : (x.toList == [98]) = false) (q1 : (x.toList == [115, 116, 114, 111, 110, 103]) = true) : Calls Tryz.prog 205 #[.pointer (some ⟨b, 0, none⟩), .string x] w fun e w' => e = .returned (.pointer (some ⟨b, 1, none⟩)) ∧ w' = w := by
  go_enter Tryz.func205, Tryz.ntmps205
  go_wp2
  go_ret
  exact ⟨rfl, rfl⟩
set_option maxHeartbeats 800000 in
theorem deep_2 (b : Nat) (x : ByteArray) (w : World) (q0 : (x.toList == [98]) = false) (q1 : (x.toList == [115, 116, 114, 111, 110, 103]) = false) (q2 : (x.toList == [105]) = true) : Calls Tryz.prog 205 #[.pointer (some ⟨b, 0, none⟩), .string x] w fun e w' => e = .returned (.pointer (some ⟨b, 2, none⟩)) ∧ w' = w := by
  go_enter Tryz.func205, Tryz.ntmps205
  go_wp2
  go_ret
  exact ⟨rfl, rfl⟩
set_option maxHeartbeats 800000 in
theorem deep_3 (b : Nat) (x : ByteArray) (w : World) (q0 : (x.toList == [98]) = false) (q1 : (x.toList == [115, 116, 114, 111, 110, 103]) = false) (q2 : (x.toList == [105]) = false) (q3 : (x.toList == [101, 109]) = true) : Calls Tryz.prog 205 #[.pointer (some ⟨b, 0, none⟩), .string x] w fun e w' => e = .returned (.pointer (some ⟨b, 2, none⟩)) ∧ w' = w := by
  go_enter Tryz.func205, Tryz.ntmps205
  go_wp2
  go_ret
  exact ⟨rfl, rfl⟩
set_option maxHeartbeats 800000 in
theorem deep_4 (b : Nat) (x : ByteArray) (w : World) (q0 : (x.toList == [98]) = false) (q1 : (x.toList == [115, 116, 114, 111, 110, 103]) = false) (q2 : (x.toList == [105]) = false) (q3 : (x.toList == [101, 109]) = false) : Calls Tryz.prog 205 #[.pointer (some ⟨b, 0, none⟩), .string x] w fun e w' => e = .returned (.pointer none) ∧ w' = w := by
  go_enter Tryz.func205, Tryz.ntmps205
  go_wp2
  go_ret
  exact ⟨rfl, rfl⟩
theorem deep_any (b : Nat) (x : List UInt8) (w : World) : Calls Tryz.prog 205 #[.pointer (some ⟨b, 0, none⟩), .string (B x)] w fun e w' => e = .returned (.pointer (dp b x)) ∧ w' = w := by
  have q0 := Beq [98] x
  by_cases h0 : [98] = x
  · rw [decide_eq_true h0] at q0
    have hl : dp b x = some ⟨b, 1, none⟩ := by subst h0; rfl
    rw [hl]
    exact deep_0 b (B x) w q0
  rw [decide_eq_false h0] at q0
  have q1 := Beq [115, 116, 114, 111, 110, 103] x
  by_cases h1 : [115, 116, 114, 111, 110, 103] = x
  · rw [decide_eq_true h1] at q1
    have hl : dp b x = some ⟨b, 1, none⟩ := by subst h1; rfl
    rw [hl]
    exact deep_1 b (B x) w q0 q1
  rw [decide_eq_false h1] at q1
  have q2 := Beq [105] x
  by_cases h2 : [105] = x
  · rw [decide_eq_true h2] at q2
    have hl : dp b x = some ⟨b, 2, none⟩ := by subst h2; rfl
    rw [hl]
    exact deep_2 b (B x) w q0 q1 q2
  rw [decide_eq_false h2] at q2
  have q3 := Beq [101, 109] x
  by_cases h3 : [101, 109] = x
  · rw [decide_eq_true h3] at q3
    have hl : dp b x = some ⟨b, 2, none⟩ := by subst h3; rfl
    rw [hl]
    exact deep_3 b (B x) w q0 q1 q2 q3
  rw [decide_eq_false h3] at q3
  have hl : dp b x = none := by
    unfold dp Sn.boldL Sn.slantL
    simp [Ne.symm h0, Ne.symm h1, Ne.symm h2, Ne.symm h3]
  rw [hl]
  exact deep_4 b (B x) w q0 q1 q2 q3

def zcells (v : Value) (s : Sn.S) : List Value := [v, .int .i64 s.bold, .int .i64 s.slant, .string (B s.link), .int .i64 s.kind, .bool s.opened, .string (B s.hides)]
def zmarks (s : Sn.S) : Int := (if 0 < s.bold then 1 else 0) + (if 0 < s.slant then 2 else 0)
set_option maxHeartbeats 800000 in
theorem marks_any (b : Nat) (v : Value) (s : Sn.S) (w : World) (hB : Blk w b (zcells v s) 96) : Calls Tryz.prog 203 #[.pointer (some ⟨b, 0, none⟩)] w fun e w' => e = .returned (.int .i64 (zmarks s)) ∧ w' = w := by
  have c1 : w.cell? ⟨b, 1, none⟩ = some (.int .i64 s.bold) := hB.cell 1
  have c2 : w.cell? ⟨b, 2, none⟩ = some (.int .i64 s.slant) := hB.cell 2
  unfold zmarks
  clear hB
  generalize s.bold = x at *
  generalize s.slant = y at *
  by_cases h1 : 0 < x
  · rw [if_pos h1]
    by_cases h2 : 0 < y
    · rw [if_pos h2]
      go_enter Tryz.func203, Tryz.ntmps203
      go_wp2
      go_ret
      exact ⟨rfl, rfl⟩
    · rw [if_neg h2]
      go_enter Tryz.func203, Tryz.ntmps203
      go_wp2
      go_ret
      exact ⟨rfl, rfl⟩
  · rw [if_neg h1]
    by_cases h2 : 0 < y
    · rw [if_pos h2]
      go_enter Tryz.func203, Tryz.ntmps203
      go_wp2
      go_ret
      exact ⟨rfl, rfl⟩
    · rw [if_neg h2]
      go_enter Tryz.func203, Tryz.ntmps203
      go_wp2
      go_ret
      exact ⟨rfl, rfl⟩

theorem zclean_any (l : List UInt8) (w : World) (hl : l.length ≤ 20000) (hS : Sch w) : Calls Tryz.prog 206 #[.string (B l)] w fun e w' => e = .returned (.string (B (Lk.clean l))) ∧ Below w.heap.size w w' := by
  have hC := clean_any (B l) w (by rw [B_size]; exact hl) hS
  rw [B_data] at hC
  have HC : Hid (Calls Tryz.prog 250 #[.string (B l)] w fun e w' => e = .returned (.tuple #[.string (B (Lk.clean l)), .int .i64 0]) ∧ Below w.heap.size w w') := hC
  clear hC hS hl
  generalize B (Lk.clean l) = r at *
  go_enter Tryz.func206, Tryz.ntmps206
  go_wp2_with fail
  refine HC.out.mono ?_
  rintro e w1 ⟨rfl, hb⟩
  go_wp2
  go_ret
  exact ⟨rfl, hb⟩

set_option maxHeartbeats 800000 in
theorem tooMany_any (b n cap : Nat) (ao : Option Addr) (w : World) (h0 : w.cell? ⟨b, 0, none⟩ = some (.slice ao n cap)) : Calls Tryz.prog 63 #[.pointer (some ⟨b, 0, none⟩)] w fun e w' => e = .returned (.bool (decide (80 < n))) ∧ w' = w := by
  go_enter Tryz.func63, Tryz.ntmps63
  go_wp2
  go_ret
  refine ⟨?_, rfl⟩
  first | rfl | (simp; omega)
end Go.Proofs.YtbhcklkbckacpaaGreatDoor

/-
  Package sanitize, a page at work: how items are put behind each other, how a block is ended.
-/
namespace Go.Proofs.YtbhcklkbckacpaaGreatDoor
open Go.RowKit

structure Wk (w : World) (b : Nat) (s : Sn.S) (v : Value) : Prop where
  blk : Blk w b (zcells v s) 96
  own : w.ownsRow (b + 1) 39 3 v s.d.length (itCells s.d)
theorem Wk.blw {w w' : World} {b : Nat} {s : Sn.S} {v : Value} (h : Wk w b s v) (hk : Kept w w' (b :: ob v)) : Below b w w' :=
  hk.below (Nat.le_of_lt h.blk.lt) (fun x hx => by
    rcases List.mem_cons.1 hx with rfl | hx
    · exact Nat.le_refl _
    · have := ownBlk_ge h.own x (ob_mem hx); omega)
theorem Wk.under {w w' : World} {b : Nat} {s : Sn.S} {v : Value} (h : Wk w b s v) (hb : Below w.heap.size w w') : Wk w' b s v :=
  ⟨(hb.block b h.blk.lt).trans h.blk, own_under h.own hb⟩
theorem Wk.over {w w' : World} {b : Nat} {s s' : Sn.S} {v : Value} (h : Wk w b s v) (hB : Blk w' b (zcells v s') 96) (hk : Kept w w' [b]) (hd : s'.d = s.d) : Wk w' b s' v :=
  ⟨hB, by rw [hd]; exact own_kept h.own hk (Nat.lt_succ_self _)⟩
theorem Wk.big {w : World} {b : Nat} {s : Sn.S} {v : Value} (h : Wk w b s v) : b < w.heap.size := h.blk.lt

theorem whole_nil : Sn.whole [] = true := rfl
theorem whole_last (k : List It) (x : It) : Sn.whole (k ++ [x]) = Dc.ends x := by
  unfold Sn.whole
  rw [List.getLast?_concat]

set_option maxRecDepth 100000 in
set_option maxHeartbeats 800000 in
theorem behind_any (b : Nat) (s : Sn.S) (v : Value) (w : World) (hW : Wk w b s v) : Calls Tryz.prog 137 #[.pointer (some ⟨b, 0, none⟩)] w fun e w' => e = .returned (.bool (!Sn.whole s.d)) ∧ w' = w := by
  obtain ⟨ao, cap, rfl, hR⟩ := own_row hW.own
  have c0 : w.cell? ⟨b, 0, none⟩ = some (.slice ao s.d.length cap) := hW.blk.cell 0
  have hroom := hR.room
  have hbig := hR.big
  clear hW
  rcases List.eq_nil_or_concat s.d with h | ⟨k, x, h⟩
  · rw [h] at c0 ⊢
    rw [whole_nil]
    clear h hR hroom
    change w.cell? ⟨b, 0, none⟩ = some (.slice ao 0 cap) at c0
    go_enter Tryz.func137, Tryz.ntmps137
    go_wp2
    go_ret
    exact ⟨rfl, rfl⟩
  · rw [List.concat_eq_append] at h
    rw [h] at c0 hR hroom ⊢
    rw [whole_last]
    obtain ⟨g, off, rfl, hc⟩ := hR.lies (by simp)
    have hx := hc (k.length * 3) (.int .u8 x.c.toNat) (by
      have := (itCells_at (k ++ [x]) k.length (by simp)).1
      rw [this]
      simp)
    have e : (!Dc.ends x) = ((x.c.toNat : Int) != 10) := rfl
    rw [e]
    simp only [List.length_append, List.length_cons, List.length_nil, Nat.zero_add] at c0 hroom
    clear h hR hc e
    obtain ⟨m, hm⟩ : ∃ m, k.length = m := ⟨_, rfl⟩
    rw [hm] at c0 hroom hx
    clear hm
    go_enter Tryz.func137, Tryz.ntmps137
    go_wp2
    go_ret
    exact ⟨rfl, rfl⟩

def Sn.S.plus (s : Sn.S) (x : It) : Sn.S := { s with d := s.d ++ [x] }
structure PutTo (w : World) (b : Nat) (v : Value) (w' : World) (s' : Sn.S) : Prop where
  at_ : ∃ v', Wk w' b s' v' ∧ (v'.ownBlock = v.ownBlock ∨ ∀ k, v'.ownBlock = some k → w.heap.size ≤ k)
  kept : Kept w w' (b :: ob v)

set_option maxRecDepth 100000 in
set_option maxHeartbeats 1600000 in
theorem put_any (b : Nat) (s : Sn.S) (v : Value) (x : It) (w : World) (hW : Wk w b s v) (hn : s.d.length ≤ 1000000) : Calls Tryz.prog 65 #[.pointer (some ⟨b, 0, none⟩), .int .u8 x.c.toNat, .int .i64 x.m, .string x.l] w fun e w' => e = .returned (.tuple #[]) ∧ PutTo w b v w' (s.plus x) := by
  have HW : Hid (Wk w b s v) := hW
  have c0 : w.cell? ⟨b, 0, none⟩ = some v := hW.blk.cell 0
  have f0 := hW.blk.frozen 0
  obtain ⟨ao, cap, hv, -⟩ := own_row hW.own
  have hbs := hW.big
  obtain ⟨n, hnn⟩ : ∃ n, s.d.length = n := ⟨_, rfl⟩
  have HN : Hid (s.d.length = n) := hnn
  rw [hnn] at hv hn
  obtain ⟨i0, hi, hz0, hz1, hz2⟩ := info_parts Tryz.info39
  have HO : Hid (w.ownsRow (b + 1) 39 3 v n (itCells s.d)) := by have := hW.own; rw [hnn] at this; exact this
  clear hW hnn
  have HV : Hid (v = .slice ao n cap) := hv
  subst hv
  go_enter Tryz.func65, Tryz.ntmps65
  go_wp2_with (at_builtin; refine wpList_append_lies _ rfl (.tmp 12) (.tmp 17) 34 rfl (b + 1) 39 i0 (.agg #[.int .u8 0, .int .i64 0, .string ⟨#[]⟩]) 3 32 Tryz.underlying34 hi hz0 hz1 hz2 rfl (by decide) _ n (itCells s.d) rfl ?c1 ⟨w.heap.size, 0, none⟩ 1 1 (itCells [x]) rfl rfl ?c2 (itCells_one [x]) (by decide) ?c4 ?c5 ?c6 _ rfl ?c7)
  case c1 => exact HO.out.alloc _
  case c2 => exact fun _ _ h => h
  case c4 => unfold maxLen; omega
  case c5 => omega
  case c6 => first | omega | (simp; omega)
  case c7 =>
    intro g cap2 w3 hown hgrow hg hlt
    have hal : Kept w (w.alloc (.cells #[.int .u8 x.c.toNat, .int .i64 x.m, .string x.l] 39)) (b :: ob (.slice ao n cap)) := (Kept.refl w _).alloc _
    have hgr : Kept (w.alloc (.cells #[.int .u8 x.c.toNat, .int .i64 x.m, .string x.l] 39)) w3 (ob (.slice ao n cap)) :=
      ⟨hgrow.os, hgrow.tape, hgrow.output, hgrow.size, fun k hk hn => hgrow.block k hk (fun e => hn (by unfold ob; rw [← e]; simp))⟩
    have hbo : b ∉ ob (.slice ao n cap) := fun hm => by have := ownBlk_ge HO.out b (ob_mem hm); omega
    have hB3 : Blk w3 b (zcells (.slice ao n cap) s) 96 := hgr.blk (HW.out.blk.alloc _) hbo
    have HB3 : Hid (Blk w3 b (zcells (.slice ao n cap) s) 96) := hB3
    have f3 := hB3.frozen 0
    have c3 : w3.cell? ⟨b, 0, none⟩ = some (.slice ao n cap) := hB3.cell 0
    have HOW : Hid (w3.ownsRow (b + 1) 39 3 (.slice (some ⟨g, 0, none⟩) (n + 1) cap2) (n + 1) (itCells s.d ++ itCells [x])) := hown
    have HK : Hid (Kept w w3 (b :: ob (.slice ao n cap))) := hal.trans (hgr.mono fun y hy => List.mem_cons_of_mem _ hy)
    have HG : Hid ((Value.slice ao n cap).ownBlock = some g ∨ g = w.heap.size + 1) := by
      rcases hg with h | h
      · exact .inl h
      · exact .inr (by rw [h])
    clear hal hgr hbo hB3 hown hgrow hg hlt HO
    go_wp2
    go_end0
    refine ⟨rfl, ⟨_, ⟨HB3.out.set 0 _, ?_⟩, ?_⟩, HK.out.setCell _ _ (.inl (List.mem_cons_self ..))⟩
    · show World.ownsRow _ (b + 1) 39 3 _ (s.d ++ [x]).length (itCells (s.d ++ [x]))
      rw [List.length_append, HN.out, itCells_app]
      exact own_kept HOW.out (kept_set w3 b 0 _ [b] (List.mem_singleton.2 rfl)) (Nat.lt_succ_self _)
    · rcases HG.out with h | h
      · exact .inl (by rw [h]; rfl)
      · exact .inr (fun k hk => by simp [Value.ownBlock] at hk; omega)
end Go.Proofs.YtbhcklkbckacpaaGreatDoor

/-
  Package sanitize, a page at work: a block is ended, broken; a text is taken.
-/
namespace Go.Proofs.YtbhcklkbckacpaaGreatDoor
open Go.RowKit

theorem PutTo.next {w wr w2 : World} {b : Nat} {v v' : Value} {s : Sn.S} (hv : v'.ownBlock = v.ownBlock ∨ ∀ k, v'.ownBlock = some k → w.heap.size ≤ k) (hk : Kept w wr (b :: ob v)) (h2 : PutTo wr b v' w2 s) : PutTo w b v w2 s := by
  obtain ⟨⟨v2, hW, h3⟩, h4⟩ := h2
  refine ⟨⟨v2, hW, ?_⟩, hk.trans_new h4 (fun x hx => ?_)⟩
  · rcases h3 with h | h
    · rw [h]; exact hv
    · exact .inr fun k hk2 => Nat.le_trans hk.size (h k hk2)
  · rcases List.mem_cons.1 hx with rfl | hx
    · exact .inl (List.mem_cons_self ..)
    · rcases hv with h | h
      · exact .inl (List.mem_cons_of_mem _ (by unfold ob at hx ⊢; rw [← h]; exact hx))
      · exact .inr (h x (ob_mem hx))
theorem PutTo.pre {w w1 w2 : World} {b : Nat} {v : Value} {s : Sn.S} (hb : Below w.heap.size w w1) (h : PutTo w1 b v w2 s) : PutTo w b v w2 s :=
  PutTo.next (.inl rfl) (Kept.of hb _) h
theorem PutTo.refl {w : World} {b : Nat} {v : Value} {s : Sn.S} (h : Wk w b s v) : PutTo w b v w s := ⟨⟨v, h, .inl rfl⟩, Kept.refl _ _⟩
theorem PutTo.over {w w1 w2 : World} {b : Nat} {v v1 : Value} {s1 s2 : Sn.S} (hv : v1.ownBlock = v.ownBlock ∨ ∀ k, v1.ownBlock = some k → w.heap.size ≤ k) (hk : Kept w w1 (b :: ob v)) (hW : Wk w1 b s1 v1)
    (hB : Blk w2 b (zcells v1 s2) 96) (hk2 : Kept w1 w2 [b]) (hd : s2.d = s1.d) : PutTo w b v w2 s2 :=
  ⟨⟨v1, hW.over hB hk2 hd, hv⟩, hk.trans (hk2.mono fun x hx => by rw [List.mem_singleton.1 hx]; exact List.mem_cons_self ..)⟩
theorem kept_set2 (w : World) (b i j : Nat) (u v : Value) : Kept w ((w.setCell ⟨b, i, none⟩ u).setCell ⟨b, j, none⟩ v) [b] :=
  (kept_set w b i u [b] (List.mem_singleton.2 rfl)).trans (kept_set _ b j v [b] (List.mem_singleton.2 rfl))
theorem kept_set1 (w : World) (b i : Nat) (u : Value) : Kept w (w.setCell ⟨b, i, none⟩ u) [b] := kept_set w b i u [b] (List.mem_singleton.2 rfl)

theorem shut_put (s : Sn.S) (h : (s.opened || !Sn.whole s.d) = true) : Sn.shut s = { s with d := s.d ++ [Sn.endOf s.kind], opened := false, kind := 0 } := by
  unfold Sn.shut; rw [if_pos h]
theorem shut_no (s : Sn.S) (h : (s.opened || !Sn.whole s.d) = false) : Sn.shut s = { s with opened := false, kind := 0 } := by
  unfold Sn.shut; rw [h, if_neg Bool.false_ne_true]

set_option maxRecDepth 100000 in
set_option maxHeartbeats 1600000 in
theorem endBlock_any (b : Nat) (s : Sn.S) (v : Value) (w : World) (hW : Wk w b s v) (hn : s.d.length ≤ 1000000) : Calls Tryz.prog 64 #[.pointer (some ⟨b, 0, none⟩)] w fun e w' => e = .returned (.tuple #[]) ∧ PutTo w b v w' (Sn.shut s) := by
  have HW : Hid (Wk w b s v) := hW
  have c5 : w.cell? ⟨b, 5, none⟩ = some (.bool s.opened) := hW.blk.cell 5
  have c4 : w.cell? ⟨b, 4, none⟩ = some (.int .i64 s.kind) := hW.blk.cell 4
  have f5 := hW.blk.frozen 5
  have f4 := hW.blk.frozen 4
  have CB : Hid (∀ w', Wk w' b s v → Calls Tryz.prog 137 #[.pointer (some ⟨b, 0, none⟩)] w' fun e w2 => e = .returned (.bool (!Sn.whole s.d)) ∧ w2 = w') := fun w' h => behind_any b s v w' h
  have CP : Hid (∀ w', Wk w' b s v → Calls Tryz.prog 65 #[.pointer (some ⟨b, 0, none⟩), .int .u8 10, .int .i64 s.kind, .string ⟨#[]⟩] w' fun e w2 => e = .returned (.tuple #[]) ∧ PutTo w' b v w2 (s.plus (Sn.endOf s.kind))) := fun w' h => put_any b s v (Sn.endOf s.kind) w' h hn
  clear hW hn
  cases ho : s.opened
  · cases hz : Sn.whole s.d
    · have hs := shut_put s (by rw [ho, hz]; rfl)
      have HS : Hid (Sn.shut s = { s with d := s.d ++ [Sn.endOf s.kind], opened := false, kind := 0 }) := hs
      rw [ho] at c5
      rw [hz] at CB
      clear ho hz hs
      go_enter Tryz.func64, Tryz.ntmps64
      go_wp2_with fail
      refine (CB.out _ HW.out).mono ?_
      rintro e w1 ⟨rfl, rfl⟩
      go_wp2_with fail
      refine (CP.out _ HW.out).mono ?_
      rintro e w2 ⟨rfl, ⟨v1, hW1, hv1⟩, hK1⟩
      have H1 : Hid (Wk w2 b (s.plus (Sn.endOf s.kind)) v1) := hW1
      have HV : Hid (v1.ownBlock = v.ownBlock ∨ ∀ k, v1.ownBlock = some k → w1.heap.size ≤ k) := hv1
      have HK : Hid (Kept w1 w2 (b :: ob v)) := hK1
      have d5 : w2.cell? ⟨b, 5, none⟩ = some (.bool s.opened) := hW1.blk.cell 5
      have d4 : w2.cell? ⟨b, 4, none⟩ = some (.int .i64 s.kind) := hW1.blk.cell 4
      have g5 := hW1.blk.frozen 5
      have g4 := hW1.blk.frozen 4
      clear hW1 hv1 hK1 c5 c4 f5 f4
      go_wp2
      go_end0
      refine ⟨rfl, ?_⟩
      rw [HS.out]
      exact PutTo.over HV.out HK.out H1.out ((H1.out.blk.set 5 _).set 4 _) (kept_set2 ..) rfl
    · have hs := shut_no s (by rw [ho, hz]; rfl)
      have HS : Hid (Sn.shut s = { s with opened := false, kind := 0 }) := hs
      rw [ho] at c5
      rw [hz] at CB
      clear ho hz hs
      go_enter Tryz.func64, Tryz.ntmps64
      go_wp2_with fail
      refine (CB.out _ HW.out).mono ?_
      rintro e w1 ⟨rfl, rfl⟩
      go_wp2
      go_end0
      refine ⟨rfl, ?_⟩
      rw [HS.out]
      exact PutTo.over (.inl rfl) (Kept.refl _ _) HW.out ((HW.out.blk.set 5 _).set 4 _) (kept_set2 ..) rfl
  · have hs := shut_put s (by rw [ho]; rfl)
    have HS : Hid (Sn.shut s = { s with d := s.d ++ [Sn.endOf s.kind], opened := false, kind := 0 }) := hs
    rw [ho] at c5
    clear ho hs
    go_enter Tryz.func64, Tryz.ntmps64
    go_wp2_with fail
    refine (CP.out _ HW.out).mono ?_
    rintro e w2 ⟨rfl, ⟨v1, hW1, hv1⟩, hK1⟩
    have H1 : Hid (Wk w2 b (s.plus (Sn.endOf s.kind)) v1) := hW1
    have HV : Hid (v1.ownBlock = v.ownBlock ∨ ∀ k, v1.ownBlock = some k → w.heap.size ≤ k) := hv1
    have HK : Hid (Kept w w2 (b :: ob v)) := hK1
    have d5 : w2.cell? ⟨b, 5, none⟩ = some (.bool s.opened) := hW1.blk.cell 5
    have d4 : w2.cell? ⟨b, 4, none⟩ = some (.int .i64 s.kind) := hW1.blk.cell 4
    have g5 := hW1.blk.frozen 5
    have g4 := hW1.blk.frozen 4
    clear hW1 hv1 hK1 c5 c4 f5 f4
    go_wp2
    go_end0
    refine ⟨rfl, ?_⟩
    rw [HS.out]
    exact PutTo.over HV.out HK.out H1.out ((H1.out.blk.set 5 _).set 4 _) (kept_set2 ..) rfl

set_option maxRecDepth 100000 in
set_option maxHeartbeats 1600000 in
theorem break_any (b : Nat) (s : Sn.S) (v : Value) (w : World) (hW : Wk w b s v) (hn : s.d.length ≤ 1000000) : Calls Tryz.prog 207 #[.pointer (some ⟨b, 0, none⟩)] w fun e w' => e = .returned (.tuple #[]) ∧ PutTo w b v w' { Sn.shut { s with opened := true } with kind := s.kind } := by
  have HW : Hid (Wk w b s v) := hW
  have c5 : w.cell? ⟨b, 5, none⟩ = some (.bool s.opened) := hW.blk.cell 5
  have c4 : w.cell? ⟨b, 4, none⟩ = some (.int .i64 s.kind) := hW.blk.cell 4
  have f5 := hW.blk.frozen 5
  have f4 := hW.blk.frozen 4
  have HN : Hid (s.d.length ≤ 1000000) := hn
  have W1 : Hid (Wk (w.setCell ⟨b, 5, none⟩ (.bool true)) b { s with opened := true } v) := hW.over (hW.blk.set 5 _) (kept_set1 ..) rfl
  clear hW hn
  go_enter Tryz.func207, Tryz.ntmps207
  go_wp2_with fail
  refine (endBlock_any b { s with opened := true } v _ W1.out HN.out).mono ?_
  rintro e w2 ⟨rfl, ⟨v1, hW1, hv1⟩, hK1⟩
  have H1 : Hid (Wk w2 b (Sn.shut { s with opened := true }) v1) := hW1
  have HV : Hid (v1.ownBlock = v.ownBlock ∨ ∀ k, v1.ownBlock = some k → (w.setCell ⟨b, 5, none⟩ (.bool true)).heap.size ≤ k) := hv1
  have HK : Hid (Kept (w.setCell ⟨b, 5, none⟩ (.bool true)) w2 (b :: ob v)) := hK1
  have d4 : w2.cell? ⟨b, 4, none⟩ = some (.int .i64 (Sn.shut { s with opened := true }).kind) := hW1.blk.cell 4
  have g4 := hW1.blk.frozen 4
  clear hW1 hv1 hK1 c5 c4 f5 f4
  go_wp2
  go_end0
  refine ⟨rfl, ?_⟩
  have k1 : Kept w (w.setCell ⟨b, 5, none⟩ (.bool true)) (b :: ob v) := kept_set _ _ _ _ _ (List.mem_cons_self ..)
  refine PutTo.over ?_ (k1.trans HK.out) H1.out (H1.out.blk.set 4 _) (kept_set1 ..) rfl
  rcases HV.out with h | h
  · exact .inl h
  · exact .inr fun k hk => Nat.le_trans k1.size (h k hk)

def Sn.S.chars (s : Sn.S) (u : List UInt8) : Sn.S := { s with d := s.d ++ u.map (Sn.item s) }
theorem chars_nil (s : Sn.S) : s.chars [] = s := by unfold Sn.S.chars; simp
theorem chars_snoc (s : Sn.S) (u : List UInt8) (k : Nat) (h : k < u.length) : (s.chars (u.take k)).plus (Sn.item s u[k]) = s.chars (u.take (k + 1)) := by
  unfold Sn.S.chars Sn.S.plus
  simp only
  rw [List.take_succ_eq_append_getElem h, List.map_append, List.append_assoc]
  rfl
theorem own_lt {w : World} {base : Nat} {e : TypeId} {size : Nat} {v : Value} {n : Nat} {xs : List Value} (h : w.ownsRow base e size v n xs) : ∀ k, v.ownBlock = some k → k < w.heap.size := by
  intro k hk
  rcases h.2 with ⟨rfl, _⟩ | ⟨g, cap, cur, rfl, hg, hh, _⟩
  · cases hk
  · simp [Value.ownBlock] at hk
    subst hk
    exact (Array.getElem?_eq_some_iff.1 hh).1
end Go.Proofs.YtbhcklkbckacpaaGreatDoor
