/-
  Package sanitize, its small functions: characters, marks, names of blocks, what hides, how deep.
-/
import Derived.Test.YtpcaiechaakhnabGreatDoorSp
import Derived.Test.YtpcaiechaakhnabGreatDoorCl
import Derived.Test.YtpcaiechaakhnabGreatDoorTr
import Derived.Test.YtpcaiechaakhnabGreatDoorDy
namespace Go.Proofs.YtpcaiechaakhnabGreatDoor
open Go.RowKit

def bncells : Array Value := #[.string ⟨#[112]⟩, .int .i64 0, .string ⟨#[100, 105, 118]⟩, .int .i64 0, .string ⟨#[104, 49]⟩, .int .i64 1, .string ⟨#[108, 105]⟩, .int .i64 2, .string ⟨#[104, 50]⟩, .int .i64 3]
/-- The variable 'blockNames' of sanitize holds what its initialiser lays. -/
def Bn (w : World) : Prop := ∃ t fr, w.heap[5]? = some (.cells bncells t fr)
theorem Bn.pos {w : World} (h : Bn w) : 5 < w.heap.size := by
  obtain ⟨t, fr, hg⟩ := h
  exact (Array.getElem?_eq_some_iff.1 hg).1
theorem Bn.below {w w' : World} {b : Nat} (h : Bn w) (hb : Below b w w') (h6 : 5 < b) : Bn w' := by
  obtain ⟨t, fr, hg⟩ := h
  exact ⟨t, fr, (hb.block 5 h6).trans hg⟩
theorem bidx0 (w : World) : (Instr.index 142 (.agg bncells) (.int .i64 0)).run Tryz.prog w = .ok (.agg #[.string ⟨#[112]⟩, .int .i64 0]) w := by kernel_rfl
theorem bidx1 (w : World) : (Instr.index 142 (.agg bncells) (.int .i64 1)).run Tryz.prog w = .ok (.agg #[.string ⟨#[100, 105, 118]⟩, .int .i64 0]) w := by kernel_rfl
theorem bidx2 (w : World) : (Instr.index 142 (.agg bncells) (.int .i64 2)).run Tryz.prog w = .ok (.agg #[.string ⟨#[104, 49]⟩, .int .i64 1]) w := by kernel_rfl
theorem bidx3 (w : World) : (Instr.index 142 (.agg bncells) (.int .i64 3)).run Tryz.prog w = .ok (.agg #[.string ⟨#[108, 105]⟩, .int .i64 2]) w := by kernel_rfl
theorem bidx4 (w : World) : (Instr.index 142 (.agg bncells) (.int .i64 4)).run Tryz.prog w = .ok (.agg #[.string ⟨#[104, 50]⟩, .int .i64 3]) w := by kernel_rfl
theorem szBn : (Tryz.prog.info? 142).map (·.size) = some bncells.size := by kernel_rfl
def hncells : Array Value := #[.string ⟨#[115, 99, 114, 105, 112, 116]⟩, .string ⟨#[115, 116, 121, 108, 101]⟩, .string ⟨#[116, 101, 109, 112, 108, 97, 116, 101]⟩, .string ⟨#[115, 118, 103]⟩, .string ⟨#[109, 97, 116, 104]⟩, .string ⟨#[105, 102, 114, 97, 109, 101]⟩, .string ⟨#[116, 105, 116, 108, 101]⟩, .string ⟨#[116, 101, 120, 116, 97, 114, 101, 97]⟩, .string ⟨#[110, 111, 115, 99, 114, 105, 112, 116]⟩]
/-- The variable 'hidingNames' of sanitize holds what its initialiser lays. -/
def Hn (w : World) : Prop := ∃ t fr, w.heap[6]? = some (.cells hncells t fr)
theorem Hn.pos {w : World} (h : Hn w) : 6 < w.heap.size := by
  obtain ⟨t, fr, hg⟩ := h
  exact (Array.getElem?_eq_some_iff.1 hg).1
theorem Hn.below {w w' : World} {b : Nat} (h : Hn w) (hb : Below b w w') (h6 : 6 < b) : Hn w' := by
  obtain ⟨t, fr, hg⟩ := h
  exact ⟨t, fr, (hb.block 6 h6).trans hg⟩
theorem hidx0 (w : World) : (Instr.index 143 (.agg hncells) (.int .i64 0)).run Tryz.prog w = .ok (.string ⟨#[115, 99, 114, 105, 112, 116]⟩) w := by kernel_rfl
theorem hidx1 (w : World) : (Instr.index 143 (.agg hncells) (.int .i64 1)).run Tryz.prog w = .ok (.string ⟨#[115, 116, 121, 108, 101]⟩) w := by kernel_rfl
theorem hidx2 (w : World) : (Instr.index 143 (.agg hncells) (.int .i64 2)).run Tryz.prog w = .ok (.string ⟨#[116, 101, 109, 112, 108, 97, 116, 101]⟩) w := by kernel_rfl
theorem hidx3 (w : World) : (Instr.index 143 (.agg hncells) (.int .i64 3)).run Tryz.prog w = .ok (.string ⟨#[115, 118, 103]⟩) w := by kernel_rfl
theorem hidx4 (w : World) : (Instr.index 143 (.agg hncells) (.int .i64 4)).run Tryz.prog w = .ok (.string ⟨#[109, 97, 116, 104]⟩) w := by kernel_rfl
theorem hidx5 (w : World) : (Instr.index 143 (.agg hncells) (.int .i64 5)).run Tryz.prog w = .ok (.string ⟨#[105, 102, 114, 97, 109, 101]⟩) w := by kernel_rfl
theorem hidx6 (w : World) : (Instr.index 143 (.agg hncells) (.int .i64 6)).run Tryz.prog w = .ok (.string ⟨#[116, 105, 116, 108, 101]⟩) w := by kernel_rfl
theorem hidx7 (w : World) : (Instr.index 143 (.agg hncells) (.int .i64 7)).run Tryz.prog w = .ok (.string ⟨#[116, 101, 120, 116, 97, 114, 101, 97]⟩) w := by kernel_rfl
theorem hidx8 (w : World) : (Instr.index 143 (.agg hncells) (.int .i64 8)).run Tryz.prog w = .ok (.string ⟨#[110, 111, 115, 99, 114, 105, 112, 116]⟩) w := by kernel_rfl
theorem szHn : (Tryz.prog.info? 143).map (·.size) = some hncells.size := by kernel_rfl
theorem zbelow1 {w : World} (o1 : Obj) : Below w.heap.size w (w.alloc o1) := (Below.refl w.heap.size w).alloc (Nat.le_refl _) o1
theorem zbelow2 {w : World} (o1 o2 : Obj) : Below w.heap.size w ((w.alloc o1).alloc o2) := (zbelow1 o1).alloc (zbelow1 o1).size o2
theorem zbelow3 {w : World} (o1 o2 o3 : Obj) : Below w.heap.size w (((w.alloc o1).alloc o2).alloc o3) := (zbelow2 o1 o2).alloc (zbelow2 o1 o2).size o3
theorem zbelow4 {w : World} (o1 o2 o3 o4 : Obj) : Below w.heap.size w ((((w.alloc o1).alloc o2).alloc o3).alloc o4) := (zbelow3 o1 o2 o3).alloc (zbelow3 o1 o2 o3).size o4
theorem zbelow5 {w : World} (o1 o2 o3 o4 o5 : Obj) : Below w.heap.size w (((((w.alloc o1).alloc o2).alloc o3).alloc o4).alloc o5) := (zbelow4 o1 o2 o3 o4).alloc (zbelow4 o1 o2 o3 o4).size o5

set_option maxRecDepth 100000 in
set_option maxHeartbeats 1600000 in
theorem kind_0 (b : ByteArray) (w : World) (hB : Bn w) (q0 : ([112] == b.toList) = true) : Calls Tryz.prog 91 #[.string b] w fun e w' => e = .returned (.tuple #[.int .i64 0, .bool true]) ∧ Below w.heap.size w w' := by
  obtain ⟨t, fr, hg⟩ := hB
  have Hg : Hid (w.heap[5]? = some (.cells bncells t fr)) := hg
  clear hg
  have i0 := bidx0
  go_enter Tryz.func91, Tryz.ntmps91
  go_wp2_with (refine wpList_load_row rfl 142 _ rfl 5 rfl t _ fr _ Hg.out Tryz.underlying142 rfl szBn ?_)
  refine wp_loop_rounds 7 ?_
  rw [rounds_succ]
  go_wp2
  go_ret2
  exact ⟨rfl, zbelow1 _⟩
set_option maxRecDepth 100000 in
set_option maxHeartbeats 1600000 in
theorem kind_1 (b : ByteArray) (w : World) (hB : Bn w) (q0 : ([112] == b.toList) = false) (q1 : ([100, 105, 118] == b.toList) = true) : Calls Tryz.prog 91 #[.string b] w fun e w' => e = .returned (.tuple #[.int .i64 0, .bool true]) ∧ Below w.heap.size w w' := by
  obtain ⟨t, fr, hg⟩ := hB
  have Hg : Hid (w.heap[5]? = some (.cells bncells t fr)) := hg
  clear hg
  have i0 := bidx0
  have i1 := bidx1
  go_enter Tryz.func91, Tryz.ntmps91
  go_wp2_with (refine wpList_load_row rfl 142 _ rfl 5 rfl t _ fr _ Hg.out Tryz.underlying142 rfl szBn ?_)
  refine wp_loop_rounds 7 ?_
  rw [rounds_succ]
  go_wp2
  rw [rounds_succ]
  go_wp2
  go_ret2
  exact ⟨rfl, zbelow2 _ _⟩
set_option maxRecDepth 100000 in
set_option maxHeartbeats 1600000 in
theorem kind_2 (b : ByteArray) (w : World) (hB : Bn w) (q0 : ([112] == b.toList) = false) (q1 : ([100, 105, 118] == b.toList) = false) (q2 : ([104, 49] == b.toList) = true) : Calls Tryz.prog 91 #[.string b] w fun e w' => e = .returned (.tuple #[.int .i64 1, .bool true]) ∧ Below w.heap.size w w' := by
  obtain ⟨t, fr, hg⟩ := hB
  have Hg : Hid (w.heap[5]? = some (.cells bncells t fr)) := hg
  clear hg
  have i0 := bidx0
  have i1 := bidx1
  have i2 := bidx2
  go_enter Tryz.func91, Tryz.ntmps91
  go_wp2_with (refine wpList_load_row rfl 142 _ rfl 5 rfl t _ fr _ Hg.out Tryz.underlying142 rfl szBn ?_)
  refine wp_loop_rounds 7 ?_
  rw [rounds_succ]
  go_wp2
  rw [rounds_succ]
  go_wp2
  rw [rounds_succ]
  go_wp2
  go_ret2
  exact ⟨rfl, zbelow3 _ _ _⟩
set_option maxRecDepth 100000 in
set_option maxHeartbeats 1600000 in
theorem kind_3 (b : ByteArray) (w : World) (hB : Bn w) (q0 : ([112] == b.toList) = false) (q1 : ([100, 105, 118] == b.toList) = false) (q2 : ([104, 49] == b.toList) = false) (q3 : ([108, 105] == b.toList) = true) : Calls Tryz.prog 91 #[.string b] w fun e w' => e = .returned (.tuple #[.int .i64 2, .bool true]) ∧ Below w.heap.size w w' := by
  obtain ⟨t, fr, hg⟩ := hB
  have Hg : Hid (w.heap[5]? = some (.cells bncells t fr)) := hg
  clear hg
  have i0 := bidx0
  have i1 := bidx1
  have i2 := bidx2
  have i3 := bidx3
  go_enter Tryz.func91, Tryz.ntmps91
  go_wp2_with (refine wpList_load_row rfl 142 _ rfl 5 rfl t _ fr _ Hg.out Tryz.underlying142 rfl szBn ?_)
  refine wp_loop_rounds 7 ?_
  rw [rounds_succ]
  go_wp2
  rw [rounds_succ]
  go_wp2
  rw [rounds_succ]
  go_wp2
  rw [rounds_succ]
  go_wp2
  go_ret2
  exact ⟨rfl, zbelow4 _ _ _ _⟩
set_option maxRecDepth 100000 in
set_option maxHeartbeats 1600000 in
theorem kind_4 (b : ByteArray) (w : World) (hB : Bn w) (q0 : ([112] == b.toList) = false) (q1 : ([100, 105, 118] == b.toList) = false) (q2 : ([104, 49] == b.toList) = false) (q3 : ([108, 105] == b.toList) = false) (q4 : ([104, 50] == b.toList) = true) : Calls Tryz.prog 91 #[.string b] w fun e w' => e = .returned (.tuple #[.int .i64 3, .bool true]) ∧ Below w.heap.size w w' := by
  obtain ⟨t, fr, hg⟩ := hB
  have Hg : Hid (w.heap[5]? = some (.cells bncells t fr)) := hg
  clear hg
  have i0 := bidx0
  have i1 := bidx1
  have i2 := bidx2
  have i3 := bidx3
  have i4 := bidx4
  go_enter Tryz.func91, Tryz.ntmps91
  go_wp2_with (refine wpList_load_row rfl 142 _ rfl 5 rfl t _ fr _ Hg.out Tryz.underlying142 rfl szBn ?_)
  refine wp_loop_rounds 7 ?_
  rw [rounds_succ]
  go_wp2
  rw [rounds_succ]
  go_wp2
  rw [rounds_succ]
  go_wp2
  rw [rounds_succ]
  go_wp2
  rw [rounds_succ]
  go_wp2
  go_ret2
  exact ⟨rfl, zbelow5 _ _ _ _ _⟩
set_option maxRecDepth 100000 in
set_option maxHeartbeats 1600000 in
theorem kind_5 (b : ByteArray) (w : World) (hB : Bn w) (q0 : ([112] == b.toList) = false) (q1 : ([100, 105, 118] == b.toList) = false) (q2 : ([104, 49] == b.toList) = false) (q3 : ([108, 105] == b.toList) = false) (q4 : ([104, 50] == b.toList) = false) : Calls Tryz.prog 91 #[.string b] w fun e w' => e = .returned (.tuple #[.int .i64 0, .bool false]) ∧ Below w.heap.size w w' := by
  obtain ⟨t, fr, hg⟩ := hB
  have Hg : Hid (w.heap[5]? = some (.cells bncells t fr)) := hg
  clear hg
  have i0 := bidx0
  have i1 := bidx1
  have i2 := bidx2
  have i3 := bidx3
  have i4 := bidx4
  go_enter Tryz.func91, Tryz.ntmps91
  go_wp2_with (refine wpList_load_row rfl 142 _ rfl 5 rfl t _ fr _ Hg.out Tryz.underlying142 rfl szBn ?_)
  refine wp_loop_rounds 7 ?_
  rw [rounds_succ]
  go_wp2
  rw [rounds_succ]
  go_wp2
  rw [rounds_succ]
  go_wp2
  rw [rounds_succ]
  go_wp2
  rw [rounds_succ]
  go_wp2
  rw [rounds_succ]
  go_wp2
  go_ret2
  exact ⟨rfl, zbelow5 _ _ _ _ _⟩

theorem kindOf_any (x : List UInt8) (w : World) (hB : Bn w) : Calls Tryz.prog 91 #[.string (B x)] w fun e w' => e = .returned (.tuple #[.int .i64 ((Sn.blockOf x).getD 0), .bool (Sn.blockOf x).isSome]) ∧ Below w.heap.size w w' := by
  have q0 := eqB [112] x
  by_cases h0 : [112] = x
  · rw [decide_eq_true h0] at q0
    have hl : Sn.blockOf x = some 0 := by subst h0; rfl
    rw [hl]
    exact kind_0 (B x) w hB q0
  rw [decide_eq_false h0] at q0
  have q1 := eqB [100, 105, 118] x
  by_cases h1 : [100, 105, 118] = x
  · rw [decide_eq_true h1] at q1
    have hl : Sn.blockOf x = some 0 := by subst h1; rfl
    rw [hl]
    exact kind_1 (B x) w hB q0 q1
  rw [decide_eq_false h1] at q1
  have q2 := eqB [104, 49] x
  by_cases h2 : [104, 49] = x
  · rw [decide_eq_true h2] at q2
    have hl : Sn.blockOf x = some 1 := by subst h2; rfl
    rw [hl]
    exact kind_2 (B x) w hB q0 q1 q2
  rw [decide_eq_false h2] at q2
  have q3 := eqB [108, 105] x
  by_cases h3 : [108, 105] = x
  · rw [decide_eq_true h3] at q3
    have hl : Sn.blockOf x = some 2 := by subst h3; rfl
    rw [hl]
    exact kind_3 (B x) w hB q0 q1 q2 q3
  rw [decide_eq_false h3] at q3
  have q4 := eqB [104, 50] x
  by_cases h4 : [104, 50] = x
  · rw [decide_eq_true h4] at q4
    have hl : Sn.blockOf x = some 3 := by subst h4; rfl
    rw [hl]
    exact kind_4 (B x) w hB q0 q1 q2 q3 q4
  rw [decide_eq_false h4] at q4
  have hl : Sn.blockOf x = none := by
    unfold Sn.blockOf
    simp [Ne.symm h0, Ne.symm h1, Ne.symm h2, Ne.symm h3, Ne.symm h4]
  rw [hl]
  exact kind_5 (B x) w hB q0 q1 q2 q3 q4

set_option maxRecDepth 100000 in
set_option maxHeartbeats 1600000 in
theorem hide_0 (b : ByteArray) (w : World) (hB : Hn w) (q0 : ([115, 99, 114, 105, 112, 116] == b.toList) = true) : Calls Tryz.prog 95 #[.string b] w fun e w' => e = .returned (.bool true) ∧ w' = w := by
  obtain ⟨t, fr, hg⟩ := hB
  have Hg : Hid (w.heap[6]? = some (.cells hncells t fr)) := hg
  clear hg
  have i0 := hidx0
  go_enter Tryz.func95, Tryz.ntmps95
  go_wp2_with (refine wpList_load_row rfl 143 _ rfl 6 rfl t _ fr _ Hg.out Tryz.underlying143 rfl szHn ?_)
  refine wp_loop_rounds 11 ?_
  rw [rounds_succ]
  go_wp2
  go_ret
  exact ⟨rfl, rfl⟩
set_option maxRecDepth 100000 in
set_option maxHeartbeats 1600000 in
theorem hide_1 (b : ByteArray) (w : World) (hB : Hn w) (q0 : ([115, 99, 114, 105, 112, 116] == b.toList) = false) (q1 : ([115, 116, 121, 108, 101] == b.toList) = true) : Calls Tryz.prog 95 #[.string b] w fun e w' => e = .returned (.bool true) ∧ w' = w := by
  obtain ⟨t, fr, hg⟩ := hB
  have Hg : Hid (w.heap[6]? = some (.cells hncells t fr)) := hg
  clear hg
  have i0 := hidx0
  have i1 := hidx1
  go_enter Tryz.func95, Tryz.ntmps95
  go_wp2_with (refine wpList_load_row rfl 143 _ rfl 6 rfl t _ fr _ Hg.out Tryz.underlying143 rfl szHn ?_)
  refine wp_loop_rounds 11 ?_
  rw [rounds_succ]
  go_wp2
  rw [rounds_succ]
  go_wp2
  go_ret
  exact ⟨rfl, rfl⟩
set_option maxRecDepth 100000 in
set_option maxHeartbeats 1600000 in
theorem hide_2 (b : ByteArray) (w : World) (hB : Hn w) (q0 : ([115, 99, 114, 105, 112, 116] == b.toList) = false) (q1 : ([115, 116, 121, 108, 101] == b.toList) = false) (q2 : ([116, 101, 109, 112, 108, 97, 116, 101] == b.toList) = true) : Calls Tryz.prog 95 #[.string b] w fun e w' => e = .returned (.bool true) ∧ w' = w := by
  obtain ⟨t, fr, hg⟩ := hB
  have Hg : Hid (w.heap[6]? = some (.cells hncells t fr)) := hg
  clear hg
  have i0 := hidx0
  have i1 := hidx1
  have i2 := hidx2
  go_enter Tryz.func95, Tryz.ntmps95
  go_wp2_with (refine wpList_load_row rfl 143 _ rfl 6 rfl t _ fr _ Hg.out Tryz.underlying143 rfl szHn ?_)
  refine wp_loop_rounds 11 ?_
  rw [rounds_succ]
  go_wp2
  rw [rounds_succ]
  go_wp2
  rw [rounds_succ]
  go_wp2
  go_ret
  exact ⟨rfl, rfl⟩
set_option maxRecDepth 100000 in
set_option maxHeartbeats 1600000 in
theorem hide_3 (b : ByteArray) (w : World) (hB : Hn w) (q0 : ([115, 99, 114, 105, 112, 116] == b.toList) = false) (q1 : ([115, 116, 121, 108, 101] == b.toList) = false) (q2 : ([116, 101, 109, 112, 108, 97, 116, 101] == b.toList) = false) (q3 : ([115, 118, 103] == b.toList) = true) : Calls Tryz.prog 95 #[.string b] w fun e w' => e = .returned (.bool true) ∧ w' = w := by
  obtain ⟨t, fr, hg⟩ := hB
  have Hg : Hid (w.heap[6]? = some (.cells hncells t fr)) := hg
  clear hg
  have i0 := hidx0
  have i1 := hidx1
  have i2 := hidx2
  have i3 := hidx3
  go_enter Tryz.func95, Tryz.ntmps95
  go_wp2_with (refine wpList_load_row rfl 143 _ rfl 6 rfl t _ fr _ Hg.out Tryz.underlying143 rfl szHn ?_)
  refine wp_loop_rounds 11 ?_
  rw [rounds_succ]
  go_wp2
  rw [rounds_succ]
  go_wp2
  rw [rounds_succ]
  go_wp2
  rw [rounds_succ]
  go_wp2
  go_ret
  exact ⟨rfl, rfl⟩
set_option maxRecDepth 100000 in
set_option maxHeartbeats 1600000 in
theorem hide_4 (b : ByteArray) (w : World) (hB : Hn w) (q0 : ([115, 99, 114, 105, 112, 116] == b.toList) = false) (q1 : ([115, 116, 121, 108, 101] == b.toList) = false) (q2 : ([116, 101, 109, 112, 108, 97, 116, 101] == b.toList) = false) (q3 : ([115, 118, 103] == b.toList) = false) (q4 : ([109, 97, 116, 104] == b.toList) = true) : Calls Tryz.prog 95 #[.string b] w fun e w' => e = .returned (.bool true) ∧ w' = w := by
  obtain ⟨t, fr, hg⟩ := hB
  have Hg : Hid (w.heap[6]? = some (.cells hncells t fr)) := hg
  clear hg
  have i0 := hidx0
  have i1 := hidx1
  have i2 := hidx2
  have i3 := hidx3
  have i4 := hidx4
  go_enter Tryz.func95, Tryz.ntmps95
  go_wp2_with (refine wpList_load_row rfl 143 _ rfl 6 rfl t _ fr _ Hg.out Tryz.underlying143 rfl szHn ?_)
  refine wp_loop_rounds 11 ?_
  rw [rounds_succ]
  go_wp2
  rw [rounds_succ]
  go_wp2
  rw [rounds_succ]
  go_wp2
  rw [rounds_succ]
  go_wp2
  rw [rounds_succ]
  go_wp2
  go_ret
  exact ⟨rfl, rfl⟩
set_option maxRecDepth 100000 in
set_option maxHeartbeats 1600000 in
theorem hide_5 (b : ByteArray) (w : World) (hB : Hn w) (q0 : ([115, 99, 114, 105, 112, 116] == b.toList) = false) (q1 : ([115, 116, 121, 108, 101] == b.toList) = false) (q2 : ([116, 101, 109, 112, 108, 97, 116, 101] == b.toList) = false) (q3 : ([115, 118, 103] == b.toList) = false) (q4 : ([109, 97, 116, 104] == b.toList) = false) (q5 : ([105, 102, 114, 97, 109, 101] == b.toList) = true) : Calls Tryz.prog 95 #[.string b] w fun e w' => e = .returned (.bool true) ∧ w' = w := by
  obtain ⟨t, fr, hg⟩ := hB
  have Hg : Hid (w.heap[6]? = some (.cells hncells t fr)) := hg
  clear hg
  have i0 := hidx0
  have i1 := hidx1
  have i2 := hidx2
  have i3 := hidx3
  have i4 := hidx4
  have i5 := hidx5
  go_enter Tryz.func95, Tryz.ntmps95
  go_wp2_with (refine wpList_load_row rfl 143 _ rfl 6 rfl t _ fr _ Hg.out Tryz.underlying143 rfl szHn ?_)
  refine wp_loop_rounds 11 ?_
  rw [rounds_succ]
  go_wp2
  rw [rounds_succ]
  go_wp2
  rw [rounds_succ]
  go_wp2
  rw [rounds_succ]
  go_wp2
  rw [rounds_succ]
  go_wp2
  rw [rounds_succ]
  go_wp2
  go_ret
  exact ⟨rfl, rfl⟩
set_option maxRecDepth 100000 in
set_option maxHeartbeats 1600000 in
theorem hide_6 (b : ByteArray) (w : World) (hB : Hn w) (q0 : ([115, 99, 114, 105, 112, 116] == b.toList) = false) (q1 : ([115, 116, 121, 108, 101] == b.toList) = false) (q2 : ([116, 101, 109, 112, 108, 97, 116, 101] == b.toList) = false) (q3 : ([115, 118, 103] == b.toList) = false) (q4 : ([109, 97, 116, 104] == b.toList) = false) (q5 : ([105, 102, 114, 97, 109, 101] == b.toList) = false) (q6 : ([116, 105, 116, 108, 101] == b.toList) = true) : Calls Tryz.prog 95 #[.string b] w fun e w' => e = .returned (.bool true) ∧ w' = w := by
  obtain ⟨t, fr, hg⟩ := hB
  have Hg : Hid (w.heap[6]? = some (.cells hncells t fr)) := hg
  clear hg
  have i0 := hidx0
  have i1 := hidx1
  have i2 := hidx2
  have i3 := hidx3
  have i4 := hidx4
  have i5 := hidx5
  have i6 := hidx6
  go_enter Tryz.func95, Tryz.ntmps95
  go_wp2_with (refine wpList_load_row rfl 143 _ rfl 6 rfl t _ fr _ Hg.out Tryz.underlying143 rfl szHn ?_)
  refine wp_loop_rounds 11 ?_
  rw [rounds_succ]
  go_wp2
  rw [rounds_succ]
  go_wp2
  rw [rounds_succ]
  go_wp2
  rw [rounds_succ]
  go_wp2
  rw [rounds_succ]
  go_wp2
  rw [rounds_succ]
  go_wp2
  rw [rounds_succ]
  go_wp2
  go_ret
  exact ⟨rfl, rfl⟩
set_option maxRecDepth 100000 in
set_option maxHeartbeats 1600000 in
theorem hide_7 (b : ByteArray) (w : World) (hB : Hn w) (q0 : ([115, 99, 114, 105, 112, 116] == b.toList) = false) (q1 : ([115, 116, 121, 108, 101] == b.toList) = false) (q2 : ([116, 101, 109, 112, 108, 97, 116, 101] == b.toList) = false) (q3 : ([115, 118, 103] == b.toList) = false) (q4 : ([109, 97, 116, 104] == b.toList) = false) (q5 : ([105, 102, 114, 97, 109, 101] == b.toList) = false) (q6 : ([116, 105, 116, 108, 101] == b.toList) = false) (q7 : ([116, 101, 120, 116, 97, 114, 101, 97] == b.toList) = true) : Calls Tryz.prog 95 #[.string b] w fun e w' => e = .returned (.bool true) ∧ w' = w := by
  obtain ⟨t, fr, hg⟩ := hB
  have Hg : Hid (w.heap[6]? = some (.cells hncells t fr)) := hg
  clear hg
  have i0 := hidx0
  have i1 := hidx1
  have i2 := hidx2
  have i3 := hidx3
  have i4 := hidx4
  have i5 := hidx5
  have i6 := hidx6
  have i7 := hidx7
  go_enter Tryz.func95, Tryz.ntmps95
  go_wp2_with (refine wpList_load_row rfl 143 _ rfl 6 rfl t _ fr _ Hg.out Tryz.underlying143 rfl szHn ?_)
  refine wp_loop_rounds 11 ?_
  rw [rounds_succ]
  go_wp2
  rw [rounds_succ]
  go_wp2
  rw [rounds_succ]
  go_wp2
  rw [rounds_succ]
  go_wp2
  rw [rounds_succ]
  go_wp2
  rw [rounds_succ]
  go_wp2
  rw [rounds_succ]
  go_wp2
  rw [rounds_succ]
  go_wp2
  go_ret
  exact ⟨rfl, rfl⟩
set_option maxRecDepth 100000 in
set_option maxHeartbeats 1600000 in
theorem hide_8 (b : ByteArray) (w : World) (hB : Hn w) (q0 : ([115, 99, 114, 105, 112, 116] == b.toList) = false) (q1 : ([115, 116, 121, 108, 101] == b.toList) = false) (q2 : ([116, 101, 109, 112, 108, 97, 116, 101] == b.toList) = false) (q3 : ([115, 118, 103] == b.toList) = false) (q4 : ([109, 97, 116, 104] == b.toList) = false) (q5 : ([105, 102, 114, 97, 109, 101] == b.toList) = false) (q6 : ([116, 105, 116, 108, 101] == b.toList) = false) (q7 : ([116, 101, 120, 116, 97, 114, 101, 97] == b.toList) = false) (q8 : ([110, 111, 115, 99, 114, 105, 112, 116] == b.toList) = true) : Calls Tryz.prog 95 #[.string b] w fun e w' => e = .returned (.bool true) ∧ w' = w := by
  obtain ⟨t, fr, hg⟩ := hB
  have Hg : Hid (w.heap[6]? = some (.cells hncells t fr)) := hg
  clear hg
  have i0 := hidx0
  have i1 := hidx1
  have i2 := hidx2
  have i3 := hidx3
  have i4 := hidx4
  have i5 := hidx5
  have i6 := hidx6
  have i7 := hidx7
  have i8 := hidx8
  go_enter Tryz.func95, Tryz.ntmps95
  go_wp2_with (refine wpList_load_row rfl 143 _ rfl 6 rfl t _ fr _ Hg.out Tryz.underlying143 rfl szHn ?_)
  refine wp_loop_rounds 11 ?_
  rw [rounds_succ]
  go_wp2
  rw [rounds_succ]
  go_wp2
  rw [rounds_succ]
  go_wp2
  rw [rounds_succ]
  go_wp2
  rw [rounds_succ]
  go_wp2
  rw [rounds_succ]
  go_wp2
  rw [rounds_succ]
  go_wp2
  rw [rounds_succ]
  go_wp2
  rw [rounds_succ]
  go_wp2
  go_ret
  exact ⟨rfl, rfl⟩
set_option maxRecDepth 100000 in
set_option maxHeartbeats 1600000 in
theorem hide_9 (b : ByteArray) (w : World) (hB : Hn w) (q0 : ([115, 99, 114, 105, 112, 116] == b.toList) = false) (q1 : ([115, 116, 121, 108, 101] == b.toList) = false) (q2 : ([116, 101, 109, 112, 108, 97, 116, 101] == b.toList) = false) (q3 : ([115, 118, 103] == b.toList) = false) (q4 : ([109, 97, 116, 104] == b.toList) = false) (q5 : ([105, 102, 114, 97, 109, 101] == b.toList) = false) (q6 : ([116, 105, 116, 108, 101] == b.toList) = false) (q7 : ([116, 101, 120, 116, 97, 114, 101, 97] == b.toList) = false) (q8 : ([110, 111, 115, 99, 114, 105, 112, 116] == b.toList) = false) : Calls Tryz.prog 95 #[.string b] w fun e w' => e = .returned (.bool false) ∧ w' = w := by
  obtain ⟨t, fr, hg⟩ := hB
  have Hg : Hid (w.heap[6]? = some (.cells hncells t fr)) := hg
  clear hg
  have i0 := hidx0
  have i1 := hidx1
  have i2 := hidx2
  have i3 := hidx3
  have i4 := hidx4
  have i5 := hidx5
  have i6 := hidx6
  have i7 := hidx7
  have i8 := hidx8
  go_enter Tryz.func95, Tryz.ntmps95
  go_wp2_with (refine wpList_load_row rfl 143 _ rfl 6 rfl t _ fr _ Hg.out Tryz.underlying143 rfl szHn ?_)
  refine wp_loop_rounds 11 ?_
  rw [rounds_succ]
  go_wp2
  rw [rounds_succ]
  go_wp2
  rw [rounds_succ]
  go_wp2
  rw [rounds_succ]
  go_wp2
  rw [rounds_succ]
  go_wp2
  rw [rounds_succ]
  go_wp2
  rw [rounds_succ]
  go_wp2
  rw [rounds_succ]
  go_wp2
  rw [rounds_succ]
  go_wp2
  rw [rounds_succ]
  go_wp2
  go_ret
  exact ⟨rfl, rfl⟩

theorem hides_any (x : List UInt8) (w : World) (hB : Hn w) : Calls Tryz.prog 95 #[.string (B x)] w fun e w' => e = .returned (.bool (Sn.hiddenL.contains x)) ∧ w' = w := by
  have q0 := eqB [115, 99, 114, 105, 112, 116] x
  by_cases h0 : [115, 99, 114, 105, 112, 116] = x
  · rw [decide_eq_true h0] at q0
    have hl : Sn.hiddenL.contains x = true := by subst h0; rfl
    rw [hl]
    exact hide_0 (B x) w hB q0
  rw [decide_eq_false h0] at q0
  have q1 := eqB [115, 116, 121, 108, 101] x
  by_cases h1 : [115, 116, 121, 108, 101] = x
  · rw [decide_eq_true h1] at q1
    have hl : Sn.hiddenL.contains x = true := by subst h1; rfl
    rw [hl]
    exact hide_1 (B x) w hB q0 q1
  rw [decide_eq_false h1] at q1
  have q2 := eqB [116, 101, 109, 112, 108, 97, 116, 101] x
  by_cases h2 : [116, 101, 109, 112, 108, 97, 116, 101] = x
  · rw [decide_eq_true h2] at q2
    have hl : Sn.hiddenL.contains x = true := by subst h2; rfl
    rw [hl]
    exact hide_2 (B x) w hB q0 q1 q2
  rw [decide_eq_false h2] at q2
  have q3 := eqB [115, 118, 103] x
  by_cases h3 : [115, 118, 103] = x
  · rw [decide_eq_true h3] at q3
    have hl : Sn.hiddenL.contains x = true := by subst h3; rfl
    rw [hl]
    exact hide_3 (B x) w hB q0 q1 q2 q3
  rw [decide_eq_false h3] at q3
  have q4 := eqB [109, 97, 116, 104] x
  by_cases h4 : [109, 97, 116, 104] = x
  · rw [decide_eq_true h4] at q4
    have hl : Sn.hiddenL.contains x = true := by subst h4; rfl
    rw [hl]
    exact hide_4 (B x) w hB q0 q1 q2 q3 q4
  rw [decide_eq_false h4] at q4
  have q5 := eqB [105, 102, 114, 97, 109, 101] x
  by_cases h5 : [105, 102, 114, 97, 109, 101] = x
  · rw [decide_eq_true h5] at q5
    have hl : Sn.hiddenL.contains x = true := by subst h5; rfl
    rw [hl]
    exact hide_5 (B x) w hB q0 q1 q2 q3 q4 q5
  rw [decide_eq_false h5] at q5
  have q6 := eqB [116, 105, 116, 108, 101] x
  by_cases h6 : [116, 105, 116, 108, 101] = x
  · rw [decide_eq_true h6] at q6
    have hl : Sn.hiddenL.contains x = true := by subst h6; rfl
    rw [hl]
    exact hide_6 (B x) w hB q0 q1 q2 q3 q4 q5 q6
  rw [decide_eq_false h6] at q6
  have q7 := eqB [116, 101, 120, 116, 97, 114, 101, 97] x
  by_cases h7 : [116, 101, 120, 116, 97, 114, 101, 97] = x
  · rw [decide_eq_true h7] at q7
    have hl : Sn.hiddenL.contains x = true := by subst h7; rfl
    rw [hl]
    exact hide_7 (B x) w hB q0 q1 q2 q3 q4 q5 q6 q7
  rw [decide_eq_false h7] at q7
  have q8 := eqB [110, 111, 115, 99, 114, 105, 112, 116] x
  by_cases h8 : [110, 111, 115, 99, 114, 105, 112, 116] = x
  · rw [decide_eq_true h8] at q8
    have hl : Sn.hiddenL.contains x = true := by subst h8; rfl
    rw [hl]
    exact hide_8 (B x) w hB q0 q1 q2 q3 q4 q5 q6 q7 q8
  rw [decide_eq_false h8] at q8
  have hl : Sn.hiddenL.contains x = false := by
    unfold Sn.hiddenL
    simp [Ne.symm h0, Ne.symm h1, Ne.symm h2, Ne.symm h3, Ne.symm h4, Ne.symm h5, Ne.symm h6, Ne.symm h7, Ne.symm h8]
  rw [hl]
  exact hide_9 (B x) w hB q0 q1 q2 q3 q4 q5 q6 q7 q8

theorem chr_blank {c : UInt8} (h : c = 9 ∨ c = 10 ∨ c = 13 ∨ c = 12) : Sn.chr c = 32 := by
  rcases h with rfl | rfl | rfl | rfl <;> rfl
theorem chr_rest {c : UInt8} (h9 : c ≠ 9) (h10 : c ≠ 10) (h13 : c ≠ 13) (h12 : c ≠ 12) : Sn.chr c = if c < 32 || 126 < c then 63 else c := by
  unfold Sn.chr
  have : (c == 9 || c == 10 || c == 13 || c == 12) = false := by simp [h9, h10, h13, h12]
  rw [this, if_neg Bool.false_ne_true]
theorem eq_byte (c : UInt8) (k : Nat) (hk : k < 256) : ((c.toNat : Int) == (k : Int)) = decide (c = UInt8.ofNat k) := by
  by_cases h : c = UInt8.ofNat k
  · rw [decide_eq_true h, h, beq_iff_eq, UInt8.toNat_ofNat', Nat.mod_eq_of_lt hk]
  · rw [decide_eq_false h, beq_eq_false_iff_ne]
    intro e
    exact h (UInt8.toNat_inj.1 (by rw [UInt8.toNat_ofNat', Nat.mod_eq_of_lt hk]; omega))

set_option maxHeartbeats 1600000 in
theorem character_any (c : UInt8) (w : World) : Calls Tryz.prog 89 #[.int .u8 c.toNat] w fun e w' => e = .returned (.int .u8 (Sn.chr c).toNat) ∧ w' = w := by
  have e9 : ((c.toNat : Int) == 9) = decide (c = 9) := eq_byte c 9 (by decide)
  by_cases h9 : c = 9
  · rw [decide_eq_true h9] at e9
    rw [chr_blank (by simp [h9])]
    clear h9
    show Calls Tryz.prog 89 #[.int .u8 c.toNat] w fun e w' => e = .returned (.int .u8 32) ∧ w' = w
    go_enter Tryz.func89, Tryz.ntmps89
    go_wp2
    go_ret
    exact ⟨rfl, rfl⟩
  rw [decide_eq_false h9] at e9
  have e10 : ((c.toNat : Int) == 10) = decide (c = 10) := eq_byte c 10 (by decide)
  by_cases h10 : c = 10
  · rw [decide_eq_true h10] at e10
    rw [chr_blank (by simp [h10])]
    clear h9 h10
    show Calls Tryz.prog 89 #[.int .u8 c.toNat] w fun e w' => e = .returned (.int .u8 32) ∧ w' = w
    go_enter Tryz.func89, Tryz.ntmps89
    go_wp2
    go_ret
    exact ⟨rfl, rfl⟩
  rw [decide_eq_false h10] at e10
  have e13 : ((c.toNat : Int) == 13) = decide (c = 13) := eq_byte c 13 (by decide)
  by_cases h13 : c = 13
  · rw [decide_eq_true h13] at e13
    rw [chr_blank (by simp [h13])]
    clear h9 h10 h13
    show Calls Tryz.prog 89 #[.int .u8 c.toNat] w fun e w' => e = .returned (.int .u8 32) ∧ w' = w
    go_enter Tryz.func89, Tryz.ntmps89
    go_wp2
    go_ret
    exact ⟨rfl, rfl⟩
  rw [decide_eq_false h13] at e13
  have e12 : ((c.toNat : Int) == 12) = decide (c = 12) := eq_byte c 12 (by decide)
  by_cases h12 : c = 12
  · rw [decide_eq_true h12] at e12
    rw [chr_blank (by simp [h12])]
    clear h9 h10 h13 h12
    show Calls Tryz.prog 89 #[.int .u8 c.toNat] w fun e w' => e = .returned (.int .u8 32) ∧ w' = w
    go_enter Tryz.func89, Tryz.ntmps89
    go_wp2
    go_ret
    exact ⟨rfl, rfl⟩
  rw [decide_eq_false h12] at e12
  rw [chr_rest h9 h10 h13 h12]
  clear h9 h10 h13 h12
  by_cases h1 : c.toNat < 32
  · have hc : c < 32 := by rw [UInt8.lt_iff_toNat_lt]; exact h1
    rw [if_pos (by simp [hc])]
    clear hc
    show Calls Tryz.prog 89 #[.int .u8 c.toNat] w fun e w' => e = .returned (.int .u8 63) ∧ w' = w
    go_enter Tryz.func89, Tryz.ntmps89
    go_wp2
    go_ret
    exact ⟨rfl, rfl⟩
  have hc : ¬ c < 32 := by rw [UInt8.lt_iff_toNat_lt]; exact h1
  by_cases h2 : 126 < c.toNat
  · have hd : 126 < c := by rw [UInt8.lt_iff_toNat_lt]; exact h2
    rw [if_pos (by simp [hd])]
    clear hc hd
    show Calls Tryz.prog 89 #[.int .u8 c.toNat] w fun e w' => e = .returned (.int .u8 63) ∧ w' = w
    go_enter Tryz.func89, Tryz.ntmps89
    go_wp2
    go_ret
    exact ⟨rfl, rfl⟩
  have hd : ¬ 126 < c := by rw [UInt8.lt_iff_toNat_lt]; exact h2
  rw [if_neg (by simp [hc, hd])]
  clear hc hd
  go_enter Tryz.func89, Tryz.ntmps89
  go_wp2
  go_ret
  exact ⟨rfl, rfl⟩

/-- Where it is kept how deep what a name stands for is opened. -/
def dp (b : Nat) (x : List UInt8) : Option Addr := if Sn.boldL.contains x then some ⟨b, 1, none⟩ else if Sn.slantL.contains x then some ⟨b, 2, none⟩ else none
set_option maxHeartbeats 800000 in
theorem deep_0 (b : Nat) (x : ByteArray) (w : World) (q0 : (x.toList == [98]) = true) : Calls Tryz.prog 92 #[.pointer (some ⟨b, 0, none⟩), .string x] w fun e w' => e = .returned (.pointer (some ⟨b, 1, none⟩)) ∧ w' = w := by
  go_enter Tryz.func92, Tryz.ntmps92
  go_wp2
  go_ret
  exact ⟨rfl, rfl⟩
set_option maxHeartbeats 800000 in
theorem deep_1 (b : Nat) (x : ByteArray) (w : World) (q0 : (x.toList == [98]) = false) (q1 : (x.toList == [115, 116, 114, 111, 110, 103]) = true) : Calls Tryz.prog 92 #[.pointer (some ⟨b, 0, none⟩), .string x] w fun e w' => e = .returned (.pointer (some ⟨b, 1, none⟩)) ∧ w' = w := by
  go_enter Tryz.func92, Tryz.ntmps92
  go_wp2
  go_ret
  exact ⟨rfl, rfl⟩
set_option maxHeartbeats 800000 in
theorem deep_2 (b : Nat) (x : ByteArray) (w : World) (q0 : (x.toList == [98]) = false) (q1 : (x.toList == [115, 116, 114, 111, 110, 103]) = false) (q2 : (x.toList == [105]) = true) : Calls Tryz.prog 92 #[.pointer (some ⟨b, 0, none⟩), .string x] w fun e w' => e = .returned (.pointer (some ⟨b, 2, none⟩)) ∧ w' = w := by
  go_enter Tryz.func92, Tryz.ntmps92
  go_wp2
  go_ret
  exact ⟨rfl, rfl⟩
set_option maxHeartbeats 800000 in
theorem deep_3 (b : Nat) (x : ByteArray) (w : World) (q0 : (x.toList == [98]) = false) (q1 : (x.toList == [115, 116, 114, 111, 110, 103]) = false) (q2 : (x.toList == [105]) = false) (q3 : (x.toList == [101, 109]) = true) : Calls Tryz.prog 92 #[.pointer (some ⟨b, 0, none⟩), .string x] w fun e w' => e = .returned (.pointer (some ⟨b, 2, none⟩)) ∧ w' = w := by
  go_enter Tryz.func92, Tryz.ntmps92
  go_wp2
  go_ret
  exact ⟨rfl, rfl⟩
set_option maxHeartbeats 800000 in
theorem deep_4 (b : Nat) (x : ByteArray) (w : World) (q0 : (x.toList == [98]) = false) (q1 : (x.toList == [115, 116, 114, 111, 110, 103]) = false) (q2 : (x.toList == [105]) = false) (q3 : (x.toList == [101, 109]) = false) : Calls Tryz.prog 92 #[.pointer (some ⟨b, 0, none⟩), .string x] w fun e w' => e = .returned (.pointer none) ∧ w' = w := by
  go_enter Tryz.func92, Tryz.ntmps92
  go_wp2
  go_ret
  exact ⟨rfl, rfl⟩
theorem deep_any (b : Nat) (x : List UInt8) (w : World) : Calls Tryz.prog 92 #[.pointer (some ⟨b, 0, none⟩), .string (B x)] w fun e w' => e = .returned (.pointer (dp b x)) ∧ w' = w := by
  have q0 := Beq [98] x
  by_cases h0 : [98] = x
  · rw [decide_eq_true h0] at q0
    have hl : dp b x = some ⟨b, 1, none⟩ := by subst h0; rfl
    rw [hl]
    exact deep_0 b (B x) w q0
  rw [decide_eq_false h0] at q0
  have q1 := Beq [115, 116, 114, 111, 110, 103] x
  by_cases h1 : [115, 116, 114, 111, 110, 103] = x
  · rw [decide_eq_true h1] at q1
    have hl : dp b x = some ⟨b, 1, none⟩ := by subst h1; rfl
    rw [hl]
    exact deep_1 b (B x) w q0 q1
  rw [decide_eq_false h1] at q1
  have q2 := Beq [105] x
  by_cases h2 : [105] = x
  · rw [decide_eq_true h2] at q2
    have hl : dp b x = some ⟨b, 2, none⟩ := by subst h2; rfl
    rw [hl]
    exact deep_2 b (B x) w q0 q1 q2
  rw [decide_eq_false h2] at q2
  have q3 := Beq [101, 109] x
  by_cases h3 : [101, 109] = x
  · rw [decide_eq_true h3] at q3
    have hl : dp b x = some ⟨b, 2, none⟩ := by subst h3; rfl
    rw [hl]
    exact deep_3 b (B x) w q0 q1 q2 q3
  rw [decide_eq_false h3] at q3
  have hl : dp b x = none := by
    unfold dp Sn.boldL Sn.slantL
    simp [Ne.symm h0, Ne.symm h1, Ne.symm h2, Ne.symm h3]
  rw [hl]
  exact deep_4 b (B x) w q0 q1 q2 q3

/-- A page at work, as cells. -/
def zcells (v : Value) (s : Sn.S) : List Value := [v, .int .i64 s.bold, .int .i64 s.slant, .string (B s.link), .int .i64 s.kind, .bool s.opened, .string (B s.hides)]
/-- The marks that hold. -/
def zmarks (s : Sn.S) : Int := (if 0 < s.bold then 1 else 0) + (if 0 < s.slant then 2 else 0)
set_option maxHeartbeats 800000 in
theorem marks_any (b : Nat) (v : Value) (s : Sn.S) (w : World) (hB : Blk w b (zcells v s) 58) : Calls Tryz.prog 90 #[.pointer (some ⟨b, 0, none⟩)] w fun e w' => e = .returned (.int .i64 (zmarks s)) ∧ w' = w := by
  have c1 : w.cell? ⟨b, 1, none⟩ = some (.int .i64 s.bold) := hB.cell 1
  have c2 : w.cell? ⟨b, 2, none⟩ = some (.int .i64 s.slant) := hB.cell 2
  unfold zmarks
  clear hB
  generalize s.bold = x at *
  generalize s.slant = y at *
  by_cases h1 : 0 < x
  · rw [if_pos h1]
    by_cases h2 : 0 < y
    · rw [if_pos h2]
      go_enter Tryz.func90, Tryz.ntmps90
      go_wp2
      go_ret
      exact ⟨rfl, rfl⟩
    · rw [if_neg h2]
      go_enter Tryz.func90, Tryz.ntmps90
      go_wp2
      go_ret
      exact ⟨rfl, rfl⟩
  · rw [if_neg h1]
    by_cases h2 : 0 < y
    · rw [if_pos h2]
      go_enter Tryz.func90, Tryz.ntmps90
      go_wp2
      go_ret
      exact ⟨rfl, rfl⟩
    · rw [if_neg h2]
      go_enter Tryz.func90, Tryz.ntmps90
      go_wp2
      go_ret
      exact ⟨rfl, rfl⟩

theorem zclean_any (l : List UInt8) (w : World) (hl : l.length ≤ 20000) (hS : Sch w) : Calls Tryz.prog 93 #[.string (B l)] w fun e w' => e = .returned (.string (B (Lk.clean l))) ∧ Below w.heap.size w w' := by
  have hC := clean_any (B l) w (by rw [B_size]; exact hl) hS
  rw [B_data] at hC
  have HC : Hid (Calls Tryz.prog 111 #[.string (B l)] w fun e w' => e = .returned (.tuple #[.string (B (Lk.clean l)), .int .i64 0]) ∧ Below w.heap.size w w') := hC
  clear hC hS hl
  generalize B (Lk.clean l) = r at *
  go_enter Tryz.func93, Tryz.ntmps93
  go_wp2_with fail
  refine HC.out.mono ?_
  rintro e w1 ⟨rfl, hb⟩
  go_wp2
  go_ret
  exact ⟨rfl, hb⟩

set_option maxHeartbeats 800000 in
theorem tooMany_any (b n cap : Nat) (ao : Option Addr) (w : World) (h0 : w.cell? ⟨b, 0, none⟩ = some (.slice ao n cap)) : Calls Tryz.prog 32 #[.pointer (some ⟨b, 0, none⟩)] w fun e w' => e = .returned (.bool (decide (80 < n))) ∧ w' = w := by
  go_enter Tryz.func32, Tryz.ntmps32
  go_wp2
  go_ret
  refine ⟨?_, rfl⟩
  first | rfl | (simp; omega)
end Go.Proofs.YtpcaiechaakhnabGreatDoor
