/-
  escape.appendWritten: onto a slice of bytes that the call's caller owns, the way in which one byte is written is appended; the variable 'pairs' holding what its initialiser lays.
-/
import Derived.Test.YtmifcioccnmlaaaDoorRows
import Derived.Test.YtmifcioccnmlaaaDoorPure
import Derived.WalkKit
import Derived.WalkLawsBesides
import Derived.Deep.QuietTactic
import Derived.BigQuiet
import Derived.Deep.Draws
import Derived.Handy
import Derived.Lib.BufSteps
namespace Go.Proofs.YtmifcioccnmlaaaDoor
open Go.RowKit

def pcells : Array Value := #[.int .u8 38, .string ⟨#[38, 97, 109, 112, 59]⟩, .int .u8 60, .string ⟨#[38, 108, 116, 59]⟩, .int .u8 62, .string ⟨#[38, 103, 116, 59]⟩, .int .u8 34, .string ⟨#[38, 113, 117, 111, 116, 59]⟩]
/-- The variable 'pairs' (block 0) holds what its initialiser lays. -/
def Pairs (w : World) : Prop := ∃ t fr, w.heap[0]? = some (.cells pcells t fr)
/-- A byte, as a cell. -/
def b8 (b : UInt8) : Value := .int .u8 b.toNat

theorem Pairs.below {B : Nat} {w w' : World} (h : Pairs w) (hb : Below B w w') (h0 : 0 < B) : Pairs w' := by
  obtain ⟨t, fr, hg⟩ := h
  exact ⟨t, fr, (hb.block 0 h0).trans hg⟩
theorem Pairs.alloc {w : World} (h : Pairs w) (o : Obj) : Pairs (w.alloc o) := by
  obtain ⟨t, fr, hg⟩ := h
  exact ⟨t, fr, (Below.heap_alloc w o 0 (Array.getElem?_eq_some_iff.1 hg).1).trans hg⟩
theorem Pairs.pos {w : World} (h : Pairs w) : 0 < w.heap.size := by
  obtain ⟨t, fr, hg⟩ := h
  exact (Array.getElem?_eq_some_iff.1 hg).1

theorem idx0 (w : World) : (Instr.index 81 (.agg pcells) (.int .i64 0)).run Tryd.prog w = .ok (.agg #[.int .u8 38, .string ⟨#[38, 97, 109, 112, 59]⟩]) w := by kernel_rfl
theorem idx1 (w : World) : (Instr.index 81 (.agg pcells) (.int .i64 1)).run Tryd.prog w = .ok (.agg #[.int .u8 60, .string ⟨#[38, 108, 116, 59]⟩]) w := by kernel_rfl
theorem idx2 (w : World) : (Instr.index 81 (.agg pcells) (.int .i64 2)).run Tryd.prog w = .ok (.agg #[.int .u8 62, .string ⟨#[38, 103, 116, 59]⟩]) w := by kernel_rfl
theorem idx3 (w : World) : (Instr.index 81 (.agg pcells) (.int .i64 3)).run Tryd.prog w = .ok (.agg #[.int .u8 34, .string ⟨#[38, 113, 117, 111, 116, 59]⟩]) w := by kernel_rfl
theorem sz40 : (Tryd.prog.info? 81).map (·.size) = some pcells.size := by kernel_rfl
theorem Tryd.info5w : (Tryd.prog.info? 5).map (fun i => (i.zero, i.size, i.bytes)) = some (some (.int .u8 0), 1, 1) := by kernel_rfl

/-- What appendWritten comes to. -/
def AwPost (B n : Nat) (xs : List Value) (c : UInt8) (W0 : World) (e : Ending) (w' : World) : Prop :=
  ∃ v', e = .returned v' ∧ Lib.OwnBuf B 5 v' (n + (Esc.enc1 c).length) (xs ++ (Esc.enc1 c).map b8) W0 w'

set_option maxRecDepth 100000 in
set_option maxHeartbeats 800000 in
theorem aw_38 (B n : Nat) (v : Value) (xs : List Value) (W0 w : World) (hp : Pairs w) (hb : Lib.OwnBuf B 5 v n xs W0 w) (hn : n + 6 ≤ 140737488355328) :
    Calls Tryd.prog 53 #[v, .int .u8 38] w (AwPost B n xs 38 W0) := by
  obtain ⟨t, fr, hg⟩ := hp
  have Hg : Hid (w.heap[0]? = some (.cells pcells t fr)) := hg
  clear hg
  obtain ⟨i5, hi, hz0, hz1, hz2⟩ := info_parts Tryd.info5w
  have i0 := idx0
  go_enter Tryd.func53, Tryd.ntmps53
  go_wp2_with (refine wpList_load_row rfl 81 _ rfl 0 rfl t _ fr _ Hg.out Tryd.underlying81 rfl sz40 ?_)
  refine wp_loop_rounds 5 ?_
  rw [rounds_succ]
  go_wp2_with (at_builtin; refine Lib.wpList_append_text rfl (.tmp 15) (.tmp 17) 52 9 rfl B 5 i5 Tryd.underlying52 Tryd.underlying9 hi hz0 hz1 hz2 v n xs rfl W0 (hb.alloc _) ⟨#[38, 97, 109, 112, 59]⟩ rfl ?_ ?_)
  · show n + 5 ≤ _; omega
  · intro v' w1 hb1
    go_wp2
    go_ret
    exact ⟨v', rfl, hb1⟩

set_option maxRecDepth 100000 in
set_option maxHeartbeats 800000 in
theorem aw_60 (B n : Nat) (v : Value) (xs : List Value) (W0 w : World) (hp : Pairs w) (hb : Lib.OwnBuf B 5 v n xs W0 w) (hn : n + 6 ≤ 140737488355328) :
    Calls Tryd.prog 53 #[v, .int .u8 60] w (AwPost B n xs 60 W0) := by
  obtain ⟨t, fr, hg⟩ := hp
  have Hg : Hid (w.heap[0]? = some (.cells pcells t fr)) := hg
  clear hg
  obtain ⟨i5, hi, hz0, hz1, hz2⟩ := info_parts Tryd.info5w
  have i0 := idx0
  have i1 := idx1
  have i2 := idx2
  have i3 := idx3
  go_enter Tryd.func53, Tryd.ntmps53
  go_wp2_with (refine wpList_load_row rfl 81 _ rfl 0 rfl t _ fr _ Hg.out Tryd.underlying81 rfl sz40 ?_)
  refine wp_loop_rounds 5 ?_
  rw [rounds_succ]
  go_wp2
  rw [rounds_succ]
  go_wp2_with (at_builtin; refine Lib.wpList_append_text rfl (.tmp 15) (.tmp 17) 52 9 rfl B 5 i5 Tryd.underlying52 Tryd.underlying9 hi hz0 hz1 hz2 v n xs rfl W0 ((hb.alloc _).alloc _) ⟨#[38, 108, 116, 59]⟩ rfl ?_ ?_)
  · show n + 4 ≤ _; omega
  · intro v' w1 hb1
    go_wp2
    go_ret
    exact ⟨v', rfl, hb1⟩

set_option maxRecDepth 100000 in
set_option maxHeartbeats 800000 in
theorem aw_62 (B n : Nat) (v : Value) (xs : List Value) (W0 w : World) (hp : Pairs w) (hb : Lib.OwnBuf B 5 v n xs W0 w) (hn : n + 6 ≤ 140737488355328) :
    Calls Tryd.prog 53 #[v, .int .u8 62] w (AwPost B n xs 62 W0) := by
  obtain ⟨t, fr, hg⟩ := hp
  have Hg : Hid (w.heap[0]? = some (.cells pcells t fr)) := hg
  clear hg
  obtain ⟨i5, hi, hz0, hz1, hz2⟩ := info_parts Tryd.info5w
  have i0 := idx0
  have i1 := idx1
  have i2 := idx2
  have i3 := idx3
  go_enter Tryd.func53, Tryd.ntmps53
  go_wp2_with (refine wpList_load_row rfl 81 _ rfl 0 rfl t _ fr _ Hg.out Tryd.underlying81 rfl sz40 ?_)
  refine wp_loop_rounds 5 ?_
  rw [rounds_succ]
  go_wp2
  rw [rounds_succ]
  go_wp2
  rw [rounds_succ]
  go_wp2_with (at_builtin; refine Lib.wpList_append_text rfl (.tmp 15) (.tmp 17) 52 9 rfl B 5 i5 Tryd.underlying52 Tryd.underlying9 hi hz0 hz1 hz2 v n xs rfl W0 (((hb.alloc _).alloc _).alloc _) ⟨#[38, 103, 116, 59]⟩ rfl ?_ ?_)
  · show n + 4 ≤ _; omega
  · intro v' w1 hb1
    go_wp2
    go_ret
    exact ⟨v', rfl, hb1⟩

set_option maxRecDepth 100000 in
set_option maxHeartbeats 800000 in
theorem aw_34 (B n : Nat) (v : Value) (xs : List Value) (W0 w : World) (hp : Pairs w) (hb : Lib.OwnBuf B 5 v n xs W0 w) (hn : n + 6 ≤ 140737488355328) :
    Calls Tryd.prog 53 #[v, .int .u8 34] w (AwPost B n xs 34 W0) := by
  obtain ⟨t, fr, hg⟩ := hp
  have Hg : Hid (w.heap[0]? = some (.cells pcells t fr)) := hg
  clear hg
  obtain ⟨i5, hi, hz0, hz1, hz2⟩ := info_parts Tryd.info5w
  have i0 := idx0
  have i1 := idx1
  have i2 := idx2
  have i3 := idx3
  go_enter Tryd.func53, Tryd.ntmps53
  go_wp2_with (refine wpList_load_row rfl 81 _ rfl 0 rfl t _ fr _ Hg.out Tryd.underlying81 rfl sz40 ?_)
  refine wp_loop_rounds 5 ?_
  rw [rounds_succ]
  go_wp2
  rw [rounds_succ]
  go_wp2
  rw [rounds_succ]
  go_wp2
  rw [rounds_succ]
  go_wp2_with (at_builtin; refine Lib.wpList_append_text rfl (.tmp 15) (.tmp 17) 52 9 rfl B 5 i5 Tryd.underlying52 Tryd.underlying9 hi hz0 hz1 hz2 v n xs rfl W0 ((((hb.alloc _).alloc _).alloc _).alloc _) ⟨#[38, 113, 117, 111, 116, 59]⟩ rfl ?_ ?_)
  · show n + 6 ≤ _; omega
  · intro v' w1 hb1
    go_wp2
    go_ret
    exact ⟨v', rfl, hb1⟩

set_option maxRecDepth 100000 in
set_option maxHeartbeats 1600000 in
theorem aw_plain (B n : Nat) (v : Value) (xs : List Value) (W0 w : World) (c : UInt8) (h1 : c ≠ 38) (h2 : c ≠ 60) (h3 : c ≠ 62) (h4 : c ≠ 34) (hp : Pairs w) (hb : Lib.OwnBuf B 5 v n xs W0 w) (hn : n + 6 ≤ 140737488355328) :
    Calls Tryd.prog 53 #[v, .int .u8 c.toNat] w (AwPost B n xs c W0) := by
  have he : Esc.enc1 c = [c] := by simp [Esc.enc1, h1, h2, h3, h4]
  have hne : ∀ k : UInt8, c ≠ k → ((k.toNat : Int) == (c.toNat : Int)) = false := fun k hk => beq_eq_false_iff_ne.2 (fun e => hk (UInt8.toNat_inj.1 (by omega)))
  have q1 : ((38 : Int) == (c.toNat : Int)) = false := hne 38 h1
  have q2 : ((60 : Int) == (c.toNat : Int)) = false := hne 60 h2
  have q3 : ((62 : Int) == (c.toNat : Int)) = false := hne 62 h3
  have q4 : ((34 : Int) == (c.toNat : Int)) = false := hne 34 h4
  clear h1 h2 h3 h4 hne
  have HE : Hid (Esc.enc1 c = [c]) := he
  clear he
  obtain ⟨t, fr, hg⟩ := hp
  have Hg : Hid (w.heap[0]? = some (.cells pcells t fr)) := hg
  clear hg
  obtain ⟨i5, hi, hz0, hz1, hz2⟩ := info_parts Tryd.info5w
  have i0 := idx0
  have i1 := idx1
  have i2 := idx2
  have i3 := idx3
  go_enter Tryd.func53, Tryd.ntmps53
  go_wp2_with (refine wpList_load_row rfl 81 _ rfl 0 rfl t _ fr _ Hg.out Tryd.underlying81 rfl sz40 ?_)
  refine wp_loop_rounds 5 ?_
  rw [rounds_succ]
  go_wp2
  rw [rounds_succ]
  go_wp2
  rw [rounds_succ]
  go_wp2
  rw [rounds_succ]
  go_wp2
  rw [rounds_succ]
  go_wp2_with (at_builtin; refine Lib.wpList_append_byte rfl (.tmp 20) (.tmp 22) 52 rfl B 5 i5 Tryd.underlying52 hi hz0 hz1 hz2 v n xs rfl W0 _ c.toNat ((((hb.alloc _).alloc _).alloc _).alloc _) ?_ ?_ ?_)
  · simp [Act.eval, go_sem]
  · omega
  · intro v' w1 hb1
    go_wp2
    go_ret
    exact ⟨v', rfl, by rw [HE.out]; exact hb1⟩

theorem aw_any (B n : Nat) (v : Value) (xs : List Value) (W0 w : World) (c : UInt8) (hp : Pairs w) (hb : Lib.OwnBuf B 5 v n xs W0 w) (hn : n + 6 ≤ 140737488355328) :
    Calls Tryd.prog 53 #[v, .int .u8 c.toNat] w (AwPost B n xs c W0) := by
  by_cases h1 : c = 38
  · subst h1; exact aw_38 B n v xs W0 w hp hb hn
  by_cases h2 : c = 60
  · subst h2; exact aw_60 B n v xs W0 w hp hb hn
  by_cases h3 : c = 62
  · subst h3; exact aw_62 B n v xs W0 w hp hb hn
  by_cases h4 : c = 34
  · subst h4; exact aw_34 B n v xs W0 w hp hb hn
  exact aw_plain B n v xs W0 w c h1 h2 h3 h4 hp hb hn
end Go.Proofs.YtmifcioccnmlaaaDoor
