/-
  escape.appendWritten: onto a slice of bytes that the call's caller owns, the way in which one byte is written is appended; the variable 'pairs' holding what its initialiser lays.
-/
import Derived.Test.YtpcaiechaakhnabGreatDoorAw0
namespace Go.Proofs.YtpcaiechaakhnabGreatDoor
open Go.RowKit

/-- What appendWritten comes to. -/
def AwPost (B n : Nat) (xs : List Value) (c : UInt8) (W0 : World) (e : Ending) (w' : World) : Prop :=
  ∃ v', e = .returned v' ∧ Lib.OwnBuf B 5 v' (n + (Esc.enc1 c).length) (xs ++ (Esc.enc1 c).map b8) W0 w'

set_option maxRecDepth 100000 in
set_option maxHeartbeats 800000 in
theorem aw_38 (B n : Nat) (v : Value) (xs : List Value) (W0 w : World) (hp : Pairs w) (hb : Lib.OwnBuf B 5 v n xs W0 w) (hn : n + 6 ≤ 140737488355328) :
    Calls Tryz.prog 115 #[v, .int .u8 38] w (AwPost B n xs 38 W0) := by
  obtain ⟨t, fr, hg⟩ := hp
  have Hg : Hid (w.heap[7]? = some (.cells pcells t fr)) := hg
  clear hg
  obtain ⟨i5, hi, hz0, hz1, hz2⟩ := info_parts Tryz.info5w
  have i0 := idx0
  go_enter Tryz.func115, Tryz.ntmps115
  go_wp2_with (refine wpList_load_row rfl 176 _ rfl 7 rfl t _ fr _ Hg.out Tryz.underlying176 rfl sz40 ?_)
  refine wp_loop_rounds 5 ?_
  rw [rounds_succ]
  go_wp2_with (at_builtin; refine Lib.wpList_append_text rfl (.tmp 15) (.tmp 17) 22 9 rfl B 5 i5 Tryz.underlying22 Tryz.underlying9 hi hz0 hz1 hz2 v n xs rfl W0 (hb.alloc _) ⟨#[38, 97, 109, 112, 59]⟩ rfl ?_ ?_)
  · show n + 5 ≤ _; omega
  · intro v' w1 hb1
    go_wp2
    go_ret
    exact ⟨v', rfl, hb1⟩

set_option maxRecDepth 100000 in
set_option maxHeartbeats 800000 in
theorem aw_60 (B n : Nat) (v : Value) (xs : List Value) (W0 w : World) (hp : Pairs w) (hb : Lib.OwnBuf B 5 v n xs W0 w) (hn : n + 6 ≤ 140737488355328) :
    Calls Tryz.prog 115 #[v, .int .u8 60] w (AwPost B n xs 60 W0) := by
  obtain ⟨t, fr, hg⟩ := hp
  have Hg : Hid (w.heap[7]? = some (.cells pcells t fr)) := hg
  clear hg
  obtain ⟨i5, hi, hz0, hz1, hz2⟩ := info_parts Tryz.info5w
  have i0 := idx0
  have i1 := idx1
  have i2 := idx2
  have i3 := idx3
  go_enter Tryz.func115, Tryz.ntmps115
  go_wp2_with (refine wpList_load_row rfl 176 _ rfl 7 rfl t _ fr _ Hg.out Tryz.underlying176 rfl sz40 ?_)
  refine wp_loop_rounds 5 ?_
  rw [rounds_succ]
  go_wp2
  rw [rounds_succ]
  go_wp2_with (at_builtin; refine Lib.wpList_append_text rfl (.tmp 15) (.tmp 17) 22 9 rfl B 5 i5 Tryz.underlying22 Tryz.underlying9 hi hz0 hz1 hz2 v n xs rfl W0 ((hb.alloc _).alloc _) ⟨#[38, 108, 116, 59]⟩ rfl ?_ ?_)
  · show n + 4 ≤ _; omega
  · intro v' w1 hb1
    go_wp2
    go_ret
    exact ⟨v', rfl, hb1⟩

set_option maxRecDepth 100000 in
set_option maxHeartbeats 800000 in
theorem aw_62 (B n : Nat) (v : Value) (xs : List Value) (W0 w : World) (hp : Pairs w) (hb : Lib.OwnBuf B 5 v n xs W0 w) (hn : n + 6 ≤ 140737488355328) :
    Calls Tryz.prog 115 #[v, .int .u8 62] w (AwPost B n xs 62 W0) := by
  obtain ⟨t, fr, hg⟩ := hp
  have Hg : Hid (w.heap[7]? = some (.cells pcells t fr)) := hg
  clear hg
  obtain ⟨i5, hi, hz0, hz1, hz2⟩ := info_parts Tryz.info5w
  have i0 := idx0
  have i1 := idx1
  have i2 := idx2
  have i3 := idx3
  go_enter Tryz.func115, Tryz.ntmps115
  go_wp2_with (refine wpList_load_row rfl 176 _ rfl 7 rfl t _ fr _ Hg.out Tryz.underlying176 rfl sz40 ?_)
  refine wp_loop_rounds 5 ?_
  rw [rounds_succ]
  go_wp2
  rw [rounds_succ]
  go_wp2
  rw [rounds_succ]
  go_wp2_with (at_builtin; refine Lib.wpList_append_text rfl (.tmp 15) (.tmp 17) 22 9 rfl B 5 i5 Tryz.underlying22 Tryz.underlying9 hi hz0 hz1 hz2 v n xs rfl W0 (((hb.alloc _).alloc _).alloc _) ⟨#[38, 103, 116, 59]⟩ rfl ?_ ?_)
  · show n + 4 ≤ _; omega
  · intro v' w1 hb1
    go_wp2
    go_ret
    exact ⟨v', rfl, hb1⟩

set_option maxRecDepth 100000 in
set_option maxHeartbeats 800000 in
theorem aw_34 (B n : Nat) (v : Value) (xs : List Value) (W0 w : World) (hp : Pairs w) (hb : Lib.OwnBuf B 5 v n xs W0 w) (hn : n + 6 ≤ 140737488355328) :
    Calls Tryz.prog 115 #[v, .int .u8 34] w (AwPost B n xs 34 W0) := by
  obtain ⟨t, fr, hg⟩ := hp
  have Hg : Hid (w.heap[7]? = some (.cells pcells t fr)) := hg
  clear hg
  obtain ⟨i5, hi, hz0, hz1, hz2⟩ := info_parts Tryz.info5w
  have i0 := idx0
  have i1 := idx1
  have i2 := idx2
  have i3 := idx3
  go_enter Tryz.func115, Tryz.ntmps115
  go_wp2_with (refine wpList_load_row rfl 176 _ rfl 7 rfl t _ fr _ Hg.out Tryz.underlying176 rfl sz40 ?_)
  refine wp_loop_rounds 5 ?_
  rw [rounds_succ]
  go_wp2
  rw [rounds_succ]
  go_wp2
  rw [rounds_succ]
  go_wp2
  rw [rounds_succ]
  go_wp2_with (at_builtin; refine Lib.wpList_append_text rfl (.tmp 15) (.tmp 17) 22 9 rfl B 5 i5 Tryz.underlying22 Tryz.underlying9 hi hz0 hz1 hz2 v n xs rfl W0 ((((hb.alloc _).alloc _).alloc _).alloc _) ⟨#[38, 113, 117, 111, 116, 59]⟩ rfl ?_ ?_)
  · show n + 6 ≤ _; omega
  · intro v' w1 hb1
    go_wp2
    go_ret
    exact ⟨v', rfl, hb1⟩

set_option maxRecDepth 100000 in
set_option maxHeartbeats 1600000 in
theorem aw_plain (B n : Nat) (v : Value) (xs : List Value) (W0 w : World) (c : UInt8) (h1 : c ≠ 38) (h2 : c ≠ 60) (h3 : c ≠ 62) (h4 : c ≠ 34) (hp : Pairs w) (hb : Lib.OwnBuf B 5 v n xs W0 w) (hn : n + 6 ≤ 140737488355328) :
    Calls Tryz.prog 115 #[v, .int .u8 c.toNat] w (AwPost B n xs c W0) := by
  have he : Esc.enc1 c = [c] := by simp [Esc.enc1, h1, h2, h3, h4]
  have hne : ∀ k : UInt8, c ≠ k → ((k.toNat : Int) == (c.toNat : Int)) = false := fun k hk => beq_eq_false_iff_ne.2 (fun e => hk (UInt8.toNat_inj.1 (by omega)))
  have q1 : ((38 : Int) == (c.toNat : Int)) = false := hne 38 h1
  have q2 : ((60 : Int) == (c.toNat : Int)) = false := hne 60 h2
  have q3 : ((62 : Int) == (c.toNat : Int)) = false := hne 62 h3
  have q4 : ((34 : Int) == (c.toNat : Int)) = false := hne 34 h4
  clear h1 h2 h3 h4 hne
  have HE : Hid (Esc.enc1 c = [c]) := he
  clear he
  obtain ⟨t, fr, hg⟩ := hp
  have Hg : Hid (w.heap[7]? = some (.cells pcells t fr)) := hg
  clear hg
  obtain ⟨i5, hi, hz0, hz1, hz2⟩ := info_parts Tryz.info5w
  have i0 := idx0
  have i1 := idx1
  have i2 := idx2
  have i3 := idx3
  go_enter Tryz.func115, Tryz.ntmps115
  go_wp2_with (refine wpList_load_row rfl 176 _ rfl 7 rfl t _ fr _ Hg.out Tryz.underlying176 rfl sz40 ?_)
  refine wp_loop_rounds 5 ?_
  rw [rounds_succ]
  go_wp2
  rw [rounds_succ]
  go_wp2
  rw [rounds_succ]
  go_wp2
  rw [rounds_succ]
  go_wp2
  rw [rounds_succ]
  go_wp2_with (at_builtin; refine Lib.wpList_append_byte rfl (.tmp 20) (.tmp 22) 22 rfl B 5 i5 Tryz.underlying22 hi hz0 hz1 hz2 v n xs rfl W0 _ c.toNat ((((hb.alloc _).alloc _).alloc _).alloc _) ?_ ?_ ?_)
  · simp [Act.eval, go_sem]
  · omega
  · intro v' w1 hb1
    go_wp2
    go_ret
    exact ⟨v', rfl, by rw [HE.out]; exact hb1⟩

theorem aw_any (B n : Nat) (v : Value) (xs : List Value) (W0 w : World) (c : UInt8) (hp : Pairs w) (hb : Lib.OwnBuf B 5 v n xs W0 w) (hn : n + 6 ≤ 140737488355328) :
    Calls Tryz.prog 115 #[v, .int .u8 c.toNat] w (AwPost B n xs c W0) := by
  by_cases h1 : c = 38
  · subst h1; exact aw_38 B n v xs W0 w hp hb hn
  by_cases h2 : c = 60
  · subst h2; exact aw_60 B n v xs W0 w hp hb hn
  by_cases h3 : c = 62
  · subst h3; exact aw_62 B n v xs W0 w hp hb hn
  by_cases h4 : c = 34
  · subst h4; exact aw_34 B n v xs W0 w hp hb hn
  exact aw_plain B n v xs W0 w c h1 h2 h3 h4 hp hb hn
end Go.Proofs.YtpcaiechaakhnabGreatDoor
