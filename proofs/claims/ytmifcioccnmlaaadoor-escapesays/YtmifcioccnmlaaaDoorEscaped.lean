/-
  The closed fact 'escaped': four characters are written, and read, as they must be: it is true, the variable 'pairs' holding what its initialiser lays.
-/
import Derived.Test.YtmifcioccnmlaaaDoorRead
namespace Go.Proofs.YtmifcioccnmlaaaDoor
open Go.RowKit

theorem write_c (w : World) (hp : Pairs w) : Calls Tryd.prog 14 #[.string ⟨#[97, 60, 98, 62, 38, 34]⟩] w fun e w' => e = .returned (.tuple #[.string ⟨#[97, 38, 108, 116, 59, 98, 38, 103, 116, 59, 38, 97, 109, 112, 59, 38, 113, 117, 111, 116, 59]⟩, .int .i64 0]) ∧ Below w.heap.size w w' :=
  write_ok ⟨#[97, 60, 98, 62, 38, 34]⟩ w hp (by decide)
theorem rd_c : Esc.rd [38, 97, 109, 112, 59, 108, 116, 59, 38, 120, 59] = [38, 108, 116, 59, 38, 120, 59] := by decide
theorem read_c (w : World) (hp : Pairs w) : Calls Tryd.prog 15 #[.string ⟨#[38, 97, 109, 112, 59, 108, 116, 59, 38, 120, 59]⟩] w fun e w' => e = .returned (.tuple #[.string ⟨#[38, 108, 116, 59, 38, 120, 59]⟩, .int .i64 0]) ∧ Below w.heap.size w w' := by
  have := read_ok ⟨#[38, 97, 109, 112, 59, 108, 116, 59, 38, 120, 59]⟩ w hp (by decide)
  rw [show (ByteArray.mk #[38, 97, 109, 112, 59, 108, 116, 59, 38, 120, 59]).data.toList = [38, 97, 109, 112, 59, 108, 116, 59, 38, 120, 59] from rfl, rd_c] at this
  exact this

set_option maxRecDepth 100000 in
set_option maxHeartbeats 800000 in
theorem escaped_any (w : World) (hp : Pairs w) : Calls Tryd.prog 16 #[] w fun e w' => e = .returned (.bool true) ∧ Below w.heap.size w w' := by
  have HP : Hid (Pairs w) := hp
  have hpos := hp.pos
  clear hp
  go_enter Tryd.func16, Tryd.ntmps16
  go_wp2_with fail
  refine (write_c _ HP.out).mono ?_
  rintro e w1 ⟨rfl, hb1⟩
  have H1 : Hid (Below w.heap.size w w1) := hb1
  clear hb1
  go_wp2_with fail
  refine (read_c _ (HP.out.below H1.out hpos)).mono ?_
  rintro e w2 ⟨rfl, hb2⟩
  have H2 : Hid (Below w.heap.size w w2) := H1.out.trans (hb2.mono H1.out.size)
  clear hb2
  go_wp2
  go_ret
  exact ⟨rfl, H2.out⟩
end Go.Proofs.YtmifcioccnmlaaaDoor
