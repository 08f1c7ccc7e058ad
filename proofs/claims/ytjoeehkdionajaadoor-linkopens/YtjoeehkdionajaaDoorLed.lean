/-
  The closed fact 'led': it is so.
-/
import Derived.Test.YtjoeehkdionajaaDoorCl
namespace Go.Proofs.YtjoeehkdionajaaDoor
open Go.RowKit

theorem cl1 : Lk.clean [32, 72, 84, 84, 80, 58, 47, 47, 120, 32, 10] = [72, 84, 84, 80, 58, 47, 47, 120] := by decide +kernel
theorem ma1 : Lk.may [109, 97, 105, 108, 116, 111, 58, 97] = true := by decide +kernel
theorem ma2 : Lk.may [106, 97, 118, 97, 115, 99, 114, 105, 112, 116, 58, 97] = false := by decide +kernel
theorem sc1 : Lk.scheme [65, 58, 98] = [97] := by decide +kernel
theorem sc2 : Lk.scheme [47, 97, 58, 98] = [] := by decide +kernel

set_option maxRecDepth 100000 in
set_option maxHeartbeats 1600000 in
theorem led_any (w : World) (hS : Sch w) : Calls Tryd.prog 17 #[] w fun e w' => e = .returned (.bool true) ∧ Below w.heap.size w w' := by
  have HS : Hid (Sch w) := hS
  clear hS
  have c1 := fun w h => clean_any ⟨#[32, 72, 84, 84, 80, 58, 47, 47, 120, 32, 10]⟩ w (by decide) h
  have c2 := fun w h => may_any ⟨#[109, 97, 105, 108, 116, 111, 58, 97]⟩ w (by decide) h
  have c3 := fun w h => may_any ⟨#[106, 97, 118, 97, 115, 99, 114, 105, 112, 116, 58, 97]⟩ w (by decide) h
  have c4 := fun w => scheme_any ⟨#[65, 58, 98]⟩ w (by decide)
  have c5 := fun w => scheme_any ⟨#[47, 97, 58, 98]⟩ w (by decide)
  simp only [cl1, ma1, ma2, sc1, sc2] at c1 c2 c3 c4 c5
  have C1 : Hid (∀ w, Sch w → Calls Tryd.prog 16 #[.string ⟨#[32, 72, 84, 84, 80, 58, 47, 47, 120, 32, 10]⟩] w fun e w' => e = .returned (.tuple #[.string ⟨#[72, 84, 84, 80, 58, 47, 47, 120]⟩, .int .i64 0]) ∧ Below w.heap.size w w') := c1
  have C2 : Hid (∀ w, Sch w → Calls Tryd.prog 18 #[.string ⟨#[109, 97, 105, 108, 116, 111, 58, 97]⟩] w fun e w' => e = .returned (.bool true) ∧ Below w.heap.size w w') := c2
  have C3 : Hid (∀ w, Sch w → Calls Tryd.prog 18 #[.string ⟨#[106, 97, 118, 97, 115, 99, 114, 105, 112, 116, 58, 97]⟩] w fun e w' => e = .returned (.bool false) ∧ Below w.heap.size w w') := c3
  have C4 : Hid (∀ w, Calls Tryd.prog 20 #[.string ⟨#[65, 58, 98]⟩] w fun e w' => e = .returned (.string ⟨#[97]⟩) ∧ Below w.heap.size w w') := c4
  have C5 : Hid (∀ w, Calls Tryd.prog 20 #[.string ⟨#[47, 97, 58, 98]⟩] w fun e w' => e = .returned (.string ⟨#[]⟩) ∧ Below w.heap.size w w') := c5
  clear c1 c2 c3 c4 c5
  go_enter Tryd.func17, Tryd.ntmps17
  go_wp2_with fail
  refine (C1.out _ HS.out).mono ?_
  rintro e w1 ⟨rfl, hb1⟩
  have H1 : Hid (Below w.heap.size w w1) := hb1
  have S1 : Hid (Sch w1) := HS.out.below hb1
  clear hb1
  go_wp2_with fail
  refine (C2.out _ S1.out).mono ?_
  rintro e w2 ⟨rfl, hb2⟩
  have H2 : Hid (Below w.heap.size w w2) := H1.out.trans (hb2.mono H1.out.size)
  have S2 : Hid (Sch w2) := S1.out.below hb2
  clear hb2
  go_wp2_with fail
  refine (C3.out _ S2.out).mono ?_
  rintro e w3 ⟨rfl, hb3⟩
  have H3 : Hid (Below w.heap.size w w3) := H2.out.trans (hb3.mono H2.out.size)
  clear hb3
  go_wp2_with fail
  refine (C4.out _).mono ?_
  rintro e w4 ⟨rfl, hb4⟩
  have H4 : Hid (Below w.heap.size w w4) := H3.out.trans (hb4.mono H3.out.size)
  clear hb4
  go_wp2_with fail
  refine (C5.out _).mono ?_
  rintro e w5 ⟨rfl, hb5⟩
  have H5 : Hid (Below w.heap.size w w5) := H4.out.trans (hb5.mono H4.out.size)
  clear hb5
  go_wp2
  go_ret
  exact ⟨rfl, H5.out⟩
end Go.Proofs.YtjoeehkdionajaaDoor
