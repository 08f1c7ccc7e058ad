/-
  strings.IndexRune, IndexAny and ContainsAny at a set of ASCII characters and whatever text: whether one of its bytes is among them.
-/
import Derived.Test.YtgidmnoinbbajaaDoorAny0
namespace Go.Proofs.YtgidmnoinbbajaaDoor
open Go.RowKit

/-- All of its bytes are ASCII. -/
def Ascii (s : ByteArray) : Prop := ∀ (j : Nat) b, s.data.toList[j]? = some b → b.toNat < 128

set_option maxRecDepth 100000 in
set_option maxHeartbeats 800000 in
theorem ir_bad (s : ByteArray) (r : Int) (w : World) (h1 : 128 ≤ r) (h2 : (r == 65533) = false) (hv : Lib.validRune r = false) :
    Calls Tryd.prog 103 #[.string s, .int .i32 r] w fun e w' => e = .returned (.int .i64 (-1)) ∧ w' = w := by
  have hlt : decide (r < 128) = false := decide_eq_false (by omega)
  have HV : Hid (Lib.validRune r = false) := hv
  clear hv
  go_enter Tryd.func103, Tryd.ntmps103
  go_wp2_with (go_at_call 109; refine (Tryd.utf8_ValidRune _ _).mono ?_; rintro e w' ⟨rfl, rfl⟩; rw [HV.out])
  go_ret
  exact ⟨rfl, rfl⟩

set_option maxRecDepth 100000 in
set_option maxHeartbeats 800000 in
theorem ir_err (s : ByteArray) (w : World) (ha : Ascii s) :
    Calls Tryd.prog 103 #[.string s, .int .i32 65533] w fun e w' => e = .returned (.int .i64 (-1)) ∧ ∃ pos, w' = w.iter s pos := by
  have HA : Hid (Ascii s) := ha
  clear ha
  go_enter Tryd.func103, Tryd.ntmps103
  go_wp2_with fail
  go_loopg [5, 6] s.size (fun g _ _ wx => ∃ i : Nat, i + g = s.size ∧ wx = w.iter s i)
  case atStart => exact ⟨0, by omega, rfl⟩
  case round =>
    obtain ⟨i, hig, rfl⟩ := hrel
    cases gk with
    | zero =>
      obtain rfl : i = s.size := by omega
      have hnx := run_next_end (P := Tryd.prog) w s s.size
      go_wp2
      go_ret
      exact ⟨rfl, _, rfl⟩
    | succ g =>
      have hi : i < s.size := by omega
      obtain ⟨x, hx⟩ : ∃ x : UInt8, s[i]'hi = x := ⟨_, rfl⟩
      have hxl : s.data.toList[i]? = some x := by rw [← hx]; exact Lib.data_getElem? s i hi
      have hx128 : x.toNat < 128 := HA.out i x hxl
      have hnx := fun ty => run_next_ascii (P := Tryd.prog) w s i ty hi (by rw [hx]; exact hx128)
      rw [hx] at hnx
      have hne : ((x.toNat : Int) == 65533) = false := beq_eq_false_iff_ne.2 (by omega)
      clear hxl hx
      go_wp2
      go_roundg g
      case measure => omega
      case rel => exact ⟨i + 1, by omega, rfl⟩

set_option maxRecDepth 100000 in
set_option maxHeartbeats 1600000 in
theorem ir_at1 (s E T : ByteArray) (r : Int) (w : World) (hz : E.size = 2) (hl : (1 : Int) < s.size)
    (hcv : ∀ w, (convert 21 9 (.int .i32 r)).run Tryd.prog w = .ok (.string E) w) (x y : UInt8)
    (hx : ∀ w, (Instr.index 9 (.string s) (.int .i64 1)).run Tryd.prog w = .ok (.int .u8 x.toNat) w)
    (hy : ∀ w, (Instr.index 9 (.string E) (.int .i64 1)).run Tryd.prog w = .ok (.int .u8 y.toNat) w)
    (hsl : ∀ w, (Instr.slice 9 (.string s) (some (.int .i64 2)) none none).run Tryd.prog w = .ok (.string T) w)
    (hxy : ((x.toNat : Int) != (y.toNat : Int)) = true)
    (hib : Hid (∀ w, Calls Tryd.prog 73 #[.string T, .int .u8 y.toNat] w fun e w' => e = .returned (.int .i64 (-1)) ∧ w' = w))
    (h1 : 128 ≤ r) (h2 : (r == 65533) = false) (hv : Hid (Lib.validRune r = true)) (hlt : decide (r < 128) = false) :
    Calls Tryd.prog 103 #[.string s, .int .i32 r] w fun e w' => e = .returned (.int .i64 (-1)) ∧ ∃ n, w' = w.drewN n := by
  have hwr : IntKind.i64.wrap 2 = 2 := by decide
  go_enter Tryd.func103, Tryd.ntmps103
  go_wp2_with (go_at_call 109; refine (Tryd.utf8_ValidRune _ _).mono ?_; rintro e w' ⟨rfl, rfl⟩; rw [hv.out])
  go_step3
  go_wp2_with fail
  refine wp_loop_rounds 1 ?_
  rw [rounds_succ]
  go_wp2_with fail
  go_step3
  go_wp2_with fail
  go_quiet (fail)
  go_wp2_with fail
  go_quiet ((go_at_call 73; exact (hib.out _).mono fun e w2 ⟨he, hw⟩ => ⟨he, _, hw⟩))
  go_wp2_with fail
  simp only [Exit.noGoto_ret, Exit.inBlock, Exit.then]
  go_ret
  exact ⟨rfl, _, rfl⟩

set_option maxRecDepth 100000 in
set_option maxHeartbeats 1600000 in
theorem ir_out1 (s E : ByteArray) (r : Int) (w : World) (hz : E.size = 2) (hl : ¬ (1 : Int) < s.size)
    (hcv : ∀ w, (convert 21 9 (.int .i32 r)).run Tryd.prog w = .ok (.string E) w)
    (h1 : 128 ≤ r) (h2 : (r == 65533) = false) (hv : Hid (Lib.validRune r = true)) (hlt : decide (r < 128) = false) :
    Calls Tryd.prog 103 #[.string s, .int .i32 r] w fun e w' => e = .returned (.int .i64 (-1)) ∧ ∃ n, w' = w.drewN n := by
  go_enter Tryd.func103, Tryd.ntmps103
  go_wp2_with (go_at_call 109; refine (Tryd.utf8_ValidRune _ _).mono ?_; rintro e w' ⟨rfl, rfl⟩; rw [hv.out])
  go_step3
  go_wp2_with fail
  refine wp_loop_rounds 1 ?_
  rw [rounds_succ]
  go_wp2_with fail
  rw [Exit.noGoto_ret]
  go_ret
  exact ⟨rfl, 0, rfl⟩
set_option maxRecDepth 100000 in
set_option maxHeartbeats 1600000 in
theorem ir_at2 (s E T : ByteArray) (r : Int) (w : World) (hz : E.size = 3) (hl : (2 : Int) < s.size)
    (hcv : ∀ w, (convert 21 9 (.int .i32 r)).run Tryd.prog w = .ok (.string E) w) (x y : UInt8)
    (hx : ∀ w, (Instr.index 9 (.string s) (.int .i64 2)).run Tryd.prog w = .ok (.int .u8 x.toNat) w)
    (hy : ∀ w, (Instr.index 9 (.string E) (.int .i64 2)).run Tryd.prog w = .ok (.int .u8 y.toNat) w)
    (hsl : ∀ w, (Instr.slice 9 (.string s) (some (.int .i64 3)) none none).run Tryd.prog w = .ok (.string T) w)
    (hxy : ((x.toNat : Int) != (y.toNat : Int)) = true)
    (hib : Hid (∀ w, Calls Tryd.prog 73 #[.string T, .int .u8 y.toNat] w fun e w' => e = .returned (.int .i64 (-1)) ∧ w' = w))
    (h1 : 128 ≤ r) (h2 : (r == 65533) = false) (hv : Hid (Lib.validRune r = true)) (hlt : decide (r < 128) = false) :
    Calls Tryd.prog 103 #[.string s, .int .i32 r] w fun e w' => e = .returned (.int .i64 (-1)) ∧ ∃ n, w' = w.drewN n := by
  have hwr : IntKind.i64.wrap 3 = 3 := by decide
  go_enter Tryd.func103, Tryd.ntmps103
  go_wp2_with (go_at_call 109; refine (Tryd.utf8_ValidRune _ _).mono ?_; rintro e w' ⟨rfl, rfl⟩; rw [hv.out])
  go_step3
  go_wp2_with fail
  refine wp_loop_rounds 1 ?_
  rw [rounds_succ]
  go_wp2_with fail
  go_step3
  go_wp2_with fail
  go_quiet (fail)
  go_wp2_with fail
  go_quiet ((go_at_call 73; exact (hib.out _).mono fun e w2 ⟨he, hw⟩ => ⟨he, _, hw⟩))
  go_wp2_with fail
  simp only [Exit.noGoto_ret, Exit.inBlock, Exit.then]
  go_ret
  exact ⟨rfl, _, rfl⟩

set_option maxRecDepth 100000 in
set_option maxHeartbeats 1600000 in
theorem ir_out2 (s E : ByteArray) (r : Int) (w : World) (hz : E.size = 3) (hl : ¬ (2 : Int) < s.size)
    (hcv : ∀ w, (convert 21 9 (.int .i32 r)).run Tryd.prog w = .ok (.string E) w)
    (h1 : 128 ≤ r) (h2 : (r == 65533) = false) (hv : Hid (Lib.validRune r = true)) (hlt : decide (r < 128) = false) :
    Calls Tryd.prog 103 #[.string s, .int .i32 r] w fun e w' => e = .returned (.int .i64 (-1)) ∧ ∃ n, w' = w.drewN n := by
  go_enter Tryd.func103, Tryd.ntmps103
  go_wp2_with (go_at_call 109; refine (Tryd.utf8_ValidRune _ _).mono ?_; rintro e w' ⟨rfl, rfl⟩; rw [hv.out])
  go_step3
  go_wp2_with fail
  refine wp_loop_rounds 1 ?_
  rw [rounds_succ]
  go_wp2_with fail
  rw [Exit.noGoto_ret]
  go_ret
  exact ⟨rfl, 0, rfl⟩
set_option maxRecDepth 100000 in
set_option maxHeartbeats 1600000 in
theorem ir_at3 (s E T : ByteArray) (r : Int) (w : World) (hz : E.size = 4) (hl : (3 : Int) < s.size)
    (hcv : ∀ w, (convert 21 9 (.int .i32 r)).run Tryd.prog w = .ok (.string E) w) (x y : UInt8)
    (hx : ∀ w, (Instr.index 9 (.string s) (.int .i64 3)).run Tryd.prog w = .ok (.int .u8 x.toNat) w)
    (hy : ∀ w, (Instr.index 9 (.string E) (.int .i64 3)).run Tryd.prog w = .ok (.int .u8 y.toNat) w)
    (hsl : ∀ w, (Instr.slice 9 (.string s) (some (.int .i64 4)) none none).run Tryd.prog w = .ok (.string T) w)
    (hxy : ((x.toNat : Int) != (y.toNat : Int)) = true)
    (hib : Hid (∀ w, Calls Tryd.prog 73 #[.string T, .int .u8 y.toNat] w fun e w' => e = .returned (.int .i64 (-1)) ∧ w' = w))
    (h1 : 128 ≤ r) (h2 : (r == 65533) = false) (hv : Hid (Lib.validRune r = true)) (hlt : decide (r < 128) = false) :
    Calls Tryd.prog 103 #[.string s, .int .i32 r] w fun e w' => e = .returned (.int .i64 (-1)) ∧ ∃ n, w' = w.drewN n := by
  have hwr : IntKind.i64.wrap 4 = 4 := by decide
  go_enter Tryd.func103, Tryd.ntmps103
  go_wp2_with (go_at_call 109; refine (Tryd.utf8_ValidRune _ _).mono ?_; rintro e w' ⟨rfl, rfl⟩; rw [hv.out])
  go_step3
  go_wp2_with fail
  refine wp_loop_rounds 1 ?_
  rw [rounds_succ]
  go_wp2_with fail
  go_step3
  go_wp2_with fail
  go_quiet (fail)
  go_wp2_with fail
  go_quiet ((go_at_call 73; exact (hib.out _).mono fun e w2 ⟨he, hw⟩ => ⟨he, _, hw⟩))
  go_wp2_with fail
  simp only [Exit.noGoto_ret, Exit.inBlock, Exit.then]
  go_ret
  exact ⟨rfl, _, rfl⟩

set_option maxRecDepth 100000 in
set_option maxHeartbeats 1600000 in
theorem ir_out3 (s E : ByteArray) (r : Int) (w : World) (hz : E.size = 4) (hl : ¬ (3 : Int) < s.size)
    (hcv : ∀ w, (convert 21 9 (.int .i32 r)).run Tryd.prog w = .ok (.string E) w)
    (h1 : 128 ≤ r) (h2 : (r == 65533) = false) (hv : Hid (Lib.validRune r = true)) (hlt : decide (r < 128) = false) :
    Calls Tryd.prog 103 #[.string s, .int .i32 r] w fun e w' => e = .returned (.int .i64 (-1)) ∧ ∃ n, w' = w.drewN n := by
  go_enter Tryd.func103, Tryd.ntmps103
  go_wp2_with (go_at_call 109; refine (Tryd.utf8_ValidRune _ _).mono ?_; rintro e w' ⟨rfl, rfl⟩; rw [hv.out])
  go_step3
  go_wp2_with fail
  refine wp_loop_rounds 1 ?_
  rw [rounds_succ]
  go_wp2_with fail
  rw [Exit.noGoto_ret]
  go_ret
  exact ⟨rfl, 0, rfl⟩

end Go.Proofs.YtgidmnoinbbajaaDoor
