/-
  Texts of this proof, one behind the other.
-/
import Derived.Test.YtbhcklkbckacpaaGreatDoorG0

/-
  strings.IndexRune, IndexAny and ContainsAny at a set of ASCII characters and whatever text: whether one of its bytes is among them.
-/
namespace Go.Proofs.YtbhcklkbckacpaaGreatDoor
open Go.RowKit

def Ascii (s : ByteArray) : Prop := ∀ (j : Nat) b, s.data.toList[j]? = some b → b.toNat < 128

set_option maxRecDepth 100000 in
set_option maxHeartbeats 800000 in
theorem ir_bad (s : ByteArray) (r : Int) (w : World) (h1 : 128 ≤ r) (h2 : (r == 65533) = false) (hv : Lib.validRune r = false) :
    Calls Tryz.prog 305 #[.string s, .int .i32 r] w fun e w' => e = .returned (.int .i64 (-1)) ∧ w' = w := by
  have hlt : decide (r < 128) = false := decide_eq_false (by omega)
  have HV : Hid (Lib.validRune r = false) := hv
  clear hv
  go_enter Tryz.func305, Tryz.ntmps305
  go_wp2_with (go_at_call 322; refine (Tryz.utf8_ValidRune _ _).mono ?_; rintro e w' ⟨rfl, rfl⟩; rw [HV.out])
  go_ret
  exact ⟨rfl, rfl⟩

set_option maxRecDepth 100000 in
set_option maxHeartbeats 800000 in
theorem ir_err (s : ByteArray) (w : World) (ha : Ascii s) :
    Calls Tryz.prog 305 #[.string s, .int .i32 65533] w fun e w' => e = .returned (.int .i64 (-1)) ∧ ∃ pos, w' = w.iter s pos := by
  have HA : Hid (Ascii s) := ha
  clear ha
  go_enter Tryz.func305, Tryz.ntmps305
  go_wp2_with fail
  go_loopg [5, 6] s.size (fun g _ _ wx => ∃ i : Nat, i + g = s.size ∧ wx = w.iter s i)
  case atStart => exact ⟨0, by omega, rfl⟩
  case round =>
    obtain ⟨i, hig, rfl⟩ := hrel
    cases gk with
    | zero =>
      obtain rfl : i = s.size := by omega
      have hnx := run_next_end (P := Tryz.prog) w s s.size
      go_wp2
      go_ret
      exact ⟨rfl, _, rfl⟩
    | succ g =>
      have hi : i < s.size := by omega
      obtain ⟨x, hx⟩ : ∃ x : UInt8, s[i]'hi = x := ⟨_, rfl⟩
      have hxl : s.data.toList[i]? = some x := by rw [← hx]; exact Lib.data_getElem? s i hi
      have hx128 : x.toNat < 128 := HA.out i x hxl
      have hnx := fun ty => run_next_ascii (P := Tryz.prog) w s i ty hi (by rw [hx]; exact hx128)
      rw [hx] at hnx
      have hne : ((x.toNat : Int) == 65533) = false := beq_eq_false_iff_ne.2 (by omega)
      clear hxl hx
      go_wp2
      go_roundg g
      case measure => omega
      case rel => exact ⟨i + 1, by omega, rfl⟩

set_option maxRecDepth 100000 in
set_option maxHeartbeats 1600000 in
theorem ir_at1 (s E T : ByteArray) (r : Int) (w : World) (hz : E.size = 2) (hl : (1 : Int) < s.size)
    (hcv : ∀ w, (convert 21 9 (.int .i32 r)).run Tryz.prog w = .ok (.string E) w) (x y : UInt8)
    (hx : ∀ w, (Instr.index 9 (.string s) (.int .i64 1)).run Tryz.prog w = .ok (.int .u8 x.toNat) w)
    (hy : ∀ w, (Instr.index 9 (.string E) (.int .i64 1)).run Tryz.prog w = .ok (.int .u8 y.toNat) w)
    (hsl : ∀ w, (Instr.slice 9 (.string s) (some (.int .i64 2)) none none).run Tryz.prog w = .ok (.string T) w)
    (hxy : ((x.toNat : Int) != (y.toNat : Int)) = true)
    (hib : Hid (∀ w, Calls Tryz.prog 70 #[.string T, .int .u8 y.toNat] w fun e w' => e = .returned (.int .i64 (-1)) ∧ w' = w))
    (h1 : 128 ≤ r) (h2 : (r == 65533) = false) (hv : Hid (Lib.validRune r = true)) (hlt : decide (r < 128) = false) :
    Calls Tryz.prog 305 #[.string s, .int .i32 r] w fun e w' => e = .returned (.int .i64 (-1)) ∧ ∃ n, w' = w.drewN n := by
  have hwr : IntKind.i64.wrap 2 = 2 := by decide
  go_enter Tryz.func305, Tryz.ntmps305
  go_wp2_with (go_at_call 322; refine (Tryz.utf8_ValidRune _ _).mono ?_; rintro e w' ⟨rfl, rfl⟩; rw [hv.out])
  go_step3
  go_wp2_with fail
  refine wp_loop_rounds 1 ?_
  rw [rounds_succ]
  go_wp2_with fail
  go_step3
  go_wp2_with fail
  go_quiet (fail)
  go_wp2_with fail
  go_quiet ((go_at_call 70; exact (hib.out _).mono fun e w2 ⟨he, hw⟩ => ⟨he, _, hw⟩))
  go_wp2_with fail
  simp only [Exit.noGoto_ret, Exit.inBlock, Exit.then]
  go_ret
  exact ⟨rfl, _, rfl⟩

set_option maxRecDepth 100000 in
set_option maxHeartbeats 1600000 in
theorem ir_out1 (s E : ByteArray) (r : Int) (w : World) (hz : E.size = 2) (hl : ¬ (1 : Int) < s.size)
    (hcv : ∀ w, (convert 21 9 (.int .i32 r)).run Tryz.prog w = .ok (.string E) w)
    (h1 : 128 ≤ r) (h2 : (r == 65533) = false) (hv : Hid (Lib.validRune r = true)) (hlt : decide (r < 128) = false) :
    Calls Tryz.prog 305 #[.string s, .int .i32 r] w fun e w' => e = .returned (.int .i64 (-1)) ∧ ∃ n, w' = w.drewN n := by
  go_enter Tryz.func305, Tryz.ntmps305
  go_wp2_with (go_at_call 322; refine (Tryz.utf8_ValidRune _ _).mono ?_; rintro e w' ⟨rfl, rfl⟩; rw [hv.out])
  go_step3
  go_wp2_with fail
  refine wp_loop_rounds 1 ?_
  rw [rounds_succ]
  go_wp2_with fail
  rw [Exit.noGoto_ret]
  go_ret
  exact ⟨rfl, 0, rfl⟩
set_option maxRecDepth 100000 in
set_option maxHeartbeats 1600000 in
theorem ir_at2 (s E T : ByteArray) (r : Int) (w : World) (hz : E.size = 3) (hl : (2 : Int) < s.size)
    (hcv : ∀ w, (convert 21 9 (.int .i32 r)).run Tryz.prog w = .ok (.string E) w) (x y : UInt8)
    (hx : ∀ w, (Instr.index 9 (.string s) (.int .i64 2)).run Tryz.prog w = .ok (.int .u8 x.toNat) w)
    (hy : ∀ w, (Instr.index 9 (.string E) (.int .i64 2)).run Tryz.prog w = .ok (.int .u8 y.toNat) w)
    (hsl : ∀ w, (Instr.slice 9 (.string s) (some (.int .i64 3)) none none).run Tryz.prog w = .ok (.string T) w)
    (hxy : ((x.toNat : Int) != (y.toNat : Int)) = true)
    (hib : Hid (∀ w, Calls Tryz.prog 70 #[.string T, .int .u8 y.toNat] w fun e w' => e = .returned (.int .i64 (-1)) ∧ w' = w))
    (h1 : 128 ≤ r) (h2 : (r == 65533) = false) (hv : Hid (Lib.validRune r = true)) (hlt : decide (r < 128) = false) :
    Calls Tryz.prog 305 #[.string s, .int .i32 r] w fun e w' => e = .returned (.int .i64 (-1)) ∧ ∃ n, w' = w.drewN n := by
  have hwr : IntKind.i64.wrap 3 = 3 := by decide
  go_enter Tryz.func305, Tryz.ntmps305
  go_wp2_with (go_at_call 322; refine (Tryz.utf8_ValidRune _ _).mono ?_; rintro e w' ⟨rfl, rfl⟩; rw [hv.out])
  go_step3
  go_wp2_with fail
  refine wp_loop_rounds 1 ?_
  rw [rounds_succ]
  go_wp2_with fail
  go_step3
  go_wp2_with fail
  go_quiet (fail)
  go_wp2_with fail
  go_quiet ((go_at_call 70; exact (hib.out _).mono fun e w2 ⟨he, hw⟩ => ⟨he, _, hw⟩))
  go_wp2_with fail
  simp only [Exit.noGoto_ret, Exit.inBlock, Exit.then]
  go_ret
  exact ⟨rfl, _, rfl⟩

set_option maxRecDepth 100000 in
set_option maxHeartbeats 1600000 in
theorem ir_out2 (s E : ByteArray) (r : Int) (w : World) (hz : E.size = 3) (hl : ¬ (2 : Int) < s.size)
    (hcv : ∀ w, (convert 21 9 (.int .i32 r)).run Tryz.prog w = .ok (.string E) w)
    (h1 : 128 ≤ r) (h2 : (r == 65533) = false) (hv : Hid (Lib.validRune r = true)) (hlt : decide (r < 128) = false) :
    Calls Tryz.prog 305 #[.string s, .int .i32 r] w fun e w' => e = .returned (.int .i64 (-1)) ∧ ∃ n, w' = w.drewN n := by
  go_enter Tryz.func305, Tryz.ntmps305
  go_wp2_with (go_at_call 322; refine (Tryz.utf8_ValidRune _ _).mono ?_; rintro e w' ⟨rfl, rfl⟩; rw [hv.out])
  go_step3
  go_wp2_with fail
  refine wp_loop_rounds 1 ?_
  rw [rounds_succ]
  go_wp2_with fail
  rw [Exit.noGoto_ret]
  go_ret
  exact ⟨rfl, 0, rfl⟩
set_option maxRecDepth 100000 in
set_option maxHeartbeats 1600000 in
theorem ir_at3 (s E T : ByteArray) (r : Int) (w : World) (hz : E.size = 4) (hl : (3 : Int) < s.size)
    (hcv : ∀ w, (convert 21 9 (.int .i32 r)).run Tryz.prog w = .ok (.string E) w) (x y : UInt8)
    (hx : ∀ w, (Instr.index 9 (.string s) (.int .i64 3)).run Tryz.prog w = .ok (.int .u8 x.toNat) w)
    (hy : ∀ w, (Instr.index 9 (.string E) (.int .i64 3)).run Tryz.prog w = .ok (.int .u8 y.toNat) w)
    (hsl : ∀ w, (Instr.slice 9 (.string s) (some (.int .i64 4)) none none).run Tryz.prog w = .ok (.string T) w)
    (hxy : ((x.toNat : Int) != (y.toNat : Int)) = true)
    (hib : Hid (∀ w, Calls Tryz.prog 70 #[.string T, .int .u8 y.toNat] w fun e w' => e = .returned (.int .i64 (-1)) ∧ w' = w))
    (h1 : 128 ≤ r) (h2 : (r == 65533) = false) (hv : Hid (Lib.validRune r = true)) (hlt : decide (r < 128) = false) :
    Calls Tryz.prog 305 #[.string s, .int .i32 r] w fun e w' => e = .returned (.int .i64 (-1)) ∧ ∃ n, w' = w.drewN n := by
  have hwr : IntKind.i64.wrap 4 = 4 := by decide
  go_enter Tryz.func305, Tryz.ntmps305
  go_wp2_with (go_at_call 322; refine (Tryz.utf8_ValidRune _ _).mono ?_; rintro e w' ⟨rfl, rfl⟩; rw [hv.out])
  go_step3
  go_wp2_with fail
  refine wp_loop_rounds 1 ?_
  rw [rounds_succ]
  go_wp2_with fail
  go_step3
  go_wp2_with fail
  go_quiet (fail)
  go_wp2_with fail
  go_quiet ((go_at_call 70; exact (hib.out _).mono fun e w2 ⟨he, hw⟩ => ⟨he, _, hw⟩))
  go_wp2_with fail
  simp only [Exit.noGoto_ret, Exit.inBlock, Exit.then]
  go_ret
  exact ⟨rfl, _, rfl⟩

set_option maxRecDepth 100000 in
set_option maxHeartbeats 1600000 in
theorem ir_out3 (s E : ByteArray) (r : Int) (w : World) (hz : E.size = 4) (hl : ¬ (3 : Int) < s.size)
    (hcv : ∀ w, (convert 21 9 (.int .i32 r)).run Tryz.prog w = .ok (.string E) w)
    (h1 : 128 ≤ r) (h2 : (r == 65533) = false) (hv : Hid (Lib.validRune r = true)) (hlt : decide (r < 128) = false) :
    Calls Tryz.prog 305 #[.string s, .int .i32 r] w fun e w' => e = .returned (.int .i64 (-1)) ∧ ∃ n, w' = w.drewN n := by
  go_enter Tryz.func305, Tryz.ntmps305
  go_wp2_with (go_at_call 322; refine (Tryz.utf8_ValidRune _ _).mono ?_; rintro e w' ⟨rfl, rfl⟩; rw [hv.out])
  go_step3
  go_wp2_with fail
  refine wp_loop_rounds 1 ?_
  rw [rounds_succ]
  go_wp2_with fail
  rw [Exit.noGoto_ret]
  go_ret
  exact ⟨rfl, 0, rfl⟩

end Go.Proofs.YtbhcklkbckacpaaGreatDoor

/-
  strings.IndexRune at a rune that is not ASCII, in a text that is; strings.IndexAny and ContainsAny at a set of ASCII characters and whatever text: whether one of its bytes is among them.
-/
namespace Go.Proofs.YtbhcklkbckacpaaGreatDoor
open Go.RowKit

theorem indexByte_out (l : List UInt8) (c : UInt8) (h : l.contains c = false) : Lib.indexByte l c = -1 := by
  rw [Lib.contains_iff_indexByte] at h
  have h1 := Lib.indexByte_ge l c
  have h2 : ¬ (0 ≤ Lib.indexByte l c) := of_decide_eq_false h
  omega

theorem ascii_out {s : ByteArray} (ha : Ascii s) (c : UInt8) (hc : 128 ≤ c.toNat) (k : Nat) : (s.data.toList.drop k).contains c = false := by
  rw [Bool.eq_false_iff]
  intro h
  have hm : c ∈ s.data.toList := List.mem_of_mem_drop (by simpa using h)
  obtain ⟨j, hj⟩ := List.mem_iff_getElem?.1 hm
  have := ha j c hj
  omega

theorem ib_out (s : ByteArray) (ha : Ascii s) (k : Nat) (y : UInt8) (hy : 128 ≤ y.toNat) (w : World) :
    Calls Tryz.prog 70 #[.string (s.extract k s.size), .int .u8 y.toNat] w fun e w' => e = .returned (.int .i64 (-1)) ∧ w' = w := by
  have := Tryz.strings_IndexByte (s.extract k s.size) y.toNat w
  rw [Lib.extract_to_end, show ((y.toNat : Int)).toNat.toUInt8 = y by simp, indexByte_out _ _ (ascii_out ha y hy k)] at this
  exact this

theorem ascii_at {s : ByteArray} (ha : Ascii s) (k : Nat) (h : k < s.size) : (s[k]'h).toNat < 128 := ha k _ (Lib.data_getElem? s k h)

theorem ne_of_ascii {x y : UInt8} (hx : x.toNat < 128) (hy : 128 ≤ y.toNat) : ((x.toNat : Int) != (y.toNat : Int)) = true := by
  rw [bne_iff_ne]; omega

theorem ir_big (s : ByteArray) (r : Int) (w : World) (ha : Ascii s) (h1 : 128 ≤ r) :
    Calls Tryz.prog 305 #[.string s, .int .i32 r] w fun e w' => e = .returned (.int .i64 (-1)) ∧ Below w.heap.size w w' := by
  by_cases h2 : r = 65533
  · subst h2
    refine (ir_err s w ha).mono ?_
    rintro e w' ⟨he, pos, rfl⟩
    exact ⟨he, (Below.refl _ _).alloc (Nat.le_refl _) _⟩
  have h2' : (r == 65533) = false := beq_eq_false_iff_ne.2 h2
  have hlt : decide (r < 128) = false := decide_eq_false (by omega)
  cases hv : Lib.validRune r
  · exact (ir_bad s r w h1 h2' hv).mono fun e w' ⟨he, hw⟩ => ⟨he, hw ▸ Below.refl _ _⟩
  · have fin : ∀ {f : Ending → World → Prop}, Calls Tryz.prog 305 #[.string s, .int .i32 r] w (fun e w' => e = .returned (.int .i64 (-1)) ∧ ∃ n, w' = w.drewN n) → Calls Tryz.prog 305 #[.string s, .int .i32 r] w fun e w' => e = .returned (.int .i64 (-1)) ∧ Below w.heap.size w w' := by
      intro _ h
      refine h.mono ?_
      rintro e w' ⟨he, n, rfl⟩
      exact ⟨he, Go.below_drewN (Below.refl _ _) n⟩
    have hf := encode_facts r (by rw [validRune_eq]; exact hv) h1
    obtain ⟨E, hE⟩ : ∃ E, Utf8.encode r = E := ⟨_, rfl⟩
    rw [hE] at hf
    obtain ⟨hz1, hz2, hz3⟩ := hf
    have hcv : ∀ w, (convert 21 9 (.int .i32 r)).run Tryz.prog w = .ok (.string E) w := fun w => by
      rw [run_convert_int_string w 21 9 .i32 r (by kernel_rfl) Tryz.underlying9, hE]
    have hslice : ∀ k : Nat, k ≤ s.size → ∀ w, (Instr.slice 9 (.string s) (some (.int .i64 k)) none none).run Tryz.prog w = .ok (.string (s.extract k s.size)) w := fun k hk w => by
      have := run_slice_string_l w 9 s Tryz.underlying9 .i64 (k : Int) (by omega) (by omega)
      simpa using this
    have hE3 : E.size = 2 ∨ E.size = 3 ∨ E.size = 4 := by omega
    rcases hE3 with hz | hz | hz
    · have hy : 128 ≤ (E[1]'(by omega)).toNat := by have := hz3 (by omega); simpa [hz] using this
      by_cases hl : (1 : Int) < s.size
      · exact fin (f := fun _ _ => True) (ir_at1 s E _ r w hz hl hcv (s[1]'(by omega)) (E[1]'(by omega)) (run_index_at s 1 (by omega)) (run_index_at E 1 (by omega)) (hslice 2 (by omega)) (ne_of_ascii (ascii_at ha 1 (by omega)) hy) (ib_out s ha 2 _ hy) h1 h2' hv hlt)
      · exact fin (f := fun _ _ => True) (ir_out1 s E r w hz hl hcv h1 h2' hv hlt)
    · have hy : 128 ≤ (E[2]'(by omega)).toNat := by have := hz3 (by omega); simpa [hz] using this
      by_cases hl : (2 : Int) < s.size
      · exact fin (f := fun _ _ => True) (ir_at2 s E _ r w hz hl hcv (s[2]'(by omega)) (E[2]'(by omega)) (run_index_at s 2 (by omega)) (run_index_at E 2 (by omega)) (hslice 3 (by omega)) (ne_of_ascii (ascii_at ha 2 (by omega)) hy) (ib_out s ha 3 _ hy) h1 h2' hv hlt)
      · exact fin (f := fun _ _ => True) (ir_out2 s E r w hz hl hcv h1 h2' hv hlt)
    · have hy : 128 ≤ (E[3]'(by omega)).toNat := by have := hz3 (by omega); simpa [hz] using this
      by_cases hl : (3 : Int) < s.size
      · exact fin (f := fun _ _ => True) (ir_at3 s E _ r w hz hl hcv (s[3]'(by omega)) (E[3]'(by omega)) (run_index_at s 3 (by omega)) (run_index_at E 3 (by omega)) (hslice 4 (by omega)) (ne_of_ascii (ascii_at ha 3 (by omega)) hy) (ib_out s ha 4 _ hy) h1 h2' hv hlt)
      · exact fin (f := fun _ _ => True) (ir_out3 s E r w hz hl hcv h1 h2' hv hlt)

theorem get_of (s : ByteArray) (k : Nat) (h : k < s.size) : s.get! k = s[k]'h := by
  simp [ByteArray.get!, getElem!_pos, h]
  rfl

theorem decode_span (s : ByteArray) (pos : Nat) (h : pos < s.size) (ha : 128 ≤ (s[pos]'h).toNat) :
    ∀ j, pos ≤ j → j < pos + (Utf8.decode s pos).2 → ∃ hj : j < s.size, 128 ≤ (s[j]'hj).toNat := by
  have key : ∀ k, (decide (pos + k < s.size) && (s.get! (pos + k)).toNat / 64 == 2) = true → ∃ hj : pos + k < s.size, 128 ≤ (s[pos + k]'hj).toNat := by
    intro k hk
    simp only [Bool.and_eq_true, decide_eq_true_eq, beq_iff_eq] at hk
    refine ⟨hk.1, ?_⟩
    rw [← get_of s (pos + k) hk.1]
    omega
  have zero : ∃ hj : pos + 0 < s.size, 128 ≤ (s[pos + 0]'hj).toNat := ⟨h, ha⟩
  have hn : ¬ (s[pos]'h).toNat < 128 := by omega
  intro j h1 h2
  obtain ⟨k, rfl⟩ := Nat.exists_eq_add_of_le h1
  simp only [Utf8.decode, get_at s pos h, hn, if_false] at h2
  have h2' : k < (Utf8.decode s pos).2 := by
    simp only [Utf8.decode, get_at s pos h, hn, if_false]; omega
  clear h2
  simp only [Utf8.decode, get_at s pos h, hn, if_false] at h2'
  split at h2'
  · rename_i hc
    simp only [Bool.and_eq_true] at hc
    have c1 := key 1 (by simpa using hc.2)
    split at h2' <;> simp at h2'
    · have : k = 0 ∨ k = 1 := by omega
      rcases this with rfl | rfl
      · exact zero
      · exact c1
    · subst h2'; exact zero
  split at h2'
  · rename_i hc
    simp only [Bool.and_eq_true] at hc
    have c1 := key 1 (by simpa using hc.1.2)
    have c2 := key 2 (by simpa using hc.2)
    split at h2' <;> simp at h2'
    · have : k = 0 ∨ k = 1 ∨ k = 2 := by omega
      rcases this with rfl | rfl | rfl
      · exact zero
      · exact c1
      · exact c2
    · subst h2'; exact zero
  split at h2'
  · rename_i hc
    simp only [Bool.and_eq_true] at hc
    have c1 := key 1 (by simpa using hc.1.1.2)
    have c2 := key 2 (by simpa using hc.1.2)
    have c3 := key 3 (by simpa using hc.2)
    split at h2' <;> simp at h2'
    · have : k = 0 ∨ k = 1 ∨ k = 2 ∨ k = 3 := by omega
      rcases this with rfl | rfl | rfl | rfl
      · exact zero
      · exact c1
      · exact c2
      · exact c3
    · subst h2'; exact zero
  · simp at h2'; subst h2'; exact zero
end Go.Proofs.YtbhcklkbckacpaaGreatDoor

/-
  strings.IndexAny and ContainsAny at a set of two or more ASCII characters and whatever text: the first byte that is among them; whether there is one.
-/
namespace Go.Proofs.YtbhcklkbckacpaaGreatDoor
open Go.RowKit

def Iter (w : World) (s : ByteArray) (i : Nat) (wx : World) : Prop := wx.heap[w.heap.size]? = some (.stringIter s i) ∧ Below w.heap.size w wx

theorem Iter.start (w : World) (s : ByteArray) : Iter w s 0 (w.iter s 0) := ⟨World.iter_heap w s 0, (Below.refl _ _).alloc (Nat.le_refl _) _⟩
theorem Iter.next {w : World} {s : ByteArray} {i : Nat} {wx : World} (h : Iter w s i wx) (j : Nat) : Iter w s j (wx.iterAt w.heap.size s j) :=
  ⟨Lib.iterAt_heap wx w.heap.size s i j h.1, Lib.below_iterAt h.2 (Nat.le_refl _) s j⟩
theorem Iter.below {w : World} {s : ByteArray} {i : Nat} {wx w2 : World} (h : Iter w s i wx) (hb : Below wx.heap.size wx w2) : Iter w s i w2 :=
  ⟨(hb.block _ (Array.getElem?_eq_some_iff.1 h.1).1).trans h.1, h.2.trans (hb.mono h.2.size)⟩

theorem noAny_span {s chars : ByteArray} (hc : Ascii chars) {i n : Nat} (h : Lib.NoAny s.data.toList chars.data.toList i) (hs : ∀ j, i ≤ j → j < i + n → ∃ hj : j < s.size, 128 ≤ (s[j]'hj).toNat) : Lib.NoAny s.data.toList chars.data.toList (i + n) := by
  intro j b hj hb
  by_cases hji : j < i
  · exact h j b hji hb
  · obtain ⟨hjs, h128⟩ := hs j (by omega) hj
    rw [Lib.data_getElem? s j hjs] at hb
    cases hb
    have := ascii_out hc _ h128 0
    simpa using this

set_option maxHeartbeats 8000000 in
set_option maxRecDepth 1000000 in
theorem ia_short (s chars : ByteArray) (w : World) (h2 : 2 ≤ chars.size) (h8 : s.size ≤ 8) (hc : Ascii chars) :
    Calls Tryz.prog 282 #[.string s, .string chars] w fun e w' => e = .returned (.int .i64 (Lib.indexAny s.data.toList chars.data.toList)) ∧ Below w.heap.size w w' := by
  have HC : Hid (Ascii chars) := hc
  clear hc
  have hemp : chars.toList.isEmpty = false := by
    rw [Lib.toList_data]
    cases h : chars.data.toList with
    | nil => have := Lib.size_eq chars; rw [h, List.length_nil] at this; omega
    | cons _ _ => rfl
  have hn1 : ((chars.size : Int) == 1) = false := beq_eq_false_iff_ne.2 (by omega)
  have h8z : decide ((8 : Int) < (s.size : Int)) = false := decide_eq_false (by omega)
  go_enter Tryz.func282, Tryz.ntmps282
  go_wp2_with (go_at_call 306; refine (Tryz.strings_shouldUseASCIISet _ _).mono ?_; rintro e w' ⟨rfl, hw⟩; rw [hw, h8z])
  go_loopg [9, 10] s.size (fun g _ _ wx => ∃ i : Nat, i + g = s.size ∧ Iter w s i wx ∧ Lib.NoAny s.data.toList chars.data.toList i)
  case atStart => exact ⟨0, by omega, Iter.start w s, Lib.NoAny.zero _ _⟩
  case round =>
    obtain ⟨i, hig, hit, hno⟩ := hrel
    have HN : Hid (Lib.NoAny s.data.toList chars.data.toList i) := hno
    have HI : Hid (Iter w s i wr) := hit
    clear hno hit
    by_cases hi : i < s.size
    · obtain ⟨x, hx⟩ : ∃ x : UInt8, s[i]'hi = x := ⟨_, rfl⟩
      have hxl : s.data.toList[i]? = some x := by rw [← hx]; exact Lib.data_getElem? s i hi
      by_cases hx128 : x.toNat < 128
      · have hnx := fun ty => Lib.run_next_ascii_at (P := Tryz.prog) wr w.heap.size s i ty HI.out.1 hi (by rw [hx]; exact hx128)
        rw [hx] at hnx
        obtain ⟨wn, hwn⟩ : ∃ wn, wr.iterAt w.heap.size s (i + 1) = wn := ⟨_, rfl⟩
        rw [hwn] at hnx
        have H1 : Hid (Iter w s (i + 1) wn) := by rw [← hwn]; exact HI.out.next (i + 1)
        have Hx : Hid (s.data.toList[i]? = some x) := hxl
        clear hxl hx hwn
        have hcon := Lib.contains_iff_indexByte chars.data.toList x
        have hback : ((x.toNat : Int)).toNat.toUInt8 = x := by simp
        cases hin : chars.data.toList.contains x
        · rw [hin] at hcon
          have hlt : ¬ ((0 : Int) ≤ Lib.indexByte chars.data.toList x) := of_decide_eq_false hcon.symm
          have Hin : Hid (chars.data.toList.contains x = false) := hin
          clear hcon hin
          go_wp2_with (go_at_call 305; refine (Tryz.strings_IndexRune_ascii _ _ _ (by omega) (by omega)).mono ?_; rintro e w' ⟨rfl, hw⟩; rw [hw, hback])
          go_roundg (s.size - (i + 1))
          case measure => omega
          case rel => exact ⟨i + 1, by omega, H1.out, HN.out.succ Hx.out Hin.out⟩
        · rw [hin] at hcon
          have hge : (0 : Int) ≤ Lib.indexByte chars.data.toList x := of_decide_eq_true hcon.symm
          have Hin : Hid (chars.data.toList.contains x = true) := hin
          clear hcon hin
          go_wp2_with (go_at_call 305; refine (Tryz.strings_IndexRune_ascii _ _ _ (by omega) (by omega)).mono ?_; rintro e w' ⟨rfl, hw⟩; rw [hw, hback])
          go_ret
          exact ⟨by rw [Lib.indexAny_hit HN.out Hx.out Hin.out]; rfl, H1.out.2⟩
      · have hhi : 128 ≤ (s[i]'hi).toNat := by rw [hx]; omega
        have hsp := decode_span s i hi hhi
        obtain ⟨hr, hn⟩ := decode_high s i hi hhi
        have hnx := fun ty => Lib.run_next_any_at (P := Tryz.prog) wr w.heap.size s i ty HI.out.1 hi
        obtain ⟨r, n, hd⟩ : ∃ r n, Utf8.decode s i = (r, n) := ⟨_, _, rfl⟩
        rw [hd] at hnx hsp hr hn
        simp only at hnx hsp hr hn
        obtain ⟨wn, hwn⟩ : ∃ wn, wr.iterAt w.heap.size s (i + n) = wn := ⟨_, rfl⟩
        rw [hwn] at hnx
        have H1 : Hid (Iter w s (i + n) wn) := by rw [← hwn]; exact HI.out.next (i + n)
        have H2 : Hid (Lib.NoAny s.data.toList chars.data.toList (i + n)) := noAny_span HC.out HN.out hsp
        have hin : i + n ≤ s.size := by
          obtain ⟨hj, _⟩ := hsp (i + (n - 1)) (by omega) (by omega)
          omega
        clear hsp hd hwn hhi hxl hx
        go_wp2_with fail
        refine (ir_big chars r _ HC.out (by omega)).mono ?_
        rintro e w2 ⟨rfl, hb2⟩
        have H3 : Hid (Iter w s (i + n) w2) := H1.out.below hb2
        clear hb2
        go_wp2
        go_roundg (s.size - (i + n))
        case measure => omega
        case rel => exact ⟨i + n, by omega, H3.out, H2.out⟩
    · have hnx := fun ty => Lib.run_next_end_at (P := Tryz.prog) wr w.heap.size s i ty HI.out.1 hi
      go_wp2
      go_ret
      exact ⟨by rw [Lib.indexAny_none (by rw [← Lib.size_eq, show s.size = i by omega]; exact HN.out)]; rfl, HI.out.2⟩

theorem h116 : (Tryz.prog.info? 360).map (fun i => (i.zero, i.size)) = some (some (.agg (Array.replicate 256 (.bool false))), 256) := by kernel_rfl

def Lw (w : World) (cs : List UInt8) : World := (w.alloc (.cells (Lib.setCells cs) 360)).alloc (.cells (Lib.setCells cs) 360)
theorem Lw.below (w : World) (cs : List UInt8) : Below w.heap.size w (Lw w cs) := ((Below.refl _ _).alloc (Nat.le_refl _) _).alloc (by simp) _
theorem Lw.cell (w : World) (cs : List UInt8) (x : UInt8) : (Lw w cs).cell? ⟨w.heap.size + 1, x.toNat, none⟩ = some (.bool (cs.contains x)) := by
  unfold Lw
  have h : (w.alloc (.cells (Lib.setCells cs) 360)).heap.size = w.heap.size + 1 := by simp
  rw [World.cell?_alloc_at _ _ _ _ (by simp), Lib.setCells_at]
theorem Lw.store (w : World) (cs : List UInt8) : (storeCells ⟨w.heap.size + 1, 0, none⟩ (Lib.setCells cs).toList 0).run Tryz.prog ((w.alloc (.cells (Lib.setCells cs) 360)).alloc (.cells (Array.replicate 256 (.bool false)) 360)) = .ok () (Lw w cs) := by
  have := run_storeCells_new (P := Tryz.prog) (w.alloc (.cells (Lib.setCells cs) 360)) 360 (Array.replicate 256 (.bool false)) (Lib.setCells cs) (by rw [Lib.setCells_size]; exact (zero_of_info h116).2) (by rw [Lib.setCells_size, Array.size_replicate]) (Lib.setCells_one _)
  simpa [Lw] using this

theorem not_empty {s : ByteArray} (h : 1 ≤ s.size) : s.toList.isEmpty = false := by
  rw [Lib.toList_data]
  cases hl : s.data.toList with
  | nil => have := Lib.size_eq s; rw [hl, List.length_nil] at this; omega
  | cons _ _ => rfl

set_option maxHeartbeats 3200000 in
set_option maxRecDepth 100000 in
theorem ia_long (s chars : ByteArray) (w : World) (h2 : 2 ≤ chars.size) (h3 : chars.size ≤ 100) (h8 : 8 < s.size) (hs : s.size ≤ 9223372036854775807) (hc : Ascii chars) :
    Calls Tryz.prog 282 #[.string s, .string chars] w fun e w' => e = .returned (.int .i64 (Lib.indexAny s.data.toList chars.data.toList)) ∧ Below w.heap.size w w' := by
  obtain ⟨z, hz⟩ : ∃ z, Lib.indexAny s.data.toList chars.data.toList = z := ⟨_, rfl⟩
  rw [hz]
  have HZ : Hid (Lib.indexAny s.data.toList chars.data.toList = z) := hz
  have HM : Hid (Calls Tryz.prog 296 #[.string chars] w fun e w' => e = .returned (.tuple #[.agg (Lib.setCells chars.data.toList), .bool true]) ∧ w' = w.alloc (.cells (Lib.setCells chars.data.toList) 360)) := Tryz.strings_makeASCIISet (zero_of_info h116).1 chars w (by omega) hc
  have HL : Hid (Below w.heap.size w (Lw w chars.data.toList)) := Lw.below w _
  have HC : Hid (∀ x : UInt8, (Lw w chars.data.toList).cell? ⟨w.heap.size + 1, x.toNat, none⟩ = some (.bool (chars.data.toList.contains x))) := Lw.cell w _
  have hst := Lw.store w chars.data.toList
  have hcells := Lib.setCells_size chars.data.toList
  have hzero := (zero_of_info h116).1
  have hempty := not_empty (s := chars) (by omega)
  have hone : ((chars.size : Int) == 1) = false := beq_eq_false_iff_ne.2 (by omega)
  have height : decide ((8 : Int) < (s.size : Int)) = true := decide_eq_true (by omega)
  clear hc hz
  go_enter Tryz.func282, Tryz.ntmps282
  go_wp2_with fail
  refine (Tryz.strings_shouldUseASCIISet _ _).mono ?_
  rintro e w' ⟨rfl, hw⟩
  rw [hw, height]
  go_wp2_with fail
  refine HM.out.mono ?_
  rintro e w' ⟨rfl, hw⟩
  rw [hw]
  go_wp2
  clear hst hcells hzero
  generalize Lw w chars.data.toList = wl at *
  go_loopw [8] (fun i wx => ∃ k : Nat, k ≤ s.size ∧ i = .int .i64 k ∧ wx = wl ∧ Lib.NoAny s.data.toList chars.data.toList k) (fun i _ => s.size - (intOf i).toNat)
  case atStart => exact ⟨0, Nat.zero_le _, rfl, rfl, Lib.NoAny.zero _ _⟩
  case round =>
    obtain ⟨k, hk, rfl, rfl, hno⟩ := hrel
    have HN : Hid (Lib.NoAny s.data.toList chars.data.toList k) := hno
    clear hno
    by_cases hlt : k < s.size
    · obtain ⟨c, hc⟩ : ∃ c : UInt8, s[k]'hlt = c := ⟨_, rfl⟩
      have hix := run_index_at s k hlt
      rw [hc] at hix
      have HK : Hid (s.data.toList[k]? = some c) := by show _ = _; rw [← hc]; exact Lib.data_getElem? s k hlt
      have hset := HC.out c
      clear hc
      cases hin : chars.data.toList.contains c <;> rw [hin] at hset
      · have H1 : Hid (Lib.NoAny s.data.toList chars.data.toList (k + 1)) := HN.out.succ HK.out hin
        go_wp2_with (go_at_call 307; refine (Tryz.asciiSet_contains _ c _ _ hset).mono ?_; rintro e w' ⟨rfl, hw⟩; rw [hw])
        go_roundw
        case rel => exact ⟨k + 1, by omega, by go_num, by first | rfl | exact trivial, H1.out⟩
        case measure => simp [intOf]; omega
      · have H1 : Hid (z = k) := by show _ = _; rw [← HZ.out]; exact Lib.indexAny_hit HN.out HK.out hin
        go_wp2_with (go_at_call 307; refine (Tryz.asciiSet_contains _ c _ _ hset).mono ?_; rintro e w' ⟨rfl, hw⟩; rw [hw])
        go_ret
        exact ⟨by rw [H1.out]; rfl, HL.out⟩
    · have hks : k = s.data.toList.length := by rw [← Lib.size_eq]; omega
      have H1 : Hid (z = -1) := by show _ = _; rw [← HZ.out]; exact Lib.indexAny_none (hks ▸ HN.out)
      clear hks
      go_wp2
      go_ret
      exact ⟨by rw [H1.out]; rfl, HL.out⟩

theorem ia_any (s chars : ByteArray) (w : World) (h2 : 2 ≤ chars.size) (h3 : chars.size ≤ 100) (hs : s.size ≤ 9223372036854775807) (hc : Ascii chars) :
    Calls Tryz.prog 282 #[.string s, .string chars] w fun e w' => e = .returned (.int .i64 (Lib.indexAny s.data.toList chars.data.toList)) ∧ Below w.heap.size w w' := by
  by_cases h8 : s.size ≤ 8
  · exact ia_short s chars w h2 h8 hc
  · exact ia_long s chars w h2 h3 (by omega) hs hc

set_option maxHeartbeats 400000 in
theorem ca_any (s chars : ByteArray) (w : World) (b : Bool) (h2 : 2 ≤ chars.size) (h3 : chars.size ≤ 100) (hs : s.size ≤ 9223372036854775807) (hc : Ascii chars) (hb : Lib.containsAny s.data.toList chars.data.toList = b) :
    Calls Tryz.prog 252 #[.string s, .string chars] w fun e w' => e = .returned (.bool b) ∧ Below w.heap.size w w' := by
  have HI : Hid (Calls Tryz.prog 282 #[.string s, .string chars] w fun e w' => e = .returned (.int .i64 (Lib.indexAny s.data.toList chars.data.toList)) ∧ Below w.heap.size w w') := ia_any s chars w h2 h3 hs hc
  have HB : Hid (decide (0 ≤ Lib.indexAny s.data.toList chars.data.toList) = b) := hb
  clear hb hc
  generalize Lib.indexAny s.data.toList chars.data.toList = z at *
  go_enter Tryz.func252, Tryz.ntmps252
  go_wp2_with fail
  refine HI.out.mono ?_
  rintro e w1 ⟨rfl, hb1⟩
  have H1 : Hid (Below w.heap.size w w1) := hb1
  clear hb1
  go_wp2
  go_ret
  exact ⟨by rw [← HB.out]; rfl, H1.out⟩

end Go.Proofs.YtbhcklkbckacpaaGreatDoor

/-
  link.smallLetters and link.Scheme at whatever text: the letters A to Z small, all else as it is; what stands ahead of the first colon.
-/
namespace Go.Proofs.YtbhcklkbckacpaaGreatDoor
open Go.RowKit

theorem lcut (s : ByteArray) (w : World) (hs : s.size ≤ 9223372036854775807) :
    Calls Tryz.prog 242 #[.string s, .string ⟨#[58]⟩] w fun e w' => (∃ t, e = .returned (.tuple #[.string (if s.data.toList.contains 58 then B (Lk.head s.data.toList) else s), .string t, .bool (s.data.toList.contains 58)])) ∧ ∃ n, w' = w.drewN n := by
  rcases Lk.idx_cases s.data.toList with hix | ⟨i, hix⟩
  · have hno := Lk.no_head _ hix
    rw [if_neg (by rw [hno]; exact Bool.false_ne_true), hno]
    go_enter Tryz.func242, Tryz.ntmps242
    go_wp2_with (go_at_call 129; refine (Tryz.stringslite_Index_one _ _ _).mono ?_; rintro e w' ⟨rfl, rfl⟩; rw [hix])
    go_ret3
    exact ⟨⟨_, rfl⟩, 0, rfl⟩
  · obtain ⟨h1, h2, h3⟩ := Lk.head_at _ i hix
    rw [len_list] at h1
    rw [if_pos h3, h3]
    have hs1 := slice_to s i (by omega)
    rw [h2] at hs1
    clear h2
    have hs2 := slice_from s (i + 1) (by omega)
    have c1 : (0 : Int) ≤ ↑i := by omega
    have hz : (ByteArray.mk #[58]).size = 1 := rfl
    have hcast : ((i + 1 : Nat) : Int) = (i : Int) + 1 := by omega
    rw [hcast] at hs2
    have hw : IntKind.i64.wrap ((i : Int) + 1) = (i : Int) + 1 := IntWalk.i64_in _ ⟨by omega, by omega⟩
    go_enter Tryz.func242, Tryz.ntmps242
    go_wp2_with (go_at_call 129; refine (Tryz.stringslite_Index_one _ _ _).mono ?_; rintro e w' ⟨rfl, rfl⟩; rw [hix])
    go_region
    go_wp2
    go_ret3
    exact ⟨⟨_, rfl⟩, 1, rfl⟩

theorem cut1 (s : ByteArray) (w : World) (hs : s.size ≤ 9223372036854775807) :
    Calls Tryz.prog 191 #[.string s, .string ⟨#[58]⟩] w fun e w' => (∃ t, e = .returned (.tuple #[.string (if s.data.toList.contains 58 then B (Lk.head s.data.toList) else s), .string t, .bool (s.data.toList.contains 58)])) ∧ Below w.heap.size w w' := by
  have H := lcut s w hs
  generalize (if s.data.toList.contains 58 = true then B (Lk.head s.data.toList) else s) = h at *
  generalize s.data.toList.contains 58 = f at *
  go_enter Tryz.func191, Tryz.ntmps191
  go_wp2_with fail
  refine H.mono ?_
  rintro e w1 ⟨⟨t, rfl⟩, n, rfl⟩
  go_wp2
  go_ret3
  exact ⟨⟨_, rfl⟩, ⟨rfl, rfl, rfl, Nat.le_refl _, fun _ _ => rfl⟩⟩

set_option maxRecDepth 100000 in
set_option maxHeartbeats 1600000 in
theorem small_any (s : ByteArray) (w : World) (hs : s.size ≤ 9223372036854775807) :
    Calls Tryz.prog 321 #[.string s] w fun e w' => e = .returned (.string (B (Lk.small s.data.toList))) ∧ Below w.heap.size w w' := by
  obtain ⟨sm, hsm⟩ : ∃ sm, Lk.small s.data.toList = sm := ⟨_, rfl⟩
  rw [hsm]
  have HM : Hid (Lk.small s.data.toList = sm) := hsm
  clear hsm
  have hcv := Lib.run_convert_string_bytes (P := Tryz.prog) w 9 22 5 s Tryz.underlying9 Tryz.underlying22 Tryz.underlying5
  have HS : Hid (SBuf w.heap.size w (Lib.bytesWorld w 5 s) (smP s.data.toList 0)) := by rw [smP_zero]; exact SBuf.start w s
  generalize Lib.bytesWorld w 5 s = w0 at *
  generalize grownCap w s.size 0 5 = cap at *
  go_enter Tryz.func321, Tryz.ntmps321
  go_wp2
  go_loopw [10] (fun i wr => ∃ k : Nat, k ≤ s.size ∧ i = .int .i64 k ∧ SBuf w.heap.size w wr (smP s.data.toList k)) (fun i _ => s.size - (intOf i).toNat)
  case atStart => exact ⟨0, Nat.zero_le _, rfl, HS.out⟩
  case round =>
    obtain ⟨k, hk, rfl, hob⟩ := hrel
    have HB : Hid (SBuf w.heap.size w wr (smP s.data.toList k)) := hob
    clear hob hcv
    by_cases hlt : k < s.size
    · have hkl : k < s.data.toList.length := by rw [len_list]; exact hlt
      have hkp : k < (smP s.data.toList k).length := by rw [smP_len]; exact hkl
      obtain ⟨c, hc⟩ : ∃ c : UInt8, s.data.toList[k] = c := ⟨_, rfl⟩
      have hcell := HB.out.cell k hkp
      rw [smP_at _ _ hkl, hc] at hcell
      have hfz := HB.out.frozen k hkp
      have H1 : Hid (Lk.small1 c = c → SBuf w.heap.size w wr (smP s.data.toList (k + 1))) := fun h => by rw [smP_same _ _ hkl (by rw [hc]; exact h)]; exact HB.out
      have H2 : Hid (SBuf w.heap.size w (wr.setCell ⟨w.heap.size, k, none⟩ (.int .u8 (Lk.small1 c).toNat)) (smP s.data.toList (k + 1))) := by
        rw [smP_succ _ _ hkl, hc]; exact HB.out.set k _
      clear hc hkp hkl
      by_cases hA : 65 ≤ c.toNat
      · by_cases hZ : c.toNat ≤ 90
        · have hcc : (Lk.small1 c).toNat = c.toNat + 32 := by
            unfold Lk.small1
            rw [if_pos ⟨by rw [UInt8.le_iff_toNat_le]; exact hA, by rw [UInt8.le_iff_toNat_le]; exact hZ⟩]
            rw [UInt8.toNat_add]
            show (c.toNat + 32) % 256 = _
            omega
          go_wp2
          go_roundw
          case rel =>
            refine ⟨k + 1, by omega, by go_num, ?_⟩
            have := H2.out
            rw [hcc] at this
            rw [show ((c.toNat : Int) - 65 + 97) = ((c.toNat + 32 : Nat) : Int) by omega]
            exact this
          case measure => simp [intOf]; omega
        · have hcc : Lk.small1 c = c := by
            unfold Lk.small1
            rw [if_neg (fun h => hZ (by have := h.2; rw [UInt8.le_iff_toNat_le] at this; exact this))]
          go_wp2
          go_roundw
          case rel => exact ⟨k + 1, by omega, by go_num, H1.out hcc⟩
          case measure => simp [intOf]; omega
      · have hcc : Lk.small1 c = c := by
          unfold Lk.small1
          rw [if_neg (fun h => hA (by have := h.1; rw [UInt8.le_iff_toNat_le] at this; exact this))]
        go_wp2
        go_roundw
        case rel => exact ⟨k + 1, by omega, by go_num, H1.out hcc⟩
        case measure => simp [intOf]; omega
    · have hsz : (smP s.data.toList k) = Lk.small s.data.toList := smP_all _ _ (by rw [len_list]; omega)
      have H3 : Hid (SBuf w.heap.size w wr (Lk.small s.data.toList)) := by rw [← hsz]; exact HB.out
      have hcb := run_convert_bytes_back (P := Tryz.prog) wr 22 9 5 ⟨w.heap.size, 0, none⟩ cap (Lk.small s.data.toList) Tryz.underlying22 Tryz.underlying5 Tryz.underlying9 (fun j hj => by
        rw [show (⟨w.heap.size, 0, none⟩ : Addr).add j = ⟨w.heap.size, j, none⟩ by cases j <;> simp [Addr.add]]
        exact H3.out.cell j hj)
      rw [Lk.small_len, len_list] at hcb
      change _ = Result.ok (Value.string (B (Lk.small s.data.toList))) _ at hcb
      rw [HM.out] at hcb
      clear hsz
      go_wp2
      go_ret
      exact ⟨rfl, H3.out.below⟩

theorem path_ascii : Ascii ⟨#[47, 63, 35]⟩ := by
  intro j b h
  match j, h with
  | 0, h => cases h; decide
  | 1, h => cases h; decide
  | 2, h => cases h; decide
  | j + 3, h => simp at h

set_option maxRecDepth 100000 in
set_option maxHeartbeats 800000 in
theorem scheme_any (s : ByteArray) (w : World) (hs : s.size ≤ 9223372036854775807) :
    Calls Tryz.prog 303 #[.string s] w fun e w' => e = .returned (.string (B (Lk.scheme s.data.toList))) ∧ Below w.heap.size w w' := by
  have hc := cut1 s w hs
  have hhl := Lk.head_len s.data.toList
  rw [len_list] at hhl
  have hsz : (B (Lk.head s.data.toList)).size ≤ 9223372036854775807 := by rw [B_size]; omega
  cases hf : s.data.toList.contains 58
  · have hsch : Lk.scheme s.data.toList = [] := by unfold Lk.scheme; rw [hf]; rfl
    rw [hsch]
    rw [hf, if_neg Bool.false_ne_true] at hc
    have HC : Hid (Calls Tryz.prog 191 #[.string s, .string ⟨#[58]⟩] w fun e w' => (∃ t, e = .returned (.tuple #[.string s, .string t, .bool false])) ∧ Below w.heap.size w w') := hc
    clear hc
    clear hsch
    go_enter Tryz.func303, Tryz.ntmps303
    go_wp2_with fail
    refine HC.out.mono ?_
    rintro e w1 ⟨⟨t, rfl⟩, hb1⟩
    have H1 : Hid (Below w.heap.size w w1) := hb1
    clear hb1
    go_wp2
    go_ret
    exact ⟨rfl, H1.out⟩
  · rw [hf, if_pos rfl] at hc
    have HC : Hid (Calls Tryz.prog 191 #[.string s, .string ⟨#[58]⟩] w fun e w' => (∃ t, e = .returned (.tuple #[.string (B (Lk.head s.data.toList)), .string t, .bool true])) ∧ Below w.heap.size w w') := hc
    clear hc
    cases hca : Lib.containsAny (Lk.head s.data.toList) Lk.path
    · have hsch : Lk.scheme s.data.toList = Lk.small (Lk.head s.data.toList) := by unfold Lk.scheme; rw [hf, hca]; rfl
      rw [hsch]
      have HA : Hid (∀ w, Calls Tryz.prog 252 #[.string (B (Lk.head s.data.toList)), .string ⟨#[47, 63, 35]⟩] w fun e w' => e = .returned (.bool false) ∧ Below w.heap.size w w') := fun w => ca_any _ _ w false (by decide) (by decide) hsz path_ascii hca
      have HS : Hid (∀ w, Calls Tryz.prog 321 #[.string (B (Lk.head s.data.toList))] w fun e w' => e = .returned (.string (B (Lk.small (Lk.head s.data.toList)))) ∧ Below w.heap.size w w') := fun w => small_any _ w hsz
      clear hsch hca hf hhl hsz
      generalize B (Lk.head s.data.toList) = h at *
      generalize B (Lk.small (Lk.head s.data.toList)) = r at *
      go_enter Tryz.func303, Tryz.ntmps303
      go_wp2_with fail
      refine HC.out.mono ?_
      rintro e w1 ⟨⟨t, rfl⟩, hb1⟩
      have H1 : Hid (Below w.heap.size w w1) := hb1
      clear hb1
      go_wp2_with fail
      refine (HA.out _).mono ?_
      rintro e w2 ⟨rfl, hb2⟩
      have H2 : Hid (Below w.heap.size w w2) := H1.out.trans (hb2.mono H1.out.size)
      clear hb2
      go_wp2_with fail
      refine (HS.out _).mono ?_
      rintro e w3 ⟨rfl, hb3⟩
      have H3 : Hid (Below w.heap.size w w3) := H2.out.trans (hb3.mono H2.out.size)
      clear hb3
      go_wp2
      go_ret
      exact ⟨rfl, H3.out⟩
    · have hsch : Lk.scheme s.data.toList = [] := by unfold Lk.scheme; rw [hf, hca]; rfl
      rw [hsch]
      have HA : Hid (∀ w, Calls Tryz.prog 252 #[.string (B (Lk.head s.data.toList)), .string ⟨#[47, 63, 35]⟩] w fun e w' => e = .returned (.bool true) ∧ Below w.heap.size w w') := fun w => ca_any _ _ w true (by decide) (by decide) hsz path_ascii hca
      clear hsch hca hf hhl hsz
      generalize B (Lk.head s.data.toList) = h at *
      go_enter Tryz.func303, Tryz.ntmps303
      go_wp2_with fail
      refine HC.out.mono ?_
      rintro e w1 ⟨⟨t, rfl⟩, hb1⟩
      have H1 : Hid (Below w.heap.size w w1) := hb1
      clear hb1
      go_wp2_with fail
      refine (HA.out _).mono ?_
      rintro e w2 ⟨rfl, hb2⟩
      have H2 : Hid (Below w.heap.size w w2) := H1.out.trans (hb2.mono H1.out.size)
      clear hb2
      go_wp2
      go_ret
      exact ⟨rfl, H2.out⟩
end Go.Proofs.YtbhcklkbckacpaaGreatDoor

/-
  link.May at whatever text: whether one may be led to it; the variable 'schemes' holding what its initialiser lays.
-/
namespace Go.Proofs.YtbhcklkbckacpaaGreatDoor
open Go.RowKit

def scells : Array Value := #[.string ⟨#[104, 116, 116, 112]⟩, .string ⟨#[104, 116, 116, 112, 115]⟩, .string ⟨#[109, 97, 105, 108, 116, 111]⟩]
def Sch (w : World) : Prop := ∃ t fr, w.heap[8]? = some (.cells scells t fr)
theorem Sch.pos {w : World} (h : Sch w) : 8 < w.heap.size := by
  obtain ⟨t, fr, hg⟩ := h
  exact (Array.getElem?_eq_some_iff.1 hg).1
theorem Sch.below {w w' : World} (h : Sch w) (hb : Below w.heap.size w w') : Sch w' := by
  have hp := h.pos
  obtain ⟨t, fr, hg⟩ := h
  exact ⟨t, fr, (hb.block 8 hp).trans hg⟩
theorem stand_lo {c : UInt8} (h : c.toNat < 33) : Lk.stand c = false := by
  unfold Lk.stand
  rw [decide_eq_false (fun hh => by rw [UInt8.le_iff_toNat_le] at hh; have : (33 : UInt8).toNat = 33 := rfl; omega)]
  rfl
theorem stand_hi {c : UInt8} (h : 126 < c.toNat) : Lk.stand c = false := by
  unfold Lk.stand
  have : decide (c ≤ 126) = false := decide_eq_false (fun hh => by rw [UInt8.le_iff_toNat_le] at hh; have : (126 : UInt8).toNat = 126 := rfl; omega)
  rw [this]
  simp
theorem stand_mid {c : UInt8} (h : 33 ≤ c.toNat) (h2 : c.toNat ≤ 126) : Lk.stand c = decide (Lib.indexByte Lk.barred c < 0) := by
  unfold Lk.stand
  rw [decide_eq_true (show (33 : UInt8) ≤ c by rw [UInt8.le_iff_toNat_le]; exact h), decide_eq_true (show c ≤ 126 by rw [UInt8.le_iff_toNat_le]; exact h2), Lib.contains_iff_indexByte]
  by_cases hz : Lib.indexByte Lk.barred c < 0
  · rw [decide_eq_true hz, decide_eq_false (by omega)]; rfl
  · rw [decide_eq_false hz, decide_eq_true (by omega)]; rfl

set_option maxHeartbeats 800000 in
theorem stand_any (c : UInt8) (w : World) : Calls Tryz.prog 301 #[.int .u8 c.toNat] w fun e w' => e = .returned (.bool (Lk.stand c)) ∧ w' = w := by
  by_cases h1 : 33 ≤ c.toNat
  · by_cases h2 : c.toNat ≤ 126
    · have hst := stand_mid h1 h2
      have hback : ((c.toNat : Int)).toNat.toUInt8 = c := by simp
      have hI := fun w => Tryz.strings_IndexByte ⟨#[34, 39, 60, 62, 92, 96]⟩ (c.toNat : Int) w
      rw [hback] at hI
      change ∀ w, Calls Tryz.prog 70 _ w fun e w' => e = .returned (.int .i64 (Lib.indexByte Lk.barred c)) ∧ w' = w at hI
      have HI : Hid (∀ w, Calls Tryz.prog 70 #[.string ⟨#[34, 39, 60, 62, 92, 96]⟩, .int .u8 c.toNat] w fun e w' => e = .returned (.int .i64 (Lib.indexByte Lk.barred c)) ∧ w' = w) := hI
      clear hI hback
      generalize Lib.indexByte Lk.barred c = z at *
      rw [hst]
      clear hst
      go_enter Tryz.func301, Tryz.ntmps301
      go_wp2_with fail
      refine (HI.out _).mono ?_
      rintro e w' ⟨rfl, rfl⟩
      go_wp2
      go_ret
      exact ⟨rfl, rfl⟩
    · rw [stand_hi (by omega)]
      go_enter Tryz.func301, Tryz.ntmps301
      go_wp2
      go_ret
      exact ⟨rfl, rfl⟩
  · rw [stand_lo (by omega)]
    go_enter Tryz.func301, Tryz.ntmps301
    go_wp2
    go_ret
    exact ⟨rfl, rfl⟩

theorem eqB (k x : List UInt8) : (k == (B x).toList) = decide (k = x) := by
  rw [Lib.toList_data, B_data]
  by_cases h : k = x
  · subst h; simp
  · rw [decide_eq_false h]; simpa using h
theorem Beq (k x : List UInt8) : ((B x).toList == k) = decide (k = x) := by
  rw [Lib.toList_data, B_data]
  by_cases h : k = x
  · subst h; simp
  · rw [decide_eq_false h]; simpa using fun e => h e.symm
theorem sidx0 (w : World) : (Instr.index 380 (.agg scells) (.int .i64 0)).run Tryz.prog w = .ok (.string ⟨#[104, 116, 116, 112]⟩) w := by kernel_rfl
theorem sidx1 (w : World) : (Instr.index 380 (.agg scells) (.int .i64 1)).run Tryz.prog w = .ok (.string ⟨#[104, 116, 116, 112, 115]⟩) w := by kernel_rfl
theorem sidx2 (w : World) : (Instr.index 380 (.agg scells) (.int .i64 2)).run Tryz.prog w = .ok (.string ⟨#[109, 97, 105, 108, 116, 111]⟩) w := by kernel_rfl
theorem sz79 : (Tryz.prog.info? 380).map (·.size) = some scells.size := by kernel_rfl

set_option maxHeartbeats 800000 in
set_option maxRecDepth 100000 in
theorem lead_any (x : List UInt8) (w : World) (hS : Sch w) : Calls Tryz.prog 302 #[.string (B x)] w fun e w' => e = .returned (.bool (Lk.lead x)) ∧ w' = w := by
  obtain ⟨t, fr, hg⟩ := hS
  have Hg : Hid (w.heap[8]? = some (.cells scells t fr)) := hg
  clear hg
  have i0 := sidx0
  have i1 := sidx1
  have i2 := sidx2
  have q1 := eqB [104, 116, 116, 112] x
  have q2 := eqB [104, 116, 116, 112, 115] x
  have q3 := eqB [109, 97, 105, 108, 116, 111] x
  by_cases h1 : [104, 116, 116, 112] = x
  · have hl : Lk.lead x = true := by subst h1; rfl
    rw [hl]
    rw [decide_eq_true h1] at q1
    clear hl q2 q3 h1
    generalize B x = b at *
    go_enter Tryz.func302, Tryz.ntmps302
    go_wp2_with (refine wpList_load_row rfl 380 _ rfl 8 rfl t _ fr _ Hg.out Tryz.underlying380 rfl sz79 ?_)
    refine wp_loop_rounds 5 ?_
    rw [rounds_succ]
    go_wp2
    go_ret
    exact ⟨rfl, rfl⟩
  · rw [decide_eq_false h1] at q1
    by_cases h2 : [104, 116, 116, 112, 115] = x
    · have hl : Lk.lead x = true := by subst h2; rfl
      rw [hl]
      rw [decide_eq_true h2] at q2
      clear hl q3 h1 h2
      generalize B x = b at *
      go_enter Tryz.func302, Tryz.ntmps302
      go_wp2_with (refine wpList_load_row rfl 380 _ rfl 8 rfl t _ fr _ Hg.out Tryz.underlying380 rfl sz79 ?_)
      refine wp_loop_rounds 5 ?_
      rw [rounds_succ]
      go_wp2
      rw [rounds_succ]
      go_wp2
      go_ret
      exact ⟨rfl, rfl⟩
    · rw [decide_eq_false h2] at q2
      by_cases h3 : [109, 97, 105, 108, 116, 111] = x
      · have hl : Lk.lead x = true := by subst h3; rfl
        rw [hl]
        rw [decide_eq_true h3] at q3
        clear hl h1 h2 h3
        generalize B x = b at *
        go_enter Tryz.func302, Tryz.ntmps302
        go_wp2_with (refine wpList_load_row rfl 380 _ rfl 8 rfl t _ fr _ Hg.out Tryz.underlying380 rfl sz79 ?_)
        refine wp_loop_rounds 5 ?_
        rw [rounds_succ]
        go_wp2
        rw [rounds_succ]
        go_wp2
        rw [rounds_succ]
        go_wp2
        go_ret
        exact ⟨rfl, rfl⟩
      · have hl : Lk.lead x = false := by
          unfold Lk.lead Lk.leads
          simp [Ne.symm h1, Ne.symm h2, Ne.symm h3]
        rw [hl]
        rw [decide_eq_false h3] at q3
        clear hl h1 h2 h3
        generalize B x = b at *
        go_enter Tryz.func302, Tryz.ntmps302
        go_wp2_with (refine wpList_load_row rfl 380 _ rfl 8 rfl t _ fr _ Hg.out Tryz.underlying380 rfl sz79 ?_)
        refine wp_loop_rounds 5 ?_
        rw [rounds_succ]
        go_wp2
        rw [rounds_succ]
        go_wp2
        rw [rounds_succ]
        go_wp2
        rw [rounds_succ]
        go_wp2
        go_ret
        exact ⟨rfl, rfl⟩

theorem may_len (l : List UInt8) (h : l.length < 1 ∨ 24 < l.length) : Lk.may l = false := by
  unfold Lk.may
  rcases h with h | h
  · rw [decide_eq_false (show ¬ 1 ≤ l.length by omega)]; simp
  · rw [decide_eq_false (show ¬ l.length ≤ 24 by omega)]; simp
theorem may_not (l : List UInt8) (k : Nat) (h : k < l.length) (hc : Lk.stand l[k] = false) : Lk.may l = false := by
  have : l.all Lk.stand = false := by
    rw [List.all_eq_false]
    exact ⟨l[k], List.getElem_mem h, by rw [hc]; exact Bool.false_ne_true⟩
  unfold Lk.may
  rw [this]
  simp
theorem may_all (l : List UInt8) (h1 : 1 ≤ l.length) (h2 : l.length ≤ 24) (hs : l.all Lk.stand = true) : Lk.may l = Lk.lead (Lk.scheme l) := by
  unfold Lk.may
  rw [hs, decide_eq_true h1, decide_eq_true h2]
  simp

set_option maxRecDepth 100000 in
set_option maxHeartbeats 1600000 in
theorem may_any (s : ByteArray) (w : World) (hs : s.size ≤ 9223372036854775807) (hS : Sch w) :
    Calls Tryz.prog 279 #[.string s] w fun e w' => e = .returned (.bool (Lk.may s.data.toList)) ∧ Below w.heap.size w w' := by
  have HS : Hid (Sch w) := hS
  clear hS
  have hl := len_list s
  by_cases h1 : s.size < 1
  · rw [may_len _ (.inl (by omega))]
    clear hl
    go_enter Tryz.func279, Tryz.ntmps279
    go_wp2
    go_ret
    exact ⟨rfl, Below.refl _ _⟩
  · by_cases h2 : 24 < s.size
    · rw [may_len _ (.inr (by omega))]
      clear hl
      go_enter Tryz.func279, Tryz.ntmps279
      go_wp2
      go_ret
      exact ⟨rfl, Below.refl _ _⟩
    · obtain ⟨m, hm⟩ : ∃ m, Lk.may s.data.toList = m := ⟨_, rfl⟩
      rw [hm]
      have HM : Hid (Lk.may s.data.toList = m) := hm
      clear hm
      go_enter Tryz.func279, Tryz.ntmps279
      go_wp2
      go_loop [3] (fun i => ∃ k : Nat, k ≤ s.size ∧ i = .int .i64 k ∧ (s.data.toList.take k).all Lk.stand = true) (fun i => s.size - (intOf i).toNat)
      case atStart => exact ⟨0, Nat.zero_le _, rfl, by simp⟩
      case round =>
        obtain ⟨k, hk, rfl, hall⟩ := hrel
        have HA : Hid ((s.data.toList.take k).all Lk.stand = true) := hall
        clear hall
        by_cases hlt : k < s.size
        · have hkl : k < s.data.toList.length := by omega
          obtain ⟨c, hc⟩ : ∃ c : UInt8, s[k]'hlt = c := ⟨_, rfl⟩
          have hcl : s.data.toList[k] = c := by rw [← hc]; rfl
          have hix := run_index_at s k hlt
          rw [hc] at hix
          cases hst : Lk.stand c
          · have hmf := may_not s.data.toList k hkl (by rw [hcl]; exact hst)
            rw [HM.out] at hmf
            subst hmf
            clear hcl hc
            go_wp2_with (go_at_call 301; refine (stand_any c _).mono ?_; rintro e w' ⟨rfl, hw⟩; rw [hw, hst])
            go_ret
            exact ⟨rfl, Below.refl _ _⟩
          · have H2 : Hid ((s.data.toList.take (k + 1)).all Lk.stand = true) := by
              show _ = _
              rw [List.take_succ_eq_append_getElem hkl, List.all_append, HA.out, hcl]
              simp [hst]
            clear hcl hc
            go_wp2_with (go_at_call 301; refine (stand_any c _).mono ?_; rintro e w' ⟨rfl, hw⟩; rw [hw, hst])
            go_round
            case rel => exact ⟨k + 1, by omega, by go_num, H2.out⟩
            case measure => simp [intOf]; omega
        · have hal : s.data.toList.all Lk.stand = true := by
            have := HA.out
            rw [List.take_of_length_le (by omega)] at this
            exact this
          have hmm := may_all s.data.toList (by omega) (by omega) hal
          rw [HM.out] at hmm
          clear hal
          go_wp2_with fail
          refine (scheme_any s _ hs).mono ?_
          rintro e w1 ⟨rfl, hb1⟩
          have H1 : Hid (Below w.heap.size w w1) := hb1
          have HS1 : Hid (Sch w1) := HS.out.below hb1
          clear hb1
          go_wp2_with fail
          refine (lead_any _ _ HS1.out).mono ?_
          rintro e w2 ⟨rfl, hw⟩
          rw [hw]
          have HH : Hid (m = Lk.lead (Lk.scheme s.data.toList)) := hmm
          clear hmm
          go_wp2
          go_ret
          exact ⟨by rw [HH.out]; rfl, H1.out⟩
end Go.Proofs.YtbhcklkbckacpaaGreatDoor

/-
  strings.Trim at a set of ASCII characters and whatever text; link.Clean.
-/
namespace Go.Proofs.YtbhcklkbckacpaaGreatDoor
open Go.RowKit

def SetAt (b : Nat) (cs : List UInt8) (w : World) : Prop := ∀ x : UInt8, w.cell? ⟨b, x.toNat, none⟩ = some (.bool (cs.contains x))

theorem tl_step (p : UInt8 → Bool) (x : UInt8) (t : List UInt8) (h : p x = true) : Lk.tl p (x :: t) = Lk.tl p t := by simp [Lk.tl, h]
theorem tl_stop (p : UInt8 → Bool) (x : UInt8) (t : List UInt8) (h : p x = false) : Lk.tl p (x :: t) = x :: t := by simp [Lk.tl, h]

set_option maxRecDepth 100000 in
set_option maxHeartbeats 1600000 in
theorem trimL (l cs : List UInt8) (b : Nat) (w : World) (hs : l.length ≤ 9223372036854775807) (hc : SetAt b cs w) :
    Calls Tryz.prog 297 #[.string (B l), .pointer (some ⟨b, 0, none⟩)] w fun e w' => e = .returned (.string (B (Lk.tl (fun c => cs.contains c) l))) ∧ w' = w := by
  obtain ⟨r, hr⟩ : ∃ r, Lk.tl (fun c => cs.contains c) l = r := ⟨_, rfl⟩
  rw [hr]
  have HR : Hid (Lk.tl (fun c => cs.contains c) l = r) := hr
  have HC : Hid (SetAt b cs w) := hc
  clear hr hc
  go_enter Tryz.func297, Tryz.ntmps297
  go_wp2
  go_loopg [0] l.length (fun g v wx => ∃ m : List UInt8, m.length = g ∧ v = .string (B m) ∧ wx = w ∧ m.length ≤ 9223372036854775807 ∧ Lk.tl (fun c => cs.contains c) m = r)
  case atStart => exact ⟨l, rfl, rfl, rfl, hs, HR.out⟩
  case round =>
    obtain ⟨m, hmg, rfl, rfl, hml, hmr⟩ := hrel
    have HM : Hid (Lk.tl (fun c => cs.contains c) m = r) := hmr
    clear hmr HR
    have hsz := B_size m
    cases m with
    | nil =>
      have hz : ¬ ((0 : Int) < 0) := by omega
      simp only [List.length_nil] at hsz
      have hrr : r = [] := HM.out.symm
      subst hrr
      go_wp2
      go_ret
      exact ⟨rfl, rfl⟩
    | cons x t =>
      have hpos : 0 < (B (x :: t)).size := by rw [hsz]; simp
      have hix : ∀ w, (Instr.index 9 (.string (B (x :: t))) (.int .i64 0)).run Tryz.prog w = .ok (.int .u8 x.toNat) w := fun w => run_index_at (B (x :: t)) 0 hpos w
      have hsl : ∀ w, (Instr.slice 9 (.string (B (x :: t))) (some (.int .i64 1)) none none).run Tryz.prog w = .ok (.string (B t)) w := fun w => slice_from (B (x :: t)) 1 (by omega) w
      have hcx := HC.out x
      simp only [List.length_cons] at hmg hml
      have hposz : (0 : Int) < ((B (x :: t)).size : Int) := by omega
      cases hin : cs.contains x
      · rw [hin] at hcx
        have hrr : r = x :: t := by rw [← HM.out]; exact tl_stop _ x t hin
        subst hrr
        clear hsz
        generalize hB : B (x :: t) = bx at *
        go_wp2_with (go_at_call 307; refine (Tryz.asciiSet_contains _ x _ _ hcx).mono ?_; rintro e w' ⟨rfl, hw⟩; rw [hw])
        go_ret
        exact ⟨by rw [hB]; rfl, rfl⟩
      · rw [hin] at hcx
        have H2 : Hid (Lk.tl (fun c => cs.contains c) t = r) := by show _ = _; rw [← HM.out]; exact (tl_step _ x t hin).symm
        clear hsz
        generalize B (x :: t) = bx at *
        go_wp2_with (go_at_call 307; refine (Tryz.asciiSet_contains _ x _ _ hcx).mono ?_; rintro e w' ⟨rfl, hw⟩; rw [hw])
        go_roundg t.length
        case measure => omega
        case rel => exact ⟨t, rfl, rfl, rfl, by omega, H2.out⟩

theorem index_last (m : List UInt8) (x : UInt8) (w : World) : (Instr.index 9 (.string (B (m ++ [x]))) (.int .i64 m.length)).run Tryz.prog w = .ok (.int .u8 x.toNat) w := by
  have h : m.length < (B (m ++ [x])).size := by rw [B_size]; simp
  rw [run_index_at (B (m ++ [x])) m.length h w]
  have : (B (m ++ [x]))[m.length]'h = x := by
    have h1 := Lib.data_getElem? (B (m ++ [x])) m.length h
    rw [B_data, List.getElem?_append_right (Nat.le_refl _)] at h1
    simp at h1
    exact h1.symm
  rw [this]
theorem slice_last (m : List UInt8) (x : UInt8) (w : World) : (Instr.slice 9 (.string (B (m ++ [x]))) none (some (.int .i64 m.length)) none).run Tryz.prog w = .ok (.string (B m)) w := by
  rw [slice_to (B (m ++ [x])) m.length (by rw [B_size]; simp) w, B_data]
  simp

set_option maxRecDepth 100000 in
set_option maxHeartbeats 1600000 in
theorem trimR (l cs : List UInt8) (b : Nat) (w : World) (hs : l.length ≤ 9223372036854775807) (hc : SetAt b cs w) :
    Calls Tryz.prog 298 #[.string (B l), .pointer (some ⟨b, 0, none⟩)] w fun e w' => e = .returned (.string (B (Lk.tr (fun c => cs.contains c) l))) ∧ w' = w := by
  obtain ⟨r, hr⟩ : ∃ r, Lk.tr (fun c => cs.contains c) l = r := ⟨_, rfl⟩
  rw [hr]
  have HR : Hid (Lk.tr (fun c => cs.contains c) l = r) := hr
  have HC : Hid (SetAt b cs w) := hc
  clear hr hc
  go_enter Tryz.func298, Tryz.ntmps298
  go_wp2
  go_loopg [0] l.length (fun g v wx => ∃ m : List UInt8, m.length = g ∧ v = .string (B m) ∧ wx = w ∧ m.length ≤ 9223372036854775807 ∧ Lk.tr (fun c => cs.contains c) m = r)
  case atStart => exact ⟨l, rfl, rfl, rfl, hs, HR.out⟩
  case round =>
    obtain ⟨m, hmg, rfl, rfl, hml, hmr⟩ := hrel
    have HM : Hid (Lk.tr (fun c => cs.contains c) m = r) := hmr
    clear hmr HR
    have hsz := B_size m
    rcases List.eq_nil_or_concat m with rfl | ⟨t, x, rfl⟩
    · simp only [List.length_nil] at hsz
      have hrr : r = [] := HM.out.symm
      subst hrr
      go_wp2
      go_ret
      exact ⟨rfl, rfl⟩
    · simp only [List.concat_eq_append] at *
      have hix := fun w => index_last t x w
      have hsl := fun w => slice_last t x w
      have hcx := HC.out x
      have hsn := Lk.tr_snoc (fun c => cs.contains c) x t
      have hlen : (t ++ [x]).length = t.length + 1 := by simp
      rw [hlen] at hsz hmg hml
      have hposz : (0 : Int) < ((B (t ++ [x])).size : Int) := by omega
      have hszz : ((B (t ++ [x])).size : Int) - 1 = (t.length : Int) := by omega
      have hwr : IntKind.i64.wrap ((B (t ++ [x])).size - 1) = (t.length : Int) := by rw [hszz]; exact IntWalk.i64_in _ ⟨by omega, by omega⟩
      cases hin : cs.contains x
      · rw [hin] at hcx
        have hrr : r = t ++ [x] := by rw [← HM.out, hsn]; simp only [hin]; rfl
        subst hrr
        clear hsz hsn
        generalize hB : B (t ++ [x]) = bx at *
        go_wp2_with (go_at_call 307; refine (Tryz.asciiSet_contains _ x _ _ hcx).mono ?_; rintro e w' ⟨rfl, hw⟩; rw [hw])
        go_ret
        exact ⟨by rw [hB]; rfl, rfl⟩
      · rw [hin] at hcx
        have H2 : Hid (Lk.tr (fun c => cs.contains c) t = r) := by show _ = _; rw [← HM.out, hsn]; simp only [hin]; rfl
        clear hsz hsn
        generalize B (t ++ [x]) = bx at *
        go_wp2_with (go_at_call 307; refine (Tryz.asciiSet_contains _ x _ _ hcx).mono ?_; rintro e w' ⟨rfl, hw⟩; rw [hw])
        go_roundg t.length
        case measure => omega
        case rel => exact ⟨t, rfl, rfl, rfl, by omega, H2.out⟩

theorem blanks_ascii : Ascii ⟨#[32, 9, 10, 13, 12]⟩ := by
  intro j b h
  match j, h with
  | 0, h => cases h; decide
  | 1, h => cases h; decide
  | 2, h => cases h; decide
  | 3, h => cases h; decide
  | 4, h => cases h; decide
  | j + 5, h => simp at h

set_option maxRecDepth 100000 in
set_option maxHeartbeats 1600000 in
theorem trim_any (s : ByteArray) (w : World) (hs : s.size ≤ 9223372036854775807) :
    Calls Tryz.prog 278 #[.string s, .string ⟨#[32, 9, 10, 13, 12]⟩] w fun e w' => e = .returned (.string (B (Lk.trim s.data.toList))) ∧ Below w.heap.size w w' := by
  have hl := len_list s
  by_cases h0 : s.size = 0
  · have hnil : s.data.toList = [] := List.eq_nil_of_length_eq_zero (by omega)
    have hs0 : s = ⟨#[]⟩ := ext_list hnil
    subst hs0
    clear hnil hl
    go_enter Tryz.func278, Tryz.ntmps278
    go_wp2
    go_ret
    exact ⟨rfl, Below.refl _ _⟩
  · have hemp : s.toList.isEmpty = false := by
      rw [Lib.toList_data]
      cases h : s.data.toList with
      | nil => rw [h, List.length_nil] at hl; omega
      | cons _ _ => rfl
    obtain ⟨r, hr⟩ : ∃ r, Lk.trim s.data.toList = r := ⟨_, rfl⟩
    rw [hr]
    have hM := Tryz.strings_makeASCIISet (zero_of_info h116).1 ⟨#[32, 9, 10, 13, 12]⟩ w (by decide) blanks_ascii
    change Calls Tryz.prog 296 _ w fun e w' => e = .returned (.tuple #[.agg (Lib.setCells Lk.blanks), .bool true]) ∧ w' = w.alloc (.cells (Lib.setCells Lk.blanks) 360) at hM
    have hsc := Lw.store w Lk.blanks
    have hsz := Lib.setCells_size Lk.blanks
    have HB : Hid (Below w.heap.size w (Lw w Lk.blanks)) := Lw.below w _
    have hset : SetAt (w.heap.size + 1) Lk.blanks (Lw w Lk.blanks) := Lw.cell w _
    have hv := (zero_of_info h116).1
    have HR := trimR s.data.toList Lk.blanks (w.heap.size + 1) (Lw w Lk.blanks) (by omega) hset
    have HL := trimL (Lk.tr (fun c => Lk.blanks.contains c) s.data.toList) Lk.blanks (w.heap.size + 1) (Lw w Lk.blanks) (by have := Lk.tr_len (fun c => Lk.blanks.contains c) s.data.toList; omega) hset
    change Calls Tryz.prog 297 _ _ fun e w' => e = .returned (.string (B (Lk.trim s.data.toList))) ∧ w' = Lw w Lk.blanks at HL
    rw [hr] at HL
    rw [B_of] at HR
    have HRR : Hid (Calls Tryz.prog 298 #[.string s, .pointer (some ⟨w.heap.size + 1, 0, none⟩)] (Lw w Lk.blanks) fun e w' => e = .returned (.string (B (Lk.tr (fun c => Lk.blanks.contains c) s.data.toList))) ∧ w' = Lw w Lk.blanks) := HR
    have HLL : Hid (Calls Tryz.prog 297 #[.string (B (Lk.tr (fun c => Lk.blanks.contains c) s.data.toList)), .pointer (some ⟨w.heap.size + 1, 0, none⟩)] (Lw w Lk.blanks) fun e w' => e = .returned (.string (B r)) ∧ w' = Lw w Lk.blanks) := HL
    clear HR HL hr hset hl
    generalize B (Lk.tr (fun c => Lk.blanks.contains c) s.data.toList) = m at *
    go_enter Tryz.func278, Tryz.ntmps278
    go_wp2_with (go_at_call 296; refine hM.mono ?_; rintro e w' ⟨rfl, hw⟩; rw [hw])
    refine HRR.out.mono ?_
    rintro e w' ⟨rfl, hw⟩
    rw [hw]
    go_wp2_with fail
    refine HLL.out.mono ?_
    rintro e w' ⟨rfl, hw⟩
    rw [hw]
    go_wp2
    go_ret
    exact ⟨rfl, HB.out⟩

set_option maxHeartbeats 400000 in
theorem clone_any (s : ByteArray) (w : World) (hs : s.size ≤ 281474976710656) : Calls Tryz.prog 280 #[.string s] w fun e w' => e = .returned (.string s) ∧ Below w.heap.size w w' := by
  go_enter Tryz.func280, Tryz.ntmps280
  go_wp2_with fail
  refine (Tryz.stringslite_Clone s w hs).mono ?_
  rintro e w1 ⟨rfl, hb1⟩
  have H1 : Hid (Below w.heap.size w w1) := hb1
  clear hb1
  go_wp2
  go_ret
  exact ⟨rfl, H1.out⟩

set_option maxRecDepth 100000 in
set_option maxHeartbeats 800000 in
theorem clean_any (s : ByteArray) (w : World) (hs : s.size ≤ 20000) (hS : Sch w) :
    Calls Tryz.prog 250 #[.string s] w fun e w' => e = .returned (.tuple #[.string (B (Lk.clean s.data.toList)), .int .i64 0]) ∧ Below w.heap.size w w' := by
  have HS : Hid (Sch w) := hS
  clear hS
  have htl := Lk.trim_len s.data.toList
  rw [len_list] at htl
  have hT : Hid (Calls Tryz.prog 278 #[.string s, .string ⟨#[32, 9, 10, 13, 12]⟩] w fun e w' => e = .returned (.string (B (Lk.trim s.data.toList))) ∧ Below w.heap.size w w') := trim_any s w (by omega)
  have hM : Hid (∀ w, Sch w → Calls Tryz.prog 279 #[.string (B (Lk.trim s.data.toList))] w fun e w' => e = .returned (.bool (Lk.may (Lk.trim s.data.toList))) ∧ Below w.heap.size w w') := fun w h => may_any (B (Lk.trim s.data.toList)) w (by rw [B_size]; omega) h
  have hC : Hid (∀ w, Calls Tryz.prog 280 #[.string (B (Lk.trim s.data.toList))] w fun e w' => e = .returned (.string (B (Lk.trim s.data.toList))) ∧ Below w.heap.size w w') := fun w => clone_any _ w (by rw [B_size]; omega)
  cases hm : Lk.may (Lk.trim s.data.toList)
  · have hcl : Lk.clean s.data.toList = [] := by unfold Lk.clean; rw [hm]; rfl
    rw [hcl]
    rw [hm] at hM
    clear hm hcl htl
    generalize B (Lk.trim s.data.toList) = t at *
    go_enter Tryz.func250, Tryz.ntmps250
    go_wp2_with fail
    refine hT.out.mono ?_
    rintro e w1 ⟨rfl, hb1⟩
    have H1 : Hid (Below w.heap.size w w1) := hb1
    have S1 : Hid (Sch w1) := HS.out.below hb1
    clear hb1
    go_wp2_with fail
    refine (hM.out _ S1.out).mono ?_
    rintro e w2 ⟨rfl, hb2⟩
    have H2 : Hid (Below w.heap.size w w2) := H1.out.trans (hb2.mono H1.out.size)
    clear hb2
    go_wp2
    go_ret2
    exact ⟨rfl, H2.out⟩
  · have hcl : Lk.clean s.data.toList = Lk.trim s.data.toList := by unfold Lk.clean; rw [hm]; rfl
    rw [hcl]
    rw [hm] at hM
    clear hm hcl htl
    generalize B (Lk.trim s.data.toList) = t at *
    go_enter Tryz.func250, Tryz.ntmps250
    go_wp2_with fail
    refine hT.out.mono ?_
    rintro e w1 ⟨rfl, hb1⟩
    have H1 : Hid (Below w.heap.size w w1) := hb1
    have S1 : Hid (Sch w1) := HS.out.below hb1
    clear hb1
    go_wp2_with fail
    refine (hM.out _ S1.out).mono ?_
    rintro e w2 ⟨rfl, hb2⟩
    have H2 : Hid (Below w.heap.size w w2) := H1.out.trans (hb2.mono H1.out.size)
    clear hb2
    go_wp2_with fail
    refine (hC.out _).mono ?_
    rintro e w3 ⟨rfl, hb3⟩
    have H3 : Hid (Below w.heap.size w w3) := H2.out.trans (hb3.mono H2.out.size)
    clear hb3
    go_wp2
    go_ret2
    exact ⟨rfl, H3.out⟩
end Go.Proofs.YtbhcklkbckacpaaGreatDoor

/-
  The reference's Small and SchemeOf: as link.smallLetters and link.Scheme have it.
-/
namespace Go.Proofs.YtbhcklkbckacpaaGreatDoor
open Go.RowKit

theorem scheme_k (l : List UInt8) (k : Nat) (h : Lib.indexByte l 58 = k) (hc : Lib.containsAny (Lk.head l) Lk.path = false) : Lk.scheme l = Lk.small (Lk.head l) := by
  unfold Lk.scheme
  rw [(Lk.head_at l k h).2.2, hc]
  rfl
theorem scheme_path (l : List UInt8) (hc : Lib.containsAny (Lk.head l) Lk.path = true) : Lk.scheme l = [] := by
  unfold Lk.scheme
  rw [hc]
  simp
theorem scheme_none (l : List UInt8) (h : l.contains 58 = false) : Lk.scheme l = [] := by
  unfold Lk.scheme
  rw [h]
  rfl

set_option maxRecDepth 100000 in
set_option maxHeartbeats 1600000 in
theorem SchemeOf_any (s : ByteArray) (w : World) (hs : s.size ≤ 9223372036854775807) :
    Calls Tryz.prog 216 #[.string s] w fun e w' => e = .returned (.string (B (Lk.scheme s.data.toList))) ∧ Below w.heap.size w w' := by
  have hI := fun w => Tryz.strings_Index_one s 58 w
  rcases Lk.idx_cases s.data.toList with hix | ⟨k, hix⟩
  · rw [hix] at hI
    rw [scheme_none _ (Lk.no_head _ hix)]
    clear hix
    go_enter Tryz.func216, Tryz.ntmps216
    go_wp2_with fail
    refine (hI _).mono ?_
    rintro e w' ⟨rfl, hw⟩
    rw [hw]
    go_wp2
    go_ret
    exact ⟨rfl, Below.refl _ _⟩
  · obtain ⟨h1, h2, h3⟩ := Lk.head_at _ k hix
    rw [len_list] at h1
    have hhl := Lk.head_len s.data.toList
    rw [len_list] at hhl
    have hsz : (B (Lk.head s.data.toList)).size ≤ 9223372036854775807 := by rw [B_size]; omega
    rw [hix] at hI
    by_cases hk0 : k < 1
    · obtain rfl : k = 0 := by omega
      have hsn : Lk.scheme s.data.toList = [] := by
        have hh : Lk.head s.data.toList = [] := by rw [← h2]; rfl
        unfold Lk.scheme
        rw [hh, h3]
        rfl
      rw [hsn]
      clear hsn hix h2 h3 hhl hsz
      go_enter Tryz.func216, Tryz.ntmps216
      go_wp2_with fail
      refine (hI _).mono ?_
      rintro e w' ⟨rfl, hw⟩
      rw [hw]
      go_wp2
      go_ret
      exact ⟨rfl, Below.refl _ _⟩
    · have hsl := slice_to s k (by omega)
      rw [h2] at hsl
      cases hca : Lib.containsAny (Lk.head s.data.toList) Lk.path
      · rw [scheme_k _ k hix hca]
        have HA : Hid (∀ w, Calls Tryz.prog 252 #[.string (B (Lk.head s.data.toList)), .string ⟨#[47, 63, 35]⟩] w fun e w' => e = .returned (.bool false) ∧ Below w.heap.size w w') := fun w => ca_any _ _ w false (by decide) (by decide) (by omega) path_ascii hca
        have HS : Hid (∀ w, Calls Tryz.prog 60 #[.string (B (Lk.head s.data.toList))] w fun e w' => e = .returned (.string (B (Lk.small (Lk.head s.data.toList)))) ∧ Below w.heap.size w w') := fun w => Small_any _ w hsz
        clear hca hhl hsz hix h2 h3
        generalize B (Lk.head s.data.toList) = h at *
        generalize B (Lk.small (Lk.head s.data.toList)) = r at *
        go_enter Tryz.func216, Tryz.ntmps216
        go_wp2_with fail
        refine (hI _).mono ?_
        rintro e w' ⟨rfl, hw⟩
        rw [hw]
        go_wp2_with fail
        refine (HA.out _).mono ?_
        rintro e w2 ⟨rfl, hb2⟩
        have H2 : Hid (Below w.heap.size w w2) := hb2
        clear hb2
        go_wp2_with fail
        refine (HS.out _).mono ?_
        rintro e w3 ⟨rfl, hb3⟩
        have H3 : Hid (Below w.heap.size w w3) := H2.out.trans (hb3.mono H2.out.size)
        clear hb3
        go_wp2
        go_ret
        exact ⟨rfl, H3.out⟩
      · rw [scheme_path _ hca]
        have HA : Hid (∀ w, Calls Tryz.prog 252 #[.string (B (Lk.head s.data.toList)), .string ⟨#[47, 63, 35]⟩] w fun e w' => e = .returned (.bool true) ∧ Below w.heap.size w w') := fun w => ca_any _ _ w true (by decide) (by decide) (by omega) path_ascii hca
        clear hca hhl hsz hix h2 h3
        generalize B (Lk.head s.data.toList) = h at *
        go_enter Tryz.func216, Tryz.ntmps216
        go_wp2_with fail
        refine (hI _).mono ?_
        rintro e w' ⟨rfl, hw⟩
        rw [hw]
        go_wp2_with fail
        refine (HA.out _).mono ?_
        rintro e w2 ⟨rfl, hb2⟩
        have H2 : Hid (Below w.heap.size w w2) := hb2
        clear hb2
        go_wp2
        go_ret
        exact ⟨rfl, H2.out⟩
end Go.Proofs.YtbhcklkbckacpaaGreatDoor

/-
  The reference's MayBe: as link.May has it.
-/
namespace Go.Proofs.YtbhcklkbckacpaaGreatDoor
open Go.RowKit

def leadsB : List ByteArray := [⟨#[104, 116, 116, 112]⟩, ⟨#[104, 116, 116, 112, 115]⟩, ⟨#[109, 97, 105, 108, 116, 111]⟩]
theorem containsS_lead (x : List UInt8) : Lib.containsS (leadsB.take 3) (B x) = Lk.lead x := by
  have h1 := Lib.containsS_iff (leadsB.take 3) (B x)
  have h2 : B x ∈ leadsB.take 3 ↔ Lk.lead x = true := by
    have e : leadsB.take 3 = Lk.leads.map B := rfl
    rw [e, Lk.lead, List.contains_iff_mem]
    constructor
    · intro h
      obtain ⟨y, hy, hb⟩ := List.mem_map.1 h
      rw [← B_inj hb]; exact hy
    · intro h; exact List.mem_map.2 ⟨x, h, rfl⟩
  rw [h2] at h1
  exact Bool.eq_iff_iff.2 h1

def Three (b : Nat) (w : World) : Prop := ∃ t fr, w.heap[b]? = some (.cells scells t fr)
theorem Three.cell {b : Nat} {w : World} (h : Three b w) (j : Nat) (hj : j < leadsB.length) : w.cell? ⟨b, 0 + j, none⟩ = some (.string (leadsB.getD j ByteArray.empty)) := by
  obtain ⟨t, fr, hg⟩ := h
  match j, hj with
  | 0, _ => simp [World.cell?, hg]; rfl
  | 1, _ => simp [World.cell?, hg]; rfl
  | 2, _ => simp [World.cell?, hg]; rfl
theorem Three.new (w : World) : Three w.heap.size (w.alloc (.cells scells 9)) := ⟨_, _, heap_alloc_new w _⟩
theorem Three.below {b : Nat} {w w' : World} (h : Three b w) (hb : Below w.heap.size w w') : Three b w' := by
  obtain ⟨t, fr, hg⟩ := h
  exact ⟨t, fr, (hb.block b (Array.getElem?_eq_some_iff.1 hg).1).trans hg⟩
theorem lead3 (b : Nat) (x : List UInt8) (w : World) (h : Three b w) : Calls Tryz.prog 72 #[.slice (some ⟨b, 0, none⟩) 3 3, .string (B x)] w fun e w' => e = .returned (.bool (Lk.lead x)) ∧ w' = w := by
  have := Tryz.slices_Contains_string b 0 3 3 leadsB (B x) w (by decide) (by decide) h.cell
  rw [containsS_lead] at this
  exact this

set_option maxRecDepth 100000 in
set_option maxHeartbeats 1600000 in
theorem MayBe_any (s : ByteArray) (w : World) (hs : s.size ≤ 9223372036854775807) :
    Calls Tryz.prog 144 #[.string s] w fun e w' => e = .returned (.bool (Lk.may s.data.toList)) ∧ Below w.heap.size w w' := by
  have hl := len_list s
  by_cases h1 : s.size < 1
  · rw [may_len _ (.inl (by omega))]
    clear hl
    go_enter Tryz.func144, Tryz.ntmps144
    go_wp2
    go_ret
    exact ⟨rfl, Below.refl _ _⟩
  · by_cases h2 : 24 < s.size
    · rw [may_len _ (.inr (by omega))]
      clear hl
      go_enter Tryz.func144, Tryz.ntmps144
      go_wp2
      go_ret
      exact ⟨rfl, Below.refl _ _⟩
    · obtain ⟨m, hm⟩ : ∃ m, Lk.may s.data.toList = m := ⟨_, rfl⟩
      rw [hm]
      have HM : Hid (Lk.may s.data.toList = m) := hm
      clear hm
      go_enter Tryz.func144, Tryz.ntmps144
      go_wp2
      go_loop [14] (fun i => ∃ k : Nat, k ≤ s.size ∧ i = .int .i64 k ∧ (s.data.toList.take k).all Lk.stand = true) (fun i => s.size - (intOf i).toNat)
      case atStart => exact ⟨0, Nat.zero_le _, rfl, by simp⟩
      case round =>
        obtain ⟨k, hk, rfl, hall⟩ := hrel
        have HA : Hid ((s.data.toList.take k).all Lk.stand = true) := hall
        clear hall
        by_cases hlt : k < s.size
        · have hkl : k < s.data.toList.length := by omega
          obtain ⟨c, hc⟩ : ∃ c : UInt8, s[k]'hlt = c := ⟨_, rfl⟩
          have hcl : s.data.toList[k] = c := by rw [← hc]; rfl
          have hix := run_index_at s k hlt
          rw [hc] at hix
          have HF : Hid (Lk.stand c = false → m = false) := fun hst => by
            rw [← HM.out]; exact may_not s.data.toList k hkl (by rw [hcl]; exact hst)
          have HT : Hid (Lk.stand c = true → (s.data.toList.take (k + 1)).all Lk.stand = true) := fun hst => by
            rw [List.take_succ_eq_append_getElem hkl, List.all_append, HA.out, hcl]
            simp [hst]
          clear hcl hc
          by_cases hlo : 33 ≤ c.toNat
          · by_cases hhi : c.toNat ≤ 126
            · have hst := stand_mid hlo hhi
              have hback : ((c.toNat : Int)).toNat.toUInt8 = c := by simp
              have hI := fun w => Tryz.strings_IndexByte ⟨#[34, 39, 60, 62, 92, 96]⟩ (c.toNat : Int) w
              rw [hback] at hI
              change ∀ w, Calls Tryz.prog 70 _ w fun e w' => e = .returned (.int .i64 (Lib.indexByte Lk.barred c)) ∧ w' = w at hI
              have HI : Hid (∀ w, Calls Tryz.prog 70 #[.string ⟨#[34, 39, 60, 62, 92, 96]⟩, .int .u8 c.toNat] w fun e w' => e = .returned (.int .i64 (Lib.indexByte Lk.barred c)) ∧ w' = w) := hI
              clear hI hback
              generalize Lib.indexByte Lk.barred c = z at *
              by_cases hz : z < 0
              · have H2 : Hid ((s.data.toList.take (k + 1)).all Lk.stand = true) := HT.out (by rw [hst]; exact decide_eq_true hz)
                clear hst
                go_wp2_with fail
                refine (HI.out _).mono ?_
                rintro e w' ⟨rfl, hw⟩
                rw [hw]
                go_wp2
                go_round
                case rel => exact ⟨k + 1, by omega, by go_num, H2.out⟩
                case measure => simp [intOf]; omega
              · have hmf := HF.out (by rw [hst]; exact decide_eq_false hz)
                subst hmf
                clear hst
                go_wp2_with fail
                refine (HI.out _).mono ?_
                rintro e w' ⟨rfl, hw⟩
                rw [hw]
                go_wp2
                go_ret
                exact ⟨rfl, Below.refl _ _⟩
            · have hmf := HF.out (stand_hi (by omega))
              subst hmf
              go_wp2
              go_ret
              exact ⟨rfl, Below.refl _ _⟩
          · have hmf := HF.out (stand_lo (by omega))
            subst hmf
            go_wp2
            go_ret
            exact ⟨rfl, Below.refl _ _⟩
        · have hal : s.data.toList.all Lk.stand = true := by
            have := HA.out
            rw [List.take_of_length_le (by omega)] at this
            exact this
          have hmm := may_all s.data.toList (by omega) (by omega) hal
          rw [HM.out] at hmm
          have HH : Hid (m = Lk.lead (Lk.scheme s.data.toList)) := hmm
          clear hal hmm
          go_wp2_with fail
          have HT : Hid (Three w.heap.size (w.alloc (.cells scells 9))) := Three.new w
          have HW : Hid (Below w.heap.size w (w.alloc (.cells scells 9))) := (Below.refl _ _).alloc (Nat.le_refl _) _
          change Calls Tryz.prog 216 #[.string s] (w.alloc (.cells scells 9)) _
          generalize w.alloc (.cells scells 9) = w1 at *
          refine (SchemeOf_any s w1 (by omega)).mono ?_
          rintro e w2 ⟨rfl, hb2⟩
          have H2 : Hid (Below w.heap.size w w2) := HW.out.trans (hb2.mono HW.out.size)
          have T2 : Hid (Three w.heap.size w2) := HT.out.below hb2
          clear hb2
          go_wp2_with fail
          refine (lead3 _ _ _ T2.out).mono ?_
          rintro e w3 ⟨rfl, hw⟩
          rw [hw]
          go_wp2
          go_ret
          exact ⟨by rw [HH.out]; rfl, H2.out⟩

end Go.Proofs.YtbhcklkbckacpaaGreatDoor

/-
  The reference's CleanOf (the end of the text Ref, over Mayb).
-/
namespace Go.Proofs.YtbhcklkbckacpaaGreatDoor
open Go.RowKit

def blanks2 : List UInt8 := [32, 9, 13, 10, 12]
theorem bl_idx (x : UInt8) : decide (0 ≤ Lib.indexByte blanks2 x) = Lk.bl x := by
  rw [← Lib.contains_iff_indexByte]
  unfold Lk.bl Lk.blanks blanks2
  simp only [List.contains_cons, List.contains_nil, Bool.or_false]
  cases (x == 32) <;> cases (x == 9) <;> cases (x == 13) <;> cases (x == 10) <;> cases (x == 12) <;> rfl
theorem has_blank (x : UInt8) (w : World) : Calls Tryz.prog 143 #[.string ⟨#[32, 9, 13, 10, 12]⟩, .string (B [x])] w fun e w' => e = .returned (.bool (Lk.bl x)) ∧ w' = w := by
  have := Tryz.strings_Contains_one ⟨#[32, 9, 13, 10, 12]⟩ x w
  change Calls Tryz.prog 143 _ w fun e w' => e = .returned (.bool (decide (0 ≤ Lib.indexByte blanks2 x))) ∧ w' = w at this
  rw [bl_idx] at this
  exact this
theorem trim_ends (l : List UInt8) : Lk.tr Lk.bl (Lk.tl Lk.bl l) = Lk.trim l := (Lk.tr_tl Lk.bl l).symm
theorem ne_nil (x : UInt8) (t : List UInt8) : (B (x :: t)).toList.isEmpty = false := by rw [Lib.toList_data, B_data]; rfl
theorem ne_nil' (t : List UInt8) (x : UInt8) : (B (t ++ [x])).toList.isEmpty = false := by rw [Lib.toList_data, B_data]; simp

set_option maxRecDepth 100000 in
set_option maxHeartbeats 8000000 in
theorem CleanOf_any (s : ByteArray) (w : World) (hs : s.size ≤ 20000) :
    Calls Tryz.prog 71 #[.string s] w fun e w' => e = .returned (.string (B (Lk.clean s.data.toList))) ∧ Below w.heap.size w w' := by
  obtain ⟨l, hl⟩ : ∃ l, s.data.toList = l := ⟨_, rfl⟩
  have hsB : s = B l := by rw [← hl]; rfl
  have hll : l.length ≤ 20000 := by rw [← hl, len_list]; exact hs
  rw [hl]
  subst hsB
  clear hl hs
  obtain ⟨r, hr⟩ : ∃ r, Lk.clean l = r := ⟨_, rfl⟩
  rw [hr]
  have HR : Hid (Lk.clean l = r) := hr
  clear hr
  go_enter Tryz.func71, Tryz.ntmps71
  go_wp2
  go_loopg [0] l.length (fun g v wx => ∃ m : List UInt8, m.length = g ∧ v = .string (B m) ∧ wx = w ∧ m.length ≤ 20000 ∧ Lk.tl Lk.bl m = Lk.tl Lk.bl l)
  case atStart => exact ⟨l, rfl, rfl, rfl, hll, rfl⟩
  case round =>
    obtain ⟨m, hmg, rfl, rfl, hml, hmr⟩ := hrel
    have HM : Hid (Lk.tl Lk.bl m = Lk.tl Lk.bl l) := hmr
    clear hmr
    cases m with
    | nil =>
      have hne : (B []).toList.isEmpty = true := by rw [Lib.toList_data]; rfl
      have H0 : Hid (Lk.tr Lk.bl [] = Lk.trim l) := by show _ = _; rw [← trim_ends, ← HM.out]; rfl
      clear HM
      generalize hbx : B [] = bx at *
      go_wp2
      go_loopg [0] ([] : List UInt8).length (fun g v wx => ∃ m : List UInt8, m.length = g ∧ v = .string (B m) ∧ wx = wr ∧ m.length ≤ 20000 ∧ Lk.tr Lk.bl m = Lk.trim l)
      case atStart => exact ⟨([] : List UInt8), rfl, by first | rfl | rw [hbx], rfl, by first | omega | simp; omega, H0.out⟩
      case round =>
        obtain ⟨m, hmg, rfl, rfl, hml, hmr⟩ := hrel
        have HN : Hid (Lk.tr Lk.bl m = Lk.trim l) := hmr
        clear hmr hbx H0
        rcases List.eq_nil_or_concat m with rfl | ⟨t, x, rfl⟩
        · have HE : Hid (Lk.trim l = []) := HN.out.symm
          have hne : (B []).toList.isEmpty = true := by rw [Lib.toList_data]; rfl
          have hM : Hid (∀ w, Calls Tryz.prog 144 #[.string (B [])] w fun e w' => e = .returned (.bool false) ∧ Below w.heap.size w w') := fun w => MayBe_any (B []) w (by decide)
          have hrr : r = [] := by rw [← HR.out, Lk.clean, HE.out]; rfl
          subst hrr
          generalize B [] = bx at *
          go_wp2_with fail
          refine (hM.out _).mono ?_
          rintro e w2 ⟨rfl, hb2⟩
          have H2 : Hid (Below wr.heap.size wr w2) := hb2
          clear hb2
          go_wp2
          go_ret
          exact ⟨rfl, H2.out⟩
        · simp only [List.concat_eq_append] at *
          have hlen : (t ++ [x]).length = t.length + 1 := by simp
          have hsz := B_size (t ++ [x])
          rw [hlen] at hsz hmg hml
          have hslf : ∀ w, (Instr.slice 9 (.string (B (t ++ [x]))) (some (.int .i64 t.length)) none none).run Tryz.prog w = .ok (.string (B [x])) w := fun w => by
            rw [slice_from (B (t ++ [x])) t.length (by omega) w, B_data]
            simp
          have hsl := fun w => slice_last t x w
          have hsn := Lk.tr_snoc Lk.bl x t
          have hne := ne_nil' t x
          have hszz : ((B (t ++ [x])).size : Int) - 1 = (t.length : Int) := by omega
          have hwr : IntKind.i64.wrap ((B (t ++ [x])).size - 1) = (t.length : Int) := by rw [hszz]; exact IntWalk.i64_in _ ⟨by omega, by omega⟩
          cases hin : Lk.bl x
          · have HE : Hid (Lk.trim l = t ++ [x]) := by show _ = _; rw [← HN.out, hsn, hin]; rfl
            clear hsn
            have hM : Hid (∀ w, Calls Tryz.prog 144 #[.string (B (t ++ [x]))] w fun e w' => e = .returned (.bool (Lk.may (t ++ [x]))) ∧ Below w.heap.size w w') := fun w => MayBe_any (B (t ++ [x])) w (by rw [B_size]; omega)
            clear hsz hmg hlen
            cases hmay : Lk.may (t ++ [x])
            · have hrr : r = [] := by rw [← HR.out, Lk.clean, HE.out, hmay]; rfl
              subst hrr
              rw [hmay] at hM
              generalize B (t ++ [x]) = bx at *
              go_wp2_with (go_at_call 143; refine (has_blank x _).mono ?_; rintro e w' ⟨rfl, hw⟩; rw [hw, hin])
              refine (hM.out _).mono ?_
              rintro e w2 ⟨rfl, hb2⟩
              have H2 : Hid (Below wr.heap.size wr w2) := hb2
              clear hb2
              go_wp2
              go_ret
              exact ⟨rfl, H2.out⟩
            · have hrr : r = t ++ [x] := by rw [← HR.out, Lk.clean, HE.out, hmay]; rfl
              subst hrr
              rw [hmay] at hM
              generalize hbx : B (t ++ [x]) = bx at *
              go_wp2_with (go_at_call 143; refine (has_blank x _).mono ?_; rintro e w' ⟨rfl, hw⟩; rw [hw, hin])
              refine (hM.out _).mono ?_
              rintro e w2 ⟨rfl, hb2⟩
              have H2 : Hid (Below wr.heap.size wr w2) := hb2
              clear hb2
              go_wp2
              go_ret
              exact ⟨by rw [hbx]; rfl, H2.out⟩
          · have HN2 : Hid (Lk.tr Lk.bl t = Lk.trim l) := by show _ = _; rw [← HN.out, hsn, hin]; rfl
            clear hsn hsz
            generalize B (t ++ [x]) = bx at *
            go_wp2_with (go_at_call 143; refine (has_blank x _).mono ?_; rintro e w' ⟨rfl, hw⟩; rw [hw, hin])
            go_roundg t.length
            case measure => omega
            case rel => exact ⟨t, rfl, rfl, rfl, by omega, HN2.out⟩
    | cons x t =>
      have hsz := B_size (x :: t)
      have hpos : 0 < (B (x :: t)).size := by rw [hsz]; simp
      have hsl0 : ∀ w, (Instr.slice 9 (.string (B (x :: t))) none (some (.int .i64 1)) none).run Tryz.prog w = .ok (.string (B [x])) w := fun w => slice_to (B (x :: t)) 1 (by omega) w
      have hsl : ∀ w, (Instr.slice 9 (.string (B (x :: t))) (some (.int .i64 1)) none none).run Tryz.prog w = .ok (.string (B t)) w := fun w => slice_from (B (x :: t)) 1 (by omega) w
      have hne := ne_nil x t
      simp only [List.length_cons] at hmg hml
      cases hin : Lk.bl x
      · have H0 : Hid (Lk.tr Lk.bl (x :: t) = Lk.trim l) := by show _ = _; rw [← trim_ends, ← HM.out, tl_stop _ x t hin]
        clear HM hsz
        generalize hbx : B (x :: t) = bx at *
        go_wp2_with (go_at_call 143; refine (has_blank x _).mono ?_; rintro e w' ⟨rfl, hw⟩; rw [hw, hin])
        clear hin hne hsl hsl0 hpos
        go_loopg [0] (x :: t).length (fun g v wx => ∃ m : List UInt8, m.length = g ∧ v = .string (B m) ∧ wx = wr ∧ m.length ≤ 20000 ∧ Lk.tr Lk.bl m = Lk.trim l)
        case atStart => exact ⟨x :: t, rfl, by first | rfl | rw [hbx], rfl, by first | omega | simp; omega, H0.out⟩
        case round =>
          obtain ⟨m, hmg, rfl, rfl, hml, hmr⟩ := hrel
          have HN : Hid (Lk.tr Lk.bl m = Lk.trim l) := hmr
          clear hmr hbx H0
          rcases List.eq_nil_or_concat m with rfl | ⟨t2, x2, rfl⟩
          · have HE : Hid (Lk.trim l = []) := HN.out.symm
            have hne : (B []).toList.isEmpty = true := by rw [Lib.toList_data]; rfl
            have hM : Hid (∀ w, Calls Tryz.prog 144 #[.string (B [])] w fun e w' => e = .returned (.bool false) ∧ Below w.heap.size w w') := fun w => MayBe_any (B []) w (by decide)
            have hrr : r = [] := by rw [← HR.out, Lk.clean, HE.out]; rfl
            subst hrr
            generalize B [] = bx at *
            go_wp2_with fail
            refine (hM.out _).mono ?_
            rintro e w2 ⟨rfl, hb2⟩
            have H2 : Hid (Below wr.heap.size wr w2) := hb2
            clear hb2
            go_wp2
            go_ret
            exact ⟨rfl, H2.out⟩
          · simp only [List.concat_eq_append] at *
            have hlen : (t2 ++ [x2]).length = t2.length + 1 := by simp
            have hsz := B_size (t2 ++ [x2])
            rw [hlen] at hsz hmg hml
            have hslf : ∀ w, (Instr.slice 9 (.string (B (t2 ++ [x2]))) (some (.int .i64 t2.length)) none none).run Tryz.prog w = .ok (.string (B [x2])) w := fun w => by
              rw [slice_from (B (t2 ++ [x2])) t2.length (by omega) w, B_data]
              simp
            have hsl := fun w => slice_last t2 x2 w
            have hsn := Lk.tr_snoc Lk.bl x2 t2
            have hne := ne_nil' t2 x2
            have hszz : ((B (t2 ++ [x2])).size : Int) - 1 = (t2.length : Int) := by omega
            have hwr : IntKind.i64.wrap ((B (t2 ++ [x2])).size - 1) = (t2.length : Int) := by rw [hszz]; exact IntWalk.i64_in _ ⟨by omega, by omega⟩
            cases hin : Lk.bl x2
            · have HE : Hid (Lk.trim l = t2 ++ [x2]) := by show _ = _; rw [← HN.out, hsn, hin]; rfl
              clear hsn
              have hM : Hid (∀ w, Calls Tryz.prog 144 #[.string (B (t2 ++ [x2]))] w fun e w' => e = .returned (.bool (Lk.may (t2 ++ [x2]))) ∧ Below w.heap.size w w') := fun w => MayBe_any (B (t2 ++ [x2])) w (by rw [B_size]; omega)
              clear hsz hmg hlen
              cases hmay : Lk.may (t2 ++ [x2])
              · have hrr : r = [] := by rw [← HR.out, Lk.clean, HE.out, hmay]; rfl
                subst hrr
                rw [hmay] at hM
                generalize B (t2 ++ [x2]) = bx at *
                go_wp2_with (go_at_call 143; refine (has_blank x2 _).mono ?_; rintro e w' ⟨rfl, hw⟩; rw [hw, hin])
                refine (hM.out _).mono ?_
                rintro e w2 ⟨rfl, hb2⟩
                have H2 : Hid (Below wr.heap.size wr w2) := hb2
                clear hb2
                go_wp2
                go_ret
                exact ⟨rfl, H2.out⟩
              · have hrr : r = t2 ++ [x2] := by rw [← HR.out, Lk.clean, HE.out, hmay]; rfl
                subst hrr
                rw [hmay] at hM
                generalize hbx : B (t2 ++ [x2]) = bx at *
                go_wp2_with (go_at_call 143; refine (has_blank x2 _).mono ?_; rintro e w' ⟨rfl, hw⟩; rw [hw, hin])
                refine (hM.out _).mono ?_
                rintro e w2 ⟨rfl, hb2⟩
                have H2 : Hid (Below wr.heap.size wr w2) := hb2
                clear hb2
                go_wp2
                go_ret
                exact ⟨by rw [hbx]; rfl, H2.out⟩
            · have HN2 : Hid (Lk.tr Lk.bl t2 = Lk.trim l) := by show _ = _; rw [← HN.out, hsn, hin]; rfl
              clear hsn hsz
              generalize B (t2 ++ [x2]) = bx at *
              go_wp2_with (go_at_call 143; refine (has_blank x2 _).mono ?_; rintro e w' ⟨rfl, hw⟩; rw [hw, hin])
              go_roundg t2.length
              case measure => omega
              case rel => exact ⟨t2, rfl, rfl, rfl, by omega, HN2.out⟩
      · have H2 : Hid (Lk.tl Lk.bl t = Lk.tl Lk.bl l) := by show _ = _; rw [← HM.out]; exact (tl_step _ x t hin).symm
        clear hsz
        generalize B (x :: t) = bx at *
        go_wp2_with (go_at_call 143; refine (has_blank x _).mono ?_; rintro e w' ⟨rfl, hw⟩; rw [hw, hin])
        go_roundg t.length
        case measure => omega
        case rel => exact ⟨t, rfl, rfl, rfl, by omega, H2.out⟩
end Go.Proofs.YtbhcklkbckacpaaGreatDoor
