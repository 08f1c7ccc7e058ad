/-
  strings.IndexRune at a rune that is not ASCII, in a text that is; strings.IndexAny and ContainsAny at a set of ASCII characters and whatever text: whether one of its bytes is among them.
-/
import Derived.Test.YtgidmnoinbbajaaDoorAny
namespace Go.Proofs.YtgidmnoinbbajaaDoor
open Go.RowKit

theorem indexByte_out (l : List UInt8) (c : UInt8) (h : l.contains c = false) : Lib.indexByte l c = -1 := by
  rw [Lib.contains_iff_indexByte] at h
  have h1 := Lib.indexByte_ge l c
  have h2 : ¬ (0 ≤ Lib.indexByte l c) := of_decide_eq_false h
  omega

theorem ascii_out {s : ByteArray} (ha : Ascii s) (c : UInt8) (hc : 128 ≤ c.toNat) (k : Nat) : (s.data.toList.drop k).contains c = false := by
  rw [Bool.eq_false_iff]
  intro h
  have hm : c ∈ s.data.toList := List.mem_of_mem_drop (by simpa using h)
  obtain ⟨j, hj⟩ := List.mem_iff_getElem?.1 hm
  have := ha j c hj
  omega

theorem ib_out (s : ByteArray) (ha : Ascii s) (k : Nat) (y : UInt8) (hy : 128 ≤ y.toNat) (w : World) :
    Calls Tryd.prog 73 #[.string (s.extract k s.size), .int .u8 y.toNat] w fun e w' => e = .returned (.int .i64 (-1)) ∧ w' = w := by
  have := Tryd.strings_IndexByte (s.extract k s.size) y.toNat w
  rw [Lib.extract_to_end, show ((y.toNat : Int)).toNat.toUInt8 = y by simp, indexByte_out _ _ (ascii_out ha y hy k)] at this
  exact this

theorem ascii_at {s : ByteArray} (ha : Ascii s) (k : Nat) (h : k < s.size) : (s[k]'h).toNat < 128 := ha k _ (Lib.data_getElem? s k h)

theorem ne_of_ascii {x y : UInt8} (hx : x.toNat < 128) (hy : 128 ≤ y.toNat) : ((x.toNat : Int) != (y.toNat : Int)) = true := by
  rw [bne_iff_ne]; omega

/-- strings.IndexRune of an ASCII text, at a rune that isn't ASCII: none. -/
theorem ir_big (s : ByteArray) (r : Int) (w : World) (ha : Ascii s) (h1 : 128 ≤ r) :
    Calls Tryd.prog 103 #[.string s, .int .i32 r] w fun e w' => e = .returned (.int .i64 (-1)) ∧ Below w.heap.size w w' := by
  by_cases h2 : r = 65533
  · subst h2
    refine (ir_err s w ha).mono ?_
    rintro e w' ⟨he, pos, rfl⟩
    exact ⟨he, (Below.refl _ _).alloc (Nat.le_refl _) _⟩
  have h2' : (r == 65533) = false := beq_eq_false_iff_ne.2 h2
  have hlt : decide (r < 128) = false := decide_eq_false (by omega)
  cases hv : Lib.validRune r
  · exact (ir_bad s r w h1 h2' hv).mono fun e w' ⟨he, hw⟩ => ⟨he, hw ▸ Below.refl _ _⟩
  · have fin : ∀ {f : Ending → World → Prop}, Calls Tryd.prog 103 #[.string s, .int .i32 r] w (fun e w' => e = .returned (.int .i64 (-1)) ∧ ∃ n, w' = w.drewN n) → Calls Tryd.prog 103 #[.string s, .int .i32 r] w fun e w' => e = .returned (.int .i64 (-1)) ∧ Below w.heap.size w w' := by
      intro _ h
      refine h.mono ?_
      rintro e w' ⟨he, n, rfl⟩
      exact ⟨he, Go.below_drewN (Below.refl _ _) n⟩
    have hf := encode_facts r (by rw [validRune_eq]; exact hv) h1
    obtain ⟨E, hE⟩ : ∃ E, Utf8.encode r = E := ⟨_, rfl⟩
    rw [hE] at hf
    obtain ⟨hz1, hz2, hz3⟩ := hf
    have hcv : ∀ w, (convert 21 9 (.int .i32 r)).run Tryd.prog w = .ok (.string E) w := fun w => by
      rw [run_convert_int_string w 21 9 .i32 r (by kernel_rfl) Tryd.underlying9, hE]
    have hslice : ∀ k : Nat, k ≤ s.size → ∀ w, (Instr.slice 9 (.string s) (some (.int .i64 k)) none none).run Tryd.prog w = .ok (.string (s.extract k s.size)) w := fun k hk w => by
      have := run_slice_string_l w 9 s Tryd.underlying9 .i64 (k : Int) (by omega) (by omega)
      simpa using this
    have hE3 : E.size = 2 ∨ E.size = 3 ∨ E.size = 4 := by omega
    rcases hE3 with hz | hz | hz
    · have hy : 128 ≤ (E[1]'(by omega)).toNat := by have := hz3 (by omega); simpa [hz] using this
      by_cases hl : (1 : Int) < s.size
      · exact fin (f := fun _ _ => True) (ir_at1 s E _ r w hz hl hcv (s[1]'(by omega)) (E[1]'(by omega)) (run_index_at s 1 (by omega)) (run_index_at E 1 (by omega)) (hslice 2 (by omega)) (ne_of_ascii (ascii_at ha 1 (by omega)) hy) (ib_out s ha 2 _ hy) h1 h2' hv hlt)
      · exact fin (f := fun _ _ => True) (ir_out1 s E r w hz hl hcv h1 h2' hv hlt)
    · have hy : 128 ≤ (E[2]'(by omega)).toNat := by have := hz3 (by omega); simpa [hz] using this
      by_cases hl : (2 : Int) < s.size
      · exact fin (f := fun _ _ => True) (ir_at2 s E _ r w hz hl hcv (s[2]'(by omega)) (E[2]'(by omega)) (run_index_at s 2 (by omega)) (run_index_at E 2 (by omega)) (hslice 3 (by omega)) (ne_of_ascii (ascii_at ha 2 (by omega)) hy) (ib_out s ha 3 _ hy) h1 h2' hv hlt)
      · exact fin (f := fun _ _ => True) (ir_out2 s E r w hz hl hcv h1 h2' hv hlt)
    · have hy : 128 ≤ (E[3]'(by omega)).toNat := by have := hz3 (by omega); simpa [hz] using this
      by_cases hl : (3 : Int) < s.size
      · exact fin (f := fun _ _ => True) (ir_at3 s E _ r w hz hl hcv (s[3]'(by omega)) (E[3]'(by omega)) (run_index_at s 3 (by omega)) (run_index_at E 3 (by omega)) (hslice 4 (by omega)) (ne_of_ascii (ascii_at ha 3 (by omega)) hy) (ib_out s ha 4 _ hy) h1 h2' hv hlt)
      · exact fin (f := fun _ _ => True) (ir_out3 s E r w hz hl hcv h1 h2' hv hlt)

theorem get_of (s : ByteArray) (k : Nat) (h : k < s.size) : s.get! k = s[k]'h := by
  simp [ByteArray.get!, getElem!_pos, h]
  rfl

/-- What a character that isn't ASCII takes: bytes that aren't either. -/
theorem decode_span (s : ByteArray) (pos : Nat) (h : pos < s.size) (ha : 128 ≤ (s[pos]'h).toNat) :
    ∀ j, pos ≤ j → j < pos + (Utf8.decode s pos).2 → ∃ hj : j < s.size, 128 ≤ (s[j]'hj).toNat := by
  have key : ∀ k, (decide (pos + k < s.size) && (s.get! (pos + k)).toNat / 64 == 2) = true → ∃ hj : pos + k < s.size, 128 ≤ (s[pos + k]'hj).toNat := by
    intro k hk
    simp only [Bool.and_eq_true, decide_eq_true_eq, beq_iff_eq] at hk
    refine ⟨hk.1, ?_⟩
    rw [← get_of s (pos + k) hk.1]
    omega
  have zero : ∃ hj : pos + 0 < s.size, 128 ≤ (s[pos + 0]'hj).toNat := ⟨h, ha⟩
  have hn : ¬ (s[pos]'h).toNat < 128 := by omega
  intro j h1 h2
  obtain ⟨k, rfl⟩ := Nat.exists_eq_add_of_le h1
  simp only [Utf8.decode, get_at s pos h, hn, if_false] at h2
  have h2' : k < (Utf8.decode s pos).2 := by
    simp only [Utf8.decode, get_at s pos h, hn, if_false]; omega
  clear h2
  simp only [Utf8.decode, get_at s pos h, hn, if_false] at h2'
  split at h2'
  · rename_i hc
    simp only [Bool.and_eq_true] at hc
    have c1 := key 1 (by simpa using hc.2)
    split at h2' <;> simp at h2'
    · have : k = 0 ∨ k = 1 := by omega
      rcases this with rfl | rfl
      · exact zero
      · exact c1
    · subst h2'; exact zero
  split at h2'
  · rename_i hc
    simp only [Bool.and_eq_true] at hc
    have c1 := key 1 (by simpa using hc.1.2)
    have c2 := key 2 (by simpa using hc.2)
    split at h2' <;> simp at h2'
    · have : k = 0 ∨ k = 1 ∨ k = 2 := by omega
      rcases this with rfl | rfl | rfl
      · exact zero
      · exact c1
      · exact c2
    · subst h2'; exact zero
  split at h2'
  · rename_i hc
    simp only [Bool.and_eq_true] at hc
    have c1 := key 1 (by simpa using hc.1.1.2)
    have c2 := key 2 (by simpa using hc.1.2)
    have c3 := key 3 (by simpa using hc.2)
    split at h2' <;> simp at h2'
    · have : k = 0 ∨ k = 1 ∨ k = 2 ∨ k = 3 := by omega
      rcases this with rfl | rfl | rfl | rfl
      · exact zero
      · exact c1
      · exact c2
      · exact c3
    · subst h2'; exact zero
  · simp at h2'; subst h2'; exact zero
end Go.Proofs.YtgidmnoinbbajaaDoor
