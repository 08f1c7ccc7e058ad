/-
  The reference's WrittenSo: the text as it is written.
-/
import Derived.Test.YtpcaiechaakhnabGreatDoorWrite
import Derived.Test.YtpcaiechaakhnabGreatDoorM4
namespace Go.Proofs.YtpcaiechaakhnabGreatDoor
open Go.RowKit

theorem size_mk (l : List UInt8) : (⟨l.toArray⟩ : ByteArray).size = l.length := by
  show (l.toArray).size = _
  simp

/-- The text that s is written as. -/
def wrB (s : ByteArray) : ByteArray := ⟨(Esc.wr s.data.toList).toArray⟩
theorem wrB_list (s : ByteArray) : (wrB s).data.toList = Esc.wr s.data.toList := by simp [wrB]
theorem wrB_size (s : ByteArray) : (wrB s).size = (Esc.wr s.data.toList).length := size_mk _
theorem wrB_le (s : ByteArray) : s.size ≤ (wrB s).size ∧ (wrB s).size ≤ 6 * s.size := by
  rw [wrB_size, ← len_list s]; exact Esc.wr_len _

/-- What is written of the first k bytes. -/
def wrP (s : ByteArray) (k : Nat) : ByteArray := ⟨(Esc.wr (s.data.toList.take k)).toArray⟩
theorem wrP_zero (s : ByteArray) : wrP s 0 = ⟨#[]⟩ := by simp [wrP, Esc.wr]
theorem wrP_all (s : ByteArray) (k : Nat) (h : s.size ≤ k) : wrP s k = wrB s := by
  unfold wrP wrB
  rw [List.take_of_length_le (by rw [len_list]; exact h)]
theorem wrP_succ (s : ByteArray) (k : Nat) (h : k < s.size) : wrP s (k + 1) = wrP s k ++ ⟨(Esc.enc1 (s[k]'h)).toArray⟩ := by
  unfold wrP
  rw [take_snoc s k h, Esc.wr_append, Esc.wr_one]
  apply ByteArray.ext
  rw [ByteArray.data_append]
  simp
theorem wrP_size (s : ByteArray) (k : Nat) : (wrP s k).size ≤ 6 * k := by
  have h1 := (Esc.wr_len (s.data.toList.take k)).2
  have h2 : (s.data.toList.take k).length ≤ k := List.length_take_le _ _
  rw [wrP, size_mk]
  omega
theorem size_one' (c : UInt8) : (ByteArray.mk #[c]).size = 1 := rfl
theorem one_byte (s : ByteArray) (k : Nat) (h : k < s.size) : s.extract k (k + 1) = ⟨#[s[k]'h]⟩ := by
  have : (s.extract k (k + 1)).data.toList = [s[k]'h] := by
    rw [Lib.extract_data, Nat.add_sub_cancel_left, List.drop_eq_getElem_cons (by rw [len_list]; exact h)]
    rfl
  apply ByteArray.ext
  apply Array.ext'
  exact this

set_option maxRecDepth 100000 in
set_option maxHeartbeats 3200000 in
theorem writtenSo_any (s : ByteArray) (w : World) (hs : s.size ≤ 20000) :
    Calls Tryz.prog 20 #[.string s] w fun e w' => e = .returned (.string (wrB s)) ∧ w' = w := by
  go_enter Tryz.func20, Tryz.ntmps20
  go_wp2
  go_loop [3, 7] (fun o i => ∃ k : Nat, k ≤ s.size ∧ i = .int .i64 k ∧ o = .string (wrP s k)) (fun _ i => s.size - (intOf i).toNat)
  case atStart => exact ⟨0, Nat.zero_le _, rfl, by rw [wrP_zero]⟩
  case round =>
    obtain ⟨k, hk, rfl, rfl⟩ := hrel
    have hz := wrP_size s k
    by_cases hlt : k < s.size
    · obtain ⟨c, hc⟩ : ∃ c : UInt8, s[k]'hlt = c := ⟨_, rfl⟩
      have hix := run_index_at s k hlt
      rw [hc] at hix
      have HS : Hid (wrP s (k + 1) = wrP s k ++ ⟨(Esc.enc1 c).toArray⟩) := by show _ = _; rw [wrP_succ s k hlt, hc]
      have hsl : ∀ w, (Instr.slice 9 (.string s) (some (.int .i64 k)) (some (.int .i64 ((k : Int) + 1))) none).run Tryz.prog w = .ok (.string ⟨#[c]⟩) w := fun w => by
        have := run_slice_string (P := Tryz.prog) (w := w) 9 s .i64 .i64 (k : Int) ((k : Int) + 1) Tryz.underlying9 (by omega) (by omega) (by omega)
        rw [this, ← hc, ← one_byte s k hlt]
        congr 3
      clear hc
      by_cases h1 : c = 38
      · subst h1
        go_wp2
        go_round
        case rel => exact ⟨k + 1, by omega, by go_num, by rw [HS.out]; rfl⟩
        case measure => simp [intOf]; omega
      by_cases h2 : c = 60
      · subst h2
        go_wp2
        go_round
        case rel => exact ⟨k + 1, by omega, by go_num, by rw [HS.out]; rfl⟩
        case measure => simp [intOf]; omega
      by_cases h3 : c = 62
      · subst h3
        go_wp2
        go_round
        case rel => exact ⟨k + 1, by omega, by go_num, by rw [HS.out]; rfl⟩
        case measure => simp [intOf]; omega
      by_cases h4 : c = 34
      · subst h4
        go_wp2
        go_round
        case rel => exact ⟨k + 1, by omega, by go_num, by rw [HS.out]; rfl⟩
        case measure => simp [intOf]; omega
      have HE : Hid (Esc.enc1 c = [c]) := by show _ = _; simp [Esc.enc1, h1, h2, h3, h4]
      have ne : ∀ x : UInt8, c ≠ x → ((c.toNat : Int) == (x.toNat : Int)) = false := fun x hx => beq_eq_false_iff_ne.2 (fun e => hx (UInt8.toNat_inj.1 (by omega)))
      have q1 : ((c.toNat : Int) == 38) = false := ne 38 h1
      have q2 : ((c.toNat : Int) == 60) = false := ne 60 h2
      have q3 : ((c.toNat : Int) == 62) = false := ne 62 h3
      have q4 : ((c.toNat : Int) == 34) = false := ne 34 h4
      have hs1 := size_one' c
      clear h1 h2 h3 h4 ne
      go_wp2
      go_round
      case rel => exact ⟨k + 1, by omega, by go_num, by rw [HS.out, HE.out]⟩
      case measure => simp [intOf]; omega
    · have HW : Hid (wrP s k = wrB s) := wrP_all s k (by omega)
      go_wp2
      go_ret
      exact ⟨by rw [← HW.out]; rfl, rfl⟩
end Go.Proofs.YtpcaiechaakhnabGreatDoor
