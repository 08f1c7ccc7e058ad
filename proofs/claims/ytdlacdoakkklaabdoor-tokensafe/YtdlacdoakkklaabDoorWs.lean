/-
  The reference's WrittenSo: the text as it is written.
-/
import Derived.Test.YtdlacdoakkklaabDoorWrite
import Derived.Test.YtdlacdoakkklaabDoorDt
namespace Go.Proofs.YtdlacdoakkklaabDoor
open Go.RowKit

theorem size_mk (l : List UInt8) : (⟨l.toArray⟩ : ByteArray).size = l.length := by
  show (l.toArray).size = _
  simp

/-- The text that s is written as. -/
def wrB (s : ByteArray) : ByteArray := ⟨(Esc.wr s.data.toList).toArray⟩
theorem wrB_list (s : ByteArray) : (wrB s).data.toList = Esc.wr s.data.toList := by simp [wrB]
theorem wrB_size (s : ByteArray) : (wrB s).size = (Esc.wr s.data.toList).length := size_mk _
theorem wrB_le (s : ByteArray) : s.size ≤ (wrB s).size ∧ (wrB s).size ≤ 6 * s.size := by
  rw [wrB_size, ← len_list s]; exact Esc.wr_len _

/-- What is written of the first k bytes. -/
def wrP (s : ByteArray) (k : Nat) : ByteArray := ⟨(Esc.wr (s.data.toList.take k)).toArray⟩
theorem wrP_zero (s : ByteArray) : wrP s 0 = ⟨#[]⟩ := by simp [wrP, Esc.wr]
theorem wrP_all (s : ByteArray) (k : Nat) (h : s.size ≤ k) : wrP s k = wrB s := by
  unfold wrP wrB
  rw [List.take_of_length_le (by rw [len_list]; exact h)]
theorem wrP_succ (s : ByteArray) (k : Nat) (h : k < s.size) : wrP s (k + 1) = wrP s k ++ ⟨(Esc.enc1 (s[k]'h)).toArray⟩ := by
  unfold wrP
  rw [take_snoc s k h, Esc.wr_append, Esc.wr_one]
  apply ByteArray.ext
  rw [ByteArray.data_append]
  simp
theorem wrP_size (s : ByteArray) (k : Nat) : (wrP s k).size ≤ 6 * k := by
  have h1 := (Esc.wr_len (s.data.toList.take k)).2
  have h2 : (s.data.toList.take k).length ≤ k := List.length_take_le _ _
  rw [wrP, size_mk]
  omega
theorem size_one' (c : UInt8) : (ByteArray.mk #[c]).size = 1 := rfl
theorem one_byte (s : ByteArray) (k : Nat) (h : k < s.size) : s.extract k (k + 1) = ⟨#[s[k]'h]⟩ := by
  have : (s.extract k (k + 1)).data.toList = [s[k]'h] := by
    rw [Lib.extract_data, Nat.add_sub_cancel_left, List.drop_eq_getElem_cons (by rw [len_list]; exact h)]
    rfl
  apply ByteArray.ext
  apply Array.ext'
  exact this

end Go.Proofs.YtdlacdoakkklaabDoor
