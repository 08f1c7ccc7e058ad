/-
  The reference's Small: the letters A to Z small.
-/
import Derived.Test.YtdlacdoakkklaabDoorS0
namespace Go.Proofs.YtdlacdoakkklaabDoor
open Go.RowKit

def upper : List UInt8 := [65, 66, 67, 68, 69, 70, 71, 72, 73, 74, 75, 76, 77, 78, 79, 80, 81, 82, 83, 84, 85, 86, 87, 88, 89, 90]
def lower : ByteArray := ⟨#[97, 98, 99, 100, 101, 102, 103, 104, 105, 106, 107, 108, 109, 110, 111, 112, 113, 114, 115, 116, 117, 118, 119, 120, 121, 122]⟩
theorem up_idx (c : UInt8) : Lib.indexByte upper c = if 65 ≤ c.toNat ∧ c.toNat ≤ 90 then (c.toNat : Int) - 65 else -1 := by
  have h : ∀ n : Fin 256, Lib.indexByte upper (UInt8.ofNat n.val) = if 65 ≤ n.val ∧ n.val ≤ 90 then (n.val : Int) - 65 else -1 := by decide +kernel
  have := h ⟨c.toNat, c.toNat_lt⟩
  simpa using this
theorem low_all : ∀ n : Fin 26, (lower.data.toList[n.val]?).map (fun b => b.toNat) = some (n.val + 97) := by decide +kernel
theorem low_at (c : UInt8) (hA : 65 ≤ c.toNat) (hZ : c.toNat ≤ 90) (w : World) : (Instr.index 9 (.string lower) (.int .i64 ((c.toNat : Int) - 65))).run Tryd.prog w = .ok (.int .u8 (Lk.small1 c).toNat) w := by
  have hsz : lower.size = 26 := rfl
  have hk : c.toNat - 65 < lower.size := by omega
  have h := run_index_at lower (c.toNat - 65) hk w
  rw [show ((c.toNat - 65 : Nat) : Int) = (c.toNat : Int) - 65 by omega] at h
  rw [h]
  have ha := low_all ⟨c.toNat - 65, by omega⟩
  have hd := Lib.data_getElem? lower (c.toNat - 65) hk
  simp only [hd, Option.map_some, Option.some.injEq] at ha
  rw [ha, small_toNat c hA hZ, show c.toNat - 65 + 97 = c.toNat + 32 by omega]

/-- The first k letters small, alone. -/
def smQ (s : ByteArray) (k : Nat) : ByteArray := B (Lk.small (s.data.toList.take k))
theorem smQ_zero (s : ByteArray) : smQ s 0 = ⟨#[]⟩ := by simp [smQ, Lk.small, B]
theorem smQ_all (s : ByteArray) (k : Nat) (h : s.size ≤ k) : smQ s k = B (Lk.small s.data.toList) := by
  unfold smQ
  rw [List.take_of_length_le (by rw [len_list]; exact h)]
theorem smQ_size (s : ByteArray) (k : Nat) : (smQ s k).size ≤ k := by
  rw [smQ, B_size, Lk.small_len]
  exact List.length_take_le _ _
theorem smQ_succ (s : ByteArray) (k : Nat) (h : k < s.size) : smQ s (k + 1) = smQ s k ++ ⟨#[Lk.small1 (s[k]'h)]⟩ := by
  apply ext_list
  have hk : k < s.data.toList.length := by rw [len_list]; exact h
  rw [ByteArray.data_append, Array.toList_append]
  show Lk.small (s.data.toList.take (k + 1)) = Lk.small (s.data.toList.take k) ++ [Lk.small1 (s[k]'h)]
  rw [List.take_succ_eq_append_getElem hk, Lk.small, List.map_append]
  rfl

end Go.Proofs.YtdlacdoakkklaabDoor
