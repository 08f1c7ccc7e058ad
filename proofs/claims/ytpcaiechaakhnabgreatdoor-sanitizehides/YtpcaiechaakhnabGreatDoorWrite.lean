/-
  escape.Write: what it comes to at every text, the variable 'pairs' holding what its initialiser lays.
-/
import Derived.Test.YtpcaiechaakhnabGreatDoorAw
import Derived.Test.YtpcaiechaakhnabGreatDoorW0
namespace Go.Proofs.YtpcaiechaakhnabGreatDoor
open Go.RowKit

set_option maxHeartbeats 400000 in
theorem write_many (s : ByteArray) (w : World) (hs : s.size ≤ maxLen) (h : 20000 < s.size) :
    Calls Tryz.prog 99 #[.string s] w fun e w' => e = .returned (.tuple #[.string ⟨#[]⟩, .int .i64 2]) ∧ w' = w := by
  unfold maxLen at hs
  go_enter Tryz.func99, Tryz.ntmps99
  go_wp2
  go_ret2
  exact ⟨rfl, rfl⟩

set_option maxRecDepth 100000 in
set_option maxHeartbeats 1600000 in
theorem write_ok (s : ByteArray) (w : World) (hp : Pairs w) (hs : s.size ≤ 20000) :
    Calls Tryz.prog 99 #[.string s] w fun e w' => e = .returned (.tuple #[.string ⟨(Esc.wr s.data.toList).toArray⟩, .int .i64 0]) ∧ Below w.heap.size w w' := by
  have HP : Hid (Pairs w) := hp
  have hpos := hp.pos
  clear hp
  obtain ⟨i5, hi, hz0, hz1, hz2⟩ := info_parts Tryz.info5w
  go_enter Tryz.func99, Tryz.ntmps99
  go_wp2_with (at_make; refine wpList_make_own _ rfl _ _ 22 rfl w.heap.size 5 i5 (.int .u8 0) 1 Tryz.underlying22 hi hz0 hz1 _ _ _ s.size rfl rfl (by omega) ?_ ?_ ?_ ?_)
  · rw [hz2]; omega
  · unfold maxLen; omega
  · exact Nat.le_refl _
  intro w1 hown hgrow
  have hob := own_make hown hgrow
  have HO : Hid (Lib.OwnBuf w.heap.size 5 (.slice (some ⟨w.heap.size, 0, none⟩) 0 s.size) 0 [] w w1) := hob
  clear hown hgrow hob
  go_wp2
  go_loopw [4, 5] (fun v i wr => ∃ k : Nat, k ≤ s.size ∧ i = .int .i64 k ∧ Lib.OwnBuf w.heap.size 5 v (Esc.wr (s.data.toList.take k)).length ((Esc.wr (s.data.toList.take k)).map b8) w wr) (fun _ i _ => s.size - (intOf i).toNat)
  case atStart => exact ⟨0, Nat.zero_le _, rfl, by simpa [Esc.wr] using HO.out⟩
  case round =>
    obtain ⟨k, hk, rfl, hob⟩ := hrel
    have HR : Hid (Lib.OwnBuf w.heap.size 5 u4 (Esc.wr (s.data.toList.take k)).length ((Esc.wr (s.data.toList.take k)).map b8) w wr) := hob
    clear hob
    by_cases hlt : k < s.size
    · go_wp2_with fail
      refine (aw_any w.heap.size _ _ _ w _ s[k] (HP.out.below HR.out.2.1 hpos) HR.out ?_).mono ?_
      · have := (Esc.wr_len (s.data.toList.take k)).2
        have h2 : (s.data.toList.take k).length ≤ k := List.length_take_le _ _
        omega
      rintro e w2 ⟨v', rfl, hb2⟩
      have HB : Hid (Lib.OwnBuf w.heap.size 5 v' (Esc.wr (s.data.toList.take (k + 1))).length ((Esc.wr (s.data.toList.take (k + 1))).map b8) w w2) := by
        rw [take_snoc s k hlt, Esc.wr_append, Esc.wr_one, List.length_append, List.map_append]; exact hb2
      clear hb2
      go_wp2
      go_roundw
      case rel => exact ⟨k + 1, by omega, by go_num, HB.out⟩
      case measure => simp [intOf]; omega
    · have hkk : s.data.toList.take k = s.data.toList := List.take_of_length_le (by simp; omega)
      have hcv := conv_esc HR.out
      rw [hkk] at hcv
      go_wp2
      go_ret2
      exact ⟨rfl, HR.out.2.1⟩
end Go.Proofs.YtpcaiechaakhnabGreatDoor
