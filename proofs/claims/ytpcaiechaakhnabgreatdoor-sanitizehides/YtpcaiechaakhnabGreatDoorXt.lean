/-
  Parts of package export: a text in a tag, a text as it is written, the characters of some items.
-/
import Derived.Test.YtpcaiechaakhnabGreatDoorPg
import Derived.Test.YtpcaiechaakhnabGreatDoorWs
import Derived.Test.YtpcaiechaakhnabGreatDoorMem
namespace Go.Proofs.YtpcaiechaakhnabGreatDoor
open Go.RowKit

theorem B_app (a b : List UInt8) : B a ++ B b = B (a ++ b) := by
  apply ext_list
  rw [B_data]
  show (B a ++ B b).data.toList = _
  rw [ByteArray.data_append, Array.toList_append, B_data, B_data]
theorem B_sz (l : List UInt8) : (B l).size = l.length := B_size l
/-- A text in a tag. -/
def tagL (n t : List UInt8) : List UInt8 := [60] ++ n ++ [62] ++ t ++ [60, 47] ++ n ++ [62]

set_option maxHeartbeats 800000 in
theorem tagged_any (n t : List UInt8) (w : World) (hn : n.length ≤ 100) (ht : t.length ≤ 1000000000) : Calls Tryz.prog 72 #[.string (B n), .string (B t)] w fun e w' => e = .returned (.string (B (tagL n t))) ∧ w' = w := by
  have hr : B (tagL n t) = ⟨#[60]⟩ ++ B n ++ ⟨#[62]⟩ ++ B t ++ ⟨#[60, 47]⟩ ++ B n ++ ⟨#[62]⟩ := by
    unfold tagL
    simp only [← B_app]
    rfl
  rw [hr]
  clear hr
  have h1 := B_sz n
  have h2 := B_sz t
  generalize B n = bn at *
  generalize B t = bt at *
  have h3 : bn.size ≤ 100 := by omega
  have h4 : bt.size ≤ 1000000000 := by omega
  clear h1 h2 hn ht
  have s1 : (ByteArray.mk #[60]).size = 1 := rfl
  have s2 : (ByteArray.mk #[62]).size = 1 := rfl
  have s3 : (ByteArray.mk #[60, 47]).size = 2 := rfl
  go_enter Tryz.func72, Tryz.ntmps72
  go_wp2
  go_ret
  exact ⟨rfl, rfl⟩

set_option maxHeartbeats 800000 in
theorem written_any (s : List UInt8) (w : World) (hp : Pairs w) (hs : s.length ≤ 20000) : Calls Tryz.prog 73 #[.string (B s)] w fun e w' => e = .returned (.string (B (Esc.wr s))) ∧ Below w.heap.size w w' := by
  have C : Hid (Calls Tryz.prog 99 #[.string (B s)] w fun e w' => e = .returned (.tuple #[.string (B (Esc.wr s)), .int .i64 0]) ∧ Below w.heap.size w w') := write_ok (B s) w hp (by rw [B_size]; exact hs)
  clear hp hs
  generalize B s = bs at *
  generalize B (Esc.wr s) = br at *
  go_enter Tryz.func73, Tryz.ntmps73
  go_wp2_with fail
  refine C.out.mono ?_
  rintro e w1 ⟨rfl, hb⟩
  have HB : Hid (Below w.heap.size w w1) := hb
  clear hb
  go_wp2
  go_ret
  exact ⟨rfl, HB.out⟩

theorem buf_nil (w : World) : Lib.OwnBuf w.heap.size 5 (.slice none 0 0) 0 [] w w :=
  ⟨World.ownsRowF_of (World.ownsRow_nil _ _ _ _), Below.refl _ _, Nat.le_refl _⟩

set_option maxRecDepth 100000 in
set_option maxHeartbeats 1600000 in
theorem chars_any (ao : Option Addr) (n cap : Nat) (l : List It) (w : World) (hD : Doc w ao n cap l) (h80 : n ≤ 80) :
    Calls Tryz.prog 74 #[.slice ao n cap] w fun e w' => e = .returned (.string (B (l.map It.c))) ∧ Below w.heap.size w w' := by
  have HD : Hid (Doc w ao n cap l) := hD
  have HN : Hid (l.length = n) := hD.len
  have hcap := hD.room
  have hbig := hD.big
  clear hD
  obtain ⟨i5, hi, hz0, hz1, hz2⟩ := info_parts Tryz.info5
  go_enter Tryz.func74, Tryz.ntmps74
  go_wp2
  go_loopw [3, 8] (fun v i wr => ∃ k : Nat, k ≤ n ∧ i = .int .i64 k ∧ Lib.OwnBuf w.heap.size 5 v k (((l.take k).map It.c).map b8) w wr) (fun _ i _ => n - (intOf i).toNat)
  case atStart => exact ⟨0, Nat.zero_le _, rfl, buf_nil w⟩
  case round =>
    obtain ⟨k, hk, rfl, hob⟩ := hrel
    have HO : Hid (Lib.OwnBuf w.heap.size 5 u3 k (((l.take k).map It.c).map b8) w wr) := hob
    clear hob
    by_cases hlt : k < n
    · obtain ⟨b, off, rfl, A0⟩ := HD.out.lies (by omega)
      have hkl : k < l.length := by rw [HN.out]; exact hlt
      obtain ⟨hc0, hc1, hc2⟩ := (A0.below HO.out.2.1).get (List.getElem?_eq_getElem hkl)
      have HT : Hid (l.take (k + 1) = l.take k ++ [l[k]]) := List.take_succ_eq_append_getElem hkl
      generalize l[k] = x at *
      clear A0 hkl
      obtain ⟨xs, hxs⟩ : ∃ xs, ((l.take k).map It.c).map b8 = xs := ⟨_, rfl⟩
      have HX : Hid (((l.take k).map It.c).map b8 = xs) := hxs
      rw [hxs] at HO
      clear hxs
      go_wp2_with (at_builtin; refine Lib.wpList_append_byte rfl (.tmp 12) (.tmp 15) 22 rfl w.heap.size 5 i5 Tryz.underlying22 hi hz0 hz1 hz2 u3 k _ rfl w _ x.c.toNat (HO.out.alloc _) ?_ ?_ ?_)
      · simp [Act.eval, go_sem]
      · omega
      intro v' w1 hb1
      have HB : Hid (Lib.OwnBuf w.heap.size 5 v' (k + 1) (((l.take (k + 1)).map It.c).map b8) w w1) := by show Lib.OwnBuf _ _ _ _ _ _ _; rw [HT.out, List.map_append, List.map_append, HX.out]; exact hb1
      clear hb1
      go_wp2
      go_roundw
      case rel => exact ⟨k + 1, by omega, by go_num, HB.out⟩
      case measure => simp [intOf]; omega
    · have hkk : l.take k = l := List.take_of_length_le (by rw [HN.out]; omega)
      have hcv := conv_esc HO.out
      rw [hkk] at hcv
      have HB : Hid (Below w.heap.size w wr) := HO.out.2.1
      clear HO
      go_wp2
      go_ret
      exact ⟨rfl, HB.out⟩
end Go.Proofs.YtpcaiechaakhnabGreatDoor
