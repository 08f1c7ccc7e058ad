/-
  escape.Write: what it comes to at every text, the variable 'pairs' holding what its initialiser lays.
-/
import Derived.Test.YtmifcioccnmlaaaDoorAw
import Derived.Laws.IdiomStrings
import Derived.Laws.BytesArg
namespace Go.Proofs.YtmifcioccnmlaaaDoor
open Go.RowKit

theorem strCells_eq (s : ByteArray) : Lib.strCells s = s.data.toList.map b8 := rfl

/-- 'string(out)' of a buffer that is owned. -/
theorem conv_esc {B n : Nat} {v : Value} {l : List UInt8} {W0 w : World} (h : Lib.OwnBuf B 5 v n (l.map b8) W0 w) : (convert 52 9 v).run Tryd.prog w = .ok (.string ⟨l.toArray⟩) w := by
  obtain ⟨⟨hl, hv⟩, _, _⟩ := h
  have hn : n = l.length := by simpa using hl.symm
  subst hn
  have hown : w.ownsRowF B 5 1 v l.length (l.map b8) := ⟨hl, hv⟩
  rcases hv with ⟨rfl, h0⟩ | ⟨g, cap, cur, fz, rfl, hrest⟩
  · obtain rfl : l = [] := List.length_eq_zero_iff.1 h0
    exact run_convert_bytes_nil w 52 5 Tryd.underlying52 Tryd.underlying5 0 0 9 Tryd.underlying9
  · refine run_convert_bytes_back w 52 9 5 ⟨g, 0, none⟩ cap l Tryd.underlying52 Tryd.underlying5 Tryd.underlying9 (fun j hj => ?_)
    exact hown.cells (g := g) rfl j _ (by simp [b8, List.getElem?_eq_getElem hj])

theorem own_make {w w1 : World} {n : Nat} (h : w1.ownsRow w.heap.size 5 1 (.slice (some ⟨w.heap.size, 0, none⟩) 0 n) 0 []) (hg : w.grownBy w1 none) : Lib.OwnBuf w.heap.size 5 (.slice (some ⟨w.heap.size, 0, none⟩) 0 n) 0 [] w w1 :=
  ⟨World.ownsRowF_of h, (Below.refl _ _).grown hg (Nat.le_refl _) (fun k hk => by cases hk), hg.size⟩

theorem take_snoc (s : ByteArray) (k : Nat) (h : k < s.size) : s.data.toList.take (k + 1) = s.data.toList.take k ++ [s[k]] := by
  rw [List.take_succ_eq_append_getElem (by simpa using h)]; rfl

set_option maxHeartbeats 400000 in
theorem write_many (s : ByteArray) (w : World) (hs : s.size ≤ maxLen) (h : 20000 < s.size) :
    Calls Tryd.prog 14 #[.string s] w fun e w' => e = .returned (.tuple #[.string ⟨#[]⟩, .int .i64 2]) ∧ w' = w := by
  unfold maxLen at hs
  go_enter Tryd.func14, Tryd.ntmps14
  go_wp2
  go_ret2
  exact ⟨rfl, rfl⟩

set_option maxRecDepth 100000 in
set_option maxHeartbeats 1600000 in
theorem write_ok (s : ByteArray) (w : World) (hp : Pairs w) (hs : s.size ≤ 20000) :
    Calls Tryd.prog 14 #[.string s] w fun e w' => e = .returned (.tuple #[.string ⟨(Esc.wr s.data.toList).toArray⟩, .int .i64 0]) ∧ Below w.heap.size w w' := by
  have HP : Hid (Pairs w) := hp
  have hpos := hp.pos
  clear hp
  obtain ⟨i5, hi, hz0, hz1, hz2⟩ := info_parts Tryd.info5w
  go_enter Tryd.func14, Tryd.ntmps14
  go_wp2_with (at_make; refine wpList_make_own _ rfl _ _ 52 rfl w.heap.size 5 i5 (.int .u8 0) 1 Tryd.underlying52 hi hz0 hz1 _ _ _ s.size rfl rfl (by omega) ?_ ?_ ?_ ?_)
  · rw [hz2]; omega
  · unfold maxLen; omega
  · exact Nat.le_refl _
  intro w1 hown hgrow
  have hob := own_make hown hgrow
  have HO : Hid (Lib.OwnBuf w.heap.size 5 (.slice (some ⟨w.heap.size, 0, none⟩) 0 s.size) 0 [] w w1) := hob
  clear hown hgrow hob
  go_wp2
  go_loopw [4, 5] (fun v i wr => ∃ k : Nat, k ≤ s.size ∧ i = .int .i64 k ∧ Lib.OwnBuf w.heap.size 5 v (Esc.wr (s.data.toList.take k)).length ((Esc.wr (s.data.toList.take k)).map b8) w wr) (fun _ i _ => s.size - (intOf i).toNat)
  case atStart => exact ⟨0, Nat.zero_le _, rfl, by simpa [Esc.wr] using HO.out⟩
  case round =>
    obtain ⟨k, hk, rfl, hob⟩ := hrel
    have HR : Hid (Lib.OwnBuf w.heap.size 5 u4 (Esc.wr (s.data.toList.take k)).length ((Esc.wr (s.data.toList.take k)).map b8) w wr) := hob
    clear hob
    by_cases hlt : k < s.size
    · go_wp2_with fail
      refine (aw_any w.heap.size _ _ _ w _ s[k] (HP.out.below HR.out.2.1 hpos) HR.out ?_).mono ?_
      · have := (Esc.wr_len (s.data.toList.take k)).2
        have h2 : (s.data.toList.take k).length ≤ k := List.length_take_le _ _
        omega
      rintro e w2 ⟨v', rfl, hb2⟩
      have HB : Hid (Lib.OwnBuf w.heap.size 5 v' (Esc.wr (s.data.toList.take (k + 1))).length ((Esc.wr (s.data.toList.take (k + 1))).map b8) w w2) := by
        rw [take_snoc s k hlt, Esc.wr_append, Esc.wr_one, List.length_append, List.map_append]; exact hb2
      clear hb2
      go_wp2
      go_roundw
      case rel => exact ⟨k + 1, by omega, by go_num, HB.out⟩
      case measure => simp [intOf]; omega
    · have hkk : s.data.toList.take k = s.data.toList := List.take_of_length_le (by simp; omega)
      have hcv := conv_esc HR.out
      rw [hkk] at hcv
      go_wp2
      go_ret2
      exact ⟨rfl, HR.out.2.1⟩
end Go.Proofs.YtmifcioccnmlaaaDoor
