/-
  escape.Read: what it comes to at every text, the variable 'pairs' holding what its initialiser lays.
-/
import Derived.Test.YtbhcklkbckacpaaGreatDoorW0
import Derived.Test.YtbhcklkbckacpaaGreatDoorFr
namespace Go.Proofs.YtbhcklkbckacpaaGreatDoor
open Go.RowKit

theorem ownBuf_below {B n : Nat} {v : Value} {xs : List Value} {W0 w w' : World} (h : Lib.OwnBuf B 5 v n xs W0 w) (hb : Below w.heap.size w w') : Lib.OwnBuf B 5 v n xs W0 w' := by
  obtain ⟨⟨hl, hv⟩, hW, hB⟩ := h
  refine ⟨⟨hl, ?_⟩, hW.trans (hb.mono hB), Nat.le_trans hB hb.size⟩
  rcases hv with hv | ⟨g, cap, cur, fz, hv, hg0, hg, hrest⟩
  · exact .inl hv
  · exact .inr ⟨g, cap, cur, fz, hv, hg0, (hb.block g (Array.getElem?_eq_some_iff.1 hg).1).trans hg, hrest⟩

set_option maxHeartbeats 400000 in
theorem read_many (s : ByteArray) (w : World) (hs : s.size ≤ maxLen) (h : 120000 < s.size) :
    Calls Tryz.prog 241 #[.string s] w fun e w' => e = .returned (.tuple #[.string ⟨#[]⟩, .int .i64 2]) ∧ w' = w := by
  unfold maxLen at hs
  go_enter Tryz.func241, Tryz.ntmps241
  go_wp2
  go_ret2
  exact ⟨rfl, rfl⟩

theorem rd_drop (l : List UInt8) (k : Nat) (pre : List UInt8) (hk : k < l.length) (h : pre ++ Esc.rd (l.drop k) = Esc.rd l) :
    (pre ++ [(Esc.fst1 (l.drop k)).1]) ++ Esc.rd (l.drop (k + (Esc.fst1 (l.drop k)).2)) = Esc.rd l := by
  rw [← h, Esc.rd_step (l.drop k) (by intro e; have := congrArg List.length e; simp at this; omega), List.drop_drop]
  simp

set_option maxRecDepth 100000 in
set_option maxHeartbeats 1600000 in
theorem read_ok (s : ByteArray) (w : World) (hp : Pairs w) (hs : s.size ≤ 120000) :
    Calls Tryz.prog 241 #[.string s] w fun e w' => e = .returned (.tuple #[.string ⟨(Esc.rd s.data.toList).toArray⟩, .int .i64 0]) ∧ Below w.heap.size w w' := by
  have HP : Hid (Pairs w) := hp
  have hpos := hp.pos
  clear hp
  obtain ⟨i5, hi, hz0, hz1, hz2⟩ := info_parts Tryz.info5w
  go_enter Tryz.func241, Tryz.ntmps241
  go_wp2_with (at_make; refine wpList_make_own _ rfl _ _ 22 rfl w.heap.size 5 i5 (.int .u8 0) 1 Tryz.underlying22 hi hz0 hz1 _ _ _ s.size rfl rfl (by omega) ?_ ?_ ?_ ?_)
  · rw [hz2]; omega
  · unfold maxLen; omega
  · exact Nat.le_refl _
  intro w1 hown hgrow
  have hob := own_make hown hgrow
  have HO : Hid (Lib.OwnBuf w.heap.size 5 (.slice (some ⟨w.heap.size, 0, none⟩) 0 s.size) 0 [] w w1) := hob
  clear hown hgrow hob
  go_wp2
  go_loopw [4, 5] (fun v i wr => ∃ (k : Nat) (pre : List UInt8), k ≤ s.size ∧ i = .int .i64 k ∧ pre.length ≤ k ∧ pre ++ Esc.rd (s.data.toList.drop k) = Esc.rd s.data.toList ∧ Lib.OwnBuf w.heap.size 5 v pre.length (pre.map b8) w wr) (fun _ i _ => s.size - (intOf i).toNat)
  case atStart => exact ⟨0, [], Nat.zero_le _, rfl, Nat.le_refl _, by simp, HO.out⟩
  case round =>
    obtain ⟨k, pre, hk, rfl, hpk, hpre, hob⟩ := hrel
    have HR : Hid (Lib.OwnBuf w.heap.size 5 u4 pre.length (pre.map b8) w wr) := hob
    have HE : Hid (pre ++ Esc.rd (s.data.toList.drop k) = Esc.rd s.data.toList) := hpre
    clear hob hpre
    by_cases hlt : k < s.size
    · obtain ⟨c, n, hcn⟩ : ∃ c n, Esc.fst1 (s.data.toList.drop k) = (c, n) := ⟨_, _, rfl⟩
      have hll : s.data.toList.length = s.size := by simp
      have hne : s.data.toList.drop k ≠ [] := by intro e; have := congrArg List.length e; simp at this; omega
      have hn1 : 1 ≤ n ∧ n ≤ 6 := by have := Esc.fst1_pos (s.data.toList.drop k); rw [hcn] at this; exact this
      have hn2 : k + n ≤ s.size := by have := Esc.fst1_le _ hne; rw [hcn, List.length_drop, hll] at this; simp at this; omega
      have hnext := rd_drop s.data.toList k pre (by omega) HE.out
      rw [hcn] at hnext
      have hfr := fr_any (s.extract k s.size) wr (HP.out.below HR.out.2.1 hpos) (by simp; omega)
      unfold FrPost at hfr
      rw [Lib.extract_to_end, hcn] at hfr
      have HF : Hid (Calls Tryz.prog 271 #[.string (s.extract k s.size)] wr fun e w' => e = .returned (.tuple #[.int .u8 c.toNat, .int .i64 n]) ∧ Below wr.heap.size wr w') := hfr
      have HN : Hid ((pre ++ [c]) ++ Esc.rd (s.data.toList.drop (k + n)) = Esc.rd s.data.toList) := hnext
      clear hfr hnext hcn hne hll
      obtain ⟨hn1, hn6⟩ := hn1
      go_wp2_with fail
      refine HF.out.mono ?_
      rintro e w2 ⟨rfl, hb2⟩
      have HB : Hid (Lib.OwnBuf w.heap.size 5 u4 pre.length (pre.map b8) w w2) := ownBuf_below HR.out hb2
      clear hb2
      go_wp2_with (at_builtin; refine Lib.wpList_append_byte rfl (.tmp 25) (.tmp 27) 22 rfl w.heap.size 5 i5 Tryz.underlying22 hi hz0 hz1 hz2 u4 pre.length (pre.map b8) rfl w _ c.toNat HB.out rfl ?_ ?_)
      · omega
      · intro v' w3 hb3
        have H3 : Hid (Lib.OwnBuf w.heap.size 5 v' (pre ++ [c]).length ((pre ++ [c]).map b8) w w3) := by
          rw [List.length_append, List.map_append]; exact hb3
        clear hb3
        go_wp2
        go_roundw
        case rel => exact ⟨k + n, pre ++ [c], hn2, by go_num, by simp; omega, HN.out, H3.out⟩
        case measure => simp [intOf]; omega
    · have hkk : s.data.toList.drop k = [] := List.drop_of_length_le (by simp; omega)
      have hcv := conv_esc HR.out
      have hfin : pre = Esc.rd s.data.toList := by have := HE.out; rw [hkk, Esc.rd_nil] at this; simpa using this
      rw [hfin] at hcv
      clear hkk hfin
      go_wp2
      go_ret2
      exact ⟨rfl, HR.out.2.1⟩
end Go.Proofs.YtbhcklkbckacpaaGreatDoor
