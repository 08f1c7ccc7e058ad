/-
  The walk of the law EscapeBack: whatever two texts it is called with, it returns true, the variable 'pairs' holding what its initialiser lays.
-/
import Derived.Test.YtdolnompcbloaaaDoorEscaped
import Derived.Test.YtdolnompcbloaaaDoorAny3
namespace Go.Proofs.YtdolnompcbloaaaDoor
open Go.RowKit

theorem ba_eq (s : ByteArray) : (⟨s.data.toList.toArray⟩ : ByteArray) = s := by cases s; simp
theorem size_mk (l : List UInt8) : (⟨l.toArray⟩ : ByteArray).size = l.length := by
  show (l.toArray).size = _
  simp

/-- The text that s is written as. -/
def wrB (s : ByteArray) : ByteArray := ⟨(Esc.wr s.data.toList).toArray⟩
theorem wrB_list (s : ByteArray) : (wrB s).data.toList = Esc.wr s.data.toList := by simp [wrB]
theorem wrB_size (s : ByteArray) : (wrB s).size = (Esc.wr s.data.toList).length := size_mk _
theorem len_list (s : ByteArray) : s.data.toList.length = s.size := by simp
theorem wrB_le (s : ByteArray) : s.size ≤ (wrB s).size ∧ (wrB s).size ≤ 6 * s.size := by
  rw [wrB_size, ← len_list s]; exact Esc.wr_len _
theorem wrB_append (s t : ByteArray) : wrB (s ++ t) = wrB s ++ wrB t := by
  unfold wrB
  rw [ByteArray.data_append, Array.toList_append, Esc.wr_append]
  apply ByteArray.ext
  rw [ByteArray.data_append]
  simp

theorem write_wrB (s : ByteArray) (w : World) (hp : Pairs w) (hs : s.size ≤ 20000) :
    Calls Tryd.prog 6 #[.string s] w fun e w' => e = .returned (.tuple #[.string (wrB s), .int .i64 0]) ∧ Below w.heap.size w w' := write_ok s w hp hs

theorem read_wrB (s : ByteArray) (w : World) (hp : Pairs w) (hs : s.size ≤ 20000) :
    Calls Tryd.prog 7 #[.string (wrB s)] w fun e w' => e = .returned (.tuple #[.string s, .int .i64 0]) ∧ Below w.heap.size w w' := by
  have := read_ok (wrB s) w hp (by have := (wrB_le s).2; omega)
  rw [wrB_list, Esc.rd_wr, ba_eq] at this
  exact this

theorem any_wrB (s : ByteArray) (w : World) (hs : s.size ≤ 20000) :
    Calls Tryd.prog 11 #[.string (wrB s), .string ⟨#[60, 62, 34]⟩] w fun e w' => e = .returned (.bool false) ∧ Below w.heap.size w w' := by
  refine ca_any (wrB s) ⟨#[60, 62, 34]⟩ w false (by decide) (by decide) (by have := (wrB_le s).2; omega) ?_ ?_
  · intro j b hb
    match j, hb with
    | 0, hb => simp at hb; subst hb; decide
    | 1, hb => simp at hb; subst hb; decide
    | 2, hb => simp at hb; subst hb; decide
    | j + 3, hb => simp at hb
  · rw [wrB_list]
    refine ca_false _ _ fun x hx => ?_
    obtain ⟨h1, h2, h3⟩ := Esc.wr_plain _ x hx
    simp [h1, h2, h3]

set_option maxRecDepth 100000 in
set_option maxHeartbeats 800000 in
theorem back_many (s t : ByteArray) (w : World) (hp : Pairs w) (hm : s.size ≤ maxLen) (hs : 20000 < s.size) :
    Calls Tryd.prog 4 #[.string s, .string t] w fun e w' => e = .returned (.bool true) ∧ Below w.heap.size w w' := by
  have HP : Hid (Pairs w) := hp
  have hpos := hp.pos
  clear hp
  have HM : Hid (s.size ≤ maxLen) := hm
  clear hm
  go_enter Tryd.func4, Tryd.ntmps4
  go_wp2_with fail
  refine (write_many s _ HM.out hs).mono ?_
  rintro e w1 ⟨rfl, rfl⟩
  go_wp2_with fail
  refine (escaped_any _ HP.out).mono ?_
  rintro e w2 ⟨rfl, hb2⟩
  have H2 : Hid (Below w1.heap.size w1 w2) := hb2
  clear hb2
  go_wp2_with fail
  refine (escaped_any _ (HP.out.below H2.out hpos)).mono ?_
  rintro e w3 ⟨rfl, hb3⟩
  have H3 : Hid (Below w1.heap.size w1 w3) := H2.out.trans (hb3.mono H2.out.size)
  clear hb3
  go_wp2
  go_ret
  exact ⟨rfl, H3.out⟩

set_option maxRecDepth 100000 in
set_option maxHeartbeats 1600000 in
theorem back_ok (s t : ByteArray) (w : World) (hp : Pairs w) (hs : s.size ≤ 20000) (ht : t.size ≤ 140737488351232) :
    Calls Tryd.prog 4 #[.string s, .string t] w fun e w' => e = .returned (.bool true) ∧ Below w.heap.size w w' := by
  have HP : Hid (Pairs w) := hp
  have hpos := hp.pos
  clear hp
  obtain ⟨hw1, hw2⟩ := wrB_le s
  obtain ⟨hv1, hv2⟩ := wrB_le t
  have hlen : decide (((wrB s).size : Int) < (s.size : Int)) = false := decide_eq_false (by omega)
  go_enter Tryd.func4, Tryd.ntmps4
  go_wp2_with fail
  refine (write_wrB s _ HP.out hs).mono ?_
  rintro e w1 ⟨rfl, hb1⟩
  have H1 : Hid (Below w.heap.size w w1) := hb1
  clear hb1
  go_wp2_with fail
  refine (escaped_any _ (HP.out.below H1.out hpos)).mono ?_
  rintro e w2 ⟨rfl, hb2⟩
  have H2 : Hid (Below w.heap.size w w2) := H1.out.trans (hb2.mono H1.out.size)
  clear hb2
  go_wp2_with fail
  refine (read_wrB s _ (HP.out.below H2.out hpos) hs).mono ?_
  rintro e w3 ⟨rfl, hb3⟩
  have H3 : Hid (Below w.heap.size w w3) := H2.out.trans (hb3.mono H2.out.size)
  clear hb3
  go_wp2_with fail
  refine (any_wrB s _ hs).mono ?_
  rintro e w4 ⟨rfl, hb4⟩
  have H4 : Hid (Below w.heap.size w w4) := H3.out.trans (hb4.mono H3.out.size)
  clear hb4
  go_wp2_with fail
  by_cases htt : t.size ≤ 20000
  · refine (write_wrB t _ (HP.out.below H4.out hpos) htt).mono ?_
    rintro e w5 ⟨rfl, hb5⟩
    have H5 : Hid (Below w.heap.size w w5) := H4.out.trans (hb5.mono H4.out.size)
    clear hb5
    by_cases hst : s.size + t.size ≤ 20000
    · go_wp2_with fail
      refine ((wrB_append s t) ▸ write_wrB (s ++ t) _ (HP.out.below H5.out hpos) (by rw [ByteArray.size_append]; exact hst)).mono ?_
      rintro e w6 ⟨rfl, hb6⟩
      have H6 : Hid (Below w.heap.size w w6) := H5.out.trans (hb6.mono H5.out.size)
      clear hb6
      go_wp2
      go_ret
      exact ⟨rfl, H6.out⟩
    · go_wp2_with fail
      refine (write_many (s ++ t) _ (by rw [ByteArray.size_append]; unfold maxLen; omega) (by rw [ByteArray.size_append]; omega)).mono ?_
      rintro e w6 ⟨rfl, rfl⟩
      go_wp2
      go_ret
      exact ⟨rfl, H5.out⟩
  · refine (write_many t _ (by unfold maxLen; omega) (by omega)).mono ?_
    rintro e w5 ⟨rfl, rfl⟩
    go_wp2_with fail
    refine (write_many (s ++ t) _ (by rw [ByteArray.size_append]; unfold maxLen; omega) (by rw [ByteArray.size_append]; omega)).mono ?_
    rintro e w6 ⟨rfl, rfl⟩
    go_wp2
    go_ret
    exact ⟨rfl, H4.out⟩
end Go.Proofs.YtdolnompcbloaaaDoor
