/-
  The walk of the law EscapeOnce: whatever text it is called with, it returns true, the variable 'pairs' holding what its initialiser lays.
-/
import Derived.Test.YtdolnompcbloaaaDoorBack
namespace Go.Proofs.YtdolnompcbloaaaDoor
open Go.RowKit

theorem count_is (s : ByteArray) (c : UInt8) (k : Nat) (w : World) (h : s.data.toList.count c = k) :
    Calls Tryd.prog 12 #[.string s, .string ⟨#[c]⟩] w fun e w' => e = .returned (.int .i64 k) ∧ w' = w := by
  have := Tryd.strings_Count_one s c w
  unfold Lib.countByte at this
  rw [h] at this
  exact this

theorem ascii4 : Ascii ⟨#[38, 60, 62, 34]⟩ := by
  intro j b hb
  match j, hb with
  | 0, hb => simp at hb; subst hb; decide
  | 1, hb => simp at hb; subst hb; decide
  | 2, hb => simp at hb; subst hb; decide
  | 3, hb => simp at hb; subst hb; decide
  | j + 4, hb => simp at hb

theorem any4 (s : ByteArray) (w : World) (b : Bool) (hs : s.size ≤ 20000) (hb : Lib.containsAny s.data.toList [38, 60, 62, 34] = b) :
    Calls Tryd.prog 11 #[.string s, .string ⟨#[38, 60, 62, 34]⟩] w fun e w' => e = .returned (.bool b) ∧ Below w.heap.size w w' :=
  ca_any s ⟨#[38, 60, 62, 34]⟩ w b (by decide) (by decide) (by omega) ascii4 hb

theorem wrB_count (s : ByteArray) : (wrB s).size = s.size + 4 * s.data.toList.count 38 + 3 * s.data.toList.count 60 + 3 * s.data.toList.count 62 + 5 * s.data.toList.count 34 := by
  rw [wrB_size, Esc.wr_count, len_list]

theorem plain4 (s : ByteArray) (h : Lib.containsAny s.data.toList [38, 60, 62, 34] = false) : ∀ x ∈ s.data.toList, x ≠ 38 ∧ x ≠ 60 ∧ x ≠ 62 ∧ x ≠ 34 := by
  intro x hx
  have := ca_mem _ _ h x hx
  simpa using this

set_option maxRecDepth 100000 in
set_option maxHeartbeats 800000 in
theorem once_many (s : ByteArray) (w : World) (hp : Pairs w) (hm : s.size ≤ maxLen) (hs : 20000 < s.size) :
    Calls Tryd.prog 5 #[.string s] w fun e w' => e = .returned (.bool true) ∧ Below w.heap.size w w' := by
  have HP : Hid (Pairs w) := hp
  have hpos := hp.pos
  clear hp
  have HM : Hid (s.size ≤ maxLen) := hm
  clear hm
  go_enter Tryd.func5, Tryd.ntmps5
  go_wp2_with fail
  refine (write_many s _ HM.out hs).mono ?_
  rintro e w1 ⟨rfl, rfl⟩
  go_wp2_with fail
  refine (escaped_any _ HP.out).mono ?_
  rintro e w2 ⟨rfl, hb2⟩
  have H2 : Hid (Below w1.heap.size w1 w2) := hb2
  clear hb2
  go_wp2_with fail
  refine (escaped_any _ (HP.out.below H2.out hpos)).mono ?_
  rintro e w3 ⟨rfl, hb3⟩
  have H3 : Hid (Below w1.heap.size w1 w3) := H2.out.trans (hb3.mono H2.out.size)
  clear hb3
  go_wp2
  go_ret
  exact ⟨rfl, H3.out⟩

set_option maxRecDepth 100000 in
set_option maxHeartbeats 1600000 in
theorem once_some (s : ByteArray) (w : World) (hp : Pairs w) (hs : s.size ≤ 20000) (hb : Lib.containsAny s.data.toList [38, 60, 62, 34] = true) :
    Calls Tryd.prog 5 #[.string s] w fun e w' => e = .returned (.bool true) ∧ Below w.heap.size w w' := by
  have HP : Hid (Pairs w) := hp
  have hpos := hp.pos
  have HB : Hid (Lib.containsAny s.data.toList [38, 60, 62, 34] = true) := hb
  clear hp hb
  obtain ⟨k1, hk1⟩ : ∃ k, s.data.toList.count 38 = k := ⟨_, rfl⟩
  obtain ⟨k2, hk2⟩ : ∃ k, s.data.toList.count 60 = k := ⟨_, rfl⟩
  obtain ⟨k3, hk3⟩ : ∃ k, s.data.toList.count 62 = k := ⟨_, rfl⟩
  obtain ⟨k4, hk4⟩ : ∃ k, s.data.toList.count 34 = k := ⟨_, rfl⟩
  have b1 : k1 ≤ s.size := by rw [← hk1, ← len_list]; exact List.count_le_length
  have b2 : k2 ≤ s.size := by rw [← hk2, ← len_list]; exact List.count_le_length
  have b3 : k3 ≤ s.size := by rw [← hk3, ← len_list]; exact List.count_le_length
  have b4 : k4 ≤ s.size := by rw [← hk4, ← len_list]; exact List.count_le_length
  have hc := wrB_count s
  rw [hk1, hk2, hk3, hk4] at hc
  have hci : ((wrB s).size : Int) = (s.size : Int) + 4 * (k1 : Int) + 3 * (k2 : Int) + 3 * (k3 : Int) + 5 * (k4 : Int) := by omega
  have C1 : Hid (s.data.toList.count 38 = k1) := hk1
  have C2 : Hid (s.data.toList.count 60 = k2) := hk2
  have C3 : Hid (s.data.toList.count 62 = k3) := hk3
  have C4 : Hid (s.data.toList.count 34 = k4) := hk4
  clear hk1 hk2 hk3 hk4 hc
  go_enter Tryd.func5, Tryd.ntmps5
  go_wp2_with fail
  refine (write_wrB s _ HP.out hs).mono ?_
  rintro e w1 ⟨rfl, hb1⟩
  have H1 : Hid (Below w.heap.size w w1) := hb1
  clear hb1
  go_wp2_with fail
  refine (escaped_any _ (HP.out.below H1.out hpos)).mono ?_
  rintro e w2 ⟨rfl, hb2⟩
  have H2 : Hid (Below w.heap.size w w2) := H1.out.trans (hb2.mono H1.out.size)
  clear hb2
  go_wp2_with fail
  refine (count_is s 38 k1 _ C1.out).mono ?_
  rintro e w3 ⟨rfl, rfl⟩
  go_wp2_with fail
  refine (count_is s 60 k2 _ C2.out).mono ?_
  rintro e w4 ⟨rfl, rfl⟩
  go_wp2_with fail
  refine (count_is s 62 k3 _ C3.out).mono ?_
  rintro e w5 ⟨rfl, rfl⟩
  go_wp2_with fail
  refine (count_is s 34 k4 _ C4.out).mono ?_
  rintro e w6 ⟨rfl, rfl⟩
  go_wp2_with fail
  refine (any4 s _ true hs HB.out).mono ?_
  rintro e w7 ⟨rfl, hb7⟩
  have H7 : Hid (Below w.heap.size w w7) := H2.out.trans (hb7.mono H2.out.size)
  clear hb7
  go_wp2
  go_ret
  exact ⟨rfl, H7.out⟩

theorem count_zero (s : ByteArray) (c : UInt8) (h : ∀ x ∈ s.data.toList, x ≠ c) : s.data.toList.count c = 0 :=
  List.count_eq_zero.2 fun hm => h c hm rfl

set_option maxRecDepth 100000 in
set_option maxHeartbeats 1600000 in
theorem once_none (s : ByteArray) (w : World) (hp : Pairs w) (hs : s.size ≤ 20000) (hb : Lib.containsAny s.data.toList [38, 60, 62, 34] = false) :
    Calls Tryd.prog 5 #[.string s] w fun e w' => e = .returned (.bool true) ∧ Below w.heap.size w w' := by
  have HP : Hid (Pairs w) := hp
  have hpos := hp.pos
  have HB : Hid (Lib.containsAny s.data.toList [38, 60, 62, 34] = false) := hb
  have hpl := plain4 s hb
  have hww := write_wrB s w hp hs
  rw [show wrB s = s by unfold wrB; rw [Esc.wr_same _ hpl, ba_eq]] at hww
  have HW : Hid (Calls Tryd.prog 6 #[.string s] w fun e w' => e = .returned (.tuple #[.string s, .int .i64 0]) ∧ Below w.heap.size w w') := hww
  have C1 : Hid (s.data.toList.count 38 = 0) := count_zero s 38 fun x hx => (hpl x hx).1
  have C2 : Hid (s.data.toList.count 60 = 0) := count_zero s 60 fun x hx => (hpl x hx).2.1
  have C3 : Hid (s.data.toList.count 62 = 0) := count_zero s 62 fun x hx => (hpl x hx).2.2.1
  have C4 : Hid (s.data.toList.count 34 = 0) := count_zero s 34 fun x hx => (hpl x hx).2.2.2
  clear hp hb hpl hww
  go_enter Tryd.func5, Tryd.ntmps5
  go_wp2_with fail
  refine HW.out.mono ?_
  rintro e w1 ⟨rfl, hb1⟩
  have H1 : Hid (Below w.heap.size w w1) := hb1
  clear hb1
  go_wp2_with fail
  refine (escaped_any _ (HP.out.below H1.out hpos)).mono ?_
  rintro e w2 ⟨rfl, hb2⟩
  have H2 : Hid (Below w.heap.size w w2) := H1.out.trans (hb2.mono H1.out.size)
  clear hb2
  go_wp2_with fail
  refine (count_is s 38 0 _ C1.out).mono ?_
  rintro e w3 ⟨rfl, rfl⟩
  go_wp2_with fail
  refine (count_is s 60 0 _ C2.out).mono ?_
  rintro e w4 ⟨rfl, rfl⟩
  go_wp2_with fail
  refine (count_is s 62 0 _ C3.out).mono ?_
  rintro e w5 ⟨rfl, rfl⟩
  go_wp2_with fail
  refine (count_is s 34 0 _ C4.out).mono ?_
  rintro e w6 ⟨rfl, rfl⟩
  go_wp2_with fail
  refine (any4 s _ false hs HB.out).mono ?_
  rintro e w7 ⟨rfl, hb7⟩
  have H7 : Hid (Below w.heap.size w w7) := H2.out.trans (hb7.mono H2.out.size)
  clear hb7
  go_wp2
  go_ret
  exact ⟨rfl, H7.out⟩

theorem once_any (s : ByteArray) (w : World) (hp : Pairs w) (hs : s.size ≤ maxLen) :
    Calls Tryd.prog 5 #[.string s] w fun e w' => e = .returned (.bool true) ∧ Below w.heap.size w w' := by
  by_cases h : s.size ≤ 20000
  · cases hb : Lib.containsAny s.data.toList [38, 60, 62, 34]
    · exact once_none s w hp h hb
    · exact once_some s w hp h hb
  · exact once_many s w hp hs (by omega)
end Go.Proofs.YtdolnompcbloaaaDoor
