/-
  The walk of the law EscapeSays: whatever text it is called with, it returns true, the variable 'pairs' holding what its initialiser lays.
-/
import Derived.Test.YtmifcioccnmlaaaDoorWs
import Derived.Test.YtmifcioccnmlaaaDoorEscaped
import Derived.Test.YtmifcioccnmlaaaDoorReadSo
namespace Go.Proofs.YtmifcioccnmlaaaDoor
open Go.RowKit

theorem write_wrB (s : ByteArray) (w : World) (hp : Pairs w) (hs : s.size ≤ 20000) :
    Calls Tryd.prog 14 #[.string s] w fun e w' => e = .returned (.tuple #[.string (wrB s), .int .i64 0]) ∧ Below w.heap.size w w' := write_ok s w hp hs
def rdB (s : ByteArray) : ByteArray := ⟨(Esc.rd s.data.toList).toArray⟩
theorem read_rdB (s : ByteArray) (w : World) (hp : Pairs w) (hs : s.size ≤ 120000) :
    Calls Tryd.prog 15 #[.string s] w fun e w' => e = .returned (.tuple #[.string (rdB s), .int .i64 0]) ∧ Below w.heap.size w w' := read_ok s w hp hs
theorem readSo_rdB (s : ByteArray) (w : World) (hs : s.size ≤ 120000) :
    Calls Tryd.prog 18 #[.string s] w fun e w' => e = .returned (.string (rdB s)) ∧ Below w.heap.size w w' := readSo_any s w hs

set_option maxRecDepth 100000 in
set_option maxHeartbeats 1600000 in
theorem says_small (s : ByteArray) (w : World) (hp : Pairs w) (hs : s.size ≤ 20000) :
    Calls Tryd.prog 3 #[.string s] w fun e w' => e = .returned (.bool true) ∧ Below w.heap.size w w' := by
  have HP : Hid (Pairs w) := hp
  have hpos := hp.pos
  clear hp
  have d1 : decide ((20000 : Int) < (s.size : Int)) = false := decide_eq_false (by omega)
  have d2 : decide ((s.size : Int) ≤ 20000) = true := decide_eq_true (by omega)
  have d3 : decide ((120000 : Int) < (s.size : Int)) = false := decide_eq_false (by omega)
  go_enter Tryd.func3, Tryd.ntmps3
  go_wp2_with fail
  refine (write_wrB s _ HP.out hs).mono ?_
  rintro e w1 ⟨rfl, hb1⟩
  have H1 : Hid (Below w.heap.size w w1) := hb1
  clear hb1
  go_wp2_with fail
  refine (read_rdB s _ (HP.out.below H1.out hpos) (by omega)).mono ?_
  rintro e w2 ⟨rfl, hb2⟩
  have H2 : Hid (Below w.heap.size w w2) := H1.out.trans (hb2.mono H1.out.size)
  clear hb2
  go_wp2_with fail
  refine (escaped_any _ (HP.out.below H2.out hpos)).mono ?_
  rintro e w3 ⟨rfl, hb3⟩
  have H3 : Hid (Below w.heap.size w w3) := H2.out.trans (hb3.mono H2.out.size)
  clear hb3
  go_wp2_with fail
  refine (writtenSo_any s _ hs).mono ?_
  rintro e w4 ⟨rfl, rfl⟩
  go_wp2_with fail
  refine (readSo_rdB s _ (by omega)).mono ?_
  rintro e w5 ⟨rfl, hb5⟩
  have H5 : Hid (Below w.heap.size w w5) := H3.out.trans (hb5.mono H3.out.size)
  clear hb5
  go_wp2
  go_ret
  exact ⟨rfl, H5.out⟩

set_option maxRecDepth 100000 in
set_option maxHeartbeats 1600000 in
theorem says_middle (s : ByteArray) (w : World) (hp : Pairs w) (hs : 20000 < s.size) (hs2 : s.size ≤ 120000) :
    Calls Tryd.prog 3 #[.string s] w fun e w' => e = .returned (.bool true) ∧ Below w.heap.size w w' := by
  have HP : Hid (Pairs w) := hp
  have hpos := hp.pos
  clear hp
  have d1 : decide ((20000 : Int) < (s.size : Int)) = true := decide_eq_true (by omega)
  have d2 : decide ((s.size : Int) ≤ 20000) = false := decide_eq_false (by omega)
  have d3 : decide ((120000 : Int) < (s.size : Int)) = false := decide_eq_false (by omega)
  go_enter Tryd.func3, Tryd.ntmps3
  go_wp2_with fail
  refine (write_many s _ (by unfold maxLen; omega) hs).mono ?_
  rintro e w1 ⟨rfl, hw1⟩
  rw [hw1]
  clear hw1
  go_wp2_with fail
  refine (read_rdB s _ HP.out hs2).mono ?_
  rintro e w2 ⟨rfl, hb2⟩
  have H2 : Hid (Below w.heap.size w w2) := hb2
  clear hb2
  go_wp2_with fail
  refine (escaped_any _ (HP.out.below H2.out hpos)).mono ?_
  rintro e w3 ⟨rfl, hb3⟩
  have H3 : Hid (Below w.heap.size w w3) := H2.out.trans (hb3.mono H2.out.size)
  clear hb3
  go_wp2_with fail
  refine (readSo_rdB s _ hs2).mono ?_
  rintro e w5 ⟨rfl, hb5⟩
  have H5 : Hid (Below w.heap.size w w5) := H3.out.trans (hb5.mono H3.out.size)
  clear hb5
  go_wp2
  go_ret
  exact ⟨rfl, H5.out⟩

set_option maxRecDepth 100000 in
set_option maxHeartbeats 1600000 in
theorem says_great (s : ByteArray) (w : World) (hp : Pairs w) (hm : s.size ≤ maxLen) (hs : 120000 < s.size) :
    Calls Tryd.prog 3 #[.string s] w fun e w' => e = .returned (.bool true) ∧ Below w.heap.size w w' := by
  have HP : Hid (Pairs w) := hp
  have HM : Hid (s.size ≤ maxLen) := hm
  clear hp hm
  have d1 : decide ((20000 : Int) < (s.size : Int)) = true := decide_eq_true (by omega)
  have d2 : decide ((s.size : Int) ≤ 20000) = false := decide_eq_false (by omega)
  have d3 : decide ((120000 : Int) < (s.size : Int)) = true := decide_eq_true (by omega)
  go_enter Tryd.func3, Tryd.ntmps3
  go_wp2_with fail
  refine (write_many s _ HM.out (by omega)).mono ?_
  rintro e w1 ⟨rfl, hw1⟩
  rw [hw1]
  clear hw1
  go_wp2_with fail
  refine (read_many s _ HM.out hs).mono ?_
  rintro e w2 ⟨rfl, hw2⟩
  rw [hw2]
  clear hw2
  go_wp2_with fail
  refine (escaped_any _ HP.out).mono ?_
  rintro e w3 ⟨rfl, hb3⟩
  have H3 : Hid (Below w.heap.size w w3) := hb3
  clear hb3
  go_wp2
  go_ret
  exact ⟨rfl, H3.out⟩

theorem says_any (s : ByteArray) (w : World) (hp : Pairs w) (hs : s.size ≤ maxLen) :
    Calls Tryd.prog 3 #[.string s] w fun e w' => e = .returned (.bool true) ∧ Below w.heap.size w w' := by
  by_cases h : s.size ≤ 20000
  · exact says_small s w hp h
  by_cases h2 : s.size ≤ 120000
  · exact says_middle s w hp (by omega) h2
  · exact says_great s w hp hs (by omega)
end Go.Proofs.YtmifcioccnmlaaaDoor
