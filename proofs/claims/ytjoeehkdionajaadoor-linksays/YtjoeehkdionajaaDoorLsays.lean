/-
  The law LinkSays returns true at whatever text.
-/
import Derived.Test.YtjoeehkdionajaaDoorRef
namespace Go.Proofs.YtjoeehkdionajaaDoor
open Go.RowKit

set_option maxRecDepth 100000 in
set_option maxHeartbeats 3200000 in
theorem lsays_any (s : ByteArray) (w : World) (hS : Sch w) (hs : s.size ≤ maxLen) :
    Calls Tryd.prog 6 #[.string s] w fun e w' => e = .returned (.bool true) ∧ Below w.heap.size w w' := by
  unfold maxLen at hs
  have HS : Hid (Sch w) := hS
  clear hS
  have CL : Hid (∀ w, Sch w → Calls Tryd.prog 17 #[] w fun e w' => e = .returned (.bool true) ∧ Below w.heap.size w w') := led_any
  have CM : Hid (∀ w, Sch w → Calls Tryd.prog 18 #[.string s] w fun e w' => e = .returned (.bool (Lk.may s.data.toList)) ∧ Below w.heap.size w w') := fun w h => may_any s w hs h
  have CR : Hid (∀ w, Calls Tryd.prog 19 #[.string s] w fun e w' => e = .returned (.bool (Lk.may s.data.toList)) ∧ Below w.heap.size w w') := fun w => MayBe_any s w hs
  have CS : Hid (∀ w, Calls Tryd.prog 20 #[.string s] w fun e w' => e = .returned (.string (B (Lk.scheme s.data.toList))) ∧ Below w.heap.size w w') := fun w => scheme_any s w hs
  have CT : Hid (∀ w, Calls Tryd.prog 21 #[.string s] w fun e w' => e = .returned (.string (B (Lk.scheme s.data.toList))) ∧ Below w.heap.size w w') := fun w => SchemeOf_any s w hs
  generalize Lk.may s.data.toList = m at *
  generalize B (Lk.scheme s.data.toList) = sc at *
  by_cases h2 : 20000 < s.size
  · have C1 : Hid (Calls Tryd.prog 16 #[.string s] w fun e w' => e = .returned (.tuple #[.string ⟨#[]⟩, .int .i64 2]) ∧ w' = w) := clean_many s w hs h2
    go_enter Tryd.func6, Tryd.ntmps6
    go_wp2_with fail
    refine C1.out.mono ?_
    rintro e w1 ⟨rfl, hw⟩
    rw [hw]
    go_wp2_with fail
    refine (CL.out _ HS.out).mono ?_
    rintro e w2 ⟨rfl, hb2⟩
    have H2 : Hid (Below w.heap.size w w2) := hb2
    have S2 : Hid (Sch w2) := HS.out.below hb2
    clear hb2
    go_wp2_with fail
    refine (CM.out _ S2.out).mono ?_
    rintro e w3 ⟨rfl, hb3⟩
    have H3 : Hid (Below w.heap.size w w3) := H2.out.trans (hb3.mono H2.out.size)
    clear hb3
    go_wp2_with fail
    refine (CR.out _).mono ?_
    rintro e w4 ⟨rfl, hb4⟩
    have H4 : Hid (Below w.heap.size w w4) := H3.out.trans (hb4.mono H3.out.size)
    clear hb4
    go_wp2_with fail
    refine (CS.out _).mono ?_
    rintro e w5 ⟨rfl, hb5⟩
    have H5 : Hid (Below w.heap.size w w5) := H4.out.trans (hb5.mono H4.out.size)
    clear hb5
    go_wp2_with fail
    refine (CT.out _).mono ?_
    rintro e w6 ⟨rfl, hb6⟩
    have H6 : Hid (Below w.heap.size w w6) := H5.out.trans (hb6.mono H5.out.size)
    clear hb6
    go_wp2
    go_ret
    exact ⟨rfl, H6.out⟩
  · have C1 : Hid (Calls Tryd.prog 16 #[.string s] w fun e w' => e = .returned (.tuple #[.string (B (Lk.clean s.data.toList)), .int .i64 0]) ∧ Below w.heap.size w w') := clean_any s w (by omega) HS.out
    have CC : Hid (∀ w, Calls Tryd.prog 22 #[.string s] w fun e w' => e = .returned (.string (B (Lk.clean s.data.toList))) ∧ Below w.heap.size w w') := fun w => CleanOf_any s w (by omega)
    generalize B (Lk.clean s.data.toList) = cl at *
    go_enter Tryd.func6, Tryd.ntmps6
    go_wp2_with fail
    refine C1.out.mono ?_
    rintro e w1 ⟨rfl, hb1⟩
    have H1 : Hid (Below w.heap.size w w1) := hb1
    have S1 : Hid (Sch w1) := HS.out.below hb1
    clear hb1
    go_wp2_with fail
    refine (CL.out _ S1.out).mono ?_
    rintro e w2 ⟨rfl, hb2⟩
    have H2 : Hid (Below w.heap.size w w2) := H1.out.trans (hb2.mono H1.out.size)
    have S2 : Hid (Sch w2) := S1.out.below hb2
    clear hb2
    go_wp2_with fail
    refine (CM.out _ S2.out).mono ?_
    rintro e w3 ⟨rfl, hb3⟩
    have H3 : Hid (Below w.heap.size w w3) := H2.out.trans (hb3.mono H2.out.size)
    clear hb3
    go_wp2_with fail
    refine (CR.out _).mono ?_
    rintro e w4 ⟨rfl, hb4⟩
    have H4 : Hid (Below w.heap.size w w4) := H3.out.trans (hb4.mono H3.out.size)
    clear hb4
    go_wp2_with fail
    refine (CS.out _).mono ?_
    rintro e w5 ⟨rfl, hb5⟩
    have H5 : Hid (Below w.heap.size w w5) := H4.out.trans (hb5.mono H4.out.size)
    clear hb5
    go_wp2_with fail
    refine (CT.out _).mono ?_
    rintro e w6 ⟨rfl, hb6⟩
    have H6 : Hid (Below w.heap.size w w6) := H5.out.trans (hb6.mono H5.out.size)
    clear hb6
    go_wp2_with fail
    refine (CC.out _).mono ?_
    rintro e w7 ⟨rfl, hb7⟩
    have H7 : Hid (Below w.heap.size w w7) := H6.out.trans (hb7.mono H6.out.size)
    clear hb7
    go_wp2
    go_ret
    exact ⟨rfl, H7.out⟩
end Go.Proofs.YtjoeehkdionajaaDoor
