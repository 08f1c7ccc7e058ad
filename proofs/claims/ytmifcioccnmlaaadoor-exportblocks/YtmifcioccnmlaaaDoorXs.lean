/-
  The closed fact 'exported', and the law ExportSays: it returns true at whatever list of items.
-/
import Derived.Test.YtmifcioccnmlaaaDoorXq
namespace Go.Proofs.YtmifcioccnmlaaaDoor
open Go.RowKit

def smallPage : List UInt8 := [60, 104, 49, 62, 97, 60, 98, 62, 98, 60, 47, 98, 62, 60, 47, 104, 49, 62, 60, 117, 108, 62, 60, 108, 105, 62, 60, 97, 32, 104, 114, 101].append [102, 61, 34, 104, 116, 116, 112, 58, 38, 97, 109, 112, 59, 34, 62, 38, 108, 116, 59, 60, 47, 97, 62, 60, 47, 108, 105, 62, 60, 47, 117, 108, 62]
theorem small_page : Dc.page smallDoc = smallPage := by decide +kernel

set_option maxRecDepth 100000 in
set_option maxHeartbeats 1600000 in
theorem exported_any (w : World) (hT : Tabs w) : Calls Tryd.prog 46 #[] w fun e w' => e = .returned (.bool true) ∧ Below w.heap.size w w' := by
  have HT : Hid (Tabs w) := hT
  clear hT
  have CP : Hid (∀ ao w, Doc w ao 5 5 smallDoc → Tabs w → Calls Tryd.prog 45 #[.slice ao 5 5] w fun e w' => e = .returned (.tuple #[.string (B smallPage), .int .i64 0]) ∧ Below w.heap.size w w') := fun ao w hD hS => by
    have := page_any ao 5 5 smallDoc w hD hS
    rw [small_page, small_check] at this
    exact this
  go_enter Tryd.func46, Tryd.ntmps46
  go_wp2_with fail
  refine (smallD _).mono ?_
  rintro e w1 ⟨rfl, hd, hb⟩
  have H1 : Hid (Below w.heap.size w w1) := hb
  have D1 : Hid (Doc w1 (some ⟨w.heap.size, 0, none⟩) 5 5 smallDoc) := hd
  have T1 : Hid (Tabs w1) := HT.out.below hb
  clear hb hd
  go_wp2_with fail
  refine (CP.out _ _ D1.out T1.out).mono ?_
  rintro e w2 ⟨rfl, hb⟩
  have H2 : Hid (Below w.heap.size w w2) := H1.out.trans (hb.mono H1.out.size)
  clear hb
  have heq : (B smallPage).toList = smallPage := by rw [Lib.toList_data, B_data]
  go_wp2
  go_ret
  exact ⟨rfl, H2.out⟩

set_option maxRecDepth 100000 in
set_option maxHeartbeats 1600000 in
theorem says_any (ao : Option Addr) (n cap : Nat) (l : List It) (w : World) (hD : Doc w ao n cap l) (hT : Tabs w) :
    Calls Tryd.prog 11 #[.slice ao n cap] w fun e w' => e = .returned (.bool true) ∧ Below w.heap.size w w' := by
  have HD : Hid (Doc w ao n cap l) := hD
  have HT : Hid (Tabs w) := hT
  have CP : Hid (Calls Tryd.prog 45 #[.slice ao n cap] w fun e w' => e = .returned (.tuple #[.string (B (Dc.page l)), .int .i64 (Dc.check l)]) ∧ Below w.heap.size w w') := page_any ao n cap l w hD hT
  have CD : Hid (∀ w, Doc w ao n cap l → Calls Tryd.prog 34 #[.slice ao n cap] w fun e w' => e = .returned (.int .i64 (Dc.check l)) ∧ Below w.heap.size w w') := fun w h1 => CheckDoc_any ao n cap l w h1
  have CE : Hid (∀ w, Tabs w → Calls Tryd.prog 46 #[] w fun e w' => e = .returned (.bool true) ∧ Below w.heap.size w w') := exported_any
  by_cases hc : Dc.check l = 0
  · have CO : Hid (∀ w, Doc w ao n cap l → Calls Tryd.prog 47 #[.slice ao n cap] w fun e w' => e = .returned (.string (B (Dc.page l))) ∧ Below w.heap.size w w') := fun w h1 => by
      have := PageOf_any ao n cap l w h1 (by rw [← h1.len]; exact (docu_of hc).few) (docu_of hc).fine
      unfold Dc.page
      rw [if_pos hc]
      exact this
    rw [hc] at CP CD
    clear hD hT hc
    generalize B (Dc.page l) = p at *
    go_enter Tryd.func11, Tryd.ntmps11
    go_wp2_with fail
    refine CP.out.mono ?_
    rintro e w1 ⟨rfl, hb⟩
    have H1 : Hid (Below w.heap.size w w1) := hb
    have D1 : Hid (Doc w1 ao n cap l) := HD.out.below hb
    have T1 : Hid (Tabs w1) := HT.out.below hb
    clear hb
    go_wp2_with fail
    refine (CD.out _ D1.out).mono ?_
    rintro e w2 ⟨rfl, hb⟩
    have H2 : Hid (Below w.heap.size w w2) := H1.out.trans (hb.mono H1.out.size)
    have D2 : Hid (Doc w2 ao n cap l) := D1.out.below hb
    have T2 : Hid (Tabs w2) := T1.out.below hb
    clear hb
    go_wp2_with fail
    refine (CE.out _ T2.out).mono ?_
    rintro e w3 ⟨rfl, hb⟩
    have H3 : Hid (Below w.heap.size w w3) := H2.out.trans (hb.mono H2.out.size)
    have D3 : Hid (Doc w3 ao n cap l) := D2.out.below hb
    clear hb
    go_wp2_with fail
    refine (CO.out _ D3.out).mono ?_
    rintro e w4 ⟨rfl, hb⟩
    have H4 : Hid (Below w.heap.size w w4) := H3.out.trans (hb.mono H3.out.size)
    clear hb
    go_wp2
    go_ret
    exact ⟨rfl, H4.out⟩
  · have hp : B (Dc.page l) = (⟨#[]⟩ : ByteArray) := by unfold Dc.page; rw [if_neg hc]; rfl
    rw [hp] at CP
    clear hD hT hp
    generalize Dc.check l = c at *
    have hcb : (c != 0) = true := by simpa using hc
    go_enter Tryd.func11, Tryd.ntmps11
    go_wp2_with fail
    refine CP.out.mono ?_
    rintro e w1 ⟨rfl, hb⟩
    have H1 : Hid (Below w.heap.size w w1) := hb
    have D1 : Hid (Doc w1 ao n cap l) := HD.out.below hb
    have T1 : Hid (Tabs w1) := HT.out.below hb
    clear hb
    go_wp2_with fail
    refine (CD.out _ D1.out).mono ?_
    rintro e w2 ⟨rfl, hb⟩
    have H2 : Hid (Below w.heap.size w w2) := H1.out.trans (hb.mono H1.out.size)
    have T2 : Hid (Tabs w2) := T1.out.below hb
    clear hb
    go_wp2_with fail
    refine (CE.out _ T2.out).mono ?_
    rintro e w3 ⟨rfl, hb⟩
    have H3 : Hid (Below w.heap.size w w3) := H2.out.trans (hb.mono H2.out.size)
    have T3 : Hid (Tabs w3) := T2.out.below hb
    clear hb
    go_wp2_with fail
    refine (CE.out _ T3.out).mono ?_
    rintro e w4 ⟨rfl, hb⟩
    have H4 : Hid (Below w.heap.size w w4) := H3.out.trans (hb.mono H3.out.size)
    clear hb
    go_wp2
    go_ret
    exact ⟨rfl, H4.out⟩
end Go.Proofs.YtmifcioccnmlaaaDoor
