/-
  The law LinkSafe returns true at whatever text.
-/
import Derived.Test.YtjoeehkdionajaaDoorSafeP
namespace Go.Proofs.YtjoeehkdionajaaDoor
open Go.RowKit

/-- The variable 'internal/bytealg.MaxLen' (block 1) holds some number. -/
def Mx (w : World) : Prop := ∃ m, w.cell? ⟨1, 0, none⟩ = some (.int .i64 m)
theorem Mx.below {w w' : World} (h : Mx w) (hS : Sch w) (hb : Below w.heap.size w w') : Mx w' := by
  obtain ⟨m, hm⟩ := h
  have hp := hS.pos
  refine ⟨m, ?_⟩
  have := hb.block 1 (by omega)
  simp only [World.cell?] at hm ⊢
  rw [this]
  exact hm

theorem quotes_ascii : Ascii ⟨#[32, 9, 10, 13, 34, 39, 60, 62]⟩ := by
  intro j b h
  match j, h with
  | 0, h => cases h; decide
  | 1, h => cases h; decide
  | 2, h => cases h; decide
  | 3, h => cases h; decide
  | 4, h => cases h; decide
  | 5, h => cases h; decide
  | 6, h => cases h; decide
  | 7, h => cases h; decide
  | j + 8, h => simp at h

set_option maxRecDepth 100000 in
set_option maxHeartbeats 3200000 in
theorem safe_any (s : ByteArray) (w : World) (hS : Sch w) (hX : Mx w) (hs : s.size ≤ maxLen) :
    Calls Tryd.prog 7 #[.string s] w fun e w' => e = .returned (.bool true) ∧ Below w.heap.size w w' := by
  unfold maxLen at hs
  have HS : Hid (Sch w) := hS
  have HX : Hid (Mx w) := hX
  clear hS hX
  have CL : Hid (∀ w, Sch w → Calls Tryd.prog 17 #[] w fun e w' => e = .returned (.bool true) ∧ Below w.heap.size w w') := led_any
  by_cases h2 : 20000 < s.size
  · have C1 : Hid (Calls Tryd.prog 16 #[.string s] w fun e w' => e = .returned (.tuple #[.string ⟨#[]⟩, .int .i64 2]) ∧ w' = w) := clean_many s w hs h2
    go_enter Tryd.func7, Tryd.ntmps7
    go_wp2_with fail
    refine C1.out.mono ?_
    rintro e w1 ⟨rfl, hw⟩
    rw [hw]
    go_wp2_with fail
    refine (CL.out _ HS.out).mono ?_
    rintro e w2 ⟨rfl, hb2⟩
    have H2 : Hid (Below w.heap.size w w2) := hb2
    have S2 : Hid (Sch w2) := HS.out.below hb2
    clear hb2
    go_wp2_with fail
    refine (CL.out _ S2.out).mono ?_
    rintro e w3 ⟨rfl, hb3⟩
    have H3 : Hid (Below w.heap.size w w3) := H2.out.trans (hb3.mono H2.out.size)
    clear hb3
    go_wp2
    go_ret
    exact ⟨rfl, H3.out⟩
  · have C1 : Hid (Calls Tryd.prog 16 #[.string s] w fun e w' => e = .returned (.tuple #[.string (B (Lk.clean s.data.toList)), .int .i64 0]) ∧ Below w.heap.size w w') := clean_any s w (by omega) HS.out
    by_cases hc0 : Lk.clean s.data.toList = []
    · rw [hc0] at C1
      have he : (B []).toList.isEmpty = true := by rw [Lib.toList_data]; rfl
      generalize B [] = b0 at *
      clear hc0
      go_enter Tryd.func7, Tryd.ntmps7
      go_wp2_with fail
      refine C1.out.mono ?_
      rintro e w1 ⟨rfl, hb1⟩
      have H1 : Hid (Below w.heap.size w w1) := hb1
      have S1 : Hid (Sch w1) := HS.out.below hb1
      clear hb1
      go_wp2_with fail
      refine (CL.out _ S1.out).mono ?_
      rintro e w2 ⟨rfl, hb2⟩
      have H2 : Hid (Below w.heap.size w w2) := H1.out.trans (hb2.mono H1.out.size)
      have S2 : Hid (Sch w2) := S1.out.below hb2
      clear hb2
      go_wp2_with fail
      refine (CL.out _ S2.out).mono ?_
      rintro e w3 ⟨rfl, hb3⟩
      have H3 : Hid (Below w.heap.size w w3) := H2.out.trans (hb3.mono H2.out.size)
      clear hb3
      go_wp2
      go_ret
      exact ⟨rfl, H3.out⟩
    · obtain ⟨hct, hcm⟩ := Lk.clean_some hc0
      have hcc := Lk.clean_may hcm
      obtain ⟨hc1, hc24, _, hld⟩ := Lk.may_parts hcm
      have hnq := Lk.no_quotes hcm
      have hcon : Lib.contains s.data.toList (Lk.clean s.data.toList) = true := by
        obtain ⟨a, b, hab⟩ := Lk.trim_infix s.data.toList
        rw [hct]
        generalize Lk.trim s.data.toList = t at *
        rw [hab]
        exact Lk.infix_contains a t b
      have hsc := Lk.lead_one hld
      have hne : (B (Lk.clean s.data.toList)).toList.isEmpty = false := by
        rw [Lib.toList_data, B_data]
        cases h : Lk.clean s.data.toList with
        | nil => exact absurd h hc0
        | cons _ _ => rfl
      clear hc0 hct hld
      generalize Lk.clean s.data.toList = c at *
      have hBs := B_size c
      have C2 : Hid (∀ w, Sch w → Calls Tryd.prog 16 #[.string (B c)] w fun e w' => e = .returned (.tuple #[.string (B c), .int .i64 0]) ∧ Below w.heap.size w w') := fun w h => by
        have := clean_any (B c) w (by omega) h
        rw [B_data, hcc] at this
        exact this
      have C3 : Hid (∀ w, Sch w → Calls Tryd.prog 18 #[.string (B c)] w fun e w' => e = .returned (.bool true) ∧ Below w.heap.size w w') := fun w h => by
        have := may_any (B c) w (by omega) h
        rw [B_data, hcm] at this
        exact this
      have C4 : Hid (∀ w, Mx w → Calls Tryd.prog 23 #[.string s, .string (B c)] w fun e w' => e = .returned (.bool true) ∧ w' = w) := fun w h => by
        obtain ⟨m, hm⟩ := h
        have := Tryd.strings_Contains s (B c) m w (by omega) hm
        rw [B_data, hcon] at this
        exact this
      have C5 : Hid (∀ w, Calls Tryd.prog 14 #[.string (B c), .string ⟨#[32, 9, 10, 13, 34, 39, 60, 62]⟩] w fun e w' => e = .returned (.bool false) ∧ Below w.heap.size w w') := fun w => ca_any (B c) _ w false (by decide) (by decide) (by omega) quotes_ascii hnq
      have C6 : Hid (∀ w, Calls Tryd.prog 20 #[.string (B c)] w fun e w' => e = .returned (.string (B (Lk.scheme c))) ∧ Below w.heap.size w w') := fun w => scheme_any (B c) w (by omega)
      have q1 := Beq [104, 116, 116, 112] (Lk.scheme c)
      have q2 := Beq [104, 116, 116, 112, 115] (Lk.scheme c)
      have q3 := Beq [109, 97, 105, 108, 116, 111] (Lk.scheme c)
      have HQ : Hid ((((B (Lk.scheme c)).toList == [104, 116, 116, 112]) || ((B (Lk.scheme c)).toList == [104, 116, 116, 112, 115]) || ((B (Lk.scheme c)).toList == [109, 97, 105, 108, 116, 111])) = true) := by
        show _ = _
        rw [q1, q2, q3]
        rcases hsc with h | h | h <;> rw [h] <;> rfl
      clear q1 q2 q3 hsc hcm hcc hnq hcon hBs hc1 hc24
      generalize B (Lk.scheme c) = sc at *
      generalize B c = b at *
      go_enter Tryd.func7, Tryd.ntmps7
      go_wp2_with fail
      refine C1.out.mono ?_
      rintro e w1 ⟨rfl, hb1⟩
      have H1 : Hid (Below w.heap.size w w1) := hb1
      have S1 : Hid (Sch w1) := HS.out.below hb1
      have X1 : Hid (Mx w1) := HX.out.below HS.out hb1
      clear hb1
      go_wp2_with fail
      refine (CL.out _ S1.out).mono ?_
      rintro e w2 ⟨rfl, hb2⟩
      have H2 : Hid (Below w.heap.size w w2) := H1.out.trans (hb2.mono H1.out.size)
      have S2 : Hid (Sch w2) := S1.out.below hb2
      have X2 : Hid (Mx w2) := X1.out.below S1.out hb2
      clear hb2
      go_wp2_with fail
      refine (C2.out _ S2.out).mono ?_
      rintro e w3 ⟨rfl, hb3⟩
      have H3 : Hid (Below w.heap.size w w3) := H2.out.trans (hb3.mono H2.out.size)
      have S3 : Hid (Sch w3) := S2.out.below hb3
      have X3 : Hid (Mx w3) := X2.out.below S2.out hb3
      clear hb3
      go_wp2_with fail
      refine (C3.out _ S3.out).mono ?_
      rintro e w4 ⟨rfl, hb4⟩
      have H4 : Hid (Below w.heap.size w w4) := H3.out.trans (hb4.mono H3.out.size)
      have X4 : Hid (Mx w4) := X3.out.below S3.out hb4
      clear hb4
      go_wp2_with fail
      refine (C4.out _ X4.out).mono ?_
      rintro e w5 ⟨rfl, hw⟩
      rw [hw]
      go_wp2_with fail
      refine (C5.out _).mono ?_
      rintro e w6 ⟨rfl, hb6⟩
      have H6 : Hid (Below w.heap.size w w6) := H4.out.trans (hb6.mono H4.out.size)
      clear hb6
      go_wp2_with fail
      refine (C6.out _).mono ?_
      rintro e w7 ⟨rfl, hb7⟩
      have H7 : Hid (Below w.heap.size w w7) := H6.out.trans (hb7.mono H6.out.size)
      clear hb7
      go_wp2
      · go_ret
        exact ⟨rfl, H7.out⟩
      · go_ret
        exact ⟨rfl, H7.out⟩
      · go_ret
        exact ⟨congrArg (fun b => Ending.returned (Value.bool b)) HQ.out, H7.out⟩
end Go.Proofs.YtjoeehkdionajaaDoor
