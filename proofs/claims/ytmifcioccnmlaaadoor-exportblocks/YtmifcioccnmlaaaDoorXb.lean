/-
  The law ExportBlocks returns true at whatever two lists of items.
-/
import Derived.Test.YtmifcioccnmlaaaDoorXs
import Derived.Test.YtmifcioccnmlaaaDoorXc
namespace Go.Proofs.YtmifcioccnmlaaaDoor
open Go.RowKit

theorem errs_check {l : List It} (h : Dc.check l = 0) : Dc.errs l = 0 := by
  have h80 := Dc.check_ok h
  by_cases h0 : Dc.errs l = 0
  · exact h0
  · rw [Dc.check_errs (by omega) h0] at h
    exact h
theorem errs_app : ∀ (l l' : List It), Dc.errs l = 0 → Dc.errs l' = 0 → Dc.errs (l ++ l') = 0
  | [], _, _, h => h
  | x :: t, l', h, h' => by
    rw [Dc.errs] at h
    rw [List.cons_append, Dc.errs]
    by_cases hx : Dc.err x = 0
    · rw [if_pos hx] at h ⊢
      exact errs_app t l' h h'
    · rw [if_neg hx] at h
      exact absurd h hx
/-- Two documents, one behind the other, are one, if they are few enough. -/
theorem check_join {l l' : List It} (h : Dc.check l = 0) (h' : Dc.check l' = 0) : Dc.check (l ++ l') = 0 ∨ Dc.check (l ++ l') = 2 := by
  by_cases h80 : 80 < (l ++ l').length
  · exact .inr (Dc.check_many h80)
  · left
    have he := errs_app l l' (errs_check h) (errs_check h')
    obtain ⟨k, x, rfl, hx⟩ := (docu_of h').last
    have hlen : (l ++ (k ++ [x])).length = (l ++ k).length + 1 := by simp; omega
    rw [Dc.check_last (k := (l ++ k).length) h80 he (by omega) hlen]
    have : (l ++ (k ++ [x]))[(l ++ k).length]'(by omega) = x := by simp
    rw [this, hx]
    rfl
def sufL : List UInt8 := [60, 47, 117, 108, 62]
def preL4 : List UInt8 := [60, 117, 108, 62]
theorem pages_join {l l' : List It} (h : Dc.check l = 0) (h' : Dc.check l' = 0) (hj : Dc.check (l ++ l') = 0) :
    Dc.page (l ++ l') = if Lib.hasSuffix (Dc.page l) sufL && Lib.hasPrefix (Dc.page l') preL4 then Lib.trimSuffix (Dc.page l) sufL ++ Lib.trimPrefix (Dc.page l') preL4 else Dc.page l ++ Dc.page l' := by
  have hU := docu_of h
  have hU' := docu_of h'
  unfold Dc.page
  rw [if_pos h, if_pos h', if_pos hj]
  obtain ⟨k, x, rfl, hx⟩ := hU.last
  obtain ⟨k', x', rfl, hx'⟩ := hU'.last
  rw [Pg.page_join k k' x x' hx hx' (hU.fine x (by simp)).ok (fun z hz => (hU'.fine z hz).ok)]
  unfold Lib.trimSuffix Lib.trimPrefix Lib.hasSuffix Lib.hasPrefix
  show (if (Pg.suf.isSuffixOf _ && Pg.pref.isPrefixOf _) = true then _ else _) = (if (Pg.suf.isSuffixOf _ && Pg.pref.isPrefixOf _) = true then (if Pg.suf.isSuffixOf _ = true then _ else _) ++ (if Pg.pref.isPrefixOf _ = true then _ else _) else _)
  cases h1 : Pg.suf.isSuffixOf (Pg.page (k ++ [x]))
  · rfl
  · cases h2 : Pg.pref.isPrefixOf (Pg.page (k' ++ [x']))
    · rfl
    · rfl
theorem page_short {l : List It} : (Dc.page l).length ≤ 16500 := by
  unfold Dc.page
  split
  · rename_i h
    have hU := docu_of h
    have := Pg.page_len l (fun x hx => (hU.fine x hx).short)
    have := hU.few
    omega
  · simp
theorem trimS_len (a b : List UInt8) : (Lib.trimSuffix a b).length ≤ a.length := by
  unfold Lib.trimSuffix
  split
  · exact List.length_take_le' _ _
  · exact Nat.le_refl _
theorem trimP_len (a b : List UInt8) : (Lib.trimPrefix a b).length ≤ a.length := by
  unfold Lib.trimPrefix
  split
  · simp
  · exact Nat.le_refl _
def pairD (d d' : Value) (w : World) : World := w.alloc (.cells #[d, d'] 34)

set_option maxRecDepth 100000 in
set_option maxHeartbeats 1600000 in
theorem blocks_bad1 (ao ao' : Option Addr) (n cap n' cap' : Nat) (l l' : List It) (w : World) (hD : Doc w ao n cap l) (hD' : Doc w ao' n' cap' l') (hT : Tabs w) (hc : ¬ Dc.check l = 0) :
    Calls Tryd.prog 13 #[.slice ao n cap, .slice ao' n' cap'] w fun e w' => e = .returned (.bool true) ∧ Below w.heap.size w w' := by
  have HD : Hid (Doc w ao n cap l) := hD
  have HD' : Hid (Doc w ao' n' cap' l') := hD'
  have HT : Hid (Tabs w) := hT
  have CP : Hid (Calls Tryd.prog 45 #[.slice ao n cap] w fun e w' => e = .returned (.tuple #[.string (B (Dc.page l)), .int .i64 (Dc.check l)]) ∧ Below w.heap.size w w') := page_any ao n cap l w hD hT
  have CQ : Hid (∀ w, Doc w ao' n' cap' l' → Tabs w → Calls Tryd.prog 45 #[.slice ao' n' cap'] w fun e w' => e = .returned (.tuple #[.string (B (Dc.page l')), .int .i64 (Dc.check l')]) ∧ Below w.heap.size w w') := fun w h1 h2 => page_any ao' n' cap' l' w h1 h2
  have CE : Hid (∀ w, Tabs w → Calls Tryd.prog 46 #[] w fun e w' => e = .returned (.bool true) ∧ Below w.heap.size w w') := exported_any
  clear hD hD' hT
  generalize Dc.check l' = c' at *
  generalize Dc.check l = c at *
  generalize B (Dc.page l) = p at *
  generalize B (Dc.page l') = p' at *
  have hcb : (c != 0) = true := by simpa using hc
  go_enter Tryd.func13, Tryd.ntmps13
  go_wp2_with fail
  refine CP.out.mono ?_
  rintro e w1 ⟨rfl, hb⟩
  have H1 : Hid (Below w.heap.size w w1) := hb
  have D1 : Hid (Doc w1 ao n cap l) := HD.out.below hb
  have E1 : Hid (Doc w1 ao' n' cap' l') := HD'.out.below hb
  have T1 : Hid (Tabs w1) := HT.out.below hb
  clear hb
  go_wp2_with fail
  refine (CQ.out _ E1.out T1.out).mono ?_
  rintro e w2 ⟨rfl, hb⟩
  have H2 : Hid (Below w.heap.size w w2) := H1.out.trans (hb.mono H1.out.size)
  have D2 : Hid (Doc w2 ao n cap l) := D1.out.below hb
  have E2 : Hid (Doc w2 ao' n' cap' l') := E1.out.below hb
  have T2 : Hid (Tabs w2) := T1.out.below hb
  clear hb
  go_wp2_with fail
  refine (CE.out _ T2.out).mono ?_
  rintro e w3 ⟨rfl, hb⟩
  have H3 : Hid (Below w.heap.size w w3) := H2.out.trans (hb.mono H2.out.size)
  have D3 : Hid (Doc w3 ao n cap l) := D2.out.below hb
  have E3 : Hid (Doc w3 ao' n' cap' l') := E2.out.below hb
  have T3 : Hid (Tabs w3) := T2.out.below hb
  clear hb
  go_wp2_with fail
  refine (CE.out _ T3.out).mono ?_
  rintro e w4 ⟨rfl, hb⟩
  have H4 : Hid (Below w.heap.size w w4) := H3.out.trans (hb.mono H3.out.size)
  clear hb
  go_wp2
  go_ret
  exact ⟨rfl, H4.out⟩

set_option maxRecDepth 100000 in
set_option maxHeartbeats 1600000 in
theorem blocks_bad2 (ao ao' : Option Addr) (n cap n' cap' : Nat) (l l' : List It) (w : World) (hD : Doc w ao n cap l) (hD' : Doc w ao' n' cap' l') (hT : Tabs w) (hc : Dc.check l = 0) (hc' : ¬ Dc.check l' = 0) :
    Calls Tryd.prog 13 #[.slice ao n cap, .slice ao' n' cap'] w fun e w' => e = .returned (.bool true) ∧ Below w.heap.size w w' := by
  have HD : Hid (Doc w ao n cap l) := hD
  have HD' : Hid (Doc w ao' n' cap' l') := hD'
  have HT : Hid (Tabs w) := hT
  have CP : Hid (Calls Tryd.prog 45 #[.slice ao n cap] w fun e w' => e = .returned (.tuple #[.string (B (Dc.page l)), .int .i64 (Dc.check l)]) ∧ Below w.heap.size w w') := page_any ao n cap l w hD hT
  have CQ : Hid (∀ w, Doc w ao' n' cap' l' → Tabs w → Calls Tryd.prog 45 #[.slice ao' n' cap'] w fun e w' => e = .returned (.tuple #[.string (B (Dc.page l')), .int .i64 (Dc.check l')]) ∧ Below w.heap.size w w') := fun w h1 h2 => page_any ao' n' cap' l' w h1 h2
  have CE : Hid (∀ w, Tabs w → Calls Tryd.prog 46 #[] w fun e w' => e = .returned (.bool true) ∧ Below w.heap.size w w') := exported_any
  rw [hc] at CP
  clear hD hD' hT hc
  generalize Dc.check l' = c' at *
  generalize B (Dc.page l) = p at *
  generalize B (Dc.page l') = p' at *
  have hcb : (c' != 0) = true := by simpa using hc'
  go_enter Tryd.func13, Tryd.ntmps13
  go_wp2_with fail
  refine CP.out.mono ?_
  rintro e w1 ⟨rfl, hb⟩
  have H1 : Hid (Below w.heap.size w w1) := hb
  have D1 : Hid (Doc w1 ao n cap l) := HD.out.below hb
  have E1 : Hid (Doc w1 ao' n' cap' l') := HD'.out.below hb
  have T1 : Hid (Tabs w1) := HT.out.below hb
  clear hb
  go_wp2_with fail
  refine (CQ.out _ E1.out T1.out).mono ?_
  rintro e w2 ⟨rfl, hb⟩
  have H2 : Hid (Below w.heap.size w w2) := H1.out.trans (hb.mono H1.out.size)
  have D2 : Hid (Doc w2 ao n cap l) := D1.out.below hb
  have E2 : Hid (Doc w2 ao' n' cap' l') := E1.out.below hb
  have T2 : Hid (Tabs w2) := T1.out.below hb
  clear hb
  go_wp2_with fail
  refine (CE.out _ T2.out).mono ?_
  rintro e w3 ⟨rfl, hb⟩
  have H3 : Hid (Below w.heap.size w w3) := H2.out.trans (hb.mono H2.out.size)
  have D3 : Hid (Doc w3 ao n cap l) := D2.out.below hb
  have E3 : Hid (Doc w3 ao' n' cap' l') := E2.out.below hb
  have T3 : Hid (Tabs w3) := T2.out.below hb
  clear hb
  go_wp2_with fail
  refine (CE.out _ T3.out).mono ?_
  rintro e w4 ⟨rfl, hb⟩
  have H4 : Hid (Below w.heap.size w w4) := H3.out.trans (hb.mono H3.out.size)
  clear hb
  go_wp2
  go_ret
  exact ⟨rfl, H4.out⟩

set_option maxRecDepth 100000 in
set_option maxHeartbeats 1600000 in
theorem blocks_many (ao ao' : Option Addr) (n cap n' cap' : Nat) (l l' : List It) (w : World) (hD : Doc w ao n cap l) (hD' : Doc w ao' n' cap' l') (hT : Tabs w) (hc : Dc.check l = 0) (hc' : Dc.check l' = 0) (hj : Dc.check (l ++ l') = 2) :
    Calls Tryd.prog 13 #[.slice ao n cap, .slice ao' n' cap'] w fun e w' => e = .returned (.bool true) ∧ Below w.heap.size w w' := by
  have HD : Hid (Doc w ao n cap l) := hD
  have HD' : Hid (Doc w ao' n' cap' l') := hD'
  have HT : Hid (Tabs w) := hT
  have CP : Hid (Calls Tryd.prog 45 #[.slice ao n cap] w fun e w' => e = .returned (.tuple #[.string (B (Dc.page l)), .int .i64 (Dc.check l)]) ∧ Below w.heap.size w w') := page_any ao n cap l w hD hT
  have CQ : Hid (∀ w, Doc w ao' n' cap' l' → Tabs w → Calls Tryd.prog 45 #[.slice ao' n' cap'] w fun e w' => e = .returned (.tuple #[.string (B (Dc.page l')), .int .i64 (Dc.check l')]) ∧ Below w.heap.size w w') := fun w h1 h2 => page_any ao' n' cap' l' w h1 h2
  have CE : Hid (∀ w, Tabs w → Calls Tryd.prog 46 #[] w fun e w' => e = .returned (.bool true) ∧ Below w.heap.size w w') := exported_any
  have CC : Hid (∀ w gb, Blk w gb [.slice ao n cap, .slice ao' n' cap'] 34 → Doc w ao n cap l → Doc w ao' n' cap' l' → Calls Tryd.prog 48 #[.slice (some ⟨gb, 0, none⟩) 2 2] w fun e w' => (∃ a c, e = .returned (.slice a (n + n') c) ∧ Doc w' a (n + n') c (l ++ l')) ∧ Below w.heap.size w w') := fun w gb h1 h2 h3 => by
    have u1 := docu_of hc
    have u2 := docu_of hc'
    have k1 : 0 < l.length := by cases hl : l with | nil => exact absurd hl u1.some | cons => simp
    have k2 : 0 < l'.length := by cases hl : l' with | nil => exact absurd hl u2.some | cons => simp
    exact concat_any gb n cap n' cap' ao ao' l l' w h1 h2 h3 (by rw [← h2.len]; exact k1) (by rw [← h3.len]; exact k2) (by rw [← h2.len]; exact u1.few) (by rw [← h3.len]; exact u2.few)
  have CR : Hid (∀ w a c, Doc w a (n + n') c (l ++ l') → Tabs w → Calls Tryd.prog 45 #[.slice a (n + n') c] w fun e w' => e = .returned (.tuple #[.string (B (Dc.page (l ++ l'))), .int .i64 (Dc.check (l ++ l'))]) ∧ Below w.heap.size w w') := fun w a c h1 h2 => page_any a (n + n') c (l ++ l') w h1 h2
  rw [hc] at CP
  rw [hc'] at CQ
  rw [hj] at CR
  clear hD hD' hT hc hc' hj
  generalize B (Dc.page l) = p at *
  generalize B (Dc.page l') = p' at *
  generalize B (Dc.page (l ++ l')) = q at *
  go_enter Tryd.func13, Tryd.ntmps13
  go_wp2_with fail
  refine CP.out.mono ?_
  rintro e w1 ⟨rfl, hb⟩
  have H1 : Hid (Below w.heap.size w w1) := hb
  have D1 : Hid (Doc w1 ao n cap l) := HD.out.below hb
  have E1 : Hid (Doc w1 ao' n' cap' l') := HD'.out.below hb
  have T1 : Hid (Tabs w1) := HT.out.below hb
  clear hb
  go_wp2_with fail
  refine (CQ.out _ E1.out T1.out).mono ?_
  rintro e w2 ⟨rfl, hb⟩
  have H2 : Hid (Below w.heap.size w w2) := H1.out.trans (hb.mono H1.out.size)
  have D2 : Hid (Doc w2 ao n cap l) := D1.out.below hb
  have E2 : Hid (Doc w2 ao' n' cap' l') := E1.out.below hb
  have T2 : Hid (Tabs w2) := T1.out.below hb
  clear hb
  go_wp2_with fail
  refine (CE.out _ T2.out).mono ?_
  rintro e w3 ⟨rfl, hb⟩
  have H3 : Hid (Below w.heap.size w w3) := H2.out.trans (hb.mono H2.out.size)
  have D3 : Hid (Doc w3 ao n cap l) := D2.out.below hb
  have E3 : Hid (Doc w3 ao' n' cap' l') := E2.out.below hb
  have T3 : Hid (Tabs w3) := T2.out.below hb
  clear hb
  go_wp2_with fail
  change Calls Tryd.prog 48 _ (pairD (.slice ao n cap) (.slice ao' n' cap') w3) _
  have hp3 : Below w3.heap.size w3 (pairD (.slice ao n cap) (.slice ao' n' cap') w3) := (Below.refl _ _).alloc (Nat.le_refl _) _
  have H4 : Hid (Below w.heap.size w (pairD (.slice ao n cap) (.slice ao' n' cap') w3)) := H3.out.trans (hp3.mono H3.out.size)
  have T4 : Hid (Tabs (pairD (.slice ao n cap) (.slice ao' n' cap') w3)) := T3.out.below hp3
  refine (CC.out _ _ (Blk.new w3 [.slice ao n cap, .slice ao' n' cap'] 34) (D3.out.below hp3) (E3.out.below hp3)).mono ?_
  rintro e w5 ⟨⟨a5, c5, rfl, hd5⟩, hb⟩
  have H5 : Hid (Below w.heap.size w w5) := H4.out.trans (hb.mono H4.out.size)
  have T5 : Hid (Tabs w5) := T4.out.below hb
  have D5 : Hid (Doc w5 a5 (n + n') c5 (l ++ l')) := hd5
  clear hb hd5 hp3
  go_wp2_with fail
  refine (CR.out _ _ _ D5.out T5.out).mono ?_
  rintro e w6 ⟨rfl, hb⟩
  have H6 : Hid (Below w.heap.size w w6) := H5.out.trans (hb.mono H5.out.size)
  clear hb
  go_wp2
  go_ret
  exact ⟨rfl, H6.out⟩

set_option maxRecDepth 100000 in
set_option maxHeartbeats 1600000 in
theorem blocks_ok (ao ao' : Option Addr) (n cap n' cap' : Nat) (l l' : List It) (w : World) (hD : Doc w ao n cap l) (hD' : Doc w ao' n' cap' l') (hT : Tabs w) (hc : Dc.check l = 0) (hc' : Dc.check l' = 0) (hj : Dc.check (l ++ l') = 0) :
    Calls Tryd.prog 13 #[.slice ao n cap, .slice ao' n' cap'] w fun e w' => e = .returned (.bool true) ∧ Below w.heap.size w w' := by
  have HD : Hid (Doc w ao n cap l) := hD
  have HD' : Hid (Doc w ao' n' cap' l') := hD'
  have HT : Hid (Tabs w) := hT
  have CP : Hid (Calls Tryd.prog 45 #[.slice ao n cap] w fun e w' => e = .returned (.tuple #[.string (B (Dc.page l)), .int .i64 (Dc.check l)]) ∧ Below w.heap.size w w') := page_any ao n cap l w hD hT
  have CQ : Hid (∀ w, Doc w ao' n' cap' l' → Tabs w → Calls Tryd.prog 45 #[.slice ao' n' cap'] w fun e w' => e = .returned (.tuple #[.string (B (Dc.page l')), .int .i64 (Dc.check l')]) ∧ Below w.heap.size w w') := fun w h1 h2 => page_any ao' n' cap' l' w h1 h2
  have CE : Hid (∀ w, Tabs w → Calls Tryd.prog 46 #[] w fun e w' => e = .returned (.bool true) ∧ Below w.heap.size w w') := exported_any
  have CC : Hid (∀ w gb, Blk w gb [.slice ao n cap, .slice ao' n' cap'] 34 → Doc w ao n cap l → Doc w ao' n' cap' l' → Calls Tryd.prog 48 #[.slice (some ⟨gb, 0, none⟩) 2 2] w fun e w' => (∃ a c, e = .returned (.slice a (n + n') c) ∧ Doc w' a (n + n') c (l ++ l')) ∧ Below w.heap.size w w') := fun w gb h1 h2 h3 => by
    have u1 := docu_of hc
    have u2 := docu_of hc'
    have k1 : 0 < l.length := by cases hl : l with | nil => exact absurd hl u1.some | cons => simp
    have k2 : 0 < l'.length := by cases hl : l' with | nil => exact absurd hl u2.some | cons => simp
    exact concat_any gb n cap n' cap' ao ao' l l' w h1 h2 h3 (by rw [← h2.len]; exact k1) (by rw [← h3.len]; exact k2) (by rw [← h2.len]; exact u1.few) (by rw [← h3.len]; exact u2.few)
  have CR : Hid (∀ w a c, Doc w a (n + n') c (l ++ l') → Tabs w → Calls Tryd.prog 45 #[.slice a (n + n') c] w fun e w' => e = .returned (.tuple #[.string (B (Dc.page (l ++ l'))), .int .i64 (Dc.check (l ++ l'))]) ∧ Below w.heap.size w w') := fun w a c h1 h2 => page_any a (n + n') c (l ++ l') w h1 h2
  have HJ : Hid (Dc.page (l ++ l') = if Lib.hasSuffix (Dc.page l) sufL && Lib.hasPrefix (Dc.page l') preL4 then Lib.trimSuffix (Dc.page l) sufL ++ Lib.trimPrefix (Dc.page l') preL4 else Dc.page l ++ Dc.page l') := pages_join hc hc' hj
  have hs1 := page_short (l := l)
  have hs2 := page_short (l := l')
  rw [hc] at CP
  rw [hc'] at CQ
  rw [hj] at CR
  clear hD hD' hT hc hc' hj
  generalize Dc.page l = S at *
  generalize Dc.page l' = T at *
  generalize Dc.page (l ++ l') = J at *
  have CHS : Hid (∀ w, Calls Tryd.prog 49 #[.string (B S), .string ⟨#[60, 47, 117, 108, 62]⟩] w fun e w' => e = .returned (.bool (Lib.hasSuffix S sufL)) ∧ w' = w) := fun w => Tryd.strings_HasSuffix (B S) ⟨#[60, 47, 117, 108, 62]⟩ w (by rw [B_size]; omega)
  have CHP : Hid (∀ w, Calls Tryd.prog 50 #[.string (B T), .string ⟨#[60, 117, 108, 62]⟩] w fun e w' => e = .returned (.bool (Lib.hasPrefix T preL4)) ∧ w' = w) := fun w => Tryd.strings_HasPrefix (B T) ⟨#[60, 117, 108, 62]⟩ w
  have CTS : Hid (∀ w, Calls Tryd.prog 51 #[.string (B S), .string ⟨#[60, 47, 117, 108, 62]⟩] w fun e w' => e = .returned (.string (B (Lib.trimSuffix S sufL))) ∧ w' = w) := fun w => Tryd.strings_TrimSuffix (B S) ⟨#[60, 47, 117, 108, 62]⟩ w (by rw [B_size]; omega)
  have CTP : Hid (∀ w, Calls Tryd.prog 52 #[.string (B T), .string ⟨#[60, 117, 108, 62]⟩] w fun e w' => e = .returned (.string (B (Lib.trimPrefix T preL4))) ∧ w' = w) := fun w => Tryd.strings_TrimPrefix (B T) ⟨#[60, 117, 108, 62]⟩ w
  have hs3 := Nat.le_trans (trimS_len S sufL) hs1
  have hs4 := Nat.le_trans (trimP_len T preL4) hs2
  have z1 := B_size S
  have z2 := B_size T
  have z3 := B_size (Lib.trimSuffix S sufL)
  have z4 := B_size (Lib.trimPrefix T preL4)
  generalize Lib.trimSuffix S sufL = S2 at *
  generalize Lib.trimPrefix T preL4 = T2 at *
  cases h1 : Lib.hasSuffix S sufL
  · rw [h1] at CHS HJ
    have HE : Hid (B J = B S ++ B T) := by show _ = _; rw [HJ.out, B_app]; rfl
    clear HJ h1 CHP CTS CTP
    rw [HE.out] at CR
    generalize B S = bS at *
    generalize B T = bT at *
    go_enter Tryd.func13, Tryd.ntmps13
    go_wp2_with fail
    refine CP.out.mono ?_
    rintro e w1 ⟨rfl, hb⟩
    have H1 : Hid (Below w.heap.size w w1) := hb
    have D1 : Hid (Doc w1 ao n cap l) := HD.out.below hb
    have E1 : Hid (Doc w1 ao' n' cap' l') := HD'.out.below hb
    have T1 : Hid (Tabs w1) := HT.out.below hb
    clear hb
    go_wp2_with fail
    refine (CQ.out _ E1.out T1.out).mono ?_
    rintro e w2 ⟨rfl, hb⟩
    have H2 : Hid (Below w.heap.size w w2) := H1.out.trans (hb.mono H1.out.size)
    have D2 : Hid (Doc w2 ao n cap l) := D1.out.below hb
    have E2 : Hid (Doc w2 ao' n' cap' l') := E1.out.below hb
    have T2 : Hid (Tabs w2) := T1.out.below hb
    clear hb
    go_wp2_with fail
    refine (CE.out _ T2.out).mono ?_
    rintro e w3 ⟨rfl, hb⟩
    have H3 : Hid (Below w.heap.size w w3) := H2.out.trans (hb.mono H2.out.size)
    have D3 : Hid (Doc w3 ao n cap l) := D2.out.below hb
    have E3 : Hid (Doc w3 ao' n' cap' l') := E2.out.below hb
    have T3 : Hid (Tabs w3) := T2.out.below hb
    clear hb
    go_wp2_with fail
    change Calls Tryd.prog 48 _ (pairD (.slice ao n cap) (.slice ao' n' cap') w3) _
    have hp3 : Below w3.heap.size w3 (pairD (.slice ao n cap) (.slice ao' n' cap') w3) := (Below.refl _ _).alloc (Nat.le_refl _) _
    have H4 : Hid (Below w.heap.size w (pairD (.slice ao n cap) (.slice ao' n' cap') w3)) := H3.out.trans (hp3.mono H3.out.size)
    have T4 : Hid (Tabs (pairD (.slice ao n cap) (.slice ao' n' cap') w3)) := T3.out.below hp3
    refine (CC.out _ _ (Blk.new w3 [.slice ao n cap, .slice ao' n' cap'] 34) (D3.out.below hp3) (E3.out.below hp3)).mono ?_
    rintro e w5 ⟨⟨a5, c5, rfl, hd5⟩, hb⟩
    have H5 : Hid (Below w.heap.size w w5) := H4.out.trans (hb.mono H4.out.size)
    have T5 : Hid (Tabs w5) := T4.out.below hb
    have D5 : Hid (Doc w5 a5 (n + n') c5 (l ++ l')) := hd5
    clear hb hd5 hp3
    go_wp2_with fail
    refine (CR.out _ _ _ D5.out T5.out).mono ?_
    rintro e w6 ⟨rfl, hb⟩
    have H6 : Hid (Below w.heap.size w w6) := H5.out.trans (hb.mono H5.out.size)
    clear hb
    go_wp2_with fail
    refine (CHS.out _).mono ?_
    rintro e w7 ⟨rfl, rfl⟩
    go_wp2
    go_ret
    exact ⟨rfl, H6.out⟩
  · rw [h1] at CHS HJ
    cases h2 : Lib.hasPrefix T preL4
    · rw [h2] at CHP HJ
      have HE : Hid (B J = B S ++ B T) := by show _ = _; rw [HJ.out, B_app]; rfl
      clear HJ h1 h2 CTS CTP
      rw [HE.out] at CR
      generalize B S = bS at *
      generalize B T = bT at *
      go_enter Tryd.func13, Tryd.ntmps13
      go_wp2_with fail
      refine CP.out.mono ?_
      rintro e w1 ⟨rfl, hb⟩
      have H1 : Hid (Below w.heap.size w w1) := hb
      have D1 : Hid (Doc w1 ao n cap l) := HD.out.below hb
      have E1 : Hid (Doc w1 ao' n' cap' l') := HD'.out.below hb
      have T1 : Hid (Tabs w1) := HT.out.below hb
      clear hb
      go_wp2_with fail
      refine (CQ.out _ E1.out T1.out).mono ?_
      rintro e w2 ⟨rfl, hb⟩
      have H2 : Hid (Below w.heap.size w w2) := H1.out.trans (hb.mono H1.out.size)
      have D2 : Hid (Doc w2 ao n cap l) := D1.out.below hb
      have E2 : Hid (Doc w2 ao' n' cap' l') := E1.out.below hb
      have T2 : Hid (Tabs w2) := T1.out.below hb
      clear hb
      go_wp2_with fail
      refine (CE.out _ T2.out).mono ?_
      rintro e w3 ⟨rfl, hb⟩
      have H3 : Hid (Below w.heap.size w w3) := H2.out.trans (hb.mono H2.out.size)
      have D3 : Hid (Doc w3 ao n cap l) := D2.out.below hb
      have E3 : Hid (Doc w3 ao' n' cap' l') := E2.out.below hb
      have T3 : Hid (Tabs w3) := T2.out.below hb
      clear hb
      go_wp2_with fail
      change Calls Tryd.prog 48 _ (pairD (.slice ao n cap) (.slice ao' n' cap') w3) _
      have hp3 : Below w3.heap.size w3 (pairD (.slice ao n cap) (.slice ao' n' cap') w3) := (Below.refl _ _).alloc (Nat.le_refl _) _
      have H4 : Hid (Below w.heap.size w (pairD (.slice ao n cap) (.slice ao' n' cap') w3)) := H3.out.trans (hp3.mono H3.out.size)
      have T4 : Hid (Tabs (pairD (.slice ao n cap) (.slice ao' n' cap') w3)) := T3.out.below hp3
      refine (CC.out _ _ (Blk.new w3 [.slice ao n cap, .slice ao' n' cap'] 34) (D3.out.below hp3) (E3.out.below hp3)).mono ?_
      rintro e w5 ⟨⟨a5, c5, rfl, hd5⟩, hb⟩
      have H5 : Hid (Below w.heap.size w w5) := H4.out.trans (hb.mono H4.out.size)
      have T5 : Hid (Tabs w5) := T4.out.below hb
      have D5 : Hid (Doc w5 a5 (n + n') c5 (l ++ l')) := hd5
      clear hb hd5 hp3
      go_wp2_with fail
      refine (CR.out _ _ _ D5.out T5.out).mono ?_
      rintro e w6 ⟨rfl, hb⟩
      have H6 : Hid (Below w.heap.size w w6) := H5.out.trans (hb.mono H5.out.size)
      clear hb
      go_wp2_with fail
      refine (CHS.out _).mono ?_
      rintro e w7 ⟨rfl, rfl⟩
      go_wp2_with fail
      refine (CHP.out _).mono ?_
      rintro e w8 ⟨rfl, rfl⟩
      go_wp2
      go_ret
      exact ⟨rfl, H6.out⟩
    · rw [h2] at CHP HJ
      have HE : Hid (B J = B S2 ++ B T2) := by show _ = _; rw [HJ.out, B_app]; rfl
      clear HJ h1 h2
      rw [HE.out] at CR
      generalize B S = bS at *
      generalize B T = bT at *
      generalize B S2 = bS2 at *
      generalize B T2 = bT2 at *
      go_enter Tryd.func13, Tryd.ntmps13
      go_wp2_with fail
      refine CP.out.mono ?_
      rintro e w1 ⟨rfl, hb⟩
      have H1 : Hid (Below w.heap.size w w1) := hb
      have D1 : Hid (Doc w1 ao n cap l) := HD.out.below hb
      have E1 : Hid (Doc w1 ao' n' cap' l') := HD'.out.below hb
      have T1 : Hid (Tabs w1) := HT.out.below hb
      clear hb
      go_wp2_with fail
      refine (CQ.out _ E1.out T1.out).mono ?_
      rintro e w2 ⟨rfl, hb⟩
      have H2 : Hid (Below w.heap.size w w2) := H1.out.trans (hb.mono H1.out.size)
      have D2 : Hid (Doc w2 ao n cap l) := D1.out.below hb
      have E2 : Hid (Doc w2 ao' n' cap' l') := E1.out.below hb
      have T2 : Hid (Tabs w2) := T1.out.below hb
      clear hb
      go_wp2_with fail
      refine (CE.out _ T2.out).mono ?_
      rintro e w3 ⟨rfl, hb⟩
      have H3 : Hid (Below w.heap.size w w3) := H2.out.trans (hb.mono H2.out.size)
      have D3 : Hid (Doc w3 ao n cap l) := D2.out.below hb
      have E3 : Hid (Doc w3 ao' n' cap' l') := E2.out.below hb
      have T3 : Hid (Tabs w3) := T2.out.below hb
      clear hb
      go_wp2_with fail
      change Calls Tryd.prog 48 _ (pairD (.slice ao n cap) (.slice ao' n' cap') w3) _
      have hp3 : Below w3.heap.size w3 (pairD (.slice ao n cap) (.slice ao' n' cap') w3) := (Below.refl _ _).alloc (Nat.le_refl _) _
      have H4 : Hid (Below w.heap.size w (pairD (.slice ao n cap) (.slice ao' n' cap') w3)) := H3.out.trans (hp3.mono H3.out.size)
      have T4 : Hid (Tabs (pairD (.slice ao n cap) (.slice ao' n' cap') w3)) := T3.out.below hp3
      refine (CC.out _ _ (Blk.new w3 [.slice ao n cap, .slice ao' n' cap'] 34) (D3.out.below hp3) (E3.out.below hp3)).mono ?_
      rintro e w5 ⟨⟨a5, c5, rfl, hd5⟩, hb⟩
      have H5 : Hid (Below w.heap.size w w5) := H4.out.trans (hb.mono H4.out.size)
      have T5 : Hid (Tabs w5) := T4.out.below hb
      have D5 : Hid (Doc w5 a5 (n + n') c5 (l ++ l')) := hd5
      clear hb hd5 hp3
      go_wp2_with fail
      refine (CR.out _ _ _ D5.out T5.out).mono ?_
      rintro e w6 ⟨rfl, hb⟩
      have H6 : Hid (Below w.heap.size w w6) := H5.out.trans (hb.mono H5.out.size)
      clear hb
      go_wp2_with fail
      refine (CHS.out _).mono ?_
      rintro e w7 ⟨rfl, rfl⟩
      go_wp2_with fail
      refine (CHP.out _).mono ?_
      rintro e w8 ⟨rfl, rfl⟩
      go_wp2_with fail
      refine (CTS.out _).mono ?_
      rintro e w9 ⟨rfl, rfl⟩
      go_wp2_with fail
      refine (CTP.out _).mono ?_
      rintro e w10 ⟨rfl, rfl⟩
      go_wp2
      go_ret
      exact ⟨rfl, H6.out⟩

theorem blocks_any (ao ao' : Option Addr) (n cap n' cap' : Nat) (l l' : List It) (w : World) (hD : Doc w ao n cap l) (hD' : Doc w ao' n' cap' l') (hT : Tabs w) :
    Calls Tryd.prog 13 #[.slice ao n cap, .slice ao' n' cap'] w fun e w' => e = .returned (.bool true) ∧ Below w.heap.size w w' := by
  by_cases hc : Dc.check l = 0
  · by_cases hc' : Dc.check l' = 0
    · rcases check_join hc hc' with hj | hj
      · exact blocks_ok ao ao' n cap n' cap' l l' w hD hD' hT hc hc' hj
      · exact blocks_many ao ao' n cap n' cap' l l' w hD hD' hT hc hc' hj
    · exact blocks_bad2 ao ao' n cap n' cap' l l' w hD hD' hT hc hc'
  · exact blocks_bad1 ao ao' n cap n' cap' l l' w hD hD' hT hc
end Go.Proofs.YtmifcioccnmlaaaDoor
