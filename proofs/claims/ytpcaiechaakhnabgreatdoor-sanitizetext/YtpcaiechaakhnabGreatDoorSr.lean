/-
  SanitizeText: the page of a text is that text, as one block.
-/
import Derived.Test.YtpcaiechaakhnabGreatDoorSk
import Derived.Test.YtpcaiechaakhnabGreatDoorWs
namespace Go.Proofs.YtpcaiechaakhnabGreatDoor
open Go.RowKit

/-- What a law of texts has seen, later. -/
structure Bu (w wr : World) : Prop where
  below : Below w.heap.size w wr
  tz : Tz wr
theorem Bu.far {w wr w' : World} (h : Bu w wr) (hb : Below wr.heap.size wr w') : Bu w w' := ⟨h.below.trans (hb.mono h.below.size), h.tz.below hb⟩
theorem item0 (c : UInt8) : Sn.item Sn.s0 c = ⟨Sn.chr c, 0, B []⟩ := rfl
/-- The items of a text. -/
def textD (u : List UInt8) : List It := u.map (Sn.item Sn.s0) ++ [Sn.endOf 0]
theorem textD_len (u : List UInt8) : (textD u).length = u.length + 1 := by unfold textD; simp
theorem textD_at (u : List UInt8) (k : Nat) (h : k < u.length) : (textD u)[k]? = some ⟨Sn.chr u[k], 0, B []⟩ := by
  unfold textD
  rw [List.getElem?_append_left (by simpa using h), List.getElem?_map, List.getElem?_eq_getElem h]
  rfl
theorem textD_end (u : List UInt8) : (textD u)[u.length]? = some ⟨10, 0, B []⟩ := by
  unfold textD
  rw [List.getElem?_append_right (by simp)]
  simp [Sn.endOf]
theorem chr_lo (c : UInt8) (h : 32 ≤ c.toNat) (h2 : c.toNat ≤ 126) : Sn.chr c = c := Sn.chr_vis ⟨by rw [UInt8.le_iff_toNat_le]; exact h, by rw [UInt8.le_iff_toNat_le]; exact h2⟩
theorem wr_len (u : List UInt8) : (Esc.wr u).length ≤ 6 * u.length := by
  have := (wrB_le (B u)).2
  rw [wrB_size, B_data, B_size] at this
  exact this

set_option maxRecDepth 100000 in
set_option maxHeartbeats 1600000 in
theorem text_none (u : List UInt8) (w : World) (hT : Tz w) (h0 : u.length = 0) : Calls Tryz.prog 7 #[.string (B u)] w fun e w' => e = .returned (.bool true) ∧ Below w.heap.size w w' := by
  have H0 : Hid (Bu w w) := ⟨Below.refl _ _, hT⟩
  have za := B_size u
  clear hT
  go_enter Tryz.func7, Tryz.ntmps7
  go_wp2_with fail
  refine (paged_any w H0.out.tz).mono ?_
  rintro e w1 ⟨rfl, hb⟩
  have H1 : Hid (Bu w w1) := H0.out.far hb
  clear hb
  go_wp2_with fail
  refine (paged_any _ H1.out.tz).mono ?_
  rintro e w3 ⟨rfl, hb⟩
  have H2 : Hid (Bu w w3) := H1.out.far hb
  clear hb
  go_wp2
  go_ret
  exact ⟨rfl, H2.out.below⟩

set_option maxRecDepth 100000 in
set_option maxHeartbeats 1600000 in
theorem text_long (u : List UInt8) (w : World) (hT : Tz w) (h0 : ¬ u.length = 0) (h1 : 79 < u.length) : Calls Tryz.prog 7 #[.string (B u)] w fun e w' => e = .returned (.bool true) ∧ Below w.heap.size w w' := by
  have H0 : Hid (Bu w w) := ⟨Below.refl _ _, hT⟩
  have za := B_size u
  clear hT
  go_enter Tryz.func7, Tryz.ntmps7
  go_wp2_with fail
  refine (paged_any w H0.out.tz).mono ?_
  rintro e w1 ⟨rfl, hb⟩
  have H1 : Hid (Bu w w1) := H0.out.far hb
  clear hb
  go_wp2_with fail
  refine (paged_any _ H1.out.tz).mono ?_
  rintro e w3 ⟨rfl, hb⟩
  have H2 : Hid (Bu w w3) := H1.out.far hb
  clear hb
  go_wp2
  go_ret
  exact ⟨rfl, H2.out.below⟩

set_option maxRecDepth 100000 in
set_option maxHeartbeats 6400000 in
theorem text_short (u : List UInt8) (w : World) (hT : Tz w) (h0 : ¬ u.length = 0) (h1 : ¬ 79 < u.length) : Calls Tryz.prog 7 #[.string (B u)] w fun e w' => e = .returned (.bool true) ∧ Below w.heap.size w w' := by
  have H0 : Hid (Bu w w) := ⟨Below.refl _ _, hT⟩
  have za := B_size u
  have hwl := wr_len u
  have CW : Hid (∀ w', Calls Tryz.prog 20 #[.string (B u)] w' fun e w2 => e = .returned (.string (B (Esc.wr u))) ∧ w2 = w') := fun w' => writtenSo_any (B u) w' (by rw [za]; omega)
  obtain ⟨hr1, hr2⟩ := Sn.read_text u (fun e => h0 (by rw [e]; rfl)) (by omega)
  have HR1 : Hid (Sn.read (Tk.toks (Esc.wr u)) = some (textD u)) := hr1
  have HR2 : Hid (Sn.read (Tk.toks (Sn.divL ++ Esc.wr u)) = some (textD u)) := hr2
  have hf1 : (Esc.wr u).length ≤ 20000 := by omega
  have hf2 : (Sn.divL ++ Esc.wr u).length ≤ 20000 := by rw [List.length_append]; show 5 + (Esc.wr u).length ≤ 20000; omega
  have hcat : (⟨#[60, 100, 105, 118, 62]⟩ : ByteArray) ++ B (Esc.wr u) = B (Sn.divL ++ Esc.wr u) := B_app Sn.divL (Esc.wr u)
  have HCAT : Hid ((⟨#[60, 100, 105, 118, 62]⟩ : ByteArray) ++ B (Esc.wr u) = B (Sn.divL ++ Esc.wr u)) := hcat
  have zw := B_size (Esc.wr u)
  have s5 : (ByteArray.mk #[60, 100, 105, 118, 62]).size = 5 := rfl
  clear hT hr1 hr2 hcat
  generalize Sn.divL ++ Esc.wr u = pg at *
  generalize Esc.wr u = pw at *
  obtain ⟨n, hnu⟩ : ∃ n, u.length = n := ⟨_, rfl⟩
  have HNU : Hid (u.length = n) := hnu
  rw [hnu] at za h0 h1 hwl
  have hne : ((n : Int) == 0) = false := by simp; omega
  have hgt : decide (79 < (n : Int)) = false := by simp; omega
  clear hnu
  go_enter Tryz.func7, Tryz.ntmps7
  go_wp2_with fail
  refine (paged_any w H0.out.tz).mono ?_
  rintro e w1 ⟨rfl, hb⟩
  have H1 : Hid (Bu w w1) := H0.out.far hb
  clear hb H0
  go_wp2_with fail
  refine (CW.out _).mono ?_
  rintro e w2 ⟨rfl, rfl⟩
  obtain ⟨wc, capc, hV⟩ := cv_of w2 pw hf1
  have hcv := hV.run
  have H3 : Hid (Bu w wc) := H1.out.far hV.below
  have CZ : Hid (Calls Tryz.prog 12 #[.slice (some ⟨w2.heap.size, 0, none⟩) pw.length capc] wc fun e w' => (∃ ao' cap', e = .returned (.tuple #[.slice ao' (textD u).length cap', .int .i64 0]) ∧ Doc w' ao' (textD u).length cap' (textD u)) ∧ Below wc.heap.size wc w') := zread wc _ _ capc _ hV.byt H3.out.tz (textD u) hf1 HR1.out
  clear hV H1
  go_wp2_with fail
  refine CZ.out.mono ?_
  rintro e w3 ⟨⟨ao3, cap3, rfl, hD3⟩, hb⟩
  rw [textD_len, HNU.out] at hD3 ⊢
  have H4 : Hid (Bu w w3) := H3.out.far hb
  have D3 : Hid (Doc w3 ao3 (n + 1) cap3 (textD u)) := hD3
  clear hb hD3 hcv CZ H3
  go_wp2_with fail
  refine (CW.out _).mono ?_
  rintro e w4 ⟨rfl, rfl⟩
  obtain ⟨wc, capc, hV⟩ := cv_of w4 pg hf2
  have hcv := hV.run
  rw [← HCAT.out] at hcv
  have H5 : Hid (Bu w wc) := H4.out.far hV.below
  have D4 : Hid (Doc wc ao3 (n + 1) cap3 (textD u)) := D3.out.below hV.below
  have CZ : Hid (Calls Tryz.prog 12 #[.slice (some ⟨w4.heap.size, 0, none⟩) pg.length capc] wc fun e w' => (∃ ao' cap', e = .returned (.tuple #[.slice ao' (textD u).length cap', .int .i64 0]) ∧ Doc w' ao' (textD u).length cap' (textD u)) ∧ Below wc.heap.size wc w') := zread wc _ _ capc _ hV.byt H5.out.tz (textD u) hf2 HR2.out
  clear hV H4 D3
  go_wp2_with fail
  refine CZ.out.mono ?_
  rintro e w5 ⟨⟨ao5, cap5, rfl, hD5⟩, hb⟩
  rw [textD_len, HNU.out] at hD5 ⊢
  have H6 : Hid (Bu w w5) := H5.out.far hb
  have D5 : Hid (Doc w5 ao3 (n + 1) cap3 (textD u)) := D4.out.below hb
  have E5 : Hid (Doc w5 ao5 (n + 1) cap5 (textD u)) := hD5
  clear hb hD5 hcv CZ H5 D4
  go_wp2_with fail
  refine (same_any ao5 ao3 (n + 1) cap5 (n + 1) cap3 (textD u) (textD u) w5 E5.out D5.out).mono ?_
  rintro e wx ⟨rfl, m, rfl⟩
  rw [dsame_self]
  have hbd : Below w5.heap.size w5 (w5.drewN m) := Go.below_drewN (Below.refl _ _) m
  have H7 : Hid (Bu w (w5.drewN m)) := H6.out.far hbd
  have D7 : Hid (Doc (w5.drewN m) ao3 (n + 1) cap3 (textD u)) := D5.out.below hbd
  clear hbd H6 D5 E5
  generalize w5.drewN m = w7 at *
  have hroom := D7.out.room
  have hbig := D7.out.big
  obtain ⟨g, off, rfl, hA⟩ := D7.out.lies (by omega)
  have HA : Hid (At w7 g off (textD u)) := hA
  clear hA
  go_wp2
  go_loopw [59] (fun i wr => ∃ k : Nat, k ≤ n ∧ i = .int .i64 k ∧ Below w7.heap.size w7 wr) (fun i _ => n - (intOf i).toNat)
  case atStart => exact ⟨0, Nat.zero_le _, rfl, Below.refl _ _⟩
  case round =>
    obtain ⟨k, hk, rfl, hbw⟩ := hrel
    have HBW : Hid (Below w7.heap.size w7 wr) := hbw
    clear hbw
    by_cases hlt : k < n
    · have hku : k < u.length := by rw [HNU.out]; exact hlt
      obtain ⟨hc0, hc1, hc2⟩ := (HA.out.below HBW.out).get (textD_at u k hku)
      have hlt' : k < (B u).size := by rw [za]; exact hlt
      have hix := run_index_at (B u) k hlt'
      have hbk : (B u)[k]'hlt' = u[k] := by first | rfl | (show (B u).data[k] = _; simp [B]; rfl)
      rw [hbk] at hix
      have hlk : (B []).toList.isEmpty = true := Sn.empty_B
      have HA2 : Hid (Below w7.heap.size w7 (wr.alloc (.cells #[.int .u8 (Sn.chr u[k]).toNat, .int .i64 0, .string (B [])] 39))) := HBW.out.alloc HBW.out.size _
      have hcl := chr_lo u[k]
      generalize u[k] = c at *
      generalize Sn.chr c = c' at *
      simp only at hc0 hc1 hc2
      generalize B [] = lk at *
      clear hbk hlt'
      by_cases q1 : 32 ≤ c.toNat
      · by_cases q2 : c.toNat ≤ 126
        · have hcc : c' = c := hcl q1 q2
          have hne2 : ((c'.toNat : Int) != (c.toNat : Int)) = false := by rw [hcc]; simp
          have d1 : decide ((32 : Int) ≤ (c.toNat : Int)) = true := decide_eq_true (by omega)
          have d2 : decide ((c.toNat : Int) ≤ 126) = true := decide_eq_true (by omega)
          have d3 : decide ((32 : Nat) ≤ c.toNat) = true := decide_eq_true q1
          have d4 : decide (c.toNat ≤ 126) = true := decide_eq_true q2
          clear hcl hcc
          go_wp2
          go_quiet (fail)
          go_wp2
          go_roundw
          case rel => exact ⟨k + 1, by omega, by go_num, Go.below_drewN HA2.out _⟩
          case measure => simp [intOf]; omega
        · have d1 : decide ((32 : Int) ≤ (c.toNat : Int)) = true := decide_eq_true (by omega)
          have d2 : decide ((c.toNat : Int) ≤ 126) = false := decide_eq_false (by omega)
          have d3 : decide ((32 : Nat) ≤ c.toNat) = true := decide_eq_true q1
          have d4 : decide (c.toNat ≤ 126) = false := decide_eq_false q2
          clear hcl
          go_wp2
          go_quiet (fail)
          go_wp2
          go_roundw
          case rel => exact ⟨k + 1, by omega, by go_num, Go.below_drewN HA2.out _⟩
          case measure => simp [intOf]; omega
      · have d1 : decide ((32 : Int) ≤ (c.toNat : Int)) = false := decide_eq_false (by omega)
        have d3 : decide ((32 : Nat) ≤ c.toNat) = false := decide_eq_false q1
        clear hcl
        go_wp2
        go_quiet (fail)
        go_wp2
        go_roundw
        case rel => exact ⟨k + 1, by omega, by go_num, Go.below_drewN HA2.out _⟩
        case measure => simp [intOf]; omega
    · obtain rfl : k = n := by omega
      have ht := textD_end u
      rw [HNU.out] at ht
      obtain ⟨hc0, hc1, hc2⟩ := (HA.out.below HBW.out).get ht
      simp only at hc0 hc1 hc2
      have hnil : (B []).toList = [] := by rw [Lib.toList_data, B_data]
      have HE : Hid (Below w.heap.size w wr) := H7.out.below.trans (HBW.out.mono H7.out.below.size)
      clear ht
      go_wp2
      go_ret
      exact ⟨rfl, HE.out⟩

theorem text_law (u : List UInt8) (w : World) (hT : Tz w) : Calls Tryz.prog 7 #[.string (B u)] w fun e w' => e = .returned (.bool true) ∧ Below w.heap.size w w' := by
  by_cases h0 : u.length = 0
  · exact text_none u w hT h0
  by_cases h1 : 79 < u.length
  · exact text_long u w hT h0 h1
  exact text_short u w hT h0 h1
end Go.Proofs.YtpcaiechaakhnabGreatDoor
