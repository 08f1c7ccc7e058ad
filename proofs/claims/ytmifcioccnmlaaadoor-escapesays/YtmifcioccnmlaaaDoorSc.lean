/-
  link.smallLetters and link.Scheme at whatever text: the letters A to Z small, all else as it is; what stands ahead of the first colon.
-/
import Derived.Test.YtmifcioccnmlaaaDoorLp
import Derived.Lib.ConvBytes
import Derived.Laws.IdiomStrings
namespace Go.Proofs.YtmifcioccnmlaaaDoor
open Go.RowKit

theorem slice_to (s : ByteArray) (k : Nat) (h : k ≤ s.size) (w : World) : (Instr.slice 9 (.string s) none (some (.int .i64 k)) none).run Tryd.prog w = .ok (.string (B (s.data.toList.take k))) w := by
  have := run_slice_string_h (P := Tryd.prog) w 9 s Tryd.underlying9 .i64 (k : Int) (by omega) (by omega)
  rw [this, extract_B]
  simp
theorem slice_from (s : ByteArray) (k : Nat) (h : k ≤ s.size) (w : World) : (Instr.slice 9 (.string s) (some (.int .i64 k)) none none).run Tryd.prog w = .ok (.string (B (s.data.toList.drop k))) w := by
  have := run_slice_string_l (P := Tryd.prog) w 9 s Tryd.underlying9 .i64 (k : Int) (by omega) (by omega)
  rw [this, extract_B, List.take_of_length_le (by simp)]
  simp

/-- The text ahead of the first colon, what stands behind it, and whether there is one. -/
theorem lcut (s : ByteArray) (w : World) (hs : s.size ≤ 9223372036854775807) :
    Calls Tryd.prog 105 #[.string s, .string ⟨#[58]⟩] w fun e w' => (∃ t, e = .returned (.tuple #[.string (if s.data.toList.contains 58 then B (Lk.head s.data.toList) else s), .string t, .bool (s.data.toList.contains 58)])) ∧ ∃ n, w' = w.drewN n := by
  rcases Lk.idx_cases s.data.toList with hix | ⟨i, hix⟩
  · have hno := Lk.no_head _ hix
    rw [if_neg (by rw [hno]; exact Bool.false_ne_true), hno]
    go_enter Tryd.func105, Tryd.ntmps105
    go_wp2_with (go_at_call 96; refine (Tryd.stringslite_Index_one _ _ _).mono ?_; rintro e w' ⟨rfl, rfl⟩; rw [hix])
    go_ret3
    exact ⟨⟨_, rfl⟩, 0, rfl⟩
  · obtain ⟨h1, h2, h3⟩ := Lk.head_at _ i hix
    rw [len_list] at h1
    rw [if_pos h3, h3]
    have hs1 := slice_to s i (by omega)
    rw [h2] at hs1
    clear h2
    have hs2 := slice_from s (i + 1) (by omega)
    have c1 : (0 : Int) ≤ ↑i := by omega
    have hz : (ByteArray.mk #[58]).size = 1 := rfl
    have hcast : ((i + 1 : Nat) : Int) = (i : Int) + 1 := by omega
    rw [hcast] at hs2
    have hw : IntKind.i64.wrap ((i : Int) + 1) = (i : Int) + 1 := IntWalk.i64_in _ ⟨by omega, by omega⟩
    go_enter Tryd.func105, Tryd.ntmps105
    go_wp2_with (go_at_call 96; refine (Tryd.stringslite_Index_one _ _ _).mono ?_; rintro e w' ⟨rfl, rfl⟩; rw [hix])
    go_region
    go_wp2
    go_ret3
    exact ⟨⟨_, rfl⟩, 1, rfl⟩

theorem cut1 (s : ByteArray) (w : World) (hs : s.size ≤ 9223372036854775807) :
    Calls Tryd.prog 66 #[.string s, .string ⟨#[58]⟩] w fun e w' => (∃ t, e = .returned (.tuple #[.string (if s.data.toList.contains 58 then B (Lk.head s.data.toList) else s), .string t, .bool (s.data.toList.contains 58)])) ∧ Below w.heap.size w w' := by
  have H := lcut s w hs
  generalize (if s.data.toList.contains 58 = true then B (Lk.head s.data.toList) else s) = h at *
  generalize s.data.toList.contains 58 = f at *
  go_enter Tryd.func66, Tryd.ntmps66
  go_wp2_with fail
  refine H.mono ?_
  rintro e w1 ⟨⟨t, rfl⟩, n, rfl⟩
  go_wp2
  go_ret3
  exact ⟨⟨_, rfl⟩, ⟨rfl, rfl, rfl, Nat.le_refl _, fun _ _ => rfl⟩⟩

/-- In block b lie the bytes l, and may be written; below it all is as it was. -/
structure SBuf (b : Nat) (w wr : World) (l : List UInt8) : Prop where
  blk : ∃ cs f, wr.heap[b]? = some (.cells cs 5 (f, f + 1)) ∧ l.length ≤ f ∧ ∀ j (hj : j < l.length), cs[j]? = some (.int .u8 l[j].toNat)
  below : Below b w wr
theorem SBuf.start (w : World) (s : ByteArray) : SBuf w.heap.size w (Lib.bytesWorld w 5 s) s.data.toList := by
  refine ⟨⟨_, _, Lib.bytesWorld_at_new w 5 s, ?_, ?_⟩, ⟨rfl, rfl, rfl, by rw [Lib.bytesWorld_size]; omega, fun k hk => Lib.bytesWorld_at_old w 5 s k hk⟩⟩
  · simp [Lib.bytesCells]
  · intro j hj
    simp [Lib.bytesCells, Array.getElem?_append] at hj ⊢
    rw [if_pos (by simpa using hj), Array.getElem?_eq_getElem (by simpa using hj)]
    simp
theorem SBuf.cell {b : Nat} {w wr : World} {l : List UInt8} (h : SBuf b w wr l) (j : Nat) (hj : j < l.length) : wr.cell? ⟨b, j, none⟩ = some (.int .u8 l[j].toNat) := by
  obtain ⟨cs, f, hg, _, hc⟩ := h.blk
  simp [World.cell?, hg, hc j hj]
theorem SBuf.frozen {b : Nat} {w wr : World} {l : List UInt8} (h : SBuf b w wr l) (j : Nat) (hj : j < l.length) : wr.frozen? ⟨b, j, none⟩ = false := by
  obtain ⟨cs, f, hg, hf, hc⟩ := h.blk
  simp [World.frozen?, hg]
  omega
theorem SBuf.set {b : Nat} {w wr : World} {l : List UInt8} (h : SBuf b w wr l) (j : Nat) (c : UInt8) : SBuf b w (wr.setCell ⟨b, j, none⟩ (.int .u8 c.toNat)) (l.set j c) := by
  obtain ⟨cs, f, hg, hf, hc⟩ := h.blk
  obtain ⟨hlt, he⟩ := Array.getElem?_eq_some_iff.1 hg
  refine ⟨⟨cs.set! j (.int .u8 c.toNat), f, ?_, by simpa using hf, ?_⟩, h.below.setCell (Nat.le_refl _) _⟩
  · simp [World.setCell, hlt, Array.getElem_modify, he]
  · intro i hi
    have hi' : i < l.length := by simpa using hi
    by_cases hji : j = i
    · subst hji
      have := hc j hi'
      have hsz : j < cs.size := (Array.getElem?_eq_some_iff.1 this).1
      simp [hsz]
    · rw [List.getElem_set_ne hji]
      have := hc i hi'
      simp [Array.getElem?_setIfInBounds_ne hji, this]

/-- The first k letters small. -/
def smP (l : List UInt8) (k : Nat) : List UInt8 := Lk.small (l.take k) ++ l.drop k
theorem smP_zero (l : List UInt8) : smP l 0 = l := by simp [smP, Lk.small]
theorem smP_all (l : List UInt8) (k : Nat) (h : l.length ≤ k) : smP l k = Lk.small l := by
  unfold smP
  rw [List.take_of_length_le h, List.drop_of_length_le h]
  simp
theorem smP_len (l : List UInt8) (k : Nat) : (smP l k).length = l.length := by
  simp [smP, Lk.small]
  omega
theorem smP_at (l : List UInt8) (k : Nat) (h : k < l.length) : (smP l k)[k]'(by rw [smP_len]; exact h) = l[k] := by
  unfold smP
  rw [List.getElem_append_right (by simp [Lk.small]; omega)]
  simp [Lk.small, Nat.min_eq_left (Nat.le_of_lt h)]
theorem smP_succ (l : List UInt8) (k : Nat) (h : k < l.length) : smP l (k + 1) = (smP l k).set k (Lk.small1 l[k]) := by
  unfold smP
  rw [List.take_succ_eq_append_getElem h, Lk.small, List.map_append, List.set_append_right _ _ (by simp [Lk.small]; omega)]
  have hd : l.drop k = l[k] :: l.drop (k + 1) := List.drop_eq_getElem_cons h
  simp [Lk.small, Nat.min_eq_left (Nat.le_of_lt h)]
  rw [hd]
  rfl
theorem smP_same (l : List UInt8) (k : Nat) (h : k < l.length) (hc : Lk.small1 l[k] = l[k]) : smP l (k + 1) = smP l k := by
  rw [smP_succ l k h, hc, ← smP_at l k h, List.set_getElem_self]

set_option maxRecDepth 100000 in
set_option maxHeartbeats 1600000 in
theorem small_any (s : ByteArray) (w : World) (hs : s.size ≤ 9223372036854775807) :
    Calls Tryd.prog 67 #[.string s] w fun e w' => e = .returned (.string (B (Lk.small s.data.toList))) ∧ Below w.heap.size w w' := by
  obtain ⟨sm, hsm⟩ : ∃ sm, Lk.small s.data.toList = sm := ⟨_, rfl⟩
  rw [hsm]
  have HM : Hid (Lk.small s.data.toList = sm) := hsm
  clear hsm
  have hcv := Lib.run_convert_string_bytes (P := Tryd.prog) w 9 52 5 s Tryd.underlying9 Tryd.underlying52 Tryd.underlying5
  have HS : Hid (SBuf w.heap.size w (Lib.bytesWorld w 5 s) (smP s.data.toList 0)) := by rw [smP_zero]; exact SBuf.start w s
  generalize Lib.bytesWorld w 5 s = w0 at *
  generalize grownCap w s.size 0 5 = cap at *
  go_enter Tryd.func67, Tryd.ntmps67
  go_wp2
  go_loopw [10] (fun i wr => ∃ k : Nat, k ≤ s.size ∧ i = .int .i64 k ∧ SBuf w.heap.size w wr (smP s.data.toList k)) (fun i _ => s.size - (intOf i).toNat)
  case atStart => exact ⟨0, Nat.zero_le _, rfl, HS.out⟩
  case round =>
    obtain ⟨k, hk, rfl, hob⟩ := hrel
    have HB : Hid (SBuf w.heap.size w wr (smP s.data.toList k)) := hob
    clear hob hcv
    by_cases hlt : k < s.size
    · have hkl : k < s.data.toList.length := by rw [len_list]; exact hlt
      have hkp : k < (smP s.data.toList k).length := by rw [smP_len]; exact hkl
      obtain ⟨c, hc⟩ : ∃ c : UInt8, s.data.toList[k] = c := ⟨_, rfl⟩
      have hcell := HB.out.cell k hkp
      rw [smP_at _ _ hkl, hc] at hcell
      have hfz := HB.out.frozen k hkp
      have H1 : Hid (Lk.small1 c = c → SBuf w.heap.size w wr (smP s.data.toList (k + 1))) := fun h => by rw [smP_same _ _ hkl (by rw [hc]; exact h)]; exact HB.out
      have H2 : Hid (SBuf w.heap.size w (wr.setCell ⟨w.heap.size, k, none⟩ (.int .u8 (Lk.small1 c).toNat)) (smP s.data.toList (k + 1))) := by
        rw [smP_succ _ _ hkl, hc]; exact HB.out.set k _
      clear hc hkp hkl
      by_cases hA : 65 ≤ c.toNat
      · by_cases hZ : c.toNat ≤ 90
        · have hcc : (Lk.small1 c).toNat = c.toNat + 32 := by
            unfold Lk.small1
            rw [if_pos ⟨by rw [UInt8.le_iff_toNat_le]; exact hA, by rw [UInt8.le_iff_toNat_le]; exact hZ⟩]
            rw [UInt8.toNat_add]
            show (c.toNat + 32) % 256 = _
            omega
          go_wp2
          go_roundw
          case rel =>
            refine ⟨k + 1, by omega, by go_num, ?_⟩
            have := H2.out
            rw [hcc] at this
            rw [show ((c.toNat : Int) - 65 + 97) = ((c.toNat + 32 : Nat) : Int) by omega]
            exact this
          case measure => simp [intOf]; omega
        · have hcc : Lk.small1 c = c := by
            unfold Lk.small1
            rw [if_neg (fun h => hZ (by have := h.2; rw [UInt8.le_iff_toNat_le] at this; exact this))]
          go_wp2
          go_roundw
          case rel => exact ⟨k + 1, by omega, by go_num, H1.out hcc⟩
          case measure => simp [intOf]; omega
      · have hcc : Lk.small1 c = c := by
          unfold Lk.small1
          rw [if_neg (fun h => hA (by have := h.1; rw [UInt8.le_iff_toNat_le] at this; exact this))]
        go_wp2
        go_roundw
        case rel => exact ⟨k + 1, by omega, by go_num, H1.out hcc⟩
        case measure => simp [intOf]; omega
    · have hsz : (smP s.data.toList k) = Lk.small s.data.toList := smP_all _ _ (by rw [len_list]; omega)
      have H3 : Hid (SBuf w.heap.size w wr (Lk.small s.data.toList)) := by rw [← hsz]; exact HB.out
      have hcb := run_convert_bytes_back (P := Tryd.prog) wr 52 9 5 ⟨w.heap.size, 0, none⟩ cap (Lk.small s.data.toList) Tryd.underlying52 Tryd.underlying5 Tryd.underlying9 (fun j hj => by
        rw [show (⟨w.heap.size, 0, none⟩ : Addr).add j = ⟨w.heap.size, j, none⟩ by cases j <;> simp [Addr.add]]
        exact H3.out.cell j hj)
      rw [Lk.small_len, len_list] at hcb
      change _ = Result.ok (Value.string (B (Lk.small s.data.toList))) _ at hcb
      rw [HM.out] at hcb
      clear hsz
      go_wp2
      go_ret
      exact ⟨rfl, H3.out.below⟩

theorem path_ascii : Ascii ⟨#[47, 63, 35]⟩ := by
  intro j b h
  match j, h with
  | 0, h => cases h; decide
  | 1, h => cases h; decide
  | 2, h => cases h; decide
  | j + 3, h => simp at h

set_option maxRecDepth 100000 in
set_option maxHeartbeats 800000 in
theorem scheme_any (s : ByteArray) (w : World) (hs : s.size ≤ 9223372036854775807) :
    Calls Tryd.prog 25 #[.string s] w fun e w' => e = .returned (.string (B (Lk.scheme s.data.toList))) ∧ Below w.heap.size w w' := by
  have hc := cut1 s w hs
  have hhl := Lk.head_len s.data.toList
  rw [len_list] at hhl
  have hsz : (B (Lk.head s.data.toList)).size ≤ 9223372036854775807 := by rw [B_size]; omega
  cases hf : s.data.toList.contains 58
  · have hsch : Lk.scheme s.data.toList = [] := by unfold Lk.scheme; rw [hf]; rfl
    rw [hsch]
    rw [hf, if_neg Bool.false_ne_true] at hc
    have HC : Hid (Calls Tryd.prog 66 #[.string s, .string ⟨#[58]⟩] w fun e w' => (∃ t, e = .returned (.tuple #[.string s, .string t, .bool false])) ∧ Below w.heap.size w w') := hc
    clear hc
    clear hsch
    go_enter Tryd.func25, Tryd.ntmps25
    go_wp2_with fail
    refine HC.out.mono ?_
    rintro e w1 ⟨⟨t, rfl⟩, hb1⟩
    have H1 : Hid (Below w.heap.size w w1) := hb1
    clear hb1
    go_wp2
    go_ret
    exact ⟨rfl, H1.out⟩
  · rw [hf, if_pos rfl] at hc
    have HC : Hid (Calls Tryd.prog 66 #[.string s, .string ⟨#[58]⟩] w fun e w' => (∃ t, e = .returned (.tuple #[.string (B (Lk.head s.data.toList)), .string t, .bool true])) ∧ Below w.heap.size w w') := hc
    clear hc
    cases hca : Lib.containsAny (Lk.head s.data.toList) Lk.path
    · have hsch : Lk.scheme s.data.toList = Lk.small (Lk.head s.data.toList) := by unfold Lk.scheme; rw [hf, hca]; rfl
      rw [hsch]
      have HA : Hid (∀ w, Calls Tryd.prog 19 #[.string (B (Lk.head s.data.toList)), .string ⟨#[47, 63, 35]⟩] w fun e w' => e = .returned (.bool false) ∧ Below w.heap.size w w') := fun w => ca_any _ _ w false (by decide) (by decide) hsz path_ascii hca
      have HS : Hid (∀ w, Calls Tryd.prog 67 #[.string (B (Lk.head s.data.toList))] w fun e w' => e = .returned (.string (B (Lk.small (Lk.head s.data.toList)))) ∧ Below w.heap.size w w') := fun w => small_any _ w hsz
      clear hsch hca hf hhl hsz
      generalize B (Lk.head s.data.toList) = h at *
      generalize B (Lk.small (Lk.head s.data.toList)) = r at *
      go_enter Tryd.func25, Tryd.ntmps25
      go_wp2_with fail
      refine HC.out.mono ?_
      rintro e w1 ⟨⟨t, rfl⟩, hb1⟩
      have H1 : Hid (Below w.heap.size w w1) := hb1
      clear hb1
      go_wp2_with fail
      refine (HA.out _).mono ?_
      rintro e w2 ⟨rfl, hb2⟩
      have H2 : Hid (Below w.heap.size w w2) := H1.out.trans (hb2.mono H1.out.size)
      clear hb2
      go_wp2_with fail
      refine (HS.out _).mono ?_
      rintro e w3 ⟨rfl, hb3⟩
      have H3 : Hid (Below w.heap.size w w3) := H2.out.trans (hb3.mono H2.out.size)
      clear hb3
      go_wp2
      go_ret
      exact ⟨rfl, H3.out⟩
    · have hsch : Lk.scheme s.data.toList = [] := by unfold Lk.scheme; rw [hf, hca]; rfl
      rw [hsch]
      have HA : Hid (∀ w, Calls Tryd.prog 19 #[.string (B (Lk.head s.data.toList)), .string ⟨#[47, 63, 35]⟩] w fun e w' => e = .returned (.bool true) ∧ Below w.heap.size w w') := fun w => ca_any _ _ w true (by decide) (by decide) hsz path_ascii hca
      clear hsch hca hf hhl hsz
      generalize B (Lk.head s.data.toList) = h at *
      go_enter Tryd.func25, Tryd.ntmps25
      go_wp2_with fail
      refine HC.out.mono ?_
      rintro e w1 ⟨⟨t, rfl⟩, hb1⟩
      have H1 : Hid (Below w.heap.size w w1) := hb1
      clear hb1
      go_wp2_with fail
      refine (HA.out _).mono ?_
      rintro e w2 ⟨rfl, hb2⟩
      have H2 : Hid (Below w.heap.size w w2) := H1.out.trans (hb2.mono H1.out.size)
      clear hb2
      go_wp2
      go_ret
      exact ⟨rfl, H2.out⟩
end Go.Proofs.YtmifcioccnmlaaaDoor
