/-
  link.smallLetters and link.Scheme at whatever text: the letters A to Z small, all else as it is; what stands ahead of the first colon.
-/
import Derived.Test.YtgidmnoinbbajaaDoorS0
import Derived.Test.YtgidmnoinbbajaaDoorAny3
namespace Go.Proofs.YtgidmnoinbbajaaDoor
open Go.RowKit

/-- The text ahead of the first colon, what stands behind it, and whether there is one. -/
theorem lcut (s : ByteArray) (w : World) (hs : s.size ≤ 9223372036854775807) :
    Calls Tryd.prog 107 #[.string s, .string ⟨#[58]⟩] w fun e w' => (∃ t, e = .returned (.tuple #[.string (if s.data.toList.contains 58 then B (Lk.head s.data.toList) else s), .string t, .bool (s.data.toList.contains 58)])) ∧ ∃ n, w' = w.drewN n := by
  rcases Lk.idx_cases s.data.toList with hix | ⟨i, hix⟩
  · have hno := Lk.no_head _ hix
    rw [if_neg (by rw [hno]; exact Bool.false_ne_true), hno]
    go_enter Tryd.func107, Tryd.ntmps107
    go_wp2_with (go_at_call 96; refine (Tryd.stringslite_Index_one _ _ _).mono ?_; rintro e w' ⟨rfl, rfl⟩; rw [hix])
    go_ret3
    exact ⟨⟨_, rfl⟩, 0, rfl⟩
  · obtain ⟨h1, h2, h3⟩ := Lk.head_at _ i hix
    rw [len_list] at h1
    rw [if_pos h3, h3]
    have hs1 := slice_to s i (by omega)
    rw [h2] at hs1
    clear h2
    have hs2 := slice_from s (i + 1) (by omega)
    have c1 : (0 : Int) ≤ ↑i := by omega
    have hz : (ByteArray.mk #[58]).size = 1 := rfl
    have hcast : ((i + 1 : Nat) : Int) = (i : Int) + 1 := by omega
    rw [hcast] at hs2
    have hw : IntKind.i64.wrap ((i : Int) + 1) = (i : Int) + 1 := IntWalk.i64_in _ ⟨by omega, by omega⟩
    go_enter Tryd.func107, Tryd.ntmps107
    go_wp2_with (go_at_call 96; refine (Tryd.stringslite_Index_one _ _ _).mono ?_; rintro e w' ⟨rfl, rfl⟩; rw [hix])
    go_region
    go_wp2
    go_ret3
    exact ⟨⟨_, rfl⟩, 1, rfl⟩

theorem cut1 (s : ByteArray) (w : World) (hs : s.size ≤ 9223372036854775807) :
    Calls Tryd.prog 98 #[.string s, .string ⟨#[58]⟩] w fun e w' => (∃ t, e = .returned (.tuple #[.string (if s.data.toList.contains 58 then B (Lk.head s.data.toList) else s), .string t, .bool (s.data.toList.contains 58)])) ∧ Below w.heap.size w w' := by
  have H := lcut s w hs
  generalize (if s.data.toList.contains 58 = true then B (Lk.head s.data.toList) else s) = h at *
  generalize s.data.toList.contains 58 = f at *
  go_enter Tryd.func98, Tryd.ntmps98
  go_wp2_with fail
  refine H.mono ?_
  rintro e w1 ⟨⟨t, rfl⟩, n, rfl⟩
  go_wp2
  go_ret3
  exact ⟨⟨_, rfl⟩, ⟨rfl, rfl, rfl, Nat.le_refl _, fun _ _ => rfl⟩⟩

set_option maxRecDepth 100000 in
set_option maxHeartbeats 1600000 in
theorem small_any (s : ByteArray) (w : World) (hs : s.size ≤ 9223372036854775807) :
    Calls Tryd.prog 99 #[.string s] w fun e w' => e = .returned (.string (B (Lk.small s.data.toList))) ∧ Below w.heap.size w w' := by
  obtain ⟨sm, hsm⟩ : ∃ sm, Lk.small s.data.toList = sm := ⟨_, rfl⟩
  rw [hsm]
  have HM : Hid (Lk.small s.data.toList = sm) := hsm
  clear hsm
  have hcv := Lib.run_convert_string_bytes (P := Tryd.prog) w 9 119 5 s Tryd.underlying9 Tryd.underlying119 Tryd.underlying5
  have HS : Hid (SBuf w.heap.size w (Lib.bytesWorld w 5 s) (smP s.data.toList 0)) := by rw [smP_zero]; exact SBuf.start w s
  generalize Lib.bytesWorld w 5 s = w0 at *
  generalize grownCap w s.size 0 5 = cap at *
  go_enter Tryd.func99, Tryd.ntmps99
  go_wp2
  go_loopw [10] (fun i wr => ∃ k : Nat, k ≤ s.size ∧ i = .int .i64 k ∧ SBuf w.heap.size w wr (smP s.data.toList k)) (fun i _ => s.size - (intOf i).toNat)
  case atStart => exact ⟨0, Nat.zero_le _, rfl, HS.out⟩
  case round =>
    obtain ⟨k, hk, rfl, hob⟩ := hrel
    have HB : Hid (SBuf w.heap.size w wr (smP s.data.toList k)) := hob
    clear hob hcv
    by_cases hlt : k < s.size
    · have hkl : k < s.data.toList.length := by rw [len_list]; exact hlt
      have hkp : k < (smP s.data.toList k).length := by rw [smP_len]; exact hkl
      obtain ⟨c, hc⟩ : ∃ c : UInt8, s.data.toList[k] = c := ⟨_, rfl⟩
      have hcell := HB.out.cell k hkp
      rw [smP_at _ _ hkl, hc] at hcell
      have hfz := HB.out.frozen k hkp
      have H1 : Hid (Lk.small1 c = c → SBuf w.heap.size w wr (smP s.data.toList (k + 1))) := fun h => by rw [smP_same _ _ hkl (by rw [hc]; exact h)]; exact HB.out
      have H2 : Hid (SBuf w.heap.size w (wr.setCell ⟨w.heap.size, k, none⟩ (.int .u8 (Lk.small1 c).toNat)) (smP s.data.toList (k + 1))) := by
        rw [smP_succ _ _ hkl, hc]; exact HB.out.set k _
      clear hc hkp hkl
      by_cases hA : 65 ≤ c.toNat
      · by_cases hZ : c.toNat ≤ 90
        · have hcc : (Lk.small1 c).toNat = c.toNat + 32 := by
            unfold Lk.small1
            rw [if_pos ⟨by rw [UInt8.le_iff_toNat_le]; exact hA, by rw [UInt8.le_iff_toNat_le]; exact hZ⟩]
            rw [UInt8.toNat_add]
            show (c.toNat + 32) % 256 = _
            omega
          go_wp2
          go_roundw
          case rel =>
            refine ⟨k + 1, by omega, by go_num, ?_⟩
            have := H2.out
            rw [hcc] at this
            rw [show ((c.toNat : Int) - 65 + 97) = ((c.toNat + 32 : Nat) : Int) by omega]
            exact this
          case measure => simp [intOf]; omega
        · have hcc : Lk.small1 c = c := by
            unfold Lk.small1
            rw [if_neg (fun h => hZ (by have := h.2; rw [UInt8.le_iff_toNat_le] at this; exact this))]
          go_wp2
          go_roundw
          case rel => exact ⟨k + 1, by omega, by go_num, H1.out hcc⟩
          case measure => simp [intOf]; omega
      · have hcc : Lk.small1 c = c := by
          unfold Lk.small1
          rw [if_neg (fun h => hA (by have := h.1; rw [UInt8.le_iff_toNat_le] at this; exact this))]
        go_wp2
        go_roundw
        case rel => exact ⟨k + 1, by omega, by go_num, H1.out hcc⟩
        case measure => simp [intOf]; omega
    · have hsz : (smP s.data.toList k) = Lk.small s.data.toList := smP_all _ _ (by rw [len_list]; omega)
      have H3 : Hid (SBuf w.heap.size w wr (Lk.small s.data.toList)) := by rw [← hsz]; exact HB.out
      have hcb := run_convert_bytes_back (P := Tryd.prog) wr 119 9 5 ⟨w.heap.size, 0, none⟩ cap (Lk.small s.data.toList) Tryd.underlying119 Tryd.underlying5 Tryd.underlying9 (fun j hj => by
        rw [show (⟨w.heap.size, 0, none⟩ : Addr).add j = ⟨w.heap.size, j, none⟩ by cases j <;> simp [Addr.add]]
        exact H3.out.cell j hj)
      rw [Lk.small_len, len_list] at hcb
      change _ = Result.ok (Value.string (B (Lk.small s.data.toList))) _ at hcb
      rw [HM.out] at hcb
      clear hsz
      go_wp2
      go_ret
      exact ⟨rfl, H3.out.below⟩

theorem path_ascii : Ascii ⟨#[47, 63, 35]⟩ := by
  intro j b h
  match j, h with
  | 0, h => cases h; decide
  | 1, h => cases h; decide
  | 2, h => cases h; decide
  | j + 3, h => simp at h

set_option maxRecDepth 100000 in
set_option maxHeartbeats 800000 in
theorem scheme_any (s : ByteArray) (w : World) (hs : s.size ≤ 9223372036854775807) :
    Calls Tryd.prog 93 #[.string s] w fun e w' => e = .returned (.string (B (Lk.scheme s.data.toList))) ∧ Below w.heap.size w w' := by
  have hc := cut1 s w hs
  have hhl := Lk.head_len s.data.toList
  rw [len_list] at hhl
  have hsz : (B (Lk.head s.data.toList)).size ≤ 9223372036854775807 := by rw [B_size]; omega
  cases hf : s.data.toList.contains 58
  · have hsch : Lk.scheme s.data.toList = [] := by unfold Lk.scheme; rw [hf]; rfl
    rw [hsch]
    rw [hf, if_neg Bool.false_ne_true] at hc
    have HC : Hid (Calls Tryd.prog 98 #[.string s, .string ⟨#[58]⟩] w fun e w' => (∃ t, e = .returned (.tuple #[.string s, .string t, .bool false])) ∧ Below w.heap.size w w') := hc
    clear hc
    clear hsch
    go_enter Tryd.func93, Tryd.ntmps93
    go_wp2_with fail
    refine HC.out.mono ?_
    rintro e w1 ⟨⟨t, rfl⟩, hb1⟩
    have H1 : Hid (Below w.heap.size w w1) := hb1
    clear hb1
    go_wp2
    go_ret
    exact ⟨rfl, H1.out⟩
  · rw [hf, if_pos rfl] at hc
    have HC : Hid (Calls Tryd.prog 98 #[.string s, .string ⟨#[58]⟩] w fun e w' => (∃ t, e = .returned (.tuple #[.string (B (Lk.head s.data.toList)), .string t, .bool true])) ∧ Below w.heap.size w w') := hc
    clear hc
    cases hca : Lib.containsAny (Lk.head s.data.toList) Lk.path
    · have hsch : Lk.scheme s.data.toList = Lk.small (Lk.head s.data.toList) := by unfold Lk.scheme; rw [hf, hca]; rfl
      rw [hsch]
      have HA : Hid (∀ w, Calls Tryd.prog 89 #[.string (B (Lk.head s.data.toList)), .string ⟨#[47, 63, 35]⟩] w fun e w' => e = .returned (.bool false) ∧ Below w.heap.size w w') := fun w => ca_any _ _ w false (by decide) (by decide) hsz path_ascii hca
      have HS : Hid (∀ w, Calls Tryd.prog 99 #[.string (B (Lk.head s.data.toList))] w fun e w' => e = .returned (.string (B (Lk.small (Lk.head s.data.toList)))) ∧ Below w.heap.size w w') := fun w => small_any _ w hsz
      clear hsch hca hf hhl hsz
      generalize B (Lk.head s.data.toList) = h at *
      generalize B (Lk.small (Lk.head s.data.toList)) = r at *
      go_enter Tryd.func93, Tryd.ntmps93
      go_wp2_with fail
      refine HC.out.mono ?_
      rintro e w1 ⟨⟨t, rfl⟩, hb1⟩
      have H1 : Hid (Below w.heap.size w w1) := hb1
      clear hb1
      go_wp2_with fail
      refine (HA.out _).mono ?_
      rintro e w2 ⟨rfl, hb2⟩
      have H2 : Hid (Below w.heap.size w w2) := H1.out.trans (hb2.mono H1.out.size)
      clear hb2
      go_wp2_with fail
      refine (HS.out _).mono ?_
      rintro e w3 ⟨rfl, hb3⟩
      have H3 : Hid (Below w.heap.size w w3) := H2.out.trans (hb3.mono H2.out.size)
      clear hb3
      go_wp2
      go_ret
      exact ⟨rfl, H3.out⟩
    · have hsch : Lk.scheme s.data.toList = [] := by unfold Lk.scheme; rw [hf, hca]; rfl
      rw [hsch]
      have HA : Hid (∀ w, Calls Tryd.prog 89 #[.string (B (Lk.head s.data.toList)), .string ⟨#[47, 63, 35]⟩] w fun e w' => e = .returned (.bool true) ∧ Below w.heap.size w w') := fun w => ca_any _ _ w true (by decide) (by decide) hsz path_ascii hca
      clear hsch hca hf hhl hsz
      generalize B (Lk.head s.data.toList) = h at *
      go_enter Tryd.func93, Tryd.ntmps93
      go_wp2_with fail
      refine HC.out.mono ?_
      rintro e w1 ⟨⟨t, rfl⟩, hb1⟩
      have H1 : Hid (Below w.heap.size w w1) := hb1
      clear hb1
      go_wp2_with fail
      refine (HA.out _).mono ?_
      rintro e w2 ⟨rfl, hb2⟩
      have H2 : Hid (Below w.heap.size w w2) := H1.out.trans (hb2.mono H1.out.size)
      clear hb2
      go_wp2
      go_ret
      exact ⟨rfl, H2.out⟩
end Go.Proofs.YtgidmnoinbbajaaDoor
