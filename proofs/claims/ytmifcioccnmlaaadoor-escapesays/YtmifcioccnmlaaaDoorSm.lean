/-
  The reference's Small and SchemeOf: as link.smallLetters and link.Scheme have it.
-/
import Derived.Test.YtmifcioccnmlaaaDoorSc
namespace Go.Proofs.YtmifcioccnmlaaaDoor
open Go.RowKit

def upper : List UInt8 := [65, 66, 67, 68, 69, 70, 71, 72, 73, 74, 75, 76, 77, 78, 79, 80, 81, 82, 83, 84, 85, 86, 87, 88, 89, 90]
def lower : ByteArray := ⟨#[97, 98, 99, 100, 101, 102, 103, 104, 105, 106, 107, 108, 109, 110, 111, 112, 113, 114, 115, 116, 117, 118, 119, 120, 121, 122]⟩
theorem up_idx (c : UInt8) : Lib.indexByte upper c = if 65 ≤ c.toNat ∧ c.toNat ≤ 90 then (c.toNat : Int) - 65 else -1 := by
  have h : ∀ n : Fin 256, Lib.indexByte upper (UInt8.ofNat n.val) = if 65 ≤ n.val ∧ n.val ≤ 90 then (n.val : Int) - 65 else -1 := by decide +kernel
  have := h ⟨c.toNat, c.toNat_lt⟩
  simpa using this
theorem small_toNat (c : UInt8) (hA : 65 ≤ c.toNat) (hZ : c.toNat ≤ 90) : (Lk.small1 c).toNat = c.toNat + 32 := by
  unfold Lk.small1
  rw [if_pos ⟨by rw [UInt8.le_iff_toNat_le]; exact hA, by rw [UInt8.le_iff_toNat_le]; exact hZ⟩]
  rw [UInt8.toNat_add]
  show (c.toNat + 32) % 256 = _
  omega
theorem small_not (c : UInt8) (h : ¬ (65 ≤ c.toNat ∧ c.toNat ≤ 90)) : Lk.small1 c = c := by
  unfold Lk.small1
  rw [if_neg (fun hh => h ⟨by have := hh.1; rw [UInt8.le_iff_toNat_le] at this; exact this, by have := hh.2; rw [UInt8.le_iff_toNat_le] at this; exact this⟩)]
theorem low_all : ∀ n : Fin 26, (lower.data.toList[n.val]?).map (fun b => b.toNat) = some (n.val + 97) := by decide +kernel
theorem low_at (c : UInt8) (hA : 65 ≤ c.toNat) (hZ : c.toNat ≤ 90) (w : World) : (Instr.index 9 (.string lower) (.int .i64 ((c.toNat : Int) - 65))).run Tryd.prog w = .ok (.int .u8 (Lk.small1 c).toNat) w := by
  have hsz : lower.size = 26 := rfl
  have hk : c.toNat - 65 < lower.size := by omega
  have h := run_index_at lower (c.toNat - 65) hk w
  rw [show ((c.toNat - 65 : Nat) : Int) = (c.toNat : Int) - 65 by omega] at h
  rw [h]
  have ha := low_all ⟨c.toNat - 65, by omega⟩
  have hd := Lib.data_getElem? lower (c.toNat - 65) hk
  simp only [hd, Option.map_some, Option.some.injEq] at ha
  rw [ha, small_toNat c hA hZ, show c.toNat - 65 + 97 = c.toNat + 32 by omega]

/-- The first k letters small, alone. -/
def smQ (s : ByteArray) (k : Nat) : ByteArray := B (Lk.small (s.data.toList.take k))
theorem smQ_zero (s : ByteArray) : smQ s 0 = ⟨#[]⟩ := by simp [smQ, Lk.small, B]
theorem smQ_all (s : ByteArray) (k : Nat) (h : s.size ≤ k) : smQ s k = B (Lk.small s.data.toList) := by
  unfold smQ
  rw [List.take_of_length_le (by rw [len_list]; exact h)]
theorem smQ_size (s : ByteArray) (k : Nat) : (smQ s k).size ≤ k := by
  rw [smQ, B_size, Lk.small_len]
  exact List.length_take_le _ _
theorem smQ_succ (s : ByteArray) (k : Nat) (h : k < s.size) : smQ s (k + 1) = smQ s k ++ ⟨#[Lk.small1 (s[k]'h)]⟩ := by
  apply ext_list
  have hk : k < s.data.toList.length := by rw [len_list]; exact h
  rw [ByteArray.data_append, Array.toList_append]
  show Lk.small (s.data.toList.take (k + 1)) = Lk.small (s.data.toList.take k) ++ [Lk.small1 (s[k]'h)]
  rw [List.take_succ_eq_append_getElem hk, Lk.small, List.map_append]
  rfl

set_option maxRecDepth 100000 in
set_option maxHeartbeats 1600000 in
theorem Small_any (s : ByteArray) (w : World) (hs : s.size ≤ 9223372036854775807) :
    Calls Tryd.prog 68 #[.string s] w fun e w' => e = .returned (.string (B (Lk.small s.data.toList))) ∧ Below w.heap.size w w' := by
  have hz1 : ∀ c : UInt8, (ByteArray.mk #[c]).size = 1 := fun _ => rfl
  go_enter Tryd.func68, Tryd.ntmps68
  go_wp2
  go_loopw [3, 9] (fun o i wr => ∃ k : Nat, k ≤ s.size ∧ i = .int .i64 k ∧ o = .string (smQ s k) ∧ Below w.heap.size w wr) (fun _ i _ => s.size - (intOf i).toNat)
  case atStart => exact ⟨0, Nat.zero_le _, rfl, by rw [smQ_zero], Below.refl _ _⟩
  case round =>
    obtain ⟨k, hk, rfl, rfl, hb⟩ := hrel
    have HB : Hid (Below w.heap.size w wr) := hb
    clear hb
    have hz := smQ_size s k
    by_cases hlt : k < s.size
    · obtain ⟨c, hc⟩ : ∃ c : UInt8, s[k]'hlt = c := ⟨_, rfl⟩
      have hix := run_index_at s k hlt
      rw [hc] at hix
      have HS : Hid (smQ s (k + 1) = smQ s k ++ ⟨#[Lk.small1 c]⟩) := by show _ = _; rw [smQ_succ s k hlt, hc]
      clear hc
      have hback : ((c.toNat : Int)).toNat.toUInt8 = c := by simp
      have hI := fun w => Tryd.strings_IndexByte ⟨upper.toArray⟩ (c.toNat : Int) w
      rw [hback] at hI
      change ∀ w, Calls Tryd.prog 65 _ w fun e w' => e = .returned (.int .i64 (Lib.indexByte upper c)) ∧ w' = w at hI
      rw [up_idx] at hI
      have hcb : ∀ (d : UInt8) (wx : World), (convert 52 9 (.slice (some ⟨wx.heap.size, 0, none⟩) 1 1)).run Tryd.prog (wx.alloc (.cells #[.int .u8 d.toNat] 5)) = .ok (.string ⟨#[d]⟩) (wx.alloc (.cells #[.int .u8 d.toNat] 5)) := fun d wx => by
        have := run_convert_bytes_back (P := Tryd.prog) (wx.alloc (.cells #[.int .u8 d.toNat] 5)) 52 9 5 ⟨wx.heap.size, 0, none⟩ 1 [d] Tryd.underlying52 Tryd.underlying5 Tryd.underlying9 (fun j hj => by
          simp at hj
          subst hj
          simp [Addr.add])
        exact this
      by_cases hA : 65 ≤ c.toNat ∧ c.toNat ≤ 90
      · rw [if_pos hA] at hI
        have HI : Hid (∀ w, Calls Tryd.prog 65 #[.string ⟨upper.toArray⟩, .int .u8 c.toNat] w fun e w' => e = .returned (.int .i64 ((c.toNat : Int) - 65)) ∧ w' = w) := hI
        clear hI
        have hlow := low_at c hA.1 hA.2
        have hge : (0 : Int) ≤ (c.toNat : Int) - 65 := by omega
        have hcb1 := hcb (Lk.small1 c)
        unfold lower at hlow
        generalize Lk.small1 c = d at *
        go_wp2_with fail
        refine (HI.out _).mono ?_
        rintro e w' ⟨rfl, hw⟩
        rw [hw]
        go_wp2
        go_roundw
        case rel => exact ⟨k + 1, by omega, by go_num, by rw [HS.out], HB.out.alloc HB.out.size _⟩
        case measure => simp [intOf]; omega
      · rw [if_neg hA] at hI
        have HI : Hid (∀ w, Calls Tryd.prog 65 #[.string ⟨upper.toArray⟩, .int .u8 c.toNat] w fun e w' => e = .returned (.int .i64 (-1)) ∧ w' = w) := hI
        clear hI
        have hcb1 := hcb c
        have HN : Hid (Lk.small1 c = c) := small_not c hA
        clear hA
        go_wp2_with fail
        refine (HI.out _).mono ?_
        rintro e w' ⟨rfl, hw⟩
        rw [hw]
        go_wp2
        go_roundw
        case rel => exact ⟨k + 1, by omega, by go_num, by rw [HS.out, HN.out], HB.out.alloc HB.out.size _⟩
        case measure => simp [intOf]; omega
    · have HA : Hid (smQ s k = B (Lk.small s.data.toList)) := smQ_all s k (by omega)
      go_wp2
      go_ret
      exact ⟨by rw [← HA.out]; rfl, HB.out⟩

theorem scheme_k (l : List UInt8) (k : Nat) (h : Lib.indexByte l 58 = k) (hc : Lib.containsAny (Lk.head l) Lk.path = false) : Lk.scheme l = Lk.small (Lk.head l) := by
  unfold Lk.scheme
  rw [(Lk.head_at l k h).2.2, hc]
  rfl
theorem scheme_path (l : List UInt8) (hc : Lib.containsAny (Lk.head l) Lk.path = true) : Lk.scheme l = [] := by
  unfold Lk.scheme
  rw [hc]
  simp
theorem scheme_none (l : List UInt8) (h : l.contains 58 = false) : Lk.scheme l = [] := by
  unfold Lk.scheme
  rw [h]
  rfl

set_option maxRecDepth 100000 in
set_option maxHeartbeats 1600000 in
theorem SchemeOf_any (s : ByteArray) (w : World) (hs : s.size ≤ 9223372036854775807) :
    Calls Tryd.prog 26 #[.string s] w fun e w' => e = .returned (.string (B (Lk.scheme s.data.toList))) ∧ Below w.heap.size w w' := by
  have hI := fun w => Tryd.strings_Index_one s 58 w
  rcases Lk.idx_cases s.data.toList with hix | ⟨k, hix⟩
  · rw [hix] at hI
    rw [scheme_none _ (Lk.no_head _ hix)]
    clear hix
    go_enter Tryd.func26, Tryd.ntmps26
    go_wp2_with fail
    refine (hI _).mono ?_
    rintro e w' ⟨rfl, hw⟩
    rw [hw]
    go_wp2
    go_ret
    exact ⟨rfl, Below.refl _ _⟩
  · obtain ⟨h1, h2, h3⟩ := Lk.head_at _ k hix
    rw [len_list] at h1
    have hhl := Lk.head_len s.data.toList
    rw [len_list] at hhl
    have hsz : (B (Lk.head s.data.toList)).size ≤ 9223372036854775807 := by rw [B_size]; omega
    rw [hix] at hI
    by_cases hk0 : k < 1
    · obtain rfl : k = 0 := by omega
      have hsn : Lk.scheme s.data.toList = [] := by
        have hh : Lk.head s.data.toList = [] := by rw [← h2]; rfl
        unfold Lk.scheme
        rw [hh, h3]
        rfl
      rw [hsn]
      clear hsn hix h2 h3 hhl hsz
      go_enter Tryd.func26, Tryd.ntmps26
      go_wp2_with fail
      refine (hI _).mono ?_
      rintro e w' ⟨rfl, hw⟩
      rw [hw]
      go_wp2
      go_ret
      exact ⟨rfl, Below.refl _ _⟩
    · have hsl := slice_to s k (by omega)
      rw [h2] at hsl
      cases hca : Lib.containsAny (Lk.head s.data.toList) Lk.path
      · rw [scheme_k _ k hix hca]
        have HA : Hid (∀ w, Calls Tryd.prog 19 #[.string (B (Lk.head s.data.toList)), .string ⟨#[47, 63, 35]⟩] w fun e w' => e = .returned (.bool false) ∧ Below w.heap.size w w') := fun w => ca_any _ _ w false (by decide) (by decide) (by omega) path_ascii hca
        have HS : Hid (∀ w, Calls Tryd.prog 68 #[.string (B (Lk.head s.data.toList))] w fun e w' => e = .returned (.string (B (Lk.small (Lk.head s.data.toList)))) ∧ Below w.heap.size w w') := fun w => Small_any _ w hsz
        clear hca hhl hsz hix h2 h3
        generalize B (Lk.head s.data.toList) = h at *
        generalize B (Lk.small (Lk.head s.data.toList)) = r at *
        go_enter Tryd.func26, Tryd.ntmps26
        go_wp2_with fail
        refine (hI _).mono ?_
        rintro e w' ⟨rfl, hw⟩
        rw [hw]
        go_wp2_with fail
        refine (HA.out _).mono ?_
        rintro e w2 ⟨rfl, hb2⟩
        have H2 : Hid (Below w.heap.size w w2) := hb2
        clear hb2
        go_wp2_with fail
        refine (HS.out _).mono ?_
        rintro e w3 ⟨rfl, hb3⟩
        have H3 : Hid (Below w.heap.size w w3) := H2.out.trans (hb3.mono H2.out.size)
        clear hb3
        go_wp2
        go_ret
        exact ⟨rfl, H3.out⟩
      · rw [scheme_path _ hca]
        have HA : Hid (∀ w, Calls Tryd.prog 19 #[.string (B (Lk.head s.data.toList)), .string ⟨#[47, 63, 35]⟩] w fun e w' => e = .returned (.bool true) ∧ Below w.heap.size w w') := fun w => ca_any _ _ w true (by decide) (by decide) (by omega) path_ascii hca
        clear hca hhl hsz hix h2 h3
        generalize B (Lk.head s.data.toList) = h at *
        go_enter Tryd.func26, Tryd.ntmps26
        go_wp2_with fail
        refine (hI _).mono ?_
        rintro e w' ⟨rfl, hw⟩
        rw [hw]
        go_wp2_with fail
        refine (HA.out _).mono ?_
        rintro e w2 ⟨rfl, hb2⟩
        have H2 : Hid (Below w.heap.size w w2) := hb2
        clear hb2
        go_wp2
        go_ret
        exact ⟨rfl, H2.out⟩
end Go.Proofs.YtmifcioccnmlaaaDoor
