/-
  The reference's Small and SchemeOf: as link.smallLetters and link.Scheme have it.
-/
import Derived.Test.YtgidmnoinbbajaaDoorSc
import Derived.Test.YtgidmnoinbbajaaDoorS1
namespace Go.Proofs.YtgidmnoinbbajaaDoor
open Go.RowKit

theorem scheme_k (l : List UInt8) (k : Nat) (h : Lib.indexByte l 58 = k) (hc : Lib.containsAny (Lk.head l) Lk.path = false) : Lk.scheme l = Lk.small (Lk.head l) := by
  unfold Lk.scheme
  rw [(Lk.head_at l k h).2.2, hc]
  rfl
theorem scheme_path (l : List UInt8) (hc : Lib.containsAny (Lk.head l) Lk.path = true) : Lk.scheme l = [] := by
  unfold Lk.scheme
  rw [hc]
  simp
theorem scheme_none (l : List UInt8) (h : l.contains 58 = false) : Lk.scheme l = [] := by
  unfold Lk.scheme
  rw [h]
  rfl

set_option maxRecDepth 100000 in
set_option maxHeartbeats 1600000 in
theorem SchemeOf_any (s : ByteArray) (w : World) (hs : s.size ≤ 9223372036854775807) :
    Calls Tryd.prog 75 #[.string s] w fun e w' => e = .returned (.string (B (Lk.scheme s.data.toList))) ∧ Below w.heap.size w w' := by
  have hI := fun w => Tryd.strings_Index_one s 58 w
  rcases Lk.idx_cases s.data.toList with hix | ⟨k, hix⟩
  · rw [hix] at hI
    rw [scheme_none _ (Lk.no_head _ hix)]
    clear hix
    go_enter Tryd.func75, Tryd.ntmps75
    go_wp2_with fail
    refine (hI _).mono ?_
    rintro e w' ⟨rfl, hw⟩
    rw [hw]
    go_wp2
    go_ret
    exact ⟨rfl, Below.refl _ _⟩
  · obtain ⟨h1, h2, h3⟩ := Lk.head_at _ k hix
    rw [len_list] at h1
    have hhl := Lk.head_len s.data.toList
    rw [len_list] at hhl
    have hsz : (B (Lk.head s.data.toList)).size ≤ 9223372036854775807 := by rw [B_size]; omega
    rw [hix] at hI
    by_cases hk0 : k < 1
    · obtain rfl : k = 0 := by omega
      have hsn : Lk.scheme s.data.toList = [] := by
        have hh : Lk.head s.data.toList = [] := by rw [← h2]; rfl
        unfold Lk.scheme
        rw [hh, h3]
        rfl
      rw [hsn]
      clear hsn hix h2 h3 hhl hsz
      go_enter Tryd.func75, Tryd.ntmps75
      go_wp2_with fail
      refine (hI _).mono ?_
      rintro e w' ⟨rfl, hw⟩
      rw [hw]
      go_wp2
      go_ret
      exact ⟨rfl, Below.refl _ _⟩
    · have hsl := slice_to s k (by omega)
      rw [h2] at hsl
      cases hca : Lib.containsAny (Lk.head s.data.toList) Lk.path
      · rw [scheme_k _ k hix hca]
        have HA : Hid (∀ w, Calls Tryd.prog 89 #[.string (B (Lk.head s.data.toList)), .string ⟨#[47, 63, 35]⟩] w fun e w' => e = .returned (.bool false) ∧ Below w.heap.size w w') := fun w => ca_any _ _ w false (by decide) (by decide) (by omega) path_ascii hca
        have HS : Hid (∀ w, Calls Tryd.prog 90 #[.string (B (Lk.head s.data.toList))] w fun e w' => e = .returned (.string (B (Lk.small (Lk.head s.data.toList)))) ∧ Below w.heap.size w w') := fun w => Small_any _ w hsz
        clear hca hhl hsz hix h2 h3
        generalize B (Lk.head s.data.toList) = h at *
        generalize B (Lk.small (Lk.head s.data.toList)) = r at *
        go_enter Tryd.func75, Tryd.ntmps75
        go_wp2_with fail
        refine (hI _).mono ?_
        rintro e w' ⟨rfl, hw⟩
        rw [hw]
        go_wp2_with fail
        refine (HA.out _).mono ?_
        rintro e w2 ⟨rfl, hb2⟩
        have H2 : Hid (Below w.heap.size w w2) := hb2
        clear hb2
        go_wp2_with fail
        refine (HS.out _).mono ?_
        rintro e w3 ⟨rfl, hb3⟩
        have H3 : Hid (Below w.heap.size w w3) := H2.out.trans (hb3.mono H2.out.size)
        clear hb3
        go_wp2
        go_ret
        exact ⟨rfl, H3.out⟩
      · rw [scheme_path _ hca]
        have HA : Hid (∀ w, Calls Tryd.prog 89 #[.string (B (Lk.head s.data.toList)), .string ⟨#[47, 63, 35]⟩] w fun e w' => e = .returned (.bool true) ∧ Below w.heap.size w w') := fun w => ca_any _ _ w true (by decide) (by decide) (by omega) path_ascii hca
        clear hca hhl hsz hix h2 h3
        generalize B (Lk.head s.data.toList) = h at *
        go_enter Tryd.func75, Tryd.ntmps75
        go_wp2_with fail
        refine (hI _).mono ?_
        rintro e w' ⟨rfl, hw⟩
        rw [hw]
        go_wp2_with fail
        refine (HA.out _).mono ?_
        rintro e w2 ⟨rfl, hb2⟩
        have H2 : Hid (Below w.heap.size w w2) := hb2
        clear hb2
        go_wp2
        go_ret
        exact ⟨rfl, H2.out⟩
end Go.Proofs.YtgidmnoinbbajaaDoor
