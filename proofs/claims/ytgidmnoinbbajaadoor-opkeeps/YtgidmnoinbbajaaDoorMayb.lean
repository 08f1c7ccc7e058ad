/-
  The reference's MayBe: as link.May has it.
-/
import Derived.Test.YtgidmnoinbbajaaDoorSm
import Derived.Test.YtgidmnoinbbajaaDoorMay
namespace Go.Proofs.YtgidmnoinbbajaaDoor
open Go.RowKit

def leadsB : List ByteArray := [⟨#[104, 116, 116, 112]⟩, ⟨#[104, 116, 116, 112, 115]⟩, ⟨#[109, 97, 105, 108, 116, 111]⟩]
theorem containsS_lead (x : List UInt8) : Lib.containsS (leadsB.take 3) (B x) = Lk.lead x := by
  have h1 := Lib.containsS_iff (leadsB.take 3) (B x)
  have h2 : B x ∈ leadsB.take 3 ↔ Lk.lead x = true := by
    have e : leadsB.take 3 = Lk.leads.map B := rfl
    rw [e, Lk.lead, List.contains_iff_mem]
    constructor
    · intro h
      obtain ⟨y, hy, hb⟩ := List.mem_map.1 h
      rw [← B_inj hb]; exact hy
    · intro h; exact List.mem_map.2 ⟨x, h, rfl⟩
  rw [h2] at h1
  exact Bool.eq_iff_iff.2 h1

/-- In block b lie the three schemes. -/
def Three (b : Nat) (w : World) : Prop := ∃ t fr, w.heap[b]? = some (.cells scells t fr)
theorem Three.cell {b : Nat} {w : World} (h : Three b w) (j : Nat) (hj : j < leadsB.length) : w.cell? ⟨b, 0 + j, none⟩ = some (.string (leadsB.getD j ByteArray.empty)) := by
  obtain ⟨t, fr, hg⟩ := h
  match j, hj with
  | 0, _ => simp [World.cell?, hg]; rfl
  | 1, _ => simp [World.cell?, hg]; rfl
  | 2, _ => simp [World.cell?, hg]; rfl
theorem Three.new (w : World) : Three w.heap.size (w.alloc (.cells scells 9)) := ⟨_, _, heap_alloc_new w _⟩
theorem Three.below {b : Nat} {w w' : World} (h : Three b w) (hb : Below w.heap.size w w') : Three b w' := by
  obtain ⟨t, fr, hg⟩ := h
  exact ⟨t, fr, (hb.block b (Array.getElem?_eq_some_iff.1 hg).1).trans hg⟩
theorem lead3 (b : Nat) (x : List UInt8) (w : World) (h : Three b w) : Calls Tryd.prog 74 #[.slice (some ⟨b, 0, none⟩) 3 3, .string (B x)] w fun e w' => e = .returned (.bool (Lk.lead x)) ∧ w' = w := by
  have := Tryd.slices_Contains_string b 0 3 3 leadsB (B x) w (by decide) (by decide) h.cell
  rw [containsS_lead] at this
  exact this

set_option maxRecDepth 100000 in
set_option maxHeartbeats 1600000 in
theorem MayBe_any (s : ByteArray) (w : World) (hs : s.size ≤ 9223372036854775807) :
    Calls Tryd.prog 56 #[.string s] w fun e w' => e = .returned (.bool (Lk.may s.data.toList)) ∧ Below w.heap.size w w' := by
  have hl := len_list s
  by_cases h1 : s.size < 1
  · rw [may_len _ (.inl (by omega))]
    clear hl
    go_enter Tryd.func56, Tryd.ntmps56
    go_wp2
    go_ret
    exact ⟨rfl, Below.refl _ _⟩
  · by_cases h2 : 24 < s.size
    · rw [may_len _ (.inr (by omega))]
      clear hl
      go_enter Tryd.func56, Tryd.ntmps56
      go_wp2
      go_ret
      exact ⟨rfl, Below.refl _ _⟩
    · obtain ⟨m, hm⟩ : ∃ m, Lk.may s.data.toList = m := ⟨_, rfl⟩
      rw [hm]
      have HM : Hid (Lk.may s.data.toList = m) := hm
      clear hm
      go_enter Tryd.func56, Tryd.ntmps56
      go_wp2
      go_loop [14] (fun i => ∃ k : Nat, k ≤ s.size ∧ i = .int .i64 k ∧ (s.data.toList.take k).all Lk.stand = true) (fun i => s.size - (intOf i).toNat)
      case atStart => exact ⟨0, Nat.zero_le _, rfl, by simp⟩
      case round =>
        obtain ⟨k, hk, rfl, hall⟩ := hrel
        have HA : Hid ((s.data.toList.take k).all Lk.stand = true) := hall
        clear hall
        by_cases hlt : k < s.size
        · have hkl : k < s.data.toList.length := by omega
          obtain ⟨c, hc⟩ : ∃ c : UInt8, s[k]'hlt = c := ⟨_, rfl⟩
          have hcl : s.data.toList[k] = c := by rw [← hc]; rfl
          have hix := run_index_at s k hlt
          rw [hc] at hix
          have HF : Hid (Lk.stand c = false → m = false) := fun hst => by
            rw [← HM.out]; exact may_not s.data.toList k hkl (by rw [hcl]; exact hst)
          have HT : Hid (Lk.stand c = true → (s.data.toList.take (k + 1)).all Lk.stand = true) := fun hst => by
            rw [List.take_succ_eq_append_getElem hkl, List.all_append, HA.out, hcl]
            simp [hst]
          clear hcl hc
          by_cases hlo : 33 ≤ c.toNat
          · by_cases hhi : c.toNat ≤ 126
            · have hst := stand_mid hlo hhi
              have hback : ((c.toNat : Int)).toNat.toUInt8 = c := by simp
              have hI := fun w => Tryd.strings_IndexByte ⟨#[34, 39, 60, 62, 92, 96]⟩ (c.toNat : Int) w
              rw [hback] at hI
              change ∀ w, Calls Tryd.prog 73 _ w fun e w' => e = .returned (.int .i64 (Lib.indexByte Lk.barred c)) ∧ w' = w at hI
              have HI : Hid (∀ w, Calls Tryd.prog 73 #[.string ⟨#[34, 39, 60, 62, 92, 96]⟩, .int .u8 c.toNat] w fun e w' => e = .returned (.int .i64 (Lib.indexByte Lk.barred c)) ∧ w' = w) := hI
              clear hI hback
              generalize Lib.indexByte Lk.barred c = z at *
              by_cases hz : z < 0
              · have H2 : Hid ((s.data.toList.take (k + 1)).all Lk.stand = true) := HT.out (by rw [hst]; exact decide_eq_true hz)
                clear hst
                go_wp2_with fail
                refine (HI.out _).mono ?_
                rintro e w' ⟨rfl, hw⟩
                rw [hw]
                go_wp2
                go_round
                case rel => exact ⟨k + 1, by omega, by go_num, H2.out⟩
                case measure => simp [intOf]; omega
              · have hmf := HF.out (by rw [hst]; exact decide_eq_false hz)
                subst hmf
                clear hst
                go_wp2_with fail
                refine (HI.out _).mono ?_
                rintro e w' ⟨rfl, hw⟩
                rw [hw]
                go_wp2
                go_ret
                exact ⟨rfl, Below.refl _ _⟩
            · have hmf := HF.out (stand_hi (by omega))
              subst hmf
              go_wp2
              go_ret
              exact ⟨rfl, Below.refl _ _⟩
          · have hmf := HF.out (stand_lo (by omega))
            subst hmf
            go_wp2
            go_ret
            exact ⟨rfl, Below.refl _ _⟩
        · have hal : s.data.toList.all Lk.stand = true := by
            have := HA.out
            rw [List.take_of_length_le (by omega)] at this
            exact this
          have hmm := may_all s.data.toList (by omega) (by omega) hal
          rw [HM.out] at hmm
          have HH : Hid (m = Lk.lead (Lk.scheme s.data.toList)) := hmm
          clear hal hmm
          go_wp2_with fail
          have HT : Hid (Three w.heap.size (w.alloc (.cells scells 9))) := Three.new w
          have HW : Hid (Below w.heap.size w (w.alloc (.cells scells 9))) := (Below.refl _ _).alloc (Nat.le_refl _) _
          change Calls Tryd.prog 75 #[.string s] (w.alloc (.cells scells 9)) _
          generalize w.alloc (.cells scells 9) = w1 at *
          refine (SchemeOf_any s w1 (by omega)).mono ?_
          rintro e w2 ⟨rfl, hb2⟩
          have H2 : Hid (Below w.heap.size w w2) := HW.out.trans (hb2.mono HW.out.size)
          have T2 : Hid (Three w.heap.size w2) := HT.out.below hb2
          clear hb2
          go_wp2_with fail
          refine (lead3 _ _ _ T2.out).mono ?_
          rintro e w3 ⟨rfl, hw⟩
          rw [hw]
          go_wp2
          go_ret
          exact ⟨by rw [HH.out]; rfl, H2.out⟩

end Go.Proofs.YtgidmnoinbbajaaDoor
