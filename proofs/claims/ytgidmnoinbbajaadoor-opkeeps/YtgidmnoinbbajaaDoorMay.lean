/-
  link.May at whatever text: whether one may be led to it; the variable 'schemes' holding what its initialiser lays.
-/
import Derived.Test.YtgidmnoinbbajaaDoorSc
namespace Go.Proofs.YtgidmnoinbbajaaDoor
open Go.RowKit

def scells : Array Value := #[.string ⟨#[104, 116, 116, 112]⟩, .string ⟨#[104, 116, 116, 112, 115]⟩, .string ⟨#[109, 97, 105, 108, 116, 111]⟩]
/-- The variable 'schemes' (block 2) holds what its initialiser lays. -/
def Sch (w : World) : Prop := ∃ t fr, w.heap[0]? = some (.cells scells t fr)
theorem Sch.pos {w : World} (h : Sch w) : 0 < w.heap.size := by
  obtain ⟨t, fr, hg⟩ := h
  exact (Array.getElem?_eq_some_iff.1 hg).1
theorem Sch.below {w w' : World} (h : Sch w) (hb : Below w.heap.size w w') : Sch w' := by
  have hp := h.pos
  obtain ⟨t, fr, hg⟩ := h
  exact ⟨t, fr, (hb.block 0 hp).trans hg⟩
theorem Sch.cell {w : World} (h : Sch w) (j : Nat) : w.cell? ⟨0, j, none⟩ = scells[j]? := by
  obtain ⟨t, fr, hg⟩ := h
  simp [World.cell?, hg]

theorem stand_lo {c : UInt8} (h : c.toNat < 33) : Lk.stand c = false := by
  unfold Lk.stand
  rw [decide_eq_false (fun hh => by rw [UInt8.le_iff_toNat_le] at hh; have : (33 : UInt8).toNat = 33 := rfl; omega)]
  rfl
theorem stand_hi {c : UInt8} (h : 126 < c.toNat) : Lk.stand c = false := by
  unfold Lk.stand
  have : decide (c ≤ 126) = false := decide_eq_false (fun hh => by rw [UInt8.le_iff_toNat_le] at hh; have : (126 : UInt8).toNat = 126 := rfl; omega)
  rw [this]
  simp
theorem stand_mid {c : UInt8} (h : 33 ≤ c.toNat) (h2 : c.toNat ≤ 126) : Lk.stand c = decide (Lib.indexByte Lk.barred c < 0) := by
  unfold Lk.stand
  rw [decide_eq_true (show (33 : UInt8) ≤ c by rw [UInt8.le_iff_toNat_le]; exact h), decide_eq_true (show c ≤ 126 by rw [UInt8.le_iff_toNat_le]; exact h2), Lib.contains_iff_indexByte]
  by_cases hz : Lib.indexByte Lk.barred c < 0
  · rw [decide_eq_true hz, decide_eq_false (by omega)]; rfl
  · rw [decide_eq_false hz, decide_eq_true (by omega)]; rfl

set_option maxHeartbeats 800000 in
theorem stand_any (c : UInt8) (w : World) : Calls Tryd.prog 91 #[.int .u8 c.toNat] w fun e w' => e = .returned (.bool (Lk.stand c)) ∧ w' = w := by
  by_cases h1 : 33 ≤ c.toNat
  · by_cases h2 : c.toNat ≤ 126
    · have hst := stand_mid h1 h2
      have hback : ((c.toNat : Int)).toNat.toUInt8 = c := by simp
      have hI := fun w => Tryd.strings_IndexByte ⟨#[34, 39, 60, 62, 92, 96]⟩ (c.toNat : Int) w
      rw [hback] at hI
      change ∀ w, Calls Tryd.prog 73 _ w fun e w' => e = .returned (.int .i64 (Lib.indexByte Lk.barred c)) ∧ w' = w at hI
      have HI : Hid (∀ w, Calls Tryd.prog 73 #[.string ⟨#[34, 39, 60, 62, 92, 96]⟩, .int .u8 c.toNat] w fun e w' => e = .returned (.int .i64 (Lib.indexByte Lk.barred c)) ∧ w' = w) := hI
      clear hI hback
      generalize Lib.indexByte Lk.barred c = z at *
      rw [hst]
      clear hst
      go_enter Tryd.func91, Tryd.ntmps91
      go_wp2_with fail
      refine (HI.out _).mono ?_
      rintro e w' ⟨rfl, rfl⟩
      go_wp2
      go_ret
      exact ⟨rfl, rfl⟩
    · rw [stand_hi (by omega)]
      go_enter Tryd.func91, Tryd.ntmps91
      go_wp2
      go_ret
      exact ⟨rfl, rfl⟩
  · rw [stand_lo (by omega)]
    go_enter Tryd.func91, Tryd.ntmps91
    go_wp2
    go_ret
    exact ⟨rfl, rfl⟩

theorem eqB (k x : List UInt8) : (k == (B x).toList) = decide (k = x) := by
  rw [Lib.toList_data, B_data]
  by_cases h : k = x
  · subst h; simp
  · rw [decide_eq_false h]; simpa using h
theorem Beq (k x : List UInt8) : ((B x).toList == k) = decide (k = x) := by
  rw [Lib.toList_data, B_data]
  by_cases h : k = x
  · subst h; simp
  · rw [decide_eq_false h]; simpa using fun e => h e.symm
theorem sidx0 (w : World) : (Instr.index 120 (.agg scells) (.int .i64 0)).run Tryd.prog w = .ok (.string ⟨#[104, 116, 116, 112]⟩) w := by kernel_rfl
theorem sidx1 (w : World) : (Instr.index 120 (.agg scells) (.int .i64 1)).run Tryd.prog w = .ok (.string ⟨#[104, 116, 116, 112, 115]⟩) w := by kernel_rfl
theorem sidx2 (w : World) : (Instr.index 120 (.agg scells) (.int .i64 2)).run Tryd.prog w = .ok (.string ⟨#[109, 97, 105, 108, 116, 111]⟩) w := by kernel_rfl
theorem sz79 : (Tryd.prog.info? 120).map (·.size) = some scells.size := by kernel_rfl

set_option maxHeartbeats 800000 in
set_option maxRecDepth 100000 in
theorem lead_any (x : List UInt8) (w : World) (hS : Sch w) : Calls Tryd.prog 92 #[.string (B x)] w fun e w' => e = .returned (.bool (Lk.lead x)) ∧ w' = w := by
  obtain ⟨t, fr, hg⟩ := hS
  have Hg : Hid (w.heap[0]? = some (.cells scells t fr)) := hg
  clear hg
  have i0 := sidx0
  have i1 := sidx1
  have i2 := sidx2
  have q1 := eqB [104, 116, 116, 112] x
  have q2 := eqB [104, 116, 116, 112, 115] x
  have q3 := eqB [109, 97, 105, 108, 116, 111] x
  by_cases h1 : [104, 116, 116, 112] = x
  · have hl : Lk.lead x = true := by subst h1; rfl
    rw [hl]
    rw [decide_eq_true h1] at q1
    clear hl q2 q3 h1
    generalize B x = b at *
    go_enter Tryd.func92, Tryd.ntmps92
    go_wp2_with (refine wpList_load_row rfl 120 _ rfl 0 rfl t _ fr _ Hg.out Tryd.underlying120 rfl sz79 ?_)
    refine wp_loop_rounds 5 ?_
    rw [rounds_succ]
    go_wp2
    go_ret
    exact ⟨rfl, rfl⟩
  · rw [decide_eq_false h1] at q1
    by_cases h2 : [104, 116, 116, 112, 115] = x
    · have hl : Lk.lead x = true := by subst h2; rfl
      rw [hl]
      rw [decide_eq_true h2] at q2
      clear hl q3 h1 h2
      generalize B x = b at *
      go_enter Tryd.func92, Tryd.ntmps92
      go_wp2_with (refine wpList_load_row rfl 120 _ rfl 0 rfl t _ fr _ Hg.out Tryd.underlying120 rfl sz79 ?_)
      refine wp_loop_rounds 5 ?_
      rw [rounds_succ]
      go_wp2
      rw [rounds_succ]
      go_wp2
      go_ret
      exact ⟨rfl, rfl⟩
    · rw [decide_eq_false h2] at q2
      by_cases h3 : [109, 97, 105, 108, 116, 111] = x
      · have hl : Lk.lead x = true := by subst h3; rfl
        rw [hl]
        rw [decide_eq_true h3] at q3
        clear hl h1 h2 h3
        generalize B x = b at *
        go_enter Tryd.func92, Tryd.ntmps92
        go_wp2_with (refine wpList_load_row rfl 120 _ rfl 0 rfl t _ fr _ Hg.out Tryd.underlying120 rfl sz79 ?_)
        refine wp_loop_rounds 5 ?_
        rw [rounds_succ]
        go_wp2
        rw [rounds_succ]
        go_wp2
        rw [rounds_succ]
        go_wp2
        go_ret
        exact ⟨rfl, rfl⟩
      · have hl : Lk.lead x = false := by
          unfold Lk.lead Lk.leads
          simp [Ne.symm h1, Ne.symm h2, Ne.symm h3]
        rw [hl]
        rw [decide_eq_false h3] at q3
        clear hl h1 h2 h3
        generalize B x = b at *
        go_enter Tryd.func92, Tryd.ntmps92
        go_wp2_with (refine wpList_load_row rfl 120 _ rfl 0 rfl t _ fr _ Hg.out Tryd.underlying120 rfl sz79 ?_)
        refine wp_loop_rounds 5 ?_
        rw [rounds_succ]
        go_wp2
        rw [rounds_succ]
        go_wp2
        rw [rounds_succ]
        go_wp2
        rw [rounds_succ]
        go_wp2
        go_ret
        exact ⟨rfl, rfl⟩

theorem may_len (l : List UInt8) (h : l.length < 1 ∨ 24 < l.length) : Lk.may l = false := by
  unfold Lk.may
  rcases h with h | h
  · rw [decide_eq_false (show ¬ 1 ≤ l.length by omega)]; simp
  · rw [decide_eq_false (show ¬ l.length ≤ 24 by omega)]; simp
theorem may_not (l : List UInt8) (k : Nat) (h : k < l.length) (hc : Lk.stand l[k] = false) : Lk.may l = false := by
  have : l.all Lk.stand = false := by
    rw [List.all_eq_false]
    exact ⟨l[k], List.getElem_mem h, by rw [hc]; exact Bool.false_ne_true⟩
  unfold Lk.may
  rw [this]
  simp
theorem may_all (l : List UInt8) (h1 : 1 ≤ l.length) (h2 : l.length ≤ 24) (hs : l.all Lk.stand = true) : Lk.may l = Lk.lead (Lk.scheme l) := by
  unfold Lk.may
  rw [hs, decide_eq_true h1, decide_eq_true h2]
  simp

set_option maxRecDepth 100000 in
set_option maxHeartbeats 1600000 in
theorem may_any (s : ByteArray) (w : World) (hs : s.size ≤ 9223372036854775807) (hS : Sch w) :
    Calls Tryd.prog 77 #[.string s] w fun e w' => e = .returned (.bool (Lk.may s.data.toList)) ∧ Below w.heap.size w w' := by
  have HS : Hid (Sch w) := hS
  clear hS
  have hl := len_list s
  by_cases h1 : s.size < 1
  · rw [may_len _ (.inl (by omega))]
    clear hl
    go_enter Tryd.func77, Tryd.ntmps77
    go_wp2
    go_ret
    exact ⟨rfl, Below.refl _ _⟩
  · by_cases h2 : 24 < s.size
    · rw [may_len _ (.inr (by omega))]
      clear hl
      go_enter Tryd.func77, Tryd.ntmps77
      go_wp2
      go_ret
      exact ⟨rfl, Below.refl _ _⟩
    · obtain ⟨m, hm⟩ : ∃ m, Lk.may s.data.toList = m := ⟨_, rfl⟩
      rw [hm]
      have HM : Hid (Lk.may s.data.toList = m) := hm
      clear hm
      go_enter Tryd.func77, Tryd.ntmps77
      go_wp2
      go_loop [3] (fun i => ∃ k : Nat, k ≤ s.size ∧ i = .int .i64 k ∧ (s.data.toList.take k).all Lk.stand = true) (fun i => s.size - (intOf i).toNat)
      case atStart => exact ⟨0, Nat.zero_le _, rfl, by simp⟩
      case round =>
        obtain ⟨k, hk, rfl, hall⟩ := hrel
        have HA : Hid ((s.data.toList.take k).all Lk.stand = true) := hall
        clear hall
        by_cases hlt : k < s.size
        · have hkl : k < s.data.toList.length := by omega
          obtain ⟨c, hc⟩ : ∃ c : UInt8, s[k]'hlt = c := ⟨_, rfl⟩
          have hcl : s.data.toList[k] = c := by rw [← hc]; rfl
          have hix := run_index_at s k hlt
          rw [hc] at hix
          cases hst : Lk.stand c
          · have hmf := may_not s.data.toList k hkl (by rw [hcl]; exact hst)
            rw [HM.out] at hmf
            subst hmf
            clear hcl hc
            go_wp2_with (go_at_call 91; refine (stand_any c _).mono ?_; rintro e w' ⟨rfl, hw⟩; rw [hw, hst])
            go_ret
            exact ⟨rfl, Below.refl _ _⟩
          · have H2 : Hid ((s.data.toList.take (k + 1)).all Lk.stand = true) := by
              show _ = _
              rw [List.take_succ_eq_append_getElem hkl, List.all_append, HA.out, hcl]
              simp [hst]
            clear hcl hc
            go_wp2_with (go_at_call 91; refine (stand_any c _).mono ?_; rintro e w' ⟨rfl, hw⟩; rw [hw, hst])
            go_round
            case rel => exact ⟨k + 1, by omega, by go_num, H2.out⟩
            case measure => simp [intOf]; omega
        · have hal : s.data.toList.all Lk.stand = true := by
            have := HA.out
            rw [List.take_of_length_le (by omega)] at this
            exact this
          have hmm := may_all s.data.toList (by omega) (by omega) hal
          rw [HM.out] at hmm
          clear hal
          go_wp2_with fail
          refine (scheme_any s _ hs).mono ?_
          rintro e w1 ⟨rfl, hb1⟩
          have H1 : Hid (Below w.heap.size w w1) := hb1
          have HS1 : Hid (Sch w1) := HS.out.below hb1
          clear hb1
          go_wp2_with fail
          refine (lead_any _ _ HS1.out).mono ?_
          rintro e w2 ⟨rfl, hw⟩
          rw [hw]
          have HH : Hid (m = Lk.lead (Lk.scheme s.data.toList)) := hmm
          clear hmm
          go_wp2
          go_ret
          exact ⟨by rw [HH.out]; rfl, H1.out⟩
end Go.Proofs.YtgidmnoinbbajaaDoor
