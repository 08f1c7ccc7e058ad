/-
  Texts of this proof, one behind the other.
-/
import Derived.Test.YtbhcklkbckacpaaGreatDoorM1
import Derived.WalkSpells
import Derived.Deep.RegionLaw
import Derived.Deep.AppendLies
import Derived.Laws.IdiomStrings
import Derived.Laws.BytesArg
import Derived.Deep.RegionHeld3
import Derived.Laws.StructEq
import Derived.Lib.AppendZeros

/-
  link.May at whatever text: whether one may be led to it; the variable 'schemes' holding what its initialiser lays.
-/
namespace Go.Proofs.YtbhcklkbckacpaaGreatDoor
open Go.RowKit

def scells : Array Value := #[.string ⟨#[104, 116, 116, 112]⟩, .string ⟨#[104, 116, 116, 112, 115]⟩, .string ⟨#[109, 97, 105, 108, 116, 111]⟩]
def Sch (w : World) : Prop := ∃ t fr, w.heap[8]? = some (.cells scells t fr)
theorem Sch.pos {w : World} (h : Sch w) : 8 < w.heap.size := by
  obtain ⟨t, fr, hg⟩ := h
  exact (Array.getElem?_eq_some_iff.1 hg).1
theorem Sch.below {w w' : World} (h : Sch w) (hb : Below w.heap.size w w') : Sch w' := by
  have hp := h.pos
  obtain ⟨t, fr, hg⟩ := h
  exact ⟨t, fr, (hb.block 8 hp).trans hg⟩
theorem stand_lo {c : UInt8} (h : c.toNat < 33) : Lk.stand c = false := by
  unfold Lk.stand
  rw [decide_eq_false (fun hh => by rw [UInt8.le_iff_toNat_le] at hh; have : (33 : UInt8).toNat = 33 := rfl; omega)]
  rfl
theorem stand_hi {c : UInt8} (h : 126 < c.toNat) : Lk.stand c = false := by
  unfold Lk.stand
  have : decide (c ≤ 126) = false := decide_eq_false (fun hh => by rw [UInt8.le_iff_toNat_le] at hh; have : (126 : UInt8).toNat = 126 := rfl; omega)
  rw [this]
  simp
theorem stand_mid {c : UInt8} (h : 33 ≤ c.toNat) (h2 : c.toNat ≤ 126) : Lk.stand c = decide (Lib.indexByte Lk.barred c < 0) := by
  unfold Lk.stand
  rw [decide_eq_true (show (33 : UInt8) ≤ c by rw [UInt8.le_iff_toNat_le]; exact h), decide_eq_true (show c ≤ 126 by rw [UInt8.le_iff_toNat_le]; exact h2), Lib.contains_iff_indexByte]
  by_cases hz : Lib.indexByte Lk.barred c < 0
  · rw [decide_eq_true hz, decide_eq_false (by omega)]; rfl
  · rw [decide_eq_false hz, decide_eq_true (by omega)]; rfl

set_option maxHeartbeats 800000 in
theorem stand_any (c : UInt8) (w : World) : Calls Tryz.prog 301 #[.int .u8 c.toNat] w fun e w' => e = .returned (.bool (Lk.stand c)) ∧ w' = w := by
  by_cases h1 : 33 ≤ c.toNat
  · by_cases h2 : c.toNat ≤ 126
    · have hst := stand_mid h1 h2
      have hback : ((c.toNat : Int)).toNat.toUInt8 = c := by simp
      have hI := fun w => Tryz.strings_IndexByte ⟨#[34, 39, 60, 62, 92, 96]⟩ (c.toNat : Int) w
      rw [hback] at hI
      change ∀ w, Calls Tryz.prog 70 _ w fun e w' => e = .returned (.int .i64 (Lib.indexByte Lk.barred c)) ∧ w' = w at hI
      have HI : Hid (∀ w, Calls Tryz.prog 70 #[.string ⟨#[34, 39, 60, 62, 92, 96]⟩, .int .u8 c.toNat] w fun e w' => e = .returned (.int .i64 (Lib.indexByte Lk.barred c)) ∧ w' = w) := hI
      clear hI hback
      generalize Lib.indexByte Lk.barred c = z at *
      rw [hst]
      clear hst
      go_enter Tryz.func301, Tryz.ntmps301
      go_wp2_with fail
      refine (HI.out _).mono ?_
      rintro e w' ⟨rfl, rfl⟩
      go_wp2
      go_ret
      exact ⟨rfl, rfl⟩
    · rw [stand_hi (by omega)]
      go_enter Tryz.func301, Tryz.ntmps301
      go_wp2
      go_ret
      exact ⟨rfl, rfl⟩
  · rw [stand_lo (by omega)]
    go_enter Tryz.func301, Tryz.ntmps301
    go_wp2
    go_ret
    exact ⟨rfl, rfl⟩

theorem eqB (k x : List UInt8) : (k == (B x).toList) = decide (k = x) := by
  rw [Lib.toList_data, B_data]
  by_cases h : k = x
  · subst h; simp
  · rw [decide_eq_false h]; simpa using h
theorem sidx0 (w : World) : (Instr.index 380 (.agg scells) (.int .i64 0)).run Tryz.prog w = .ok (.string ⟨#[104, 116, 116, 112]⟩) w := by kernel_rfl
theorem sidx1 (w : World) : (Instr.index 380 (.agg scells) (.int .i64 1)).run Tryz.prog w = .ok (.string ⟨#[104, 116, 116, 112, 115]⟩) w := by kernel_rfl
theorem sidx2 (w : World) : (Instr.index 380 (.agg scells) (.int .i64 2)).run Tryz.prog w = .ok (.string ⟨#[109, 97, 105, 108, 116, 111]⟩) w := by kernel_rfl
theorem sz79 : (Tryz.prog.info? 380).map (·.size) = some scells.size := by kernel_rfl

set_option maxHeartbeats 800000 in
set_option maxRecDepth 100000 in
theorem lead_any (x : List UInt8) (w : World) (hS : Sch w) : Calls Tryz.prog 302 #[.string (B x)] w fun e w' => e = .returned (.bool (Lk.lead x)) ∧ w' = w := by
  obtain ⟨t, fr, hg⟩ := hS
  have Hg : Hid (w.heap[8]? = some (.cells scells t fr)) := hg
  clear hg
  have i0 := sidx0
  have i1 := sidx1
  have i2 := sidx2
  have q1 := eqB [104, 116, 116, 112] x
  have q2 := eqB [104, 116, 116, 112, 115] x
  have q3 := eqB [109, 97, 105, 108, 116, 111] x
  by_cases h1 : [104, 116, 116, 112] = x
  · have hl : Lk.lead x = true := by subst h1; rfl
    rw [hl]
    rw [decide_eq_true h1] at q1
    clear hl q2 q3 h1
    generalize B x = b at *
    go_enter Tryz.func302, Tryz.ntmps302
    go_wp2_with (refine wpList_load_row rfl 380 _ rfl 8 rfl t _ fr _ Hg.out Tryz.underlying380 rfl sz79 ?_)
    refine wp_loop_rounds 5 ?_
    rw [rounds_succ]
    go_wp2
    go_ret
    exact ⟨rfl, rfl⟩
  · rw [decide_eq_false h1] at q1
    by_cases h2 : [104, 116, 116, 112, 115] = x
    · have hl : Lk.lead x = true := by subst h2; rfl
      rw [hl]
      rw [decide_eq_true h2] at q2
      clear hl q3 h1 h2
      generalize B x = b at *
      go_enter Tryz.func302, Tryz.ntmps302
      go_wp2_with (refine wpList_load_row rfl 380 _ rfl 8 rfl t _ fr _ Hg.out Tryz.underlying380 rfl sz79 ?_)
      refine wp_loop_rounds 5 ?_
      rw [rounds_succ]
      go_wp2
      rw [rounds_succ]
      go_wp2
      go_ret
      exact ⟨rfl, rfl⟩
    · rw [decide_eq_false h2] at q2
      by_cases h3 : [109, 97, 105, 108, 116, 111] = x
      · have hl : Lk.lead x = true := by subst h3; rfl
        rw [hl]
        rw [decide_eq_true h3] at q3
        clear hl h1 h2 h3
        generalize B x = b at *
        go_enter Tryz.func302, Tryz.ntmps302
        go_wp2_with (refine wpList_load_row rfl 380 _ rfl 8 rfl t _ fr _ Hg.out Tryz.underlying380 rfl sz79 ?_)
        refine wp_loop_rounds 5 ?_
        rw [rounds_succ]
        go_wp2
        rw [rounds_succ]
        go_wp2
        rw [rounds_succ]
        go_wp2
        go_ret
        exact ⟨rfl, rfl⟩
      · have hl : Lk.lead x = false := by
          unfold Lk.lead Lk.leads
          simp [Ne.symm h1, Ne.symm h2, Ne.symm h3]
        rw [hl]
        rw [decide_eq_false h3] at q3
        clear hl h1 h2 h3
        generalize B x = b at *
        go_enter Tryz.func302, Tryz.ntmps302
        go_wp2_with (refine wpList_load_row rfl 380 _ rfl 8 rfl t _ fr _ Hg.out Tryz.underlying380 rfl sz79 ?_)
        refine wp_loop_rounds 5 ?_
        rw [rounds_succ]
        go_wp2
        rw [rounds_succ]
        go_wp2
        rw [rounds_succ]
        go_wp2
        rw [rounds_succ]
        go_wp2
        go_ret
        exact ⟨rfl, rfl⟩

theorem may_len (l : List UInt8) (h : l.length < 1 ∨ 24 < l.length) : Lk.may l = false := by
  unfold Lk.may
  rcases h with h | h
  · rw [decide_eq_false (show ¬ 1 ≤ l.length by omega)]; simp
  · rw [decide_eq_false (show ¬ l.length ≤ 24 by omega)]; simp
theorem may_not (l : List UInt8) (k : Nat) (h : k < l.length) (hc : Lk.stand l[k] = false) : Lk.may l = false := by
  have : l.all Lk.stand = false := by
    rw [List.all_eq_false]
    exact ⟨l[k], List.getElem_mem h, by rw [hc]; exact Bool.false_ne_true⟩
  unfold Lk.may
  rw [this]
  simp
theorem may_all (l : List UInt8) (h1 : 1 ≤ l.length) (h2 : l.length ≤ 24) (hs : l.all Lk.stand = true) : Lk.may l = Lk.lead (Lk.scheme l) := by
  unfold Lk.may
  rw [hs, decide_eq_true h1, decide_eq_true h2]
  simp

set_option maxRecDepth 100000 in
set_option maxHeartbeats 1600000 in
theorem may_any (s : ByteArray) (w : World) (hs : s.size ≤ 9223372036854775807) (hS : Sch w) :
    Calls Tryz.prog 279 #[.string s] w fun e w' => e = .returned (.bool (Lk.may s.data.toList)) ∧ Below w.heap.size w w' := by
  have HS : Hid (Sch w) := hS
  clear hS
  have hl := len_list s
  by_cases h1 : s.size < 1
  · rw [may_len _ (.inl (by omega))]
    clear hl
    go_enter Tryz.func279, Tryz.ntmps279
    go_wp2
    go_ret
    exact ⟨rfl, Below.refl _ _⟩
  · by_cases h2 : 24 < s.size
    · rw [may_len _ (.inr (by omega))]
      clear hl
      go_enter Tryz.func279, Tryz.ntmps279
      go_wp2
      go_ret
      exact ⟨rfl, Below.refl _ _⟩
    · obtain ⟨m, hm⟩ : ∃ m, Lk.may s.data.toList = m := ⟨_, rfl⟩
      rw [hm]
      have HM : Hid (Lk.may s.data.toList = m) := hm
      clear hm
      go_enter Tryz.func279, Tryz.ntmps279
      go_wp2
      go_loop [3] (fun i => ∃ k : Nat, k ≤ s.size ∧ i = .int .i64 k ∧ (s.data.toList.take k).all Lk.stand = true) (fun i => s.size - (intOf i).toNat)
      case atStart => exact ⟨0, Nat.zero_le _, rfl, by simp⟩
      case round =>
        obtain ⟨k, hk, rfl, hall⟩ := hrel
        have HA : Hid ((s.data.toList.take k).all Lk.stand = true) := hall
        clear hall
        by_cases hlt : k < s.size
        · have hkl : k < s.data.toList.length := by omega
          obtain ⟨c, hc⟩ : ∃ c : UInt8, s[k]'hlt = c := ⟨_, rfl⟩
          have hcl : s.data.toList[k] = c := by rw [← hc]; rfl
          have hix := run_index_at s k hlt
          rw [hc] at hix
          cases hst : Lk.stand c
          · have hmf := may_not s.data.toList k hkl (by rw [hcl]; exact hst)
            rw [HM.out] at hmf
            subst hmf
            clear hcl hc
            go_wp2_with (go_at_call 301; refine (stand_any c _).mono ?_; rintro e w' ⟨rfl, hw⟩; rw [hw, hst])
            go_ret
            exact ⟨rfl, Below.refl _ _⟩
          · have H2 : Hid ((s.data.toList.take (k + 1)).all Lk.stand = true) := by
              show _ = _
              rw [List.take_succ_eq_append_getElem hkl, List.all_append, HA.out, hcl]
              simp [hst]
            clear hcl hc
            go_wp2_with (go_at_call 301; refine (stand_any c _).mono ?_; rintro e w' ⟨rfl, hw⟩; rw [hw, hst])
            go_round
            case rel => exact ⟨k + 1, by omega, by go_num, H2.out⟩
            case measure => simp [intOf]; omega
        · have hal : s.data.toList.all Lk.stand = true := by
            have := HA.out
            rw [List.take_of_length_le (by omega)] at this
            exact this
          have hmm := may_all s.data.toList (by omega) (by omega) hal
          rw [HM.out] at hmm
          clear hal
          go_wp2_with fail
          refine (scheme_any s _ hs).mono ?_
          rintro e w1 ⟨rfl, hb1⟩
          have H1 : Hid (Below w.heap.size w w1) := hb1
          have HS1 : Hid (Sch w1) := HS.out.below hb1
          clear hb1
          go_wp2_with fail
          refine (lead_any _ _ HS1.out).mono ?_
          rintro e w2 ⟨rfl, hw⟩
          rw [hw]
          have HH : Hid (m = Lk.lead (Lk.scheme s.data.toList)) := hmm
          clear hmm
          go_wp2
          go_ret
          exact ⟨by rw [HH.out]; rfl, H1.out⟩
end Go.Proofs.YtbhcklkbckacpaaGreatDoor

/-
  The reference's MayBe: as link.May has it.
-/
namespace Go.Proofs.YtbhcklkbckacpaaGreatDoor
open Go.RowKit

def leadsB : List ByteArray := [⟨#[104, 116, 116, 112]⟩, ⟨#[104, 116, 116, 112, 115]⟩, ⟨#[109, 97, 105, 108, 116, 111]⟩]
theorem containsS_lead (x : List UInt8) : Lib.containsS (leadsB.take 3) (B x) = Lk.lead x := by
  have h1 := Lib.containsS_iff (leadsB.take 3) (B x)
  have h2 : B x ∈ leadsB.take 3 ↔ Lk.lead x = true := by
    have e : leadsB.take 3 = Lk.leads.map B := rfl
    rw [e, Lk.lead, List.contains_iff_mem]
    constructor
    · intro h
      obtain ⟨y, hy, hb⟩ := List.mem_map.1 h
      rw [← B_inj hb]; exact hy
    · intro h; exact List.mem_map.2 ⟨x, h, rfl⟩
  rw [h2] at h1
  exact Bool.eq_iff_iff.2 h1

def Three (b : Nat) (w : World) : Prop := ∃ t fr, w.heap[b]? = some (.cells scells t fr)
theorem Three.cell {b : Nat} {w : World} (h : Three b w) (j : Nat) (hj : j < leadsB.length) : w.cell? ⟨b, 0 + j, none⟩ = some (.string (leadsB.getD j ByteArray.empty)) := by
  obtain ⟨t, fr, hg⟩ := h
  match j, hj with
  | 0, _ => simp [World.cell?, hg]; rfl
  | 1, _ => simp [World.cell?, hg]; rfl
  | 2, _ => simp [World.cell?, hg]; rfl
theorem Three.new (w : World) : Three w.heap.size (w.alloc (.cells scells 9)) := ⟨_, _, heap_alloc_new w _⟩
theorem Three.below {b : Nat} {w w' : World} (h : Three b w) (hb : Below w.heap.size w w') : Three b w' := by
  obtain ⟨t, fr, hg⟩ := h
  exact ⟨t, fr, (hb.block b (Array.getElem?_eq_some_iff.1 hg).1).trans hg⟩
theorem lead3 (b : Nat) (x : List UInt8) (w : World) (h : Three b w) : Calls Tryz.prog 72 #[.slice (some ⟨b, 0, none⟩) 3 3, .string (B x)] w fun e w' => e = .returned (.bool (Lk.lead x)) ∧ w' = w := by
  have := Tryz.slices_Contains_string b 0 3 3 leadsB (B x) w (by decide) (by decide) h.cell
  rw [containsS_lead] at this
  exact this

set_option maxRecDepth 100000 in
set_option maxHeartbeats 1600000 in
theorem MayBe_any (s : ByteArray) (w : World) (hs : s.size ≤ 9223372036854775807) :
    Calls Tryz.prog 144 #[.string s] w fun e w' => e = .returned (.bool (Lk.may s.data.toList)) ∧ Below w.heap.size w w' := by
  have hl := len_list s
  by_cases h1 : s.size < 1
  · rw [may_len _ (.inl (by omega))]
    clear hl
    go_enter Tryz.func144, Tryz.ntmps144
    go_wp2
    go_ret
    exact ⟨rfl, Below.refl _ _⟩
  · by_cases h2 : 24 < s.size
    · rw [may_len _ (.inr (by omega))]
      clear hl
      go_enter Tryz.func144, Tryz.ntmps144
      go_wp2
      go_ret
      exact ⟨rfl, Below.refl _ _⟩
    · obtain ⟨m, hm⟩ : ∃ m, Lk.may s.data.toList = m := ⟨_, rfl⟩
      rw [hm]
      have HM : Hid (Lk.may s.data.toList = m) := hm
      clear hm
      go_enter Tryz.func144, Tryz.ntmps144
      go_wp2
      go_loop [14] (fun i => ∃ k : Nat, k ≤ s.size ∧ i = .int .i64 k ∧ (s.data.toList.take k).all Lk.stand = true) (fun i => s.size - (intOf i).toNat)
      case atStart => exact ⟨0, Nat.zero_le _, rfl, by simp⟩
      case round =>
        obtain ⟨k, hk, rfl, hall⟩ := hrel
        have HA : Hid ((s.data.toList.take k).all Lk.stand = true) := hall
        clear hall
        by_cases hlt : k < s.size
        · have hkl : k < s.data.toList.length := by omega
          obtain ⟨c, hc⟩ : ∃ c : UInt8, s[k]'hlt = c := ⟨_, rfl⟩
          have hcl : s.data.toList[k] = c := by rw [← hc]; rfl
          have hix := run_index_at s k hlt
          rw [hc] at hix
          have HF : Hid (Lk.stand c = false → m = false) := fun hst => by
            rw [← HM.out]; exact may_not s.data.toList k hkl (by rw [hcl]; exact hst)
          have HT : Hid (Lk.stand c = true → (s.data.toList.take (k + 1)).all Lk.stand = true) := fun hst => by
            rw [List.take_succ_eq_append_getElem hkl, List.all_append, HA.out, hcl]
            simp [hst]
          clear hcl hc
          by_cases hlo : 33 ≤ c.toNat
          · by_cases hhi : c.toNat ≤ 126
            · have hst := stand_mid hlo hhi
              have hback : ((c.toNat : Int)).toNat.toUInt8 = c := by simp
              have hI := fun w => Tryz.strings_IndexByte ⟨#[34, 39, 60, 62, 92, 96]⟩ (c.toNat : Int) w
              rw [hback] at hI
              change ∀ w, Calls Tryz.prog 70 _ w fun e w' => e = .returned (.int .i64 (Lib.indexByte Lk.barred c)) ∧ w' = w at hI
              have HI : Hid (∀ w, Calls Tryz.prog 70 #[.string ⟨#[34, 39, 60, 62, 92, 96]⟩, .int .u8 c.toNat] w fun e w' => e = .returned (.int .i64 (Lib.indexByte Lk.barred c)) ∧ w' = w) := hI
              clear hI hback
              generalize Lib.indexByte Lk.barred c = z at *
              by_cases hz : z < 0
              · have H2 : Hid ((s.data.toList.take (k + 1)).all Lk.stand = true) := HT.out (by rw [hst]; exact decide_eq_true hz)
                clear hst
                go_wp2_with fail
                refine (HI.out _).mono ?_
                rintro e w' ⟨rfl, hw⟩
                rw [hw]
                go_wp2
                go_round
                case rel => exact ⟨k + 1, by omega, by go_num, H2.out⟩
                case measure => simp [intOf]; omega
              · have hmf := HF.out (by rw [hst]; exact decide_eq_false hz)
                subst hmf
                clear hst
                go_wp2_with fail
                refine (HI.out _).mono ?_
                rintro e w' ⟨rfl, hw⟩
                rw [hw]
                go_wp2
                go_ret
                exact ⟨rfl, Below.refl _ _⟩
            · have hmf := HF.out (stand_hi (by omega))
              subst hmf
              go_wp2
              go_ret
              exact ⟨rfl, Below.refl _ _⟩
          · have hmf := HF.out (stand_lo (by omega))
            subst hmf
            go_wp2
            go_ret
            exact ⟨rfl, Below.refl _ _⟩
        · have hal : s.data.toList.all Lk.stand = true := by
            have := HA.out
            rw [List.take_of_length_le (by omega)] at this
            exact this
          have hmm := may_all s.data.toList (by omega) (by omega) hal
          rw [HM.out] at hmm
          have HH : Hid (m = Lk.lead (Lk.scheme s.data.toList)) := hmm
          clear hal hmm
          go_wp2_with fail
          have HT : Hid (Three w.heap.size (w.alloc (.cells scells 9))) := Three.new w
          have HW : Hid (Below w.heap.size w (w.alloc (.cells scells 9))) := (Below.refl _ _).alloc (Nat.le_refl _) _
          change Calls Tryz.prog 216 #[.string s] (w.alloc (.cells scells 9)) _
          generalize w.alloc (.cells scells 9) = w1 at *
          refine (SchemeOf_any s w1 (by omega)).mono ?_
          rintro e w2 ⟨rfl, hb2⟩
          have H2 : Hid (Below w.heap.size w w2) := HW.out.trans (hb2.mono HW.out.size)
          have T2 : Hid (Three w.heap.size w2) := HT.out.below hb2
          clear hb2
          go_wp2_with fail
          refine (lead3 _ _ _ T2.out).mono ?_
          rintro e w3 ⟨rfl, hw⟩
          rw [hw]
          go_wp2
          go_ret
          exact ⟨by rw [HH.out]; rfl, H2.out⟩

end Go.Proofs.YtbhcklkbckacpaaGreatDoor

/-
  Chapter 3's items: what an item is in memory, and what package doc tells of one.
-/
namespace Go.Proofs.YtbhcklkbckacpaaGreatDoor
open Go.RowKit
structure It where
  c : UInt8
  m : Int
  l : ByteArray
namespace Dc
def ends (x : It) : Bool := (x.c.toNat : Int) == 10
def isChar (x : It) : Bool := decide (32 ≤ (x.c.toNat : Int)) && decide ((x.c.toNat : Int) ≤ 126)
def marks (x : It) : Bool := decide (0 ≤ x.m) && decide (x.m ≤ 3)
def link (x : It) : Bool := x.l.toList.isEmpty || (!ends x && Lk.may x.l.data.toList)
def err (x : It) : Int := if !ends x && !isChar x then 1 else if !marks x then 3 else if !link x then 4 else 0
end Dc

theorem ends_any (x : It) (w : World) : Calls Tryz.prog 149 #[.agg #[.int .u8 x.c.toNat, .int .i64 x.m, .string x.l]] w fun e w' => e = .returned (.bool (Dc.ends x)) ∧ Below w.heap.size w w' := by
  go_enter Tryz.func149, Tryz.ntmps149
  go_wp2
  go_ret
  exact ⟨rfl, (Below.refl _ _).alloc (Nat.le_refl _) _⟩
theorem isch_any (x : It) (w : World) : Calls Tryz.prog 255 #[.agg #[.int .u8 x.c.toNat, .int .i64 x.m, .string x.l]] w fun e w' => e = .returned (.bool (Dc.isChar x)) ∧ Below w.heap.size w w' := by
  by_cases h : 32 ≤ (x.c.toNat : Int)
  · have hr : Dc.isChar x = decide ((x.c.toNat : Int) ≤ 126) := by unfold Dc.isChar; rw [decide_eq_true h]; rfl
    rw [hr]
    clear hr
    go_enter Tryz.func255, Tryz.ntmps255
    go_wp2
    go_ret
    exact ⟨rfl, (Below.refl _ _).alloc (Nat.le_refl _) _⟩
  · have hr : Dc.isChar x = false := by unfold Dc.isChar; rw [decide_eq_false h]; rfl
    rw [hr]
    clear hr
    go_enter Tryz.func255, Tryz.ntmps255
    go_wp2
    go_ret
    exact ⟨rfl, (Below.refl _ _).alloc (Nat.le_refl _) _⟩

def boxed (x : It) (w : World) : World := w.alloc (.cells #[.int .u8 x.c.toNat, .int .i64 x.m, .string x.l] 39)
theorem boxed_below (x : It) (w : World) : Below w.heap.size w (boxed x w) := (Below.refl _ _).alloc (Nat.le_refl _) _
structure Boxed (b : Nat) (x : It) (w : World) : Prop where
  c : w.cell? ⟨b, 0, none⟩ = some (.int .u8 x.c.toNat)
  m : w.cell? ⟨b, 1, none⟩ = some (.int .i64 x.m)
  l : w.cell? ⟨b, 2, none⟩ = some (.string x.l)
theorem cell_lt {w : World} {a : Addr} {v : Value} (h : w.cell? a = some v) : a.block < w.heap.size := by
  unfold World.cell? at h
  split at h
  · rename_i hh; exact (Array.getElem?_eq_some_iff.1 hh).1
  · cases h
theorem cell_below {w w' : World} {a : Addr} {v : Value} (h : w.cell? a = some v) (hb : Below w.heap.size w w') : w'.cell? a = some v :=
  (hb.cell (cell_lt h)).trans h
theorem Boxed.below {b : Nat} {x : It} {w w' : World} (h : Boxed b x w) (hb : Below w.heap.size w w') : Boxed b x w' :=
  ⟨cell_below h.c hb, cell_below h.m hb, cell_below h.l hb⟩
theorem boxed_at (x : It) (w : World) : Boxed w.heap.size x (boxed x w) := by
  have h : (boxed x w).heap[w.heap.size]? = some (.cells #[.int .u8 x.c.toNat, .int .i64 x.m, .string x.l] 39) := heap_alloc_new w _
  refine ⟨?_, ?_, ?_⟩ <;> (unfold World.cell?; rw [h]; rfl)

set_option maxHeartbeats 800000 in
theorem mayl_any (x : It) (w : World) (hS : Sch w) (hl : x.l.size ≤ 9223372036854775807) : Calls Tryz.prog 256 #[.agg #[.int .u8 x.c.toNat, .int .i64 x.m, .string x.l]] w fun e w' => e = .returned (.bool (Dc.link x)) ∧ Below w.heap.size w w' := by
  have HS : Hid (Sch (boxed x w)) := hS.below (boxed_below x w)
  clear hS
  have H1 : Hid (Below w.heap.size w (boxed x w)) := boxed_below x w
  have HB : Hid (Boxed w.heap.size x (boxed x w)) := boxed_at x w
  cases h0 : x.l.toList.isEmpty
  · have hr : Dc.link x = (!Dc.ends x && Lk.may x.l.data.toList) := by unfold Dc.link; rw [h0]; rfl
    rw [hr]
    clear hr
    cases he : Dc.ends x
    · go_enter Tryz.func256, Tryz.ntmps256
      go_wp2_with fail
      change Calls Tryz.prog 149 _ (boxed x w) _
      refine (ends_any x _).mono ?_
      rintro e w1 ⟨rfl, hb⟩
      rw [he]
      have hc := (HB.out.below hb).l
      have HS1 : Hid (Sch w1) := HS.out.below hb
      have H2 : Hid (Below w.heap.size w w1) := H1.out.trans (hb.mono H1.out.size)
      clear hb
      go_wp2_with fail
      refine (may_any x.l _ hl HS1.out).mono ?_
      rintro e w2 ⟨rfl, hb⟩
      have H3 : Hid (Below w.heap.size w w2) := H2.out.trans (hb.mono H2.out.size)
      clear hb
      go_wp2
      go_ret
      exact ⟨rfl, H3.out⟩
    · go_enter Tryz.func256, Tryz.ntmps256
      go_wp2_with fail
      change Calls Tryz.prog 149 _ (boxed x w) _
      refine (ends_any x _).mono ?_
      rintro e w1 ⟨rfl, hb⟩
      rw [he]
      have H2 : Hid (Below w.heap.size w w1) := H1.out.trans (hb.mono H1.out.size)
      clear hb
      go_wp2
      go_ret
      exact ⟨rfl, H2.out⟩
  · have hr : Dc.link x = true := by unfold Dc.link; rw [h0]; rfl
    rw [hr]
    clear hr
    go_enter Tryz.func256, Tryz.ntmps256
    go_wp2
    go_ret
    exact ⟨rfl, H1.out⟩

theorem err_text {x : It} (h : Dc.ends x = false) (h2 : Dc.isChar x = false) : Dc.err x = 1 := by unfold Dc.err; rw [h, h2]; rfl
theorem err_rest {x : It} (h : Dc.ends x = true ∨ Dc.isChar x = true) : Dc.err x = if !Dc.marks x then 3 else if !Dc.link x then 4 else 0 := by
  unfold Dc.err
  rcases h with h | h <;> rw [h] <;> simp
theorem err_marks {x : It} (h : Dc.ends x = true ∨ Dc.isChar x = true) (hm : x.m < 0 ∨ 3 < x.m) : Dc.err x = 3 := by
  rw [err_rest h]
  have : Dc.marks x = false := by unfold Dc.marks; simp; omega
  rw [this]; rfl
theorem err_link {x : It} (h : Dc.ends x = true ∨ Dc.isChar x = true) (h0 : 0 ≤ x.m) (h3 : x.m ≤ 3) : Dc.err x = if Dc.link x then 0 else 4 := by
  rw [err_rest h]
  have : Dc.marks x = true := by unfold Dc.marks; simp; omega
  rw [this]
  cases Dc.link x <;> rfl

set_option maxHeartbeats 3200000 in
theorem item_any (x : It) (w : World) (hS : Sch w) (hl : x.l.size ≤ 9223372036854775807) : Calls Tryz.prog 218 #[.agg #[.int .u8 x.c.toNat, .int .i64 x.m, .string x.l]] w fun e w' => e = .returned (.int .i64 (Dc.err x)) ∧ Below w.heap.size w w' := by
  have HS : Hid (Sch (boxed x w)) := hS.below (boxed_below x w)
  clear hS
  have H1 : Hid (Below w.heap.size w (boxed x w)) := boxed_below x w
  have HB : Hid (Boxed w.heap.size x (boxed x w)) := boxed_at x w
  obtain ⟨r, hr⟩ : ∃ r, Dc.err x = r := ⟨_, rfl⟩
  have HR : Hid (Dc.err x = r) := hr
  rw [hr]
  clear hr
  cases he : Dc.ends x
  · cases hc : Dc.isChar x
    · have : r = 1 := HR.out.symm.trans (err_text he hc)
      subst this
      go_enter Tryz.func218, Tryz.ntmps218
      go_wp2_with fail
      change Calls Tryz.prog 149 _ (boxed x w) _
      refine (ends_any x _).mono ?_
      rintro e w1 ⟨rfl, hb⟩
      rw [he]
      have B2 := HB.out.below hb
      have hc0 := B2.c
      have hc1 := B2.m
      have hc2 := B2.l
      have HB2 : Hid (Boxed w.heap.size x w1) := B2
      clear B2
      have HS2 : Hid (Sch w1) := HS.out.below hb
      have H2 : Hid (Below w.heap.size w w1) := H1.out.trans (hb.mono H1.out.size)
      clear hb
      go_wp2_with fail
      refine (isch_any x _).mono ?_
      rintro e w2 ⟨rfl, hb⟩
      rw [hc]
      have B3 := HB2.out.below hb
      have hd0 := B3.c
      have hd1 := B3.m
      have hd2 := B3.l
      clear B3
      have HS3 : Hid (Sch w2) := HS2.out.below hb
      have H3 : Hid (Below w.heap.size w w2) := H2.out.trans (hb.mono H2.out.size)
      clear hb
      go_wp2
      go_ret
      exact ⟨rfl, H3.out⟩
    · have ok : Dc.ends x = true ∨ Dc.isChar x = true := .inr hc
      by_cases hm : x.m < 0
      · have : r = 3 := HR.out.symm.trans (err_marks ok (.inl hm))
        subst this
        clear ok
        go_enter Tryz.func218, Tryz.ntmps218
        go_wp2_with fail
        change Calls Tryz.prog 149 _ (boxed x w) _
        refine (ends_any x _).mono ?_
        rintro e w1 ⟨rfl, hb⟩
        rw [he]
        have B2 := HB.out.below hb
        have hc0 := B2.c
        have hc1 := B2.m
        have hc2 := B2.l
        have HB2 : Hid (Boxed w.heap.size x w1) := B2
        clear B2
        have HS2 : Hid (Sch w1) := HS.out.below hb
        have H2 : Hid (Below w.heap.size w w1) := H1.out.trans (hb.mono H1.out.size)
        clear hb
        go_wp2_with fail
        refine (isch_any x _).mono ?_
        rintro e w2 ⟨rfl, hb⟩
        rw [hc]
        have B3 := HB2.out.below hb
        have hd0 := B3.c
        have hd1 := B3.m
        have hd2 := B3.l
        clear B3
        have HS3 : Hid (Sch w2) := HS2.out.below hb
        have H3 : Hid (Below w.heap.size w w2) := H2.out.trans (hb.mono H2.out.size)
        clear hb
        go_wp2
        go_ret
        exact ⟨rfl, H3.out⟩
      · by_cases hm3 : 3 < x.m
        · have : r = 3 := HR.out.symm.trans (err_marks ok (.inr hm3))
          subst this
          clear ok
          go_enter Tryz.func218, Tryz.ntmps218
          go_wp2_with fail
          change Calls Tryz.prog 149 _ (boxed x w) _
          refine (ends_any x _).mono ?_
          rintro e w1 ⟨rfl, hb⟩
          rw [he]
          have B2 := HB.out.below hb
          have hc0 := B2.c
          have hc1 := B2.m
          have hc2 := B2.l
          have HB2 : Hid (Boxed w.heap.size x w1) := B2
          clear B2
          have HS2 : Hid (Sch w1) := HS.out.below hb
          have H2 : Hid (Below w.heap.size w w1) := H1.out.trans (hb.mono H1.out.size)
          clear hb
          go_wp2_with fail
          refine (isch_any x _).mono ?_
          rintro e w2 ⟨rfl, hb⟩
          rw [hc]
          have B3 := HB2.out.below hb
          have hd0 := B3.c
          have hd1 := B3.m
          have hd2 := B3.l
          clear B3
          have HS3 : Hid (Sch w2) := HS2.out.below hb
          have H3 : Hid (Below w.heap.size w w2) := H2.out.trans (hb.mono H2.out.size)
          clear hb
          go_wp2
          go_ret
          exact ⟨rfl, H3.out⟩
        · have hrl := HR.out.symm.trans (err_link ok (by omega) (by omega))
          clear ok
          cases hk : Dc.link x
          · rw [hk] at hrl
            have : r = 4 := hrl
            subst this
            clear hrl
            go_enter Tryz.func218, Tryz.ntmps218
            go_wp2_with fail
            change Calls Tryz.prog 149 _ (boxed x w) _
            refine (ends_any x _).mono ?_
            rintro e w1 ⟨rfl, hb⟩
            rw [he]
            have B2 := HB.out.below hb
            have hc0 := B2.c
            have hc1 := B2.m
            have hc2 := B2.l
            have HB2 : Hid (Boxed w.heap.size x w1) := B2
            clear B2
            have HS2 : Hid (Sch w1) := HS.out.below hb
            have H2 : Hid (Below w.heap.size w w1) := H1.out.trans (hb.mono H1.out.size)
            clear hb
            go_wp2_with fail
            refine (isch_any x _).mono ?_
            rintro e w2 ⟨rfl, hb⟩
            rw [hc]
            have B3 := HB2.out.below hb
            have hd0 := B3.c
            have hd1 := B3.m
            have hd2 := B3.l
            clear B3
            have HS3 : Hid (Sch w2) := HS2.out.below hb
            have H3 : Hid (Below w.heap.size w w2) := H2.out.trans (hb.mono H2.out.size)
            clear hb
            go_wp2_with fail
            refine (mayl_any x _ HS3.out hl).mono ?_
            rintro e w4 ⟨rfl, hb⟩
            rw [hk]
            have H4 : Hid (Below w.heap.size w w4) := H3.out.trans (hb.mono H3.out.size)
            clear hb
            go_wp2
            go_ret
            exact ⟨rfl, H4.out⟩
          · rw [hk] at hrl
            have : r = 0 := hrl
            subst this
            clear hrl
            go_enter Tryz.func218, Tryz.ntmps218
            go_wp2_with fail
            change Calls Tryz.prog 149 _ (boxed x w) _
            refine (ends_any x _).mono ?_
            rintro e w1 ⟨rfl, hb⟩
            rw [he]
            have B2 := HB.out.below hb
            have hc0 := B2.c
            have hc1 := B2.m
            have hc2 := B2.l
            have HB2 : Hid (Boxed w.heap.size x w1) := B2
            clear B2
            have HS2 : Hid (Sch w1) := HS.out.below hb
            have H2 : Hid (Below w.heap.size w w1) := H1.out.trans (hb.mono H1.out.size)
            clear hb
            go_wp2_with fail
            refine (isch_any x _).mono ?_
            rintro e w2 ⟨rfl, hb⟩
            rw [hc]
            have B3 := HB2.out.below hb
            have hd0 := B3.c
            have hd1 := B3.m
            have hd2 := B3.l
            clear B3
            have HS3 : Hid (Sch w2) := HS2.out.below hb
            have H3 : Hid (Below w.heap.size w w2) := H2.out.trans (hb.mono H2.out.size)
            clear hb
            go_wp2_with fail
            refine (mayl_any x _ HS3.out hl).mono ?_
            rintro e w4 ⟨rfl, hb⟩
            rw [hk]
            have H4 : Hid (Below w.heap.size w w4) := H3.out.trans (hb.mono H3.out.size)
            clear hb
            go_wp2
            go_ret
            exact ⟨rfl, H4.out⟩
  · have ok : Dc.ends x = true ∨ Dc.isChar x = true := .inl he
    by_cases hm : x.m < 0
    · have : r = 3 := HR.out.symm.trans (err_marks ok (.inl hm))
      subst this
      clear ok
      go_enter Tryz.func218, Tryz.ntmps218
      go_wp2_with fail
      change Calls Tryz.prog 149 _ (boxed x w) _
      refine (ends_any x _).mono ?_
      rintro e w1 ⟨rfl, hb⟩
      rw [he]
      have B2 := HB.out.below hb
      have hc0 := B2.c
      have hc1 := B2.m
      have hc2 := B2.l
      have HB2 : Hid (Boxed w.heap.size x w1) := B2
      clear B2
      have HS2 : Hid (Sch w1) := HS.out.below hb
      have H2 : Hid (Below w.heap.size w w1) := H1.out.trans (hb.mono H1.out.size)
      clear hb
      go_wp2
      go_ret
      exact ⟨rfl, H2.out⟩
    · by_cases hm3 : 3 < x.m
      · have : r = 3 := HR.out.symm.trans (err_marks ok (.inr hm3))
        subst this
        clear ok
        go_enter Tryz.func218, Tryz.ntmps218
        go_wp2_with fail
        change Calls Tryz.prog 149 _ (boxed x w) _
        refine (ends_any x _).mono ?_
        rintro e w1 ⟨rfl, hb⟩
        rw [he]
        have B2 := HB.out.below hb
        have hc0 := B2.c
        have hc1 := B2.m
        have hc2 := B2.l
        have HB2 : Hid (Boxed w.heap.size x w1) := B2
        clear B2
        have HS2 : Hid (Sch w1) := HS.out.below hb
        have H2 : Hid (Below w.heap.size w w1) := H1.out.trans (hb.mono H1.out.size)
        clear hb
        go_wp2
        go_ret
        exact ⟨rfl, H2.out⟩
      · have hrl := HR.out.symm.trans (err_link ok (by omega) (by omega))
        clear ok
        cases hk : Dc.link x
        · rw [hk] at hrl
          have : r = 4 := hrl
          subst this
          clear hrl
          go_enter Tryz.func218, Tryz.ntmps218
          go_wp2_with fail
          change Calls Tryz.prog 149 _ (boxed x w) _
          refine (ends_any x _).mono ?_
          rintro e w1 ⟨rfl, hb⟩
          rw [he]
          have B2 := HB.out.below hb
          have hc0 := B2.c
          have hc1 := B2.m
          have hc2 := B2.l
          have HB2 : Hid (Boxed w.heap.size x w1) := B2
          clear B2
          have HS2 : Hid (Sch w1) := HS.out.below hb
          have H2 : Hid (Below w.heap.size w w1) := H1.out.trans (hb.mono H1.out.size)
          clear hb
          go_wp2_with fail
          refine (mayl_any x _ HS2.out hl).mono ?_
          rintro e w4 ⟨rfl, hb⟩
          rw [hk]
          have H4 : Hid (Below w.heap.size w w4) := H2.out.trans (hb.mono H2.out.size)
          clear hb
          go_wp2
          go_ret
          exact ⟨rfl, H4.out⟩
        · rw [hk] at hrl
          have : r = 0 := hrl
          subst this
          clear hrl
          go_enter Tryz.func218, Tryz.ntmps218
          go_wp2_with fail
          change Calls Tryz.prog 149 _ (boxed x w) _
          refine (ends_any x _).mono ?_
          rintro e w1 ⟨rfl, hb⟩
          rw [he]
          have B2 := HB.out.below hb
          have hc0 := B2.c
          have hc1 := B2.m
          have hc2 := B2.l
          have HB2 : Hid (Boxed w.heap.size x w1) := B2
          clear B2
          have HS2 : Hid (Sch w1) := HS.out.below hb
          have H2 : Hid (Below w.heap.size w w1) := H1.out.trans (hb.mono H1.out.size)
          clear hb
          go_wp2_with fail
          refine (mayl_any x _ HS2.out hl).mono ?_
          rintro e w4 ⟨rfl, hb⟩
          rw [hk]
          have H4 : Hid (Below w.heap.size w w4) := H2.out.trans (hb.mono H2.out.size)
          clear hb
          go_wp2
          go_ret
          exact ⟨rfl, H4.out⟩
end Go.Proofs.YtbhcklkbckacpaaGreatDoor

/-
  Lists of items in memory, and doc.Items of any list.
-/
namespace Go.Proofs.YtbhcklkbckacpaaGreatDoor
open Go.RowKit
namespace Dc
def errs : List It → Int
  | [] => 0
  | x :: t => if err x = 0 then errs t else err x
theorem errs_step (l : List It) (k : Nat) (h : k < l.length) : errs (l.drop k) = if err l[k] = 0 then errs (l.drop (k + 1)) else err l[k] := by
  rw [List.drop_eq_getElem_cons h, errs]
end Dc
structure At (w : World) (b off : Nat) (l : List It) : Prop where
  c : ∀ i (h : i < l.length), w.cell? ⟨b, off + i * 3, none⟩ = some (.int .u8 l[i].c.toNat)
  m : ∀ i (h : i < l.length), w.cell? ⟨b, off + i * 3 + 1, none⟩ = some (.int .i64 l[i].m)
  l : ∀ i (h : i < l.length), w.cell? ⟨b, off + i * 3 + 2, none⟩ = some (.string l[i].l)
theorem At.below {w w' : World} {b off : Nat} {l : List It} (h : At w b off l) (hb : Below w.heap.size w w') : At w' b off l :=
  ⟨fun i hi => cell_below (h.c i hi) hb, fun i hi => cell_below (h.m i hi) hb, fun i hi => cell_below (h.l i hi) hb⟩
def Fit (l : List It) : Prop := ∀ x ∈ l, x.l.size ≤ 9223372036854775807
structure Doc (w : World) (ao : Option Addr) (n cap : Nat) (l : List It) : Prop where
  fit : Fit l
  len : l.length = n
  room : n ≤ cap
  big : cap ≤ 9223372036854775807
  lies : n ≠ 0 → ∃ b off, ao = some ⟨b, off, none⟩ ∧ At w b off l
theorem Doc.below {w w' : World} {ao : Option Addr} {n cap : Nat} {l : List It} (h : Doc w ao n cap l) (hb : Below w.heap.size w w') : Doc w' ao n cap l :=
  ⟨h.fit, h.len, h.room, h.big, fun hn => by obtain ⟨b, off, e, hA⟩ := h.lies hn; exact ⟨b, off, e, hA.below hb⟩⟩

set_option maxHeartbeats 1600000 in
theorem items_any (ao : Option Addr) (n cap : Nat) (l : List It) (w : World) (hD : Doc w ao n cap l) (hS : Sch w) :
    Calls Tryz.prog 148 #[.slice ao n cap] w fun e w' => e = .returned (.int .i64 (Dc.errs l)) ∧ Below w.heap.size w w' := by
  have HD : Hid (Doc w ao n cap l) := hD
  have hn := hD.len
  subst hn
  have hcap := hD.room
  have hbig := hD.big
  clear hD
  have HS : Hid (Sch w) := hS
  clear hS
  obtain ⟨r, hr⟩ : ∃ r, Dc.errs l = r := ⟨_, rfl⟩
  have HR : Hid (Dc.errs l = r) := hr
  rw [hr]
  clear hr
  go_enter Tryz.func148, Tryz.ntmps148
  go_wp2
  go_loopw [8] (fun i wr => ∃ k : Nat, k ≤ l.length ∧ i = .int .i64 k ∧ Below w.heap.size w wr ∧ Dc.errs (l.drop k) = r) (fun i _ => l.length - (intOf i).toNat)
  case atStart => exact ⟨0, Nat.zero_le _, rfl, Below.refl _ _, HR.out⟩
  case round =>
    obtain ⟨k, hk, rfl, hbr, her⟩ := hrel
    have HE : Hid (Dc.errs (l.drop k) = r) := her
    have HBR : Hid (Below w.heap.size w wr) := hbr
    clear her hbr
    by_cases hlt : k < l.length
    · obtain ⟨b, off, rfl, A0⟩ := HD.out.lies (by omega)
      have A1 := A0.below HBR.out
      have hc0 := A1.c k hlt
      have hc1 := A1.m k hlt
      have hc2 := A1.l k hlt
      have hfx := HD.out.fit _ (List.getElem_mem hlt)
      have HX : Hid (Dc.errs (l.drop k) = if Dc.err l[k] = 0 then Dc.errs (l.drop (k + 1)) else Dc.err l[k]) := Dc.errs_step l k hlt
      clear A1 A0
      generalize hx : l[k] = x at *
      have HS2 : Hid (Sch (boxed x wr)) := HS.out.below (HBR.out.trans ((boxed_below x wr).mono HBR.out.size))
      have H1 : Hid (Below w.heap.size w (boxed x wr)) := HBR.out.trans ((boxed_below x wr).mono HBR.out.size)
      clear hx
      go_wp2_with fail
      change Calls Tryz.prog 218 _ (boxed x wr) _
      refine (item_any x _ HS2.out hfx).mono ?_
      rintro e w1 ⟨rfl, hb⟩
      have H2 : Hid (Below w.heap.size w w1) := H1.out.trans (hb.mono H1.out.size)
      clear hb
      by_cases h0 : Dc.err x = 0
      · have HN : Hid (Dc.errs (l.drop (k + 1)) = r) := by show _ = _; rw [← HE.out, HX.out, if_pos h0]
        rw [h0]
        clear h0
        go_wp2
        go_roundw
        case rel => exact ⟨k + 1, by omega, by go_num, H2.out, HN.out⟩
        case measure => simp [intOf]; omega
      · have hrr : Dc.err x = r := by rw [← HE.out, HX.out, if_neg h0]
        rw [hrr] at h0 ⊢
        clear hrr
        go_wp2
        go_ret
        exact ⟨rfl, H2.out⟩
    · have : r = 0 := by rw [← HE.out, List.drop_eq_nil_of_le (by omega)]; rfl
      subst this
      go_wp2
      go_ret
      exact ⟨rfl, HBR.out⟩
end Go.Proofs.YtbhcklkbckacpaaGreatDoor

/-
  The reference's CheckItem and CheckItems: as doc.Item and doc.Items have it.
-/
namespace Go.Proofs.YtbhcklkbckacpaaGreatDoor
open Go.RowKit

set_option maxHeartbeats 3200000 in
theorem CheckItem_any (x : It) (w : World) (hl : x.l.size ≤ 9223372036854775807) : Calls Tryz.prog 165 #[.agg #[.int .u8 x.c.toNat, .int .i64 x.m, .string x.l]] w fun e w' => e = .returned (.int .i64 (Dc.err x)) ∧ Below w.heap.size w w' := by
  have H1 : Hid (Below w.heap.size w (boxed x w)) := boxed_below x w
  have CM : Hid (∀ w, Calls Tryz.prog 144 #[.string x.l] w fun e w' => e = .returned (.bool (Lk.may x.l.data.toList)) ∧ Below w.heap.size w w') := fun w => MayBe_any x.l w hl
  obtain ⟨r, hr⟩ : ∃ r, Dc.err x = r := ⟨_, rfl⟩
  have HR : Hid (Dc.err x = r) := hr
  rw [hr]
  clear hr
  by_cases h10 : (x.c.toNat : Int) = 10
  · have he : Dc.ends x = true := by unfold Dc.ends; simpa using h10
    by_cases hm : x.m < 0
    · have : r = 3 := HR.out.symm.trans (err_marks (.inl he) (.inl hm))
      subst this
      clear HR
      go_enter Tryz.func165, Tryz.ntmps165
      go_wp2
      go_ret
      exact ⟨rfl, (Below.refl _ _).alloc (Nat.le_refl _) _⟩
    · by_cases hm3 : 3 < x.m
      · have : r = 3 := HR.out.symm.trans (err_marks (.inl he) (.inr hm3))
        subst this
        clear HR
        go_enter Tryz.func165, Tryz.ntmps165
        go_wp2
        go_ret
        exact ⟨rfl, (Below.refl _ _).alloc (Nat.le_refl _) _⟩
      · have hk := err_link (.inl he) (by omega) (by omega)
        cases h0 : x.l.toList.isEmpty
        · rw [show Dc.link x = false by unfold Dc.link; rw [h0, he]; rfl] at hk
          have : r = 4 := HR.out.symm.trans (hk)
          subst this
          clear HR
          go_enter Tryz.func165, Tryz.ntmps165
          go_wp2
          go_ret
          exact ⟨rfl, (Below.refl _ _).alloc (Nat.le_refl _) _⟩
        · rw [show Dc.link x = true by unfold Dc.link; rw [h0]; rfl] at hk
          have : r = 0 := HR.out.symm.trans (hk)
          subst this
          clear HR
          go_enter Tryz.func165, Tryz.ntmps165
          go_wp2
          go_ret
          exact ⟨rfl, (Below.refl _ _).alloc (Nat.le_refl _) _⟩
  · have he : Dc.ends x = false := by unfold Dc.ends; simpa using h10
    by_cases hlo : (x.c.toNat : Int) < 32
    · have hch : Dc.isChar x = false := by unfold Dc.isChar; rw [decide_eq_false (by omega)]; rfl
      have : r = 1 := HR.out.symm.trans (err_text he hch)
      subst this
      clear HR
      go_enter Tryz.func165, Tryz.ntmps165
      go_wp2
      go_ret
      exact ⟨rfl, (Below.refl _ _).alloc (Nat.le_refl _) _⟩
    · by_cases hhi : 126 < (x.c.toNat : Int)
      · have hch : Dc.isChar x = false := by unfold Dc.isChar; rw [decide_eq_false (show ¬ (x.c.toNat : Int) ≤ 126 by omega)]; simp
        have : r = 1 := HR.out.symm.trans (err_text he hch)
        subst this
        clear HR
        go_enter Tryz.func165, Tryz.ntmps165
        go_wp2
        go_ret
        exact ⟨rfl, (Below.refl _ _).alloc (Nat.le_refl _) _⟩
      · have hch : Dc.isChar x = true := by unfold Dc.isChar; rw [decide_eq_true (show (x.c.toNat : Int) ≤ 126 by omega), decide_eq_true (show 32 ≤ (x.c.toNat : Int) by omega)]; rfl
        by_cases hm : x.m < 0
        · have : r = 3 := HR.out.symm.trans (err_marks (.inr hch) (.inl hm))
          subst this
          clear HR
          go_enter Tryz.func165, Tryz.ntmps165
          go_wp2
          go_ret
          exact ⟨rfl, (Below.refl _ _).alloc (Nat.le_refl _) _⟩
        · by_cases hm3 : 3 < x.m
          · have : r = 3 := HR.out.symm.trans (err_marks (.inr hch) (.inr hm3))
            subst this
            clear HR
            go_enter Tryz.func165, Tryz.ntmps165
            go_wp2
            go_ret
            exact ⟨rfl, (Below.refl _ _).alloc (Nat.le_refl _) _⟩
          · have hk := err_link (.inr hch) (by omega) (by omega)
            cases h0 : x.l.toList.isEmpty
            · cases hmay : Lk.may x.l.data.toList
              · rw [show Dc.link x = false by unfold Dc.link; rw [h0, he, hmay]; rfl] at hk
                rw [hmay] at CM
                have : r = 4 := HR.out.symm.trans (hk)
                subst this
                clear HR
                go_enter Tryz.func165, Tryz.ntmps165
                go_wp2_with fail
                refine (CM.out _).mono ?_
                rintro e w2 ⟨rfl, hb⟩
                have H2 : Hid (Below w.heap.size w w2) := H1.out.trans (hb.mono H1.out.size)
                clear hb
                go_wp2
                go_ret
                exact ⟨rfl, H2.out⟩
              · rw [show Dc.link x = true by unfold Dc.link; rw [h0, he, hmay]; rfl] at hk
                rw [hmay] at CM
                have : r = 0 := HR.out.symm.trans (hk)
                subst this
                clear HR
                go_enter Tryz.func165, Tryz.ntmps165
                go_wp2_with fail
                refine (CM.out _).mono ?_
                rintro e w2 ⟨rfl, hb⟩
                have H2 : Hid (Below w.heap.size w w2) := H1.out.trans (hb.mono H1.out.size)
                clear hb
                go_wp2
                go_ret
                exact ⟨rfl, H2.out⟩
            · rw [show Dc.link x = true by unfold Dc.link; rw [h0]; rfl] at hk
              have : r = 0 := HR.out.symm.trans (hk)
              subst this
              clear HR
              go_enter Tryz.func165, Tryz.ntmps165
              go_wp2
              go_ret
              exact ⟨rfl, (Below.refl _ _).alloc (Nat.le_refl _) _⟩

set_option maxHeartbeats 1600000 in
theorem CheckItems_any (ao : Option Addr) (n cap : Nat) (l : List It) (w : World) (hD : Doc w ao n cap l) :
    Calls Tryz.prog 89 #[.slice ao n cap] w fun e w' => e = .returned (.int .i64 (Dc.errs l)) ∧ Below w.heap.size w w' := by
  have HD : Hid (Doc w ao n cap l) := hD
  have hn := hD.len
  subst hn
  have hcap := hD.room
  have hbig := hD.big
  clear hD
  obtain ⟨r, hr⟩ : ∃ r, Dc.errs l = r := ⟨_, rfl⟩
  have HR : Hid (Dc.errs l = r) := hr
  rw [hr]
  clear hr
  go_enter Tryz.func89, Tryz.ntmps89
  go_wp2
  go_loopw [8] (fun i wr => ∃ k : Nat, k ≤ l.length ∧ i = .int .i64 k ∧ Below w.heap.size w wr ∧ Dc.errs (l.drop k) = r) (fun i _ => l.length - (intOf i).toNat)
  case atStart => exact ⟨0, Nat.zero_le _, rfl, Below.refl _ _, HR.out⟩
  case round =>
    obtain ⟨k, hk, rfl, hbr, her⟩ := hrel
    have HE : Hid (Dc.errs (l.drop k) = r) := her
    have HBR : Hid (Below w.heap.size w wr) := hbr
    clear her hbr
    by_cases hlt : k < l.length
    · obtain ⟨b, off, rfl, A0⟩ := HD.out.lies (by omega)
      have A1 := A0.below HBR.out
      have hc0 := A1.c k hlt
      have hc1 := A1.m k hlt
      have hc2 := A1.l k hlt
      have hfx := HD.out.fit _ (List.getElem_mem hlt)
      have HX : Hid (Dc.errs (l.drop k) = if Dc.err l[k] = 0 then Dc.errs (l.drop (k + 1)) else Dc.err l[k]) := Dc.errs_step l k hlt
      clear A1 A0
      generalize hx : l[k] = x at *
      have H1 : Hid (Below w.heap.size w (boxed x wr)) := HBR.out.trans ((boxed_below x wr).mono HBR.out.size)
      clear hx
      go_wp2_with fail
      change Calls Tryz.prog 165 _ (boxed x wr) _
      refine (CheckItem_any x _ hfx).mono ?_
      rintro e w1 ⟨rfl, hb⟩
      have H2 : Hid (Below w.heap.size w w1) := H1.out.trans (hb.mono H1.out.size)
      clear hb
      by_cases h0 : Dc.err x = 0
      · have HN : Hid (Dc.errs (l.drop (k + 1)) = r) := by show _ = _; rw [← HE.out, HX.out, if_pos h0]
        rw [h0]
        clear h0
        go_wp2
        go_roundw
        case rel => exact ⟨k + 1, by omega, by go_num, H2.out, HN.out⟩
        case measure => simp [intOf]; omega
      · have hrr : Dc.err x = r := by rw [← HE.out, HX.out, if_neg h0]
        rw [hrr] at h0 ⊢
        clear hrr
        go_wp2
        go_ret
        exact ⟨rfl, H2.out⟩
    · have : r = 0 := by rw [← HE.out, List.drop_eq_nil_of_le (by omega)]; rfl
      subst this
      go_wp2
      go_ret
      exact ⟨rfl, HBR.out⟩
end Go.Proofs.YtbhcklkbckacpaaGreatDoor

/-
  doc.Check of any list of items, and the reference's CheckDoc: what is wrong with it as a document.
-/
namespace Go.Proofs.YtbhcklkbckacpaaGreatDoor
open Go.RowKit
namespace Dc
def check (l : List It) : Int := if 80 < l.length then 2 else if errs l ≠ 0 then errs l else if h : l.length - 1 < l.length then (if ends l[l.length - 1] then 0 else 4) else 4
theorem check_many {l : List It} (h : 80 < l.length) : check l = 2 := by unfold check; rw [if_pos h]
theorem check_errs {l : List It} (h : ¬ 80 < l.length) (h0 : ¬ errs l = 0) : check l = errs l := by unfold check; rw [if_neg h, if_pos h0]
theorem check_none {l : List It} (h0 : errs l = 0) (hn : l.length = 0) : check l = 4 := by
  unfold check
  rw [if_neg (by omega), if_neg (by simpa using h0), dif_neg (by omega)]
theorem check_last {l : List It} {k : Nat} (h : ¬ 80 < l.length) (h0 : errs l = 0) (hk : k < l.length) (hl : l.length = k + 1) : check l = if ends l[k] then 0 else 4 := by
  unfold check
  rw [if_neg h, if_neg (by simpa using h0), dif_pos (by omega)]
  obtain rfl : k = l.length - 1 := by omega
  rfl
end Dc
theorem At.get {w : World} {b off : Nat} {l : List It} (h : At w b off l) {k : Nat} {x : It} (hx : l[k]? = some x) :
    w.cell? ⟨b, off + k * 3, none⟩ = some (.int .u8 x.c.toNat) ∧ w.cell? ⟨b, off + k * 3 + 1, none⟩ = some (.int .i64 x.m) ∧ w.cell? ⟨b, off + k * 3 + 2, none⟩ = some (.string x.l) := by
  obtain ⟨hk, rfl⟩ := List.getElem?_eq_some_iff.1 hx
  exact ⟨h.c k hk, h.m k hk, h.l k hk⟩

set_option maxHeartbeats 1600000 in
theorem check_any (ao : Option Addr) (n cap : Nat) (l : List It) (w : World) (hD : Doc w ao n cap l) (hS : Sch w) :
    Calls Tryz.prog 74 #[.slice ao n cap] w fun e w' => e = .returned (.int .i64 (Dc.check l)) ∧ Below w.heap.size w w' := by
  have HD : Hid (Doc w ao n cap l) := hD
  have HN : Hid (l.length = n) := hD.len
  have hcap := hD.room
  have hbig := hD.big
  have CI : Hid (Calls Tryz.prog 148 #[.slice ao n cap] w fun e w' => e = .returned (.int .i64 (Dc.errs l)) ∧ Below w.heap.size w w') := items_any ao _ cap l w hD hS
  clear hD hS
  obtain ⟨r, hr⟩ : ∃ r, Dc.check l = r := ⟨_, rfl⟩
  have HR : Hid (Dc.check l = r) := hr
  rw [hr]
  clear hr
  by_cases h80 : 80 < n
  · have : r = 2 := HR.out.symm.trans (Dc.check_many (by rw [HN.out]; exact h80))
    subst this
    clear HR CI
    go_enter Tryz.func74, Tryz.ntmps74
    go_wp2
    go_ret
    exact ⟨rfl, Below.refl _ _⟩
  · by_cases h0 : Dc.errs l = 0
    · rw [h0] at CI
      by_cases hn0 : n = 0
      · have : r = 4 := HR.out.symm.trans (Dc.check_none h0 (HN.out.trans hn0))
        subst this
        subst hn0
        clear HR h0
        go_enter Tryz.func74, Tryz.ntmps74
        go_wp2_with fail
        refine CI.out.mono ?_
        rintro e w1 ⟨rfl, hb⟩
        have H1 : Hid (Below w.heap.size w w1) := hb
        clear hb
        go_wp2
        go_ret
        exact ⟨rfl, H1.out⟩
      · obtain ⟨k, rfl⟩ : ∃ k, n = k + 1 := ⟨n - 1, by omega⟩
        obtain ⟨b, off, rfl, A0⟩ := HD.out.lies hn0
        have HA : Hid (At w b off l) := A0
        obtain ⟨x, hx, hrl⟩ : ∃ x, l[k]? = some x ∧ r = if Dc.ends x then 0 else 4 := by
          have hl := HN.out
          have hk : k < l.length := by omega
          exact ⟨l[k], List.getElem?_eq_getElem hk, HR.out.symm.trans (Dc.check_last (by omega) h0 hk hl)⟩
        have HX : Hid (l[k]? = some x) := hx
        clear HR h0 A0 hx
        cases he : Dc.ends x
        all_goals
          rw [he] at hrl
          first | (have : r = 0 := hrl; subst this) | (have : r = 4 := hrl; subst this)
          clear hrl
          go_enter Tryz.func74, Tryz.ntmps74
          go_wp2_with fail
          refine CI.out.mono ?_
          rintro e w1 ⟨rfl, hb⟩
          have H1 : Hid (Below w.heap.size w w1) := hb
          obtain ⟨hc0, hc1, hc2⟩ := (HA.out.below hb).get HX.out
          clear hb
          go_wp2_with fail
          refine (ends_any x _).mono ?_
          rintro e w2 ⟨rfl, hb⟩
          rw [he]
          have H2 : Hid (Below w.heap.size w w2) := H1.out.trans (hb.mono H1.out.size)
          clear hb
          go_wp2
          go_ret
          exact ⟨rfl, H2.out⟩
    · have hrr : Dc.errs l = r := (Dc.check_errs (by rw [HN.out]; exact h80) h0).symm.trans HR.out
      rw [hrr] at CI h0
      clear HR hrr
      go_enter Tryz.func74, Tryz.ntmps74
      go_wp2_with fail
      refine CI.out.mono ?_
      rintro e w1 ⟨rfl, hb⟩
      have H1 : Hid (Below w.heap.size w w1) := hb
      clear hb
      go_wp2
      go_ret
      exact ⟨rfl, H1.out⟩

set_option maxHeartbeats 1600000 in
theorem CheckDoc_any (ao : Option Addr) (n cap : Nat) (l : List It) (w : World) (hD : Doc w ao n cap l) :
    Calls Tryz.prog 27 #[.slice ao n cap] w fun e w' => e = .returned (.int .i64 (Dc.check l)) ∧ Below w.heap.size w w' := by
  have HD : Hid (Doc w ao n cap l) := hD
  have HN : Hid (l.length = n) := hD.len
  have hcap := hD.room
  have hbig := hD.big
  have CI : Hid (Calls Tryz.prog 89 #[.slice ao n cap] w fun e w' => e = .returned (.int .i64 (Dc.errs l)) ∧ Below w.heap.size w w') := CheckItems_any ao _ cap l w hD
  clear hD
  obtain ⟨r, hr⟩ : ∃ r, Dc.check l = r := ⟨_, rfl⟩
  have HR : Hid (Dc.check l = r) := hr
  rw [hr]
  clear hr
  by_cases h80 : 80 < n
  · have : r = 2 := HR.out.symm.trans (Dc.check_many (by rw [HN.out]; exact h80))
    subst this
    clear HR CI
    go_enter Tryz.func27, Tryz.ntmps27
    go_wp2
    go_ret
    exact ⟨rfl, Below.refl _ _⟩
  · by_cases h0 : Dc.errs l = 0
    · rw [h0] at CI
      by_cases hn0 : n = 0
      · have : r = 4 := HR.out.symm.trans (Dc.check_none h0 (HN.out.trans hn0))
        subst this
        subst hn0
        clear HR h0
        go_enter Tryz.func27, Tryz.ntmps27
        go_wp2_with fail
        refine CI.out.mono ?_
        rintro e w1 ⟨rfl, hb⟩
        have H1 : Hid (Below w.heap.size w w1) := hb
        clear hb
        go_wp2
        go_ret
        exact ⟨rfl, H1.out⟩
      · obtain ⟨k, rfl⟩ : ∃ k, n = k + 1 := ⟨n - 1, by omega⟩
        obtain ⟨b, off, rfl, A0⟩ := HD.out.lies hn0
        have HA : Hid (At w b off l) := A0
        obtain ⟨x, hx, hrl⟩ : ∃ x, l[k]? = some x ∧ r = if Dc.ends x then 0 else 4 := by
          have hl := HN.out
          have hk : k < l.length := by omega
          exact ⟨l[k], List.getElem?_eq_getElem hk, HR.out.symm.trans (Dc.check_last (by omega) h0 hk hl)⟩
        have HX : Hid (l[k]? = some x) := hx
        clear HR h0 A0 hx
        cases he : Dc.ends x
        all_goals
          rw [he] at hrl
          first | (have : r = 0 := hrl; subst this) | (have : r = 4 := hrl; subst this)
          clear hrl
          go_enter Tryz.func27, Tryz.ntmps27
          go_wp2_with fail
          refine CI.out.mono ?_
          rintro e w1 ⟨rfl, hb⟩
          have H1 : Hid (Below w.heap.size w w1) := hb
          obtain ⟨hc0, hc1, hc2⟩ := (HA.out.below hb).get HX.out
          clear hb
          have hne : ((x.c.toNat : Int) != 10) = (!Dc.ends x) := rfl
          rw [he] at hne
          clear he
          have hz : ((k : Int) + 1 == 0) = false := by simp; omega
          simp only [Bool.not_true, Bool.not_false] at hne
          go_wp2
          go_ret
          exact ⟨rfl, H1.out⟩
    · have hrr : Dc.errs l = r := (Dc.check_errs (by rw [HN.out]; exact h80) h0).symm.trans HR.out
      rw [hrr] at CI h0
      clear HR hrr
      go_enter Tryz.func27, Tryz.ntmps27
      go_wp2_with fail
      refine CI.out.mono ?_
      rintro e w1 ⟨rfl, hb⟩
      have H1 : Hid (Below w.heap.size w w1) := hb
      clear hb
      go_wp2
      go_ret
      exact ⟨rfl, H1.out⟩
end Go.Proofs.YtbhcklkbckacpaaGreatDoor

/-
  doc.Plain of any list of items: its characters.
-/
namespace Go.Proofs.YtbhcklkbckacpaaGreatDoor
open Go.RowKit

def cb (c : UInt8) : Value := .int .u8 c.toNat
namespace Dc
end Dc
end Go.Proofs.YtbhcklkbckacpaaGreatDoor

/-
  doc.turns: whether an item is of another run than the one ahead of it.
-/
namespace Go.Proofs.YtbhcklkbckacpaaGreatDoor
open Go.RowKit

def It.zero : It := ⟨0, 0, ⟨#[]⟩⟩
namespace Dc
end Dc

end Go.Proofs.YtbhcklkbckacpaaGreatDoor

/-
  slices.Equal at two lists of items, and doc.Same.
-/
namespace Go.Proofs.YtbhcklkbckacpaaGreatDoor
open Go.RowKit

namespace Dc
def alike (x y : It) : Bool := ((x.c.toNat : Int) == (y.c.toNat : Int)) && ((x.m == y.m) && (x.l.toList == y.l.toList))
def same : List It → List It → Bool
  | [], [] => true
  | x :: s, y :: t => alike x y && same s t
  | _, _ => false
theorem same_len : ∀ (s t : List It), ¬ s.length = t.length → same s t = false
  | [], [], h => absurd rfl h
  | [], _ :: _, _ => rfl
  | _ :: _, [], _ => rfl
  | x :: s, y :: t, h => by
    rw [same, same_len s t (by simpa using h), Bool.and_false]
theorem same_step (s t : List It) (k : Nat) (h : k < s.length) (h' : k < t.length) : same (s.drop k) (t.drop k) = (alike s[k] t[k] && same (s.drop (k + 1)) (t.drop (k + 1))) := by
  rw [List.drop_eq_getElem_cons h, List.drop_eq_getElem_cons h', same]
end Dc
theorem guard36 : Tryz.prog.eqGuardType Tryz.prog.depth 39 = false := by kernel_rfl
theorem held36 : Tryz.prog.stoodInHeld 39 = false := by kernel_rfl
theorem under36 : Tryz.prog.underlying 39 = some (.struct (Tryz.prog.fieldsOf 39)) := by kernel_rfl
theorem neq_items (x y : It) (w : World) : (binOp .neq 39 (.agg #[.int .u8 x.c.toNat, .int .i64 x.m, .string x.l]) (.agg #[.int .u8 y.c.toNat, .int .i64 y.m, .string y.l])).run Tryz.prog w = .ok (.bool (!Dc.alike x y)) w := by
  rw [run_neq_struct, run_equalIn_agg w 9999 39 _ _ under36 held36]
  have hu := Tryz.underlying39
  simp [go_sem, hu, Program.fieldsOf]
  unfold Dc.alike
  by_cases h1 : (x.c.toNat : Int) = (y.c.toNat : Int)
  · by_cases h2 : x.m = y.m
    · by_cases h3 : x.l.toList = y.l.toList
      · simp [h1, h2, h3]
      · simp [h1, h2, h3]
    · simp [h1, h2]
  · simp [h1]

set_option maxRecDepth 100000 in
set_option maxHeartbeats 1600000 in
theorem equal_any (ao ao' : Option Addr) (n cap n' cap' : Nat) (l l' : List It) (w : World) (hD : Doc w ao n cap l) (hD' : Doc w ao' n' cap' l') :
    Calls Tryz.prog 16 #[.slice ao n cap, .slice ao' n' cap'] w fun e w' => e = .returned (.bool (Dc.same l l')) ∧ ∃ m, w' = w.drewN m := by
  have HD : Hid (Doc w ao n cap l) := hD
  have HD' : Hid (Doc w ao' n' cap' l') := hD'
  have hcap := hD.room
  have hbig := hD.big
  clear hD hD'
  obtain ⟨r, hr⟩ : ∃ r, Dc.same l l' = r := ⟨_, rfl⟩
  have HR : Hid (Dc.same l l' = r) := hr
  rw [hr]
  clear hr
  by_cases hnn : n = n'
  · subst hnn
    have hg := guard36
    go_enter Tryz.func16, Tryz.ntmps16
    go_wp2
    go_loopw [13] (fun i wr => ∃ k : Nat, k ≤ n ∧ i = .int .i64 k ∧ (∃ m, wr = w.drewN m) ∧ Dc.same (l.drop k) (l'.drop k) = r) (fun i _ => n - (intOf i).toNat)
    case atStart => exact ⟨0, Nat.zero_le _, rfl, ⟨0, rfl⟩, HR.out⟩
    case round =>
      obtain ⟨k, hk, rfl, ⟨m, rfl⟩, hsm⟩ := hrel
      have HM : Hid (Dc.same (l.drop k) (l'.drop k) = r) := hsm
      clear hsm
      by_cases hlt : k < n
      · obtain ⟨b, off, rfl, A0⟩ := HD.out.lies (by omega)
        obtain ⟨b', off', rfl, A0'⟩ := HD'.out.lies (by omega)
        have h1 : k < l.length := by rw [HD.out.len]; exact hlt
        have h2 : k < l'.length := by rw [HD'.out.len]; exact hlt
        obtain ⟨ha0, ha1, ha2⟩ := A0.get (List.getElem?_eq_getElem h1)
        obtain ⟨hx0, hx1, hx2⟩ := A0'.get (List.getElem?_eq_getElem h2)
        have HX : Hid (Dc.same (l.drop k) (l'.drop k) = (Dc.alike l[k] l'[k] && Dc.same (l.drop (k + 1)) (l'.drop (k + 1)))) := Dc.same_step l l' k h1 h2
        clear A0 A0'
        generalize l[k] = x at *
        generalize l'[k] = y at *
        clear h1 h2
        have hq := neq_items x y
        cases hal : Dc.alike x y
        · have hrr : r = false := by rw [← HM.out, HX.out, hal]; rfl
          subst hrr
          rw [hal] at hq
          clear hal
          go_wp2
          go_quiet (fail)
          go_wp2
          go_ret
          exact ⟨rfl, _, (World.drewN_drewN _ _ _)⟩
        · have HM2 : Hid (Dc.same (l.drop (k + 1)) (l'.drop (k + 1)) = r) := by show _ = _; rw [← HM.out, HX.out, hal, Bool.true_and]
          rw [hal] at hq
          clear hal
          go_wp2
          go_quiet (fail)
          go_wp2
          go_roundw
          case rel => exact ⟨k + 1, by omega, by go_num, ⟨_, rfl⟩, HM2.out⟩
          case measure => simp [intOf]; omega
      · have hrr : r = true := by
          rw [← HM.out, List.drop_eq_nil_of_le (by rw [HD.out.len]; omega), List.drop_eq_nil_of_le (by rw [HD'.out.len]; omega)]
          rfl
        subst hrr
        go_wp2
        go_ret
        exact ⟨rfl, m, rfl⟩
  · have hrr : r = false := HR.out.symm.trans (Dc.same_len _ _ (by rw [HD.out.len, HD'.out.len]; exact hnn))
    subst hrr
    go_enter Tryz.func16, Tryz.ntmps16
    go_wp2
    go_ret
    exact ⟨rfl, 0, rfl⟩

theorem same_any (ao ao' : Option Addr) (n cap n' cap' : Nat) (l l' : List It) (w : World) (hD : Doc w ao n cap l) (hD' : Doc w ao' n' cap' l') :
    Calls Tryz.prog 68 #[.slice ao n cap, .slice ao' n' cap'] w fun e w' => e = .returned (.bool (Dc.same l l')) ∧ ∃ m, w' = w.drewN m := by
  have HE := equal_any ao ao' n cap n' cap' l l' w hD hD'
  clear hD hD'
  generalize Dc.same l l' = r at *
  have H : Hid (Calls Tryz.prog 16 #[.slice ao n cap, .slice ao' n' cap'] w fun e w' => e = .returned (.bool r) ∧ ∃ m, w' = w.drewN m) := HE
  clear HE
  go_enter Tryz.func68, Tryz.ntmps68
  go_wp2_with fail
  refine H.out.mono ?_
  rintro e w1 ⟨rfl, m, rfl⟩
  go_wp2
  go_ret
  exact ⟨rfl, m, rfl⟩
end Go.Proofs.YtbhcklkbckacpaaGreatDoor

/-
  The document that the laws' closed facts ask about, in memory.
-/
namespace Go.Proofs.YtbhcklkbckacpaaGreatDoor
open Go.RowKit

def smallDoc : List It := [⟨97, 0, ⟨#[]⟩⟩, ⟨98, 1, ⟨#[]⟩⟩, ⟨10, 1, ⟨#[]⟩⟩, ⟨60, 0, ⟨#[104, 116, 116, 112, 58, 38]⟩⟩, ⟨10, 2, ⟨#[]⟩⟩]
theorem small_check : Dc.check smallDoc = 0 := by decide +kernel
def itCells : List It → List Value
  | [] => []
  | x :: t => .int .u8 x.c.toNat :: .int .i64 x.m :: .string x.l :: itCells t
theorem itCells_at : ∀ (l : List It) (i : Nat) (h : i < l.length), (itCells l)[i * 3]? = some (.int .u8 l[i].c.toNat) ∧ (itCells l)[i * 3 + 1]? = some (.int .i64 l[i].m) ∧ (itCells l)[i * 3 + 2]? = some (.string l[i].l)
  | [], _, h => by simp at h
  | x :: t, 0, _ => ⟨rfl, rfl, rfl⟩
  | x :: t, i + 1, h => by
    obtain ⟨h1, h2, h3⟩ := itCells_at t i (by simpa using h)
    have e : (i + 1) * 3 = i * 3 + 1 + 1 + 1 := by omega
    rw [e]
    exact ⟨h1, h2, h3⟩
theorem at_block {w : World} {b : Nat} {l : List It} {T : TypeId} {fr : Nat × Nat} (h : w.heap[b]? = some (.cells (itCells l).toArray T fr)) : At w b 0 l := by
  have hc : ∀ j, w.cell? ⟨b, j, none⟩ = (itCells l)[j]? := fun j => by
    unfold World.cell?
    rw [h]
    simp
  refine ⟨fun i hi => ?_, fun i hi => ?_, fun i hi => ?_⟩
  · rw [Nat.zero_add, hc]; exact (itCells_at l i hi).1
  · rw [Nat.zero_add, hc]; exact (itCells_at l i hi).2.1
  · rw [Nat.zero_add, hc]; exact (itCells_at l i hi).2.2
set_option maxRecDepth 100000 in
theorem smalld_any (w : World) : Calls Tryz.prog 67 #[] w fun e w' => e = .returned (.slice (some ⟨w.heap.size, 0, none⟩) 5 5) ∧ w' = w.alloc (.cells (itCells smallDoc).toArray 39) := by
  go_enter Tryz.func67, Tryz.ntmps67
  go_wp2
  go_ret
  exact ⟨rfl, rfl⟩
theorem small_fit : Fit smallDoc := by unfold Fit; decide +kernel
theorem small_at (w : World) : Doc (w.alloc (.cells (itCells smallDoc).toArray 39)) (some ⟨w.heap.size, 0, none⟩) 5 5 smallDoc :=
  ⟨small_fit, rfl, Nat.le_refl _, by decide, fun _ => ⟨_, _, rfl, at_block (heap_alloc_new w _)⟩⟩
theorem smallD (w : World) : Calls Tryz.prog 67 #[] w fun e w' => e = .returned (.slice (some ⟨w.heap.size, 0, none⟩) 5 5) ∧ Doc w' (some ⟨w.heap.size, 0, none⟩) 5 5 smallDoc ∧ Below w.heap.size w w' :=
  (smalld_any w).mono fun _ _ ⟨he, hw⟩ => ⟨he, by rw [hw]; exact small_at w, by rw [hw]; exact (Below.refl _ _).alloc (Nat.le_refl _) _⟩
end Go.Proofs.YtbhcklkbckacpaaGreatDoor

/-
  slices.Grow of nothing, and slices.Concat of two lists of items.
-/
namespace Go.Proofs.YtbhcklkbckacpaaGreatDoor
open Go.RowKit

theorem itCells_len : ∀ l : List It, (itCells l).length = l.length * 3
  | [] => rfl
  | x :: t => by
    show (itCells t).length + 1 + 1 + 1 = _
    rw [itCells_len t, List.length_cons, Nat.add_mul]
theorem itCells_app : ∀ l l' : List It, itCells (l ++ l') = itCells l ++ itCells l'
  | [], _ => rfl
  | x :: t, l' => by
    show _ :: _ :: _ :: itCells (t ++ l') = _
    rw [itCells_app t l']
    rfl
theorem itCells_one : ∀ l : List It, ∀ u ∈ itCells l, u.oneCell' = true
  | [], u, hu => by simp [itCells] at hu
  | x :: t, u, hu => by
    simp only [itCells, List.mem_cons] at hu
    rcases hu with rfl | rfl | rfl | hu
    · rfl
    · rfl
    · rfl
    · exact itCells_one t u hu
theorem at_cells {w : World} {b off : Nat} {l : List It} (h : At w b off l) (j : Nat) (u : Value) (hu : (itCells l)[j]? = some u) : w.cell? ((⟨b, off, none⟩ : Addr).add j) = some u := by
  have hadd : (⟨b, off, none⟩ : Addr).add j = ⟨b, off + j, none⟩ := by unfold Addr.add; split <;> simp_all
  rw [hadd]
  have hlt : j < l.length * 3 := by rw [← itCells_len]; exact (List.getElem?_eq_some_iff.1 hu).1
  have hi : j / 3 < l.length := by omega
  obtain ⟨h1, h2, h3⟩ := itCells_at l (j / 3) hi
  have hr : j = j / 3 * 3 ∨ j = j / 3 * 3 + 1 ∨ j = j / 3 * 3 + 2 := by omega
  rcases hr with e | e | e
  · rw [e, h1] at hu
    rw [e]
    exact (h.c _ hi).trans hu
  · rw [e, h2] at hu
    rw [e, ← Nat.add_assoc]
    exact (h.m _ hi).trans hu
  · rw [e, h3] at hu
    rw [e, ← Nat.add_assoc]
    exact (h.l _ hi).trans hu
theorem own_at {w : World} {B0 g cap n : Nat} {l : List It} (h : w.ownsRow B0 39 3 (.slice (some ⟨g, 0, none⟩) n cap) n (itCells l)) : At w g 0 l := by
  have hc : ∀ j u, (itCells l)[j]? = some u → w.cell? ⟨g, 0 + j, none⟩ = some u := fun j u hu => by
    have := h.cells (g := g) rfl j u hu
    have e : (⟨g, 0, none⟩ : Addr).add j = ⟨g, 0 + j, none⟩ := by unfold Addr.add; split <;> simp_all
    rw [e] at this
    exact this
  refine ⟨fun i hi => hc _ _ (itCells_at l i hi).1, fun i hi => ?_, fun i hi => ?_⟩
  · rw [Nat.add_assoc]; exact hc _ _ (itCells_at l i hi).2.1
  · rw [Nat.add_assoc]; exact hc _ _ (itCells_at l i hi).2.2

end Go.Proofs.YtbhcklkbckacpaaGreatDoor

/-
  Chapters 7 and 8 on lists of acts, one an item (kept with a change, put, cut): what they make of items; two, turned behind each other, meet; two, joined, do what the one and then the other one does; joined three in either way are the same; tidied they do the same.
-/
namespace Go.Proofs.YtbhcklkbckacpaaGreatDoor
open Go.RowKit
namespace Ac
structure Ch where
  set : Int
  clr : Int
  goes : Bool
  link : ByteArray
abbrev A := Option (Ch ⊕ It)
namespace A
abbrev keep (c : Ch) : A := some (.inl c)
abbrev put (x : It) : A := some (.inr x)
abbrev cut : A := none
end A
def nop : Ch := ⟨0, 0, false, ⟨#[]⟩⟩
def mark (m c s : Int) : Int := ((m.toNat - (m.toNat &&& c.toNat)) ||| s.toNat : Nat)
def less (a b : Int) : Int := (a.toNat - (a.toNat &&& b.toNat) : Nat)
def both (a b : Int) : Int := (a.toNat ||| b.toNat : Nat)
def change (x : It) (c : Ch) : It := ⟨x.c, mark x.m c.clr c.set, if c.goes && !Dc.ends x then c.link else x.l⟩
def m4 (m : Int) : Prop := 0 ≤ m ∧ m ≤ 3
structure ChOk (c : Ch) : Prop where
  set : m4 c.set
  clr : m4 c.clr
theorem m4_nat {m : Int} (h : m4 m) : ∃ k : Nat, k < 4 ∧ m = k := by
  obtain ⟨h0, h3⟩ := h
  exact ⟨m.toNat, by omega, by omega⟩
def A.ok : A → Prop
  | some (.inl c) => ChOk c
  | some (.inr x) => m4 x.m
  | none => True
def ap : List A → List It → Option (List It)
  | [], [] => some []
  | [], _ :: _ => none
  | some (.inr x) :: r, d => (ap r d).map (x :: ·)
  | some (.inl _) :: _, [] => none
  | some (.inl c) :: r, x :: d => (ap r d).map (change x c :: ·)
  | none :: _, [] => none
  | none :: r, _ :: d => ap r d
def need : List A → Nat
  | [] => 0
  | some (.inr _) :: r => need r
  | some (.inl _) :: r => need r + 1
  | none :: r => need r + 1
def leave : List A → Nat
  | [] => 0
  | some (.inr _) :: r => leave r + 1
  | some (.inl _) :: r => leave r + 1
  | none :: r => leave r
theorem ap_cut (r : List A) (x : It) (d : List It) : ap (.cut :: r) (x :: d) = ap r d := rfl
theorem ap_keep (c : Ch) (r : List A) (x : It) (d : List It) : ap (.keep c :: r) (x :: d) = (ap r d).map (change x c :: ·) := rfl
theorem ap_put (x : It) (r : List A) (d : List It) : ap (.put x :: r) d = (ap r d).map (x :: ·) := by cases d <;> rfl

/- Marks: a finite matter. -/
theorem mark_m4 {m c s : Int} (hm : m4 m) (hc : m4 c) (hs : m4 s) : m4 (mark m c s) := by
  obtain ⟨a, ha, rfl⟩ := m4_nat hm
  obtain ⟨b, hb, rfl⟩ := m4_nat hc
  obtain ⟨e, he, rfl⟩ := m4_nat hs
  have h : ∀ a < 4, ∀ b < 4, ∀ e < 4, ((a - (a &&& b)) ||| e) ≤ 3 := by decide
  have := h a ha b hb e he
  refine ⟨Int.natCast_nonneg _, ?_⟩
  show (((a - (a &&& b)) ||| e : Nat) : Int) ≤ 3
  omega
theorem less_m4 {a b : Int} (ha : m4 a) (hb : m4 b) : m4 (less a b) := by
  obtain ⟨x, hx, rfl⟩ := m4_nat ha
  obtain ⟨y, hy, rfl⟩ := m4_nat hb
  have h : ∀ a < 4, ∀ b < 4, (a - (a &&& b)) ≤ 3 := by decide
  have := h x hx y hy
  refine ⟨Int.natCast_nonneg _, ?_⟩
  show ((x - (x &&& y) : Nat) : Int) ≤ 3
  omega
theorem both_m4 {a b : Int} (ha : m4 a) (hb : m4 b) : m4 (both a b) := by
  obtain ⟨x, hx, rfl⟩ := m4_nat ha
  obtain ⟨y, hy, rfl⟩ := m4_nat hb
  have h : ∀ a < 4, ∀ b < 4, (a ||| b) ≤ 3 := by decide
  have := h x hx y hy
  refine ⟨Int.natCast_nonneg _, ?_⟩
  show ((x ||| y : Nat) : Int) ≤ 3
  omega
def behind (b a : Ch) : Ch := ⟨less b.set (both a.set a.clr), less b.clr (both a.set a.clr), b.goes && !a.goes, if a.goes then ⟨#[]⟩ else b.link⟩
def thenCh (a b : Ch) : Ch := ⟨both (less a.set b.clr) b.set, both (less a.clr b.set) b.clr, a.goes || b.goes, if b.goes then b.link else a.link⟩
theorem ends_change (x : It) (c : Ch) : Dc.ends (change x c) = Dc.ends x := rfl
/- Turn. -/
def onto (h : Option Ch) (f : List A → List A × List A) : List A → List A × List A
  | [] => ([], [])
  | some (.inr y) :: b => (.keep nop :: (onto h f b).1, .put y :: (onto h f b).2)
  | some (.inl d) :: b => match h with
    | some c => (.keep c :: (f b).1, .keep (behind d c) :: (f b).2)
    | none => (.cut :: (f b).1, (f b).2)
  | none :: b => match h with
    | some _ => ((f b).1, .cut :: (f b).2)
    | none => f b
def tails : List A → List A × List A
  | some (.inr y) :: b => (.keep nop :: (tails b).1, .put y :: (tails b).2)
  | _ => ([], [])
def turn : List A → List A → List A × List A
  | [], b => tails b
  | some (.inr x) :: a, b => (.put x :: (turn a b).1, .keep nop :: (turn a b).2)
  | some (.inl c) :: a, b => onto (some c) (turn a) b
  | none :: a, b => onto none (turn a) b
theorem turn_put (x : It) (a b : List A) : turn (.put x :: a) b = (.put x :: (turn a b).1, .keep nop :: (turn a b).2) := rfl
theorem turn_kp (c : Ch) (y : It) (a b : List A) : turn (.keep c :: a) (.put y :: b) = (.keep nop :: (turn (.keep c :: a) b).1, .put y :: (turn (.keep c :: a) b).2) := rfl
theorem turn_cp (y : It) (a b : List A) : turn (.cut :: a) (.put y :: b) = (.keep nop :: (turn (.cut :: a) b).1, .put y :: (turn (.cut :: a) b).2) := rfl
theorem turn_kk (c d : Ch) (a b : List A) : turn (.keep c :: a) (.keep d :: b) = (.keep c :: (turn a b).1, .keep (behind d c) :: (turn a b).2) := rfl
theorem turn_ck (d : Ch) (a b : List A) : turn (.cut :: a) (.keep d :: b) = (.cut :: (turn a b).1, (turn a b).2) := rfl
theorem turn_kc (c : Ch) (a b : List A) : turn (.keep c :: a) (.cut :: b) = ((turn a b).1, .cut :: (turn a b).2) := rfl
theorem turn_cc (a b : List A) : turn (.cut :: a) (.cut :: b) = turn a b := rfl
end Ac
namespace Ac
def M4 (d : List It) : Prop := ∀ x ∈ d, m4 x.m
theorem ap_put_some {x : It} {r : List A} {d p : List It} (h : ap (.put x :: r) d = some p) : ∃ p', p = x :: p' ∧ ap r d = some p' := by
  rw [ap_put] at h
  cases hr : ap r d with
  | none => rw [hr] at h; cases h
  | some q => rw [hr] at h; cases h; exact ⟨q, rfl, rfl⟩
theorem ap_keep_some {c : Ch} {r : List A} {d p : List It} (h : ap (.keep c :: r) d = some p) : ∃ z d' p', d = z :: d' ∧ p = change z c :: p' ∧ ap r d' = some p' := by
  cases d with
  | nil => cases h
  | cons z d' =>
    rw [ap_keep] at h
    cases hr : ap r d' with
    | none => rw [hr] at h; cases h
    | some q => rw [hr] at h; cases h; exact ⟨z, d', q, rfl, rfl, hr⟩
theorem ap_cut_some {r : List A} {d p : List It} (h : ap (.cut :: r) d = some p) : ∃ z d', d = z :: d' ∧ ap r d' = some p := by
  cases d with
  | nil => cases h
  | cons z d' => exact ⟨z, d', rfl, h⟩
theorem ap_nil_some {d p : List It} (h : ap [] d = some p) : d = [] ∧ p = [] := by
  cases d with
  | nil => cases h; exact ⟨rfl, rfl⟩
  | cons => cases h
/- Join. -/
def into (h : Ch ⊕ It) (f : List A → List A) : List A → List A
  | [] => []
  | some (.inr y) :: b => .put y :: into h f b
  | some (.inl e) :: b => match h with
    | .inl c => .keep (thenCh c e) :: f b
    | .inr x => .put (change x e) :: f b
  | none :: b => match h with
    | .inl _ => .cut :: f b
    | .inr _ => f b
def puts : List A → List A
  | some (.inr y) :: b => .put y :: puts b
  | _ => []
end Ac
namespace Ac
/- How many items: of what is turned, of what is joined. -/
end Ac
namespace Ac
end Ac
namespace Ac
/- Tidy: what is put ahead of what is cut, between what is kept. -/
theorem ap_puts : ∀ (ps : List It) (l : List A) (d : List It), ap (ps.map A.put ++ l) d = (ap l d).map (ps ++ ·)
  | [], l, d => by simp
  | x :: ps, l, d => by
    rw [List.map_cons, List.cons_append, ap_put, ap_puts ps l d, Option.map_map]
    rfl
theorem ap_cuts : ∀ (n : Nat) (l : List A) (d : List It), ap (List.replicate n A.cut ++ l) d = if n ≤ d.length then ap l (d.drop n) else none
  | 0, l, d => by simp
  | n + 1, l, [] => by simp [List.replicate_succ, ap]
  | n + 1, l, x :: d => by
    rw [List.replicate_succ, List.cons_append, ap_cut, ap_cuts n l d]
    simp
end Ac
namespace Ac
end Ac
end Go.Proofs.YtbhcklkbckacpaaGreatDoor

/-
  Chapter 7 on parts: the acts of an operation's parts, one an item; acts made parts again, as Tidy lays them; and what holds of that.
-/
namespace Go.Proofs.YtbhcklkbckacpaaGreatDoor
open Go.RowKit
namespace Ac
structure Pt where
  kind : Int
  n : Int
  items : List It
  set : Int
  clr : Int
  goes : Bool
  link : ByteArray
def chOf (p : Pt) : Ch := ⟨p.set, p.clr, p.goes, p.link⟩
def keepP (c : Ch) (n : Int) : Pt := ⟨1, n, [], c.set, c.clr, c.goes, c.link⟩
def putP (xs : List It) : Pt := ⟨2, 0, xs, 0, 0, false, ⟨#[]⟩⟩
def cutP (n : Nat) : Pt := ⟨3, n, [], 0, 0, false, ⟨#[]⟩⟩
def acts1 (p : Pt) : List A := if p.kind = 2 then p.items.map A.put else List.replicate p.n.toNat (if p.kind = 1 then A.keep (chOf p) else A.cut)
def acts (o : List Pt) : List A := o.flatMap acts1
theorem acts_nil : acts [] = [] := rfl
theorem acts_cons (p : Pt) (o : List Pt) : acts (p :: o) = acts1 p ++ acts o := rfl
theorem acts_app (o o' : List Pt) : acts (o ++ o') = acts o ++ acts o' := List.flatMap_append
theorem acts1_keep (c : Ch) (n : Int) : acts1 (keepP c n) = List.replicate n.toNat (A.keep c) := rfl
def flushP (ps : List It) (n : Nat) : List Pt := (if ps.isEmpty then [] else [putP ps]) ++ (if n = 0 then [] else [cutP n])
def likeK (p : Pt) (c : Ch) : Bool := p.kind == 1 && p.set == c.set && p.clr == c.clr && p.goes == c.goes && p.link.data.toList == c.link.data.toList
def addK : List Pt → Ch → List Pt
  | [], c => [keepP c 1]
  | [p], c => if likeK p c then [{ p with n := p.n + 1 }] else [p, keepP c 1]
  | p :: q :: o, c => p :: addK (q :: o) c
theorem likeK_ch {p : Pt} {c : Ch} (h : likeK p c = true) : p.kind = 1 ∧ chOf p = c := by
  unfold likeK at h
  simp only [Bool.and_eq_true, beq_iff_eq] at h
  obtain ⟨⟨⟨⟨h1, h2⟩, h3⟩, h4⟩, h5⟩ := h
  refine ⟨h1, ?_⟩
  unfold chOf
  cases c
  simp at h2 h3 h4 h5
  have : p.link = _ := ByteArray.ext h5
  rw [h2, h3, h4, this]
def tdy : List Pt → List It → Nat → List A → List Pt
  | out, ps, n, [] => out ++ flushP ps n
  | out, ps, n, some (.inr x) :: r => tdy out (ps ++ [x]) n r
  | out, ps, n, none :: r => tdy out ps (n + 1) r
  | out, ps, n, some (.inl c) :: r => tdy (addK (out ++ flushP ps n) c) [] 0 r
def tidy (o : List Pt) : List Pt := tdy [] [] 0 (acts o)
theorem tdy_puts : ∀ (qs : List It) (out : List Pt) (ps : List It) (n : Nat) (r : List A), tdy out ps n (qs.map A.put ++ r) = tdy out (ps ++ qs) n r
  | [], out, ps, n, r => by simp
  | x :: qs, out, ps, n, r => by
    rw [List.map_cons, List.cons_append, tdy, tdy_puts qs]
    simp
theorem tdy_cuts : ∀ (k : Nat) (out : List Pt) (ps : List It) (n : Nat) (r : List A), tdy out ps n (List.replicate k A.cut ++ r) = tdy out ps (n + k) r
  | 0, out, ps, n, r => by simp
  | k + 1, out, ps, n, r => by
    rw [List.replicate_succ, List.cons_append, tdy, tdy_cuts k]
    congr 1
    omega
end Ac
end Go.Proofs.YtbhcklkbckacpaaGreatDoor

/-
  Operations in memory: lists of parts, each with a list of items; chapter 7's check, measure and sameness on parts.
-/
namespace Go.Proofs.YtbhcklkbckacpaaGreatDoor
open Go.RowKit
namespace Ac
def says (p q : Pt) : Bool := (p.set == q.set) && ((p.clr == q.clr) && ((p.goes == q.goes) && (p.link.toList == q.link.toList)))
def same1 (p q : Pt) : Bool := (p.kind == q.kind) && ((p.n == q.n) && (Dc.same p.items q.items && says p q))
def sameO : List Pt → List Pt → Bool
  | [], [] => true
  | p :: s, q :: t => same1 p q && sameO s t
  | _, _ => false
theorem sameO_len : ∀ (s t : List Pt), ¬ s.length = t.length → sameO s t = false
  | [], [], h => absurd rfl h
  | [], _ :: _, _ => rfl
  | _ :: _, [], _ => rfl
  | x :: s, y :: t, h => by rw [sameO, sameO_len s t (by simpa using h), Bool.and_false]
theorem sameO_step (s t : List Pt) (k : Nat) (h : k < s.length) (h' : k < t.length) : sameO (s.drop k) (t.drop k) = (same1 s[k] t[k] && sameO (s.drop (k + 1)) (t.drop (k + 1))) := by
  rw [List.drop_eq_getElem_cons h, List.drop_eq_getElem_cons h', sameO]
def usedP (p : Pt) : Pt := if p.kind = 1 then { p with items := [] } else if p.kind = 2 then ⟨p.kind, 0, p.items, 0, 0, false, ⟨#[]⟩⟩ else ⟨p.kind, p.n, [], 0, 0, false, ⟨#[]⟩⟩
def areM (m : Int) : Bool := decide (0 ≤ m) && decide (m ≤ 3)
def errN (n : Int) : Int := if n < 1 ∨ 80 < n then 3 else 0
def errPut (l : List It) : Int := if l.length < 1 ∨ 80 < l.length then 2 else Dc.errs l
def marksBad (s c : Int) : Bool := !areM s || (!areM c || (s.toNat &&& c.toNat) != 0)
def linkBad (g : Bool) (l : ByteArray) : Bool := !l.toList.isEmpty && (!g || !Lk.may l.data.toList)
def errK (p : Pt) : Int := if marksBad p.set p.clr then 3 else if linkBad p.goes p.link then 4 else errN p.n
def err0 (p : Pt) : Int := if p.kind = 1 then errK p else if p.kind = 2 then errPut p.items else if p.kind = 3 then errN p.n else 4
def err1 (p : Pt) : Int := if err0 p = 0 then (if same1 p (usedP p) then 0 else 4) else err0 p
def chks : Int → List Pt → Int
  | _, [] => 0
  | s, p :: t => if err1 p = 0 then (if 80 < s + p.n then 2 else chks (s + p.n) t) else err1 p
def chk (o : List Pt) : Int := if o.length < 1 ∨ 40 < o.length then 2 else if chks 0 o = 0 then (match o.getLast? with | some p => if p.kind = 1 then 0 else 4 | none => 4) else chks 0 o
def lfS (s : Int) (p : Pt) : Int := if p.kind = 1 ∨ p.kind = 3 then wrap64 (s + p.n) else s
def ltS (s : Int) (p : Pt) : Int := if p.kind = 1 then wrap64 (s + p.n) else if p.kind = 2 then wrap64 (s + p.items.length) else s
def lf (o : List Pt) : Int := o.foldl lfS 0
def lt (o : List Pt) : Int := o.foldl ltS 0
end Ac
structure PV where
  kind : Int
  n : Int
  ao : Option Addr
  m : Nat
  cap : Nat
  items : List It
  set : Int
  clr : Int
  goes : Bool
  link : ByteArray
def PV.pt (v : PV) : Ac.Pt := ⟨v.kind, v.n, v.items, v.set, v.clr, v.goes, v.link⟩
def pvC (v : PV) : List Value := [.int .i64 v.kind, .int .i64 v.n, .slice v.ao v.m v.cap, .int .i64 v.set, .int .i64 v.clr, .bool v.goes, .string v.link]
def pvCells (l : List PV) : List Value := l.flatMap pvC
theorem pvCells_cons (v : PV) (l : List PV) : pvCells (v :: l) = .int .i64 v.kind :: .int .i64 v.n :: .slice v.ao v.m v.cap :: .int .i64 v.set :: .int .i64 v.clr :: .bool v.goes :: .string v.link :: pvCells l := rfl
theorem pvCells_app (l l' : List PV) : pvCells (l ++ l') = pvCells l ++ pvCells l' := List.flatMap_append
theorem pvCells_one (v : PV) : pvCells [v] = pvC v := by simp [pvCells]
theorem pvCells_len : ∀ l : List PV, (pvCells l).length = l.length * 7
  | [] => rfl
  | k :: l => by rw [pvCells_cons]; simp only [List.length_cons]; rw [pvCells_len l]; omega
theorem pvCells_at : ∀ (l : List PV) (i : Nat) (h : i < l.length), (pvCells l)[i * 7]? = some (.int .i64 l[i].kind) ∧ (pvCells l)[i * 7 + 1]? = some (.int .i64 l[i].n) ∧ (pvCells l)[i * 7 + 2]? = some (.slice l[i].ao l[i].m l[i].cap) ∧ (pvCells l)[i * 7 + 3]? = some (.int .i64 l[i].set) ∧ (pvCells l)[i * 7 + 4]? = some (.int .i64 l[i].clr) ∧ (pvCells l)[i * 7 + 5]? = some (.bool l[i].goes) ∧ (pvCells l)[i * 7 + 6]? = some (.string l[i].link)
  | [], _, h => by simp at h
  | k :: l, 0, _ => ⟨rfl, rfl, rfl, rfl, rfl, rfl, rfl⟩
  | k :: l, i + 1, h => by
    have := pvCells_at l i (by simpa using h)
    rw [pvCells_cons, show (i + 1) * 7 = i * 7 + 1 + 1 + 1 + 1 + 1 + 1 + 1 by omega]
    exact this
theorem pvCells_oneCell (l : List PV) : ∀ u ∈ pvCells l, u.oneCell' = true := by
  intro u hu
  obtain ⟨k, _, h⟩ := List.mem_flatMap.1 hu
  simp only [pvC, List.mem_cons, List.not_mem_nil, or_false] at h
  rcases h with rfl | rfl | rfl | rfl | rfl | rfl | rfl <;> rfl
structure Pvt (w : World) (v : PV) : Prop where
  doc : Doc w v.ao v.m v.cap v.items
  fit : v.link.size ≤ 9223372036854775807
theorem Pvt.below {w w' : World} {v : PV} (h : Pvt w v) (hb : Below w.heap.size w w') : Pvt w' v := ⟨h.doc.below hb, h.fit⟩
structure Seven (w : World) (b off : Nat) (v : PV) : Prop where
  c0 : w.cell? ⟨b, off, none⟩ = some (.int .i64 v.kind)
  c1 : w.cell? ⟨b, off + 1, none⟩ = some (.int .i64 v.n)
  c2 : w.cell? ⟨b, off + 2, none⟩ = some (.slice v.ao v.m v.cap)
  c3 : w.cell? ⟨b, off + 3, none⟩ = some (.int .i64 v.set)
  c4 : w.cell? ⟨b, off + 4, none⟩ = some (.int .i64 v.clr)
  c5 : w.cell? ⟨b, off + 5, none⟩ = some (.bool v.goes)
  c6 : w.cell? ⟨b, off + 6, none⟩ = some (.string v.link)
theorem Seven.below {w w' : World} {b off : Nat} {v : PV} (h : Seven w b off v) (hb : Below w.heap.size w w') : Seven w' b off v :=
  ⟨cell_below h.c0 hb, cell_below h.c1 hb, cell_below h.c2 hb, cell_below h.c3 hb, cell_below h.c4 hb, cell_below h.c5 hb, cell_below h.c6 hb⟩
structure Ops (w : World) (ao : Option Addr) (n cap : Nat) (vs : List PV) : Prop where
  row : Row w ao n cap 7 (pvCells vs)
  pts : ∀ v ∈ vs, Pvt w v
theorem Ops.below {w w' : World} {ao : Option Addr} {n cap : Nat} {vs : List PV} (h : Ops w ao n cap vs) (hb : Below w.heap.size w w') : Ops w' ao n cap vs :=
  ⟨h.row.below hb, fun v hv => (h.pts v hv).below hb⟩
theorem Ops.len {w : World} {ao : Option Addr} {n cap : Nat} {vs : List PV} (h : Ops w ao n cap vs) : vs.length = n := by
  have := h.row.len
  rw [pvCells_len] at this
  omega
theorem Ops.get {w : World} {ao : Option Addr} {n cap : Nat} {vs : List PV} (h : Ops w ao n cap vs) (hn : n ≠ 0) : ∃ b off, ao = some ⟨b, off, none⟩ ∧ ∀ i (hi : i < vs.length), Seven w b (off + i * 7) vs[i] := by
  obtain ⟨b, off, e, hc⟩ := h.row.lies hn
  refine ⟨b, off, e, fun i hi => ?_⟩
  obtain ⟨h0, h1, h2, h3, h4, h5, h6⟩ := pvCells_at vs i hi
  exact ⟨hc _ _ h0, by rw [Nat.add_assoc]; exact hc _ _ h1, by rw [Nat.add_assoc]; exact hc _ _ h2, by rw [Nat.add_assoc]; exact hc _ _ h3, by rw [Nat.add_assoc]; exact hc _ _ h4, by rw [Nat.add_assoc]; exact hc _ _ h5, by rw [Nat.add_assoc]; exact hc _ _ h6⟩
def boxp (v : PV) (w : World) : World := w.alloc (.cells #[.int .i64 v.kind, .int .i64 v.n, .slice v.ao v.m v.cap, .int .i64 v.set, .int .i64 v.clr, .bool v.goes, .string v.link] 162)
theorem boxp_below (v : PV) (w : World) : Below w.heap.size w (boxp v w) := (Below.refl _ _).alloc (Nat.le_refl _) _
theorem boxp_size (v : PV) (w : World) : (boxp v w).heap.size = w.heap.size + 1 := World.size_alloc ..
theorem boxp_blk (v : PV) (w : World) : Blk (boxp v w) w.heap.size (pvC v) 162 := Blk.new w _ _
theorem seven_blk {w : World} {b : Nat} {v : PV} (h : Blk w b (pvC v) 162) : Seven w b 0 v := ⟨h.cell 0, h.cell 1, h.cell 2, h.cell 3, h.cell 4, h.cell 5, h.cell 6⟩
theorem boxp_at (v : PV) (w : World) : Seven (boxp v w) w.heap.size 0 v := seven_blk (boxp_blk v w)
theorem boxp2_below (v u : PV) (w : World) : Below w.heap.size w (boxp u (boxp v w)) := (boxp_below v w).trans ((boxp_below u _).mono (boxp_below v w).size)
theorem boxp2_fst (v u : PV) (w : World) : Seven (boxp u (boxp v w)) w.heap.size 0 v := (boxp_at v w).below (boxp_below u _)
theorem boxp2_snd (v u : PV) (w : World) : Seven (boxp u (boxp v w)) (w.heap.size + 1) 0 u := by
  have := boxp_at u (boxp v w)
  rw [boxp_size] at this
  exact this
theorem Tryz.infP : (Tryz.prog.info? 162).map (fun i => (i.zero, i.size, i.bytes)) = some (some (.agg #[.int .i64 0, .int .i64 0, .slice none 0 0, .int .i64 0, .int .i64 0, .bool false, .string ⟨#[]⟩]), 7, 80) := by kernel_rfl
end Go.Proofs.YtbhcklkbckacpaaGreatDoor
