/-
  Texts of this proof, one behind the other.
-/
import Derived.Test.YtbhcklkbckacpaaDoorG0
import Derived.WalkSpells
import Derived.Deep.RegionLaw
import Derived.Deep.AppendLies
import Derived.Laws.IdiomStrings
import Derived.Laws.BytesArg
import Derived.Deep.RegionHeld3
import Derived.Laws.StructEq
import Derived.Lib.AppendZeros

/-
  link.May at whatever text: whether one may be led to it; the variable 'schemes' holding what its initialiser lays.
-/
namespace Go.Proofs.YtbhcklkbckacpaaDoor
open Go.RowKit

def scells : Array Value := #[.string ⟨#[104, 116, 116, 112]⟩, .string ⟨#[104, 116, 116, 112, 115]⟩, .string ⟨#[109, 97, 105, 108, 116, 111]⟩]
/-- The variable 'schemes' (block 2) holds what its initialiser lays. -/
def Sch (w : World) : Prop := ∃ t fr, w.heap[0]? = some (.cells scells t fr)
theorem Sch.pos {w : World} (h : Sch w) : 0 < w.heap.size := by
  obtain ⟨t, fr, hg⟩ := h
  exact (Array.getElem?_eq_some_iff.1 hg).1
theorem Sch.below {w w' : World} (h : Sch w) (hb : Below w.heap.size w w') : Sch w' := by
  have hp := h.pos
  obtain ⟨t, fr, hg⟩ := h
  exact ⟨t, fr, (hb.block 0 hp).trans hg⟩
theorem Sch.cell {w : World} (h : Sch w) (j : Nat) : w.cell? ⟨0, j, none⟩ = scells[j]? := by
  obtain ⟨t, fr, hg⟩ := h
  simp [World.cell?, hg]

theorem stand_lo {c : UInt8} (h : c.toNat < 33) : Lk.stand c = false := by
  unfold Lk.stand
  rw [decide_eq_false (fun hh => by rw [UInt8.le_iff_toNat_le] at hh; have : (33 : UInt8).toNat = 33 := rfl; omega)]
  rfl
theorem stand_hi {c : UInt8} (h : 126 < c.toNat) : Lk.stand c = false := by
  unfold Lk.stand
  have : decide (c ≤ 126) = false := decide_eq_false (fun hh => by rw [UInt8.le_iff_toNat_le] at hh; have : (126 : UInt8).toNat = 126 := rfl; omega)
  rw [this]
  simp
theorem stand_mid {c : UInt8} (h : 33 ≤ c.toNat) (h2 : c.toNat ≤ 126) : Lk.stand c = decide (Lib.indexByte Lk.barred c < 0) := by
  unfold Lk.stand
  rw [decide_eq_true (show (33 : UInt8) ≤ c by rw [UInt8.le_iff_toNat_le]; exact h), decide_eq_true (show c ≤ 126 by rw [UInt8.le_iff_toNat_le]; exact h2), Lib.contains_iff_indexByte]
  by_cases hz : Lib.indexByte Lk.barred c < 0
  · rw [decide_eq_true hz, decide_eq_false (by omega)]; rfl
  · rw [decide_eq_false hz, decide_eq_true (by omega)]; rfl

set_option maxHeartbeats 800000 in
theorem stand_any (c : UInt8) (w : World) : Calls Tryd.prog 121 #[.int .u8 c.toNat] w fun e w' => e = .returned (.bool (Lk.stand c)) ∧ w' = w := by
  by_cases h1 : 33 ≤ c.toNat
  · by_cases h2 : c.toNat ≤ 126
    · have hst := stand_mid h1 h2
      have hback : ((c.toNat : Int)).toNat.toUInt8 = c := by simp
      have hI := fun w => Tryd.strings_IndexByte ⟨#[34, 39, 60, 62, 92, 96]⟩ (c.toNat : Int) w
      rw [hback] at hI
      change ∀ w, Calls Tryd.prog 115 _ w fun e w' => e = .returned (.int .i64 (Lib.indexByte Lk.barred c)) ∧ w' = w at hI
      have HI : Hid (∀ w, Calls Tryd.prog 115 #[.string ⟨#[34, 39, 60, 62, 92, 96]⟩, .int .u8 c.toNat] w fun e w' => e = .returned (.int .i64 (Lib.indexByte Lk.barred c)) ∧ w' = w) := hI
      clear hI hback
      generalize Lib.indexByte Lk.barred c = z at *
      rw [hst]
      clear hst
      go_enter Tryd.func121, Tryd.ntmps121
      go_wp2_with fail
      refine (HI.out _).mono ?_
      rintro e w' ⟨rfl, rfl⟩
      go_wp2
      go_ret
      exact ⟨rfl, rfl⟩
    · rw [stand_hi (by omega)]
      go_enter Tryd.func121, Tryd.ntmps121
      go_wp2
      go_ret
      exact ⟨rfl, rfl⟩
  · rw [stand_lo (by omega)]
    go_enter Tryd.func121, Tryd.ntmps121
    go_wp2
    go_ret
    exact ⟨rfl, rfl⟩

theorem eqB (k x : List UInt8) : (k == (B x).toList) = decide (k = x) := by
  rw [Lib.toList_data, B_data]
  by_cases h : k = x
  · subst h; simp
  · rw [decide_eq_false h]; simpa using h
theorem Beq (k x : List UInt8) : ((B x).toList == k) = decide (k = x) := by
  rw [Lib.toList_data, B_data]
  by_cases h : k = x
  · subst h; simp
  · rw [decide_eq_false h]; simpa using fun e => h e.symm
theorem sidx0 (w : World) : (Instr.index 167 (.agg scells) (.int .i64 0)).run Tryd.prog w = .ok (.string ⟨#[104, 116, 116, 112]⟩) w := by kernel_rfl
theorem sidx1 (w : World) : (Instr.index 167 (.agg scells) (.int .i64 1)).run Tryd.prog w = .ok (.string ⟨#[104, 116, 116, 112, 115]⟩) w := by kernel_rfl
theorem sidx2 (w : World) : (Instr.index 167 (.agg scells) (.int .i64 2)).run Tryd.prog w = .ok (.string ⟨#[109, 97, 105, 108, 116, 111]⟩) w := by kernel_rfl
theorem sz79 : (Tryd.prog.info? 167).map (·.size) = some scells.size := by kernel_rfl

set_option maxHeartbeats 800000 in
set_option maxRecDepth 100000 in
theorem lead_any (x : List UInt8) (w : World) (hS : Sch w) : Calls Tryd.prog 122 #[.string (B x)] w fun e w' => e = .returned (.bool (Lk.lead x)) ∧ w' = w := by
  obtain ⟨t, fr, hg⟩ := hS
  have Hg : Hid (w.heap[0]? = some (.cells scells t fr)) := hg
  clear hg
  have i0 := sidx0
  have i1 := sidx1
  have i2 := sidx2
  have q1 := eqB [104, 116, 116, 112] x
  have q2 := eqB [104, 116, 116, 112, 115] x
  have q3 := eqB [109, 97, 105, 108, 116, 111] x
  by_cases h1 : [104, 116, 116, 112] = x
  · have hl : Lk.lead x = true := by subst h1; rfl
    rw [hl]
    rw [decide_eq_true h1] at q1
    clear hl q2 q3 h1
    generalize B x = b at *
    go_enter Tryd.func122, Tryd.ntmps122
    go_wp2_with (refine wpList_load_row rfl 167 _ rfl 0 rfl t _ fr _ Hg.out Tryd.underlying167 rfl sz79 ?_)
    refine wp_loop_rounds 5 ?_
    rw [rounds_succ]
    go_wp2
    go_ret
    exact ⟨rfl, rfl⟩
  · rw [decide_eq_false h1] at q1
    by_cases h2 : [104, 116, 116, 112, 115] = x
    · have hl : Lk.lead x = true := by subst h2; rfl
      rw [hl]
      rw [decide_eq_true h2] at q2
      clear hl q3 h1 h2
      generalize B x = b at *
      go_enter Tryd.func122, Tryd.ntmps122
      go_wp2_with (refine wpList_load_row rfl 167 _ rfl 0 rfl t _ fr _ Hg.out Tryd.underlying167 rfl sz79 ?_)
      refine wp_loop_rounds 5 ?_
      rw [rounds_succ]
      go_wp2
      rw [rounds_succ]
      go_wp2
      go_ret
      exact ⟨rfl, rfl⟩
    · rw [decide_eq_false h2] at q2
      by_cases h3 : [109, 97, 105, 108, 116, 111] = x
      · have hl : Lk.lead x = true := by subst h3; rfl
        rw [hl]
        rw [decide_eq_true h3] at q3
        clear hl h1 h2 h3
        generalize B x = b at *
        go_enter Tryd.func122, Tryd.ntmps122
        go_wp2_with (refine wpList_load_row rfl 167 _ rfl 0 rfl t _ fr _ Hg.out Tryd.underlying167 rfl sz79 ?_)
        refine wp_loop_rounds 5 ?_
        rw [rounds_succ]
        go_wp2
        rw [rounds_succ]
        go_wp2
        rw [rounds_succ]
        go_wp2
        go_ret
        exact ⟨rfl, rfl⟩
      · have hl : Lk.lead x = false := by
          unfold Lk.lead Lk.leads
          simp [Ne.symm h1, Ne.symm h2, Ne.symm h3]
        rw [hl]
        rw [decide_eq_false h3] at q3
        clear hl h1 h2 h3
        generalize B x = b at *
        go_enter Tryd.func122, Tryd.ntmps122
        go_wp2_with (refine wpList_load_row rfl 167 _ rfl 0 rfl t _ fr _ Hg.out Tryd.underlying167 rfl sz79 ?_)
        refine wp_loop_rounds 5 ?_
        rw [rounds_succ]
        go_wp2
        rw [rounds_succ]
        go_wp2
        rw [rounds_succ]
        go_wp2
        rw [rounds_succ]
        go_wp2
        go_ret
        exact ⟨rfl, rfl⟩

theorem may_len (l : List UInt8) (h : l.length < 1 ∨ 24 < l.length) : Lk.may l = false := by
  unfold Lk.may
  rcases h with h | h
  · rw [decide_eq_false (show ¬ 1 ≤ l.length by omega)]; simp
  · rw [decide_eq_false (show ¬ l.length ≤ 24 by omega)]; simp
theorem may_not (l : List UInt8) (k : Nat) (h : k < l.length) (hc : Lk.stand l[k] = false) : Lk.may l = false := by
  have : l.all Lk.stand = false := by
    rw [List.all_eq_false]
    exact ⟨l[k], List.getElem_mem h, by rw [hc]; exact Bool.false_ne_true⟩
  unfold Lk.may
  rw [this]
  simp
theorem may_all (l : List UInt8) (h1 : 1 ≤ l.length) (h2 : l.length ≤ 24) (hs : l.all Lk.stand = true) : Lk.may l = Lk.lead (Lk.scheme l) := by
  unfold Lk.may
  rw [hs, decide_eq_true h1, decide_eq_true h2]
  simp

set_option maxRecDepth 100000 in
set_option maxHeartbeats 1600000 in
theorem may_any (s : ByteArray) (w : World) (hs : s.size ≤ 9223372036854775807) (hS : Sch w) :
    Calls Tryd.prog 114 #[.string s] w fun e w' => e = .returned (.bool (Lk.may s.data.toList)) ∧ Below w.heap.size w w' := by
  have HS : Hid (Sch w) := hS
  clear hS
  have hl := len_list s
  by_cases h1 : s.size < 1
  · rw [may_len _ (.inl (by omega))]
    clear hl
    go_enter Tryd.func114, Tryd.ntmps114
    go_wp2
    go_ret
    exact ⟨rfl, Below.refl _ _⟩
  · by_cases h2 : 24 < s.size
    · rw [may_len _ (.inr (by omega))]
      clear hl
      go_enter Tryd.func114, Tryd.ntmps114
      go_wp2
      go_ret
      exact ⟨rfl, Below.refl _ _⟩
    · obtain ⟨m, hm⟩ : ∃ m, Lk.may s.data.toList = m := ⟨_, rfl⟩
      rw [hm]
      have HM : Hid (Lk.may s.data.toList = m) := hm
      clear hm
      go_enter Tryd.func114, Tryd.ntmps114
      go_wp2
      go_loop [3] (fun i => ∃ k : Nat, k ≤ s.size ∧ i = .int .i64 k ∧ (s.data.toList.take k).all Lk.stand = true) (fun i => s.size - (intOf i).toNat)
      case atStart => exact ⟨0, Nat.zero_le _, rfl, by simp⟩
      case round =>
        obtain ⟨k, hk, rfl, hall⟩ := hrel
        have HA : Hid ((s.data.toList.take k).all Lk.stand = true) := hall
        clear hall
        by_cases hlt : k < s.size
        · have hkl : k < s.data.toList.length := by omega
          obtain ⟨c, hc⟩ : ∃ c : UInt8, s[k]'hlt = c := ⟨_, rfl⟩
          have hcl : s.data.toList[k] = c := by rw [← hc]; rfl
          have hix := run_index_at s k hlt
          rw [hc] at hix
          cases hst : Lk.stand c
          · have hmf := may_not s.data.toList k hkl (by rw [hcl]; exact hst)
            rw [HM.out] at hmf
            subst hmf
            clear hcl hc
            go_wp2_with (go_at_call 121; refine (stand_any c _).mono ?_; rintro e w' ⟨rfl, hw⟩; rw [hw, hst])
            go_ret
            exact ⟨rfl, Below.refl _ _⟩
          · have H2 : Hid ((s.data.toList.take (k + 1)).all Lk.stand = true) := by
              show _ = _
              rw [List.take_succ_eq_append_getElem hkl, List.all_append, HA.out, hcl]
              simp [hst]
            clear hcl hc
            go_wp2_with (go_at_call 121; refine (stand_any c _).mono ?_; rintro e w' ⟨rfl, hw⟩; rw [hw, hst])
            go_round
            case rel => exact ⟨k + 1, by omega, by go_num, H2.out⟩
            case measure => simp [intOf]; omega
        · have hal : s.data.toList.all Lk.stand = true := by
            have := HA.out
            rw [List.take_of_length_le (by omega)] at this
            exact this
          have hmm := may_all s.data.toList (by omega) (by omega) hal
          rw [HM.out] at hmm
          clear hal
          go_wp2_with fail
          refine (scheme_any s _ hs).mono ?_
          rintro e w1 ⟨rfl, hb1⟩
          have H1 : Hid (Below w.heap.size w w1) := hb1
          have HS1 : Hid (Sch w1) := HS.out.below hb1
          clear hb1
          go_wp2_with fail
          refine (lead_any _ _ HS1.out).mono ?_
          rintro e w2 ⟨rfl, hw⟩
          rw [hw]
          have HH : Hid (m = Lk.lead (Lk.scheme s.data.toList)) := hmm
          clear hmm
          go_wp2
          go_ret
          exact ⟨by rw [HH.out]; rfl, H1.out⟩
end Go.Proofs.YtbhcklkbckacpaaDoor

/-
  The reference's MayBe: as link.May has it.
-/
namespace Go.Proofs.YtbhcklkbckacpaaDoor
open Go.RowKit

def leadsB : List ByteArray := [⟨#[104, 116, 116, 112]⟩, ⟨#[104, 116, 116, 112, 115]⟩, ⟨#[109, 97, 105, 108, 116, 111]⟩]
theorem containsS_lead (x : List UInt8) : Lib.containsS (leadsB.take 3) (B x) = Lk.lead x := by
  have h1 := Lib.containsS_iff (leadsB.take 3) (B x)
  have h2 : B x ∈ leadsB.take 3 ↔ Lk.lead x = true := by
    have e : leadsB.take 3 = Lk.leads.map B := rfl
    rw [e, Lk.lead, List.contains_iff_mem]
    constructor
    · intro h
      obtain ⟨y, hy, hb⟩ := List.mem_map.1 h
      rw [← B_inj hb]; exact hy
    · intro h; exact List.mem_map.2 ⟨x, h, rfl⟩
  rw [h2] at h1
  exact Bool.eq_iff_iff.2 h1

/-- In block b lie the three schemes. -/
def Three (b : Nat) (w : World) : Prop := ∃ t fr, w.heap[b]? = some (.cells scells t fr)
theorem Three.cell {b : Nat} {w : World} (h : Three b w) (j : Nat) (hj : j < leadsB.length) : w.cell? ⟨b, 0 + j, none⟩ = some (.string (leadsB.getD j ByteArray.empty)) := by
  obtain ⟨t, fr, hg⟩ := h
  match j, hj with
  | 0, _ => simp [World.cell?, hg]; rfl
  | 1, _ => simp [World.cell?, hg]; rfl
  | 2, _ => simp [World.cell?, hg]; rfl
theorem Three.new (w : World) : Three w.heap.size (w.alloc (.cells scells 9)) := ⟨_, _, heap_alloc_new w _⟩
theorem Three.below {b : Nat} {w w' : World} (h : Three b w) (hb : Below w.heap.size w w') : Three b w' := by
  obtain ⟨t, fr, hg⟩ := h
  exact ⟨t, fr, (hb.block b (Array.getElem?_eq_some_iff.1 hg).1).trans hg⟩
theorem lead3 (b : Nat) (x : List UInt8) (w : World) (h : Three b w) : Calls Tryd.prog 116 #[.slice (some ⟨b, 0, none⟩) 3 3, .string (B x)] w fun e w' => e = .returned (.bool (Lk.lead x)) ∧ w' = w := by
  have := Tryd.slices_Contains_string b 0 3 3 leadsB (B x) w (by decide) (by decide) h.cell
  rw [containsS_lead] at this
  exact this

set_option maxRecDepth 100000 in
set_option maxHeartbeats 1600000 in
theorem MayBe_any (s : ByteArray) (w : World) (hs : s.size ≤ 9223372036854775807) :
    Calls Tryd.prog 104 #[.string s] w fun e w' => e = .returned (.bool (Lk.may s.data.toList)) ∧ Below w.heap.size w w' := by
  have hl := len_list s
  by_cases h1 : s.size < 1
  · rw [may_len _ (.inl (by omega))]
    clear hl
    go_enter Tryd.func104, Tryd.ntmps104
    go_wp2
    go_ret
    exact ⟨rfl, Below.refl _ _⟩
  · by_cases h2 : 24 < s.size
    · rw [may_len _ (.inr (by omega))]
      clear hl
      go_enter Tryd.func104, Tryd.ntmps104
      go_wp2
      go_ret
      exact ⟨rfl, Below.refl _ _⟩
    · obtain ⟨m, hm⟩ : ∃ m, Lk.may s.data.toList = m := ⟨_, rfl⟩
      rw [hm]
      have HM : Hid (Lk.may s.data.toList = m) := hm
      clear hm
      go_enter Tryd.func104, Tryd.ntmps104
      go_wp2
      go_loop [14] (fun i => ∃ k : Nat, k ≤ s.size ∧ i = .int .i64 k ∧ (s.data.toList.take k).all Lk.stand = true) (fun i => s.size - (intOf i).toNat)
      case atStart => exact ⟨0, Nat.zero_le _, rfl, by simp⟩
      case round =>
        obtain ⟨k, hk, rfl, hall⟩ := hrel
        have HA : Hid ((s.data.toList.take k).all Lk.stand = true) := hall
        clear hall
        by_cases hlt : k < s.size
        · have hkl : k < s.data.toList.length := by omega
          obtain ⟨c, hc⟩ : ∃ c : UInt8, s[k]'hlt = c := ⟨_, rfl⟩
          have hcl : s.data.toList[k] = c := by rw [← hc]; rfl
          have hix := run_index_at s k hlt
          rw [hc] at hix
          have HF : Hid (Lk.stand c = false → m = false) := fun hst => by
            rw [← HM.out]; exact may_not s.data.toList k hkl (by rw [hcl]; exact hst)
          have HT : Hid (Lk.stand c = true → (s.data.toList.take (k + 1)).all Lk.stand = true) := fun hst => by
            rw [List.take_succ_eq_append_getElem hkl, List.all_append, HA.out, hcl]
            simp [hst]
          clear hcl hc
          by_cases hlo : 33 ≤ c.toNat
          · by_cases hhi : c.toNat ≤ 126
            · have hst := stand_mid hlo hhi
              have hback : ((c.toNat : Int)).toNat.toUInt8 = c := by simp
              have hI := fun w => Tryd.strings_IndexByte ⟨#[34, 39, 60, 62, 92, 96]⟩ (c.toNat : Int) w
              rw [hback] at hI
              change ∀ w, Calls Tryd.prog 115 _ w fun e w' => e = .returned (.int .i64 (Lib.indexByte Lk.barred c)) ∧ w' = w at hI
              have HI : Hid (∀ w, Calls Tryd.prog 115 #[.string ⟨#[34, 39, 60, 62, 92, 96]⟩, .int .u8 c.toNat] w fun e w' => e = .returned (.int .i64 (Lib.indexByte Lk.barred c)) ∧ w' = w) := hI
              clear hI hback
              generalize Lib.indexByte Lk.barred c = z at *
              by_cases hz : z < 0
              · have H2 : Hid ((s.data.toList.take (k + 1)).all Lk.stand = true) := HT.out (by rw [hst]; exact decide_eq_true hz)
                clear hst
                go_wp2_with fail
                refine (HI.out _).mono ?_
                rintro e w' ⟨rfl, hw⟩
                rw [hw]
                go_wp2
                go_round
                case rel => exact ⟨k + 1, by omega, by go_num, H2.out⟩
                case measure => simp [intOf]; omega
              · have hmf := HF.out (by rw [hst]; exact decide_eq_false hz)
                subst hmf
                clear hst
                go_wp2_with fail
                refine (HI.out _).mono ?_
                rintro e w' ⟨rfl, hw⟩
                rw [hw]
                go_wp2
                go_ret
                exact ⟨rfl, Below.refl _ _⟩
            · have hmf := HF.out (stand_hi (by omega))
              subst hmf
              go_wp2
              go_ret
              exact ⟨rfl, Below.refl _ _⟩
          · have hmf := HF.out (stand_lo (by omega))
            subst hmf
            go_wp2
            go_ret
            exact ⟨rfl, Below.refl _ _⟩
        · have hal : s.data.toList.all Lk.stand = true := by
            have := HA.out
            rw [List.take_of_length_le (by omega)] at this
            exact this
          have hmm := may_all s.data.toList (by omega) (by omega) hal
          rw [HM.out] at hmm
          have HH : Hid (m = Lk.lead (Lk.scheme s.data.toList)) := hmm
          clear hal hmm
          go_wp2_with fail
          have HT : Hid (Three w.heap.size (w.alloc (.cells scells 9))) := Three.new w
          have HW : Hid (Below w.heap.size w (w.alloc (.cells scells 9))) := (Below.refl _ _).alloc (Nat.le_refl _) _
          change Calls Tryd.prog 117 #[.string s] (w.alloc (.cells scells 9)) _
          generalize w.alloc (.cells scells 9) = w1 at *
          refine (SchemeOf_any s w1 (by omega)).mono ?_
          rintro e w2 ⟨rfl, hb2⟩
          have H2 : Hid (Below w.heap.size w w2) := HW.out.trans (hb2.mono HW.out.size)
          have T2 : Hid (Three w.heap.size w2) := HT.out.below hb2
          clear hb2
          go_wp2_with fail
          refine (lead3 _ _ _ T2.out).mono ?_
          rintro e w3 ⟨rfl, hw⟩
          rw [hw]
          go_wp2
          go_ret
          exact ⟨by rw [HH.out]; rfl, H2.out⟩

end Go.Proofs.YtbhcklkbckacpaaDoor

/-
  Chapter 3's items: what an item is in memory, and what package doc tells of one.
-/
namespace Go.Proofs.YtbhcklkbckacpaaDoor
open Go.RowKit
structure It where
  c : UInt8
  m : Int
  l : ByteArray
namespace Dc
def ends (x : It) : Bool := (x.c.toNat : Int) == 10
def isChar (x : It) : Bool := decide (32 ≤ (x.c.toNat : Int)) && decide ((x.c.toNat : Int) ≤ 126)
def marks (x : It) : Bool := decide (0 ≤ x.m) && decide (x.m ≤ 3)
def link (x : It) : Bool := x.l.toList.isEmpty || (!ends x && Lk.may x.l.data.toList)
def err (x : It) : Int := if !ends x && !isChar x then 1 else if !marks x then 3 else if !link x then 4 else 0
end Dc

theorem ends_any (x : It) (w : World) : Calls Tryd.prog 89 #[.agg #[.int .u8 x.c.toNat, .int .i64 x.m, .string x.l]] w fun e w' => e = .returned (.bool (Dc.ends x)) ∧ Below w.heap.size w w' := by
  go_enter Tryd.func89, Tryd.ntmps89
  go_wp2
  go_ret
  exact ⟨rfl, (Below.refl _ _).alloc (Nat.le_refl _) _⟩
theorem isch_any (x : It) (w : World) : Calls Tryd.prog 119 #[.agg #[.int .u8 x.c.toNat, .int .i64 x.m, .string x.l]] w fun e w' => e = .returned (.bool (Dc.isChar x)) ∧ Below w.heap.size w w' := by
  by_cases h : 32 ≤ (x.c.toNat : Int)
  · have hr : Dc.isChar x = decide ((x.c.toNat : Int) ≤ 126) := by unfold Dc.isChar; rw [decide_eq_true h]; rfl
    rw [hr]
    clear hr
    go_enter Tryd.func119, Tryd.ntmps119
    go_wp2
    go_ret
    exact ⟨rfl, (Below.refl _ _).alloc (Nat.le_refl _) _⟩
  · have hr : Dc.isChar x = false := by unfold Dc.isChar; rw [decide_eq_false h]; rfl
    rw [hr]
    clear hr
    go_enter Tryd.func119, Tryd.ntmps119
    go_wp2
    go_ret
    exact ⟨rfl, (Below.refl _ _).alloc (Nat.le_refl _) _⟩

/-- A call that is handed an item lays it in a block of its own. -/
def boxed (x : It) (w : World) : World := w.alloc (.cells #[.int .u8 x.c.toNat, .int .i64 x.m, .string x.l] 79)
theorem boxed_below (x : It) (w : World) : Below w.heap.size w (boxed x w) := (Below.refl _ _).alloc (Nat.le_refl _) _
structure Boxed (b : Nat) (x : It) (w : World) : Prop where
  c : w.cell? ⟨b, 0, none⟩ = some (.int .u8 x.c.toNat)
  m : w.cell? ⟨b, 1, none⟩ = some (.int .i64 x.m)
  l : w.cell? ⟨b, 2, none⟩ = some (.string x.l)
theorem cell_lt {w : World} {a : Addr} {v : Value} (h : w.cell? a = some v) : a.block < w.heap.size := by
  unfold World.cell? at h
  split at h
  · rename_i hh; exact (Array.getElem?_eq_some_iff.1 hh).1
  · cases h
theorem cell_below {w w' : World} {a : Addr} {v : Value} (h : w.cell? a = some v) (hb : Below w.heap.size w w') : w'.cell? a = some v :=
  (hb.cell (cell_lt h)).trans h
theorem Boxed.below {b : Nat} {x : It} {w w' : World} (h : Boxed b x w) (hb : Below w.heap.size w w') : Boxed b x w' :=
  ⟨cell_below h.c hb, cell_below h.m hb, cell_below h.l hb⟩
theorem boxed_at (x : It) (w : World) : Boxed w.heap.size x (boxed x w) := by
  have h : (boxed x w).heap[w.heap.size]? = some (.cells #[.int .u8 x.c.toNat, .int .i64 x.m, .string x.l] 79) := heap_alloc_new w _
  refine ⟨?_, ?_, ?_⟩ <;> (unfold World.cell?; rw [h]; rfl)

set_option maxHeartbeats 800000 in
theorem mayl_any (x : It) (w : World) (hS : Sch w) (hl : x.l.size ≤ 9223372036854775807) : Calls Tryd.prog 120 #[.agg #[.int .u8 x.c.toNat, .int .i64 x.m, .string x.l]] w fun e w' => e = .returned (.bool (Dc.link x)) ∧ Below w.heap.size w w' := by
  have HS : Hid (Sch (boxed x w)) := hS.below (boxed_below x w)
  clear hS
  have H1 : Hid (Below w.heap.size w (boxed x w)) := boxed_below x w
  have HB : Hid (Boxed w.heap.size x (boxed x w)) := boxed_at x w
  cases h0 : x.l.toList.isEmpty
  · have hr : Dc.link x = (!Dc.ends x && Lk.may x.l.data.toList) := by unfold Dc.link; rw [h0]; rfl
    rw [hr]
    clear hr
    cases he : Dc.ends x
    · go_enter Tryd.func120, Tryd.ntmps120
      go_wp2_with fail
      change Calls Tryd.prog 89 _ (boxed x w) _
      refine (ends_any x _).mono ?_
      rintro e w1 ⟨rfl, hb⟩
      rw [he]
      have hc := (HB.out.below hb).l
      have HS1 : Hid (Sch w1) := HS.out.below hb
      have H2 : Hid (Below w.heap.size w w1) := H1.out.trans (hb.mono H1.out.size)
      clear hb
      go_wp2_with fail
      refine (may_any x.l _ hl HS1.out).mono ?_
      rintro e w2 ⟨rfl, hb⟩
      have H3 : Hid (Below w.heap.size w w2) := H2.out.trans (hb.mono H2.out.size)
      clear hb
      go_wp2
      go_ret
      exact ⟨rfl, H3.out⟩
    · go_enter Tryd.func120, Tryd.ntmps120
      go_wp2_with fail
      change Calls Tryd.prog 89 _ (boxed x w) _
      refine (ends_any x _).mono ?_
      rintro e w1 ⟨rfl, hb⟩
      rw [he]
      have H2 : Hid (Below w.heap.size w w1) := H1.out.trans (hb.mono H1.out.size)
      clear hb
      go_wp2
      go_ret
      exact ⟨rfl, H2.out⟩
  · have hr : Dc.link x = true := by unfold Dc.link; rw [h0]; rfl
    rw [hr]
    clear hr
    go_enter Tryd.func120, Tryd.ntmps120
    go_wp2
    go_ret
    exact ⟨rfl, H1.out⟩

theorem err_text {x : It} (h : Dc.ends x = false) (h2 : Dc.isChar x = false) : Dc.err x = 1 := by unfold Dc.err; rw [h, h2]; rfl
theorem err_rest {x : It} (h : Dc.ends x = true ∨ Dc.isChar x = true) : Dc.err x = if !Dc.marks x then 3 else if !Dc.link x then 4 else 0 := by
  unfold Dc.err
  rcases h with h | h <;> rw [h] <;> simp
theorem err_marks {x : It} (h : Dc.ends x = true ∨ Dc.isChar x = true) (hm : x.m < 0 ∨ 3 < x.m) : Dc.err x = 3 := by
  rw [err_rest h]
  have : Dc.marks x = false := by unfold Dc.marks; simp; omega
  rw [this]; rfl
theorem err_link {x : It} (h : Dc.ends x = true ∨ Dc.isChar x = true) (h0 : 0 ≤ x.m) (h3 : x.m ≤ 3) : Dc.err x = if Dc.link x then 0 else 4 := by
  rw [err_rest h]
  have : Dc.marks x = true := by unfold Dc.marks; simp; omega
  rw [this]
  cases Dc.link x <;> rfl

set_option maxHeartbeats 3200000 in
theorem item_any (x : It) (w : World) (hS : Sch w) (hl : x.l.size ≤ 9223372036854775807) : Calls Tryd.prog 109 #[.agg #[.int .u8 x.c.toNat, .int .i64 x.m, .string x.l]] w fun e w' => e = .returned (.int .i64 (Dc.err x)) ∧ Below w.heap.size w w' := by
  have HS : Hid (Sch (boxed x w)) := hS.below (boxed_below x w)
  clear hS
  have H1 : Hid (Below w.heap.size w (boxed x w)) := boxed_below x w
  have HB : Hid (Boxed w.heap.size x (boxed x w)) := boxed_at x w
  obtain ⟨r, hr⟩ : ∃ r, Dc.err x = r := ⟨_, rfl⟩
  have HR : Hid (Dc.err x = r) := hr
  rw [hr]
  clear hr
  cases he : Dc.ends x
  · cases hc : Dc.isChar x
    · have : r = 1 := HR.out.symm.trans (err_text he hc)
      subst this
      go_enter Tryd.func109, Tryd.ntmps109
      go_wp2_with fail
      change Calls Tryd.prog 89 _ (boxed x w) _
      refine (ends_any x _).mono ?_
      rintro e w1 ⟨rfl, hb⟩
      rw [he]
      have B2 := HB.out.below hb
      have hc0 := B2.c
      have hc1 := B2.m
      have hc2 := B2.l
      have HB2 : Hid (Boxed w.heap.size x w1) := B2
      clear B2
      have HS2 : Hid (Sch w1) := HS.out.below hb
      have H2 : Hid (Below w.heap.size w w1) := H1.out.trans (hb.mono H1.out.size)
      clear hb
      go_wp2_with fail
      refine (isch_any x _).mono ?_
      rintro e w2 ⟨rfl, hb⟩
      rw [hc]
      have B3 := HB2.out.below hb
      have hd0 := B3.c
      have hd1 := B3.m
      have hd2 := B3.l
      clear B3
      have HS3 : Hid (Sch w2) := HS2.out.below hb
      have H3 : Hid (Below w.heap.size w w2) := H2.out.trans (hb.mono H2.out.size)
      clear hb
      go_wp2
      go_ret
      exact ⟨rfl, H3.out⟩
    · have ok : Dc.ends x = true ∨ Dc.isChar x = true := .inr hc
      by_cases hm : x.m < 0
      · have : r = 3 := HR.out.symm.trans (err_marks ok (.inl hm))
        subst this
        clear ok
        go_enter Tryd.func109, Tryd.ntmps109
        go_wp2_with fail
        change Calls Tryd.prog 89 _ (boxed x w) _
        refine (ends_any x _).mono ?_
        rintro e w1 ⟨rfl, hb⟩
        rw [he]
        have B2 := HB.out.below hb
        have hc0 := B2.c
        have hc1 := B2.m
        have hc2 := B2.l
        have HB2 : Hid (Boxed w.heap.size x w1) := B2
        clear B2
        have HS2 : Hid (Sch w1) := HS.out.below hb
        have H2 : Hid (Below w.heap.size w w1) := H1.out.trans (hb.mono H1.out.size)
        clear hb
        go_wp2_with fail
        refine (isch_any x _).mono ?_
        rintro e w2 ⟨rfl, hb⟩
        rw [hc]
        have B3 := HB2.out.below hb
        have hd0 := B3.c
        have hd1 := B3.m
        have hd2 := B3.l
        clear B3
        have HS3 : Hid (Sch w2) := HS2.out.below hb
        have H3 : Hid (Below w.heap.size w w2) := H2.out.trans (hb.mono H2.out.size)
        clear hb
        go_wp2
        go_ret
        exact ⟨rfl, H3.out⟩
      · by_cases hm3 : 3 < x.m
        · have : r = 3 := HR.out.symm.trans (err_marks ok (.inr hm3))
          subst this
          clear ok
          go_enter Tryd.func109, Tryd.ntmps109
          go_wp2_with fail
          change Calls Tryd.prog 89 _ (boxed x w) _
          refine (ends_any x _).mono ?_
          rintro e w1 ⟨rfl, hb⟩
          rw [he]
          have B2 := HB.out.below hb
          have hc0 := B2.c
          have hc1 := B2.m
          have hc2 := B2.l
          have HB2 : Hid (Boxed w.heap.size x w1) := B2
          clear B2
          have HS2 : Hid (Sch w1) := HS.out.below hb
          have H2 : Hid (Below w.heap.size w w1) := H1.out.trans (hb.mono H1.out.size)
          clear hb
          go_wp2_with fail
          refine (isch_any x _).mono ?_
          rintro e w2 ⟨rfl, hb⟩
          rw [hc]
          have B3 := HB2.out.below hb
          have hd0 := B3.c
          have hd1 := B3.m
          have hd2 := B3.l
          clear B3
          have HS3 : Hid (Sch w2) := HS2.out.below hb
          have H3 : Hid (Below w.heap.size w w2) := H2.out.trans (hb.mono H2.out.size)
          clear hb
          go_wp2
          go_ret
          exact ⟨rfl, H3.out⟩
        · have hrl := HR.out.symm.trans (err_link ok (by omega) (by omega))
          clear ok
          cases hk : Dc.link x
          · rw [hk] at hrl
            have : r = 4 := hrl
            subst this
            clear hrl
            go_enter Tryd.func109, Tryd.ntmps109
            go_wp2_with fail
            change Calls Tryd.prog 89 _ (boxed x w) _
            refine (ends_any x _).mono ?_
            rintro e w1 ⟨rfl, hb⟩
            rw [he]
            have B2 := HB.out.below hb
            have hc0 := B2.c
            have hc1 := B2.m
            have hc2 := B2.l
            have HB2 : Hid (Boxed w.heap.size x w1) := B2
            clear B2
            have HS2 : Hid (Sch w1) := HS.out.below hb
            have H2 : Hid (Below w.heap.size w w1) := H1.out.trans (hb.mono H1.out.size)
            clear hb
            go_wp2_with fail
            refine (isch_any x _).mono ?_
            rintro e w2 ⟨rfl, hb⟩
            rw [hc]
            have B3 := HB2.out.below hb
            have hd0 := B3.c
            have hd1 := B3.m
            have hd2 := B3.l
            clear B3
            have HS3 : Hid (Sch w2) := HS2.out.below hb
            have H3 : Hid (Below w.heap.size w w2) := H2.out.trans (hb.mono H2.out.size)
            clear hb
            go_wp2_with fail
            refine (mayl_any x _ HS3.out hl).mono ?_
            rintro e w4 ⟨rfl, hb⟩
            rw [hk]
            have H4 : Hid (Below w.heap.size w w4) := H3.out.trans (hb.mono H3.out.size)
            clear hb
            go_wp2
            go_ret
            exact ⟨rfl, H4.out⟩
          · rw [hk] at hrl
            have : r = 0 := hrl
            subst this
            clear hrl
            go_enter Tryd.func109, Tryd.ntmps109
            go_wp2_with fail
            change Calls Tryd.prog 89 _ (boxed x w) _
            refine (ends_any x _).mono ?_
            rintro e w1 ⟨rfl, hb⟩
            rw [he]
            have B2 := HB.out.below hb
            have hc0 := B2.c
            have hc1 := B2.m
            have hc2 := B2.l
            have HB2 : Hid (Boxed w.heap.size x w1) := B2
            clear B2
            have HS2 : Hid (Sch w1) := HS.out.below hb
            have H2 : Hid (Below w.heap.size w w1) := H1.out.trans (hb.mono H1.out.size)
            clear hb
            go_wp2_with fail
            refine (isch_any x _).mono ?_
            rintro e w2 ⟨rfl, hb⟩
            rw [hc]
            have B3 := HB2.out.below hb
            have hd0 := B3.c
            have hd1 := B3.m
            have hd2 := B3.l
            clear B3
            have HS3 : Hid (Sch w2) := HS2.out.below hb
            have H3 : Hid (Below w.heap.size w w2) := H2.out.trans (hb.mono H2.out.size)
            clear hb
            go_wp2_with fail
            refine (mayl_any x _ HS3.out hl).mono ?_
            rintro e w4 ⟨rfl, hb⟩
            rw [hk]
            have H4 : Hid (Below w.heap.size w w4) := H3.out.trans (hb.mono H3.out.size)
            clear hb
            go_wp2
            go_ret
            exact ⟨rfl, H4.out⟩
  · have ok : Dc.ends x = true ∨ Dc.isChar x = true := .inl he
    by_cases hm : x.m < 0
    · have : r = 3 := HR.out.symm.trans (err_marks ok (.inl hm))
      subst this
      clear ok
      go_enter Tryd.func109, Tryd.ntmps109
      go_wp2_with fail
      change Calls Tryd.prog 89 _ (boxed x w) _
      refine (ends_any x _).mono ?_
      rintro e w1 ⟨rfl, hb⟩
      rw [he]
      have B2 := HB.out.below hb
      have hc0 := B2.c
      have hc1 := B2.m
      have hc2 := B2.l
      have HB2 : Hid (Boxed w.heap.size x w1) := B2
      clear B2
      have HS2 : Hid (Sch w1) := HS.out.below hb
      have H2 : Hid (Below w.heap.size w w1) := H1.out.trans (hb.mono H1.out.size)
      clear hb
      go_wp2
      go_ret
      exact ⟨rfl, H2.out⟩
    · by_cases hm3 : 3 < x.m
      · have : r = 3 := HR.out.symm.trans (err_marks ok (.inr hm3))
        subst this
        clear ok
        go_enter Tryd.func109, Tryd.ntmps109
        go_wp2_with fail
        change Calls Tryd.prog 89 _ (boxed x w) _
        refine (ends_any x _).mono ?_
        rintro e w1 ⟨rfl, hb⟩
        rw [he]
        have B2 := HB.out.below hb
        have hc0 := B2.c
        have hc1 := B2.m
        have hc2 := B2.l
        have HB2 : Hid (Boxed w.heap.size x w1) := B2
        clear B2
        have HS2 : Hid (Sch w1) := HS.out.below hb
        have H2 : Hid (Below w.heap.size w w1) := H1.out.trans (hb.mono H1.out.size)
        clear hb
        go_wp2
        go_ret
        exact ⟨rfl, H2.out⟩
      · have hrl := HR.out.symm.trans (err_link ok (by omega) (by omega))
        clear ok
        cases hk : Dc.link x
        · rw [hk] at hrl
          have : r = 4 := hrl
          subst this
          clear hrl
          go_enter Tryd.func109, Tryd.ntmps109
          go_wp2_with fail
          change Calls Tryd.prog 89 _ (boxed x w) _
          refine (ends_any x _).mono ?_
          rintro e w1 ⟨rfl, hb⟩
          rw [he]
          have B2 := HB.out.below hb
          have hc0 := B2.c
          have hc1 := B2.m
          have hc2 := B2.l
          have HB2 : Hid (Boxed w.heap.size x w1) := B2
          clear B2
          have HS2 : Hid (Sch w1) := HS.out.below hb
          have H2 : Hid (Below w.heap.size w w1) := H1.out.trans (hb.mono H1.out.size)
          clear hb
          go_wp2_with fail
          refine (mayl_any x _ HS2.out hl).mono ?_
          rintro e w4 ⟨rfl, hb⟩
          rw [hk]
          have H4 : Hid (Below w.heap.size w w4) := H2.out.trans (hb.mono H2.out.size)
          clear hb
          go_wp2
          go_ret
          exact ⟨rfl, H4.out⟩
        · rw [hk] at hrl
          have : r = 0 := hrl
          subst this
          clear hrl
          go_enter Tryd.func109, Tryd.ntmps109
          go_wp2_with fail
          change Calls Tryd.prog 89 _ (boxed x w) _
          refine (ends_any x _).mono ?_
          rintro e w1 ⟨rfl, hb⟩
          rw [he]
          have B2 := HB.out.below hb
          have hc0 := B2.c
          have hc1 := B2.m
          have hc2 := B2.l
          have HB2 : Hid (Boxed w.heap.size x w1) := B2
          clear B2
          have HS2 : Hid (Sch w1) := HS.out.below hb
          have H2 : Hid (Below w.heap.size w w1) := H1.out.trans (hb.mono H1.out.size)
          clear hb
          go_wp2_with fail
          refine (mayl_any x _ HS2.out hl).mono ?_
          rintro e w4 ⟨rfl, hb⟩
          rw [hk]
          have H4 : Hid (Below w.heap.size w w4) := H2.out.trans (hb.mono H2.out.size)
          clear hb
          go_wp2
          go_ret
          exact ⟨rfl, H4.out⟩
end Go.Proofs.YtbhcklkbckacpaaDoor

/-
  Chapters 7 and 8 on lists of acts, one an item (kept with a change, put, cut): what they make of items; two, turned behind each other, meet; two, joined, do what the one and then the other one does; joined three in either way are the same; tidied they do the same.
-/
namespace Go.Proofs.YtbhcklkbckacpaaDoor
open Go.RowKit
namespace Ac
/-- What is done to an item that is kept: marks that are set and cleared, whether its link is another one, and which. -/
structure Ch where
  set : Int
  clr : Int
  goes : Bool
  link : ByteArray
/-- An act: an item is kept, with a change, put, or cut. -/
abbrev A := Option (Ch ⊕ It)
namespace A
abbrev keep (c : Ch) : A := some (.inl c)
abbrev put (x : It) : A := some (.inr x)
abbrev cut : A := none
end A
def nop : Ch := ⟨0, 0, false, ⟨#[]⟩⟩
/-- Marks without those that are cleared, with those that are set. -/
def mark (m c s : Int) : Int := ((m.toNat - (m.toNat &&& c.toNat)) ||| s.toNat : Nat)
/-- Marks without those of another. -/
def less (a b : Int) : Int := (a.toNat - (a.toNat &&& b.toNat) : Nat)
def both (a b : Int) : Int := (a.toNat ||| b.toNat : Nat)
def change (x : It) (c : Ch) : It := ⟨x.c, mark x.m c.clr c.set, if c.goes && !Dc.ends x then c.link else x.l⟩
/-- Marks that may be. -/
def m4 (m : Int) : Prop := 0 ≤ m ∧ m ≤ 3
structure ChOk (c : Ch) : Prop where
  set : m4 c.set
  clr : m4 c.clr
theorem nop_ok : ChOk nop := ⟨⟨by decide, by decide⟩, ⟨by decide, by decide⟩⟩
theorem m4_nat {m : Int} (h : m4 m) : ∃ k : Nat, k < 4 ∧ m = k := by
  obtain ⟨h0, h3⟩ := h
  exact ⟨m.toNat, by omega, by omega⟩
def A.ok : A → Prop
  | some (.inl c) => ChOk c
  | some (.inr x) => m4 x.m
  | none => True
def Ok (l : List A) : Prop := ∀ a ∈ l, A.ok a
/-- What acts make of items. -/
def ap : List A → List It → Option (List It)
  | [], [] => some []
  | [], _ :: _ => none
  | some (.inr x) :: r, d => (ap r d).map (x :: ·)
  | some (.inl _) :: _, [] => none
  | some (.inl c) :: r, x :: d => (ap r d).map (change x c :: ·)
  | none :: _, [] => none
  | none :: r, _ :: d => ap r d
/-- For how many items they are, and how many they leave. -/
def need : List A → Nat
  | [] => 0
  | some (.inr _) :: r => need r
  | some (.inl _) :: r => need r + 1
  | none :: r => need r + 1
def leave : List A → Nat
  | [] => 0
  | some (.inr _) :: r => leave r + 1
  | some (.inl _) :: r => leave r + 1
  | none :: r => leave r
theorem ap_some : ∀ (l : List A) (d : List It), need l = d.length → ∃ p, ap l d = some p ∧ p.length = leave l
  | [], [], _ => ⟨[], rfl, rfl⟩
  | [], _ :: _, h => by simp [need] at h
  | some (.inr x) :: r, d, h => by
    obtain ⟨p, h1, h2⟩ := ap_some r d h
    exact ⟨x :: p, by rw [ap, h1]; rfl, by simp [leave, h2]⟩
  | some (.inl _) :: _, [], h => by simp [need] at h
  | some (.inl c) :: r, x :: d, h => by
    obtain ⟨p, h1, h2⟩ := ap_some r d (by simpa [need] using h)
    exact ⟨change x c :: p, by rw [ap, h1]; rfl, by simp [leave, h2]⟩
  | none :: _, [], h => by simp [need] at h
  | none :: r, _ :: d, h => by
    obtain ⟨p, h1, h2⟩ := ap_some r d (by simpa [need] using h)
    exact ⟨p, by rw [ap, h1], by simp [leave, h2]⟩
theorem ap_need : ∀ (l : List A) (d p : List It), ap l d = some p → need l = d.length
  | [], [], _, _ => rfl
  | [], _ :: _, _, h => by cases h
  | some (.inr x) :: r, d, p, h => by
    rw [ap] at h
    cases hr : ap r d with
    | none => rw [hr] at h; cases h
    | some q => exact ap_need r d q hr
  | some (.inl _) :: _, [], _, h => by cases h
  | some (.inl c) :: r, x :: d, p, h => by
    rw [ap] at h
    cases hr : ap r d with
    | none => rw [hr] at h; cases h
    | some q => simp [need, ap_need r d q hr]
  | none :: _, [], _, h => by cases h
  | none :: r, _ :: d, p, h => by
    rw [ap] at h
    simp [need, ap_need r d p h]
theorem ap_cut (r : List A) (x : It) (d : List It) : ap (.cut :: r) (x :: d) = ap r d := rfl
theorem ap_keep (c : Ch) (r : List A) (x : It) (d : List It) : ap (.keep c :: r) (x :: d) = (ap r d).map (change x c :: ·) := rfl
theorem ap_put (x : It) (r : List A) (d : List It) : ap (.put x :: r) d = (ap r d).map (x :: ·) := by cases d <;> rfl

/- Marks: a finite matter. -/
theorem mark_m4 {m c s : Int} (hm : m4 m) (hc : m4 c) (hs : m4 s) : m4 (mark m c s) := by
  obtain ⟨a, ha, rfl⟩ := m4_nat hm
  obtain ⟨b, hb, rfl⟩ := m4_nat hc
  obtain ⟨e, he, rfl⟩ := m4_nat hs
  have h : ∀ a < 4, ∀ b < 4, ∀ e < 4, ((a - (a &&& b)) ||| e) ≤ 3 := by decide
  have := h a ha b hb e he
  refine ⟨Int.natCast_nonneg _, ?_⟩
  show (((a - (a &&& b)) ||| e : Nat) : Int) ≤ 3
  omega
theorem less_m4 {a b : Int} (ha : m4 a) (hb : m4 b) : m4 (less a b) := by
  obtain ⟨x, hx, rfl⟩ := m4_nat ha
  obtain ⟨y, hy, rfl⟩ := m4_nat hb
  have h : ∀ a < 4, ∀ b < 4, (a - (a &&& b)) ≤ 3 := by decide
  have := h x hx y hy
  refine ⟨Int.natCast_nonneg _, ?_⟩
  show ((x - (x &&& y) : Nat) : Int) ≤ 3
  omega
theorem both_m4 {a b : Int} (ha : m4 a) (hb : m4 b) : m4 (both a b) := by
  obtain ⟨x, hx, rfl⟩ := m4_nat ha
  obtain ⟨y, hy, rfl⟩ := m4_nat hb
  have h : ∀ a < 4, ∀ b < 4, (a ||| b) ≤ 3 := by decide
  have := h x hx y hy
  refine ⟨Int.natCast_nonneg _, ?_⟩
  show ((x ||| y : Nat) : Int) ≤ 3
  omega
theorem mark_nop {m : Int} (hm : m4 m) : mark m 0 0 = m := by
  obtain ⟨a, ha, rfl⟩ := m4_nat hm
  have h : ∀ a < 4, ((a - (a &&& 0)) ||| 0) = a := by decide
  show (((a - (a &&& 0)) ||| 0 : Nat) : Int) = _
  rw [h a ha]
theorem mark_turn {m c1 s1 c2 s2 : Int} (hm : m4 m) (hc1 : m4 c1) (hs1 : m4 s1) (hc2 : m4 c2) (hs2 : m4 s2) :
    mark (mark m c1 s1) (less c2 (both s1 c1)) (less s2 (both s1 c1)) = mark (mark m c2 s2) c1 s1 := by
  obtain ⟨a, ha, rfl⟩ := m4_nat hm
  obtain ⟨b, hb, rfl⟩ := m4_nat hc1
  obtain ⟨e, he, rfl⟩ := m4_nat hs1
  obtain ⟨f, hf, rfl⟩ := m4_nat hc2
  obtain ⟨g, hg, rfl⟩ := m4_nat hs2
  have h : ∀ a < 4, ∀ b < 4, ∀ e < 4, ∀ f < 4, ∀ g < 4, ((((a - (a &&& b)) ||| e) - (((a - (a &&& b)) ||| e) &&& (f - (f &&& (e ||| b))))) ||| (g - (g &&& (e ||| b)))) = ((((a - (a &&& f)) ||| g) - (((a - (a &&& f)) ||| g) &&& b)) ||| e) := by decide +kernel
  exact congrArg Int.ofNat (h a ha b hb e he f hf g hg)
theorem mark_then {m c1 s1 c2 s2 : Int} (hm : m4 m) (hc1 : m4 c1) (hs1 : m4 s1) (hc2 : m4 c2) (hs2 : m4 s2) :
    mark m (both (less c1 s2) c2) (both (less s1 c2) s2) = mark (mark m c1 s1) c2 s2 := by
  obtain ⟨a, ha, rfl⟩ := m4_nat hm
  obtain ⟨b, hb, rfl⟩ := m4_nat hc1
  obtain ⟨e, he, rfl⟩ := m4_nat hs1
  obtain ⟨f, hf, rfl⟩ := m4_nat hc2
  obtain ⟨g, hg, rfl⟩ := m4_nat hs2
  have h : ∀ a < 4, ∀ b < 4, ∀ e < 4, ∀ f < 4, ∀ g < 4, ((a - (a &&& ((b - (b &&& g)) ||| f))) ||| ((e - (e &&& f)) ||| g)) = ((((a - (a &&& b)) ||| e) - (((a - (a &&& b)) ||| e) &&& f)) ||| g) := by decide +kernel
  exact congrArg Int.ofNat (h a ha b hb e he f hf g hg)
/-- b's change behind a's: without the marks that a sets or clears, and, if a has another link, without b's. -/
def behind (b a : Ch) : Ch := ⟨less b.set (both a.set a.clr), less b.clr (both a.set a.clr), b.goes && !a.goes, if a.goes then ⟨#[]⟩ else b.link⟩
/-- a's change, and then b's. -/
def thenCh (a b : Ch) : Ch := ⟨both (less a.set b.clr) b.set, both (less a.clr b.set) b.clr, a.goes || b.goes, if b.goes then b.link else a.link⟩
theorem ends_change (x : It) (c : Ch) : Dc.ends (change x c) = Dc.ends x := rfl
theorem change_turn {x : It} {a b : Ch} (hx : m4 x.m) (ha : ChOk a) (hb : ChOk b) : change (change x a) (behind b a) = change (change x b) a := by
  have hm : (change (change x a) (behind b a)).m = (change (change x b) a).m := mark_turn hx ha.clr ha.set hb.clr hb.set
  have hl : (change (change x a) (behind b a)).l = (change (change x b) a).l := by
    show (if (b.goes && !a.goes) && !Dc.ends x then (if a.goes then (⟨#[]⟩ : ByteArray) else b.link) else (if a.goes && !Dc.ends x then a.link else x.l)) = (if a.goes && !Dc.ends x then a.link else (if b.goes && !Dc.ends x then b.link else x.l))
    cases a.goes <;> cases b.goes <;> cases Dc.ends x <;> rfl
  show (⟨x.c, (change (change x a) (behind b a)).m, (change (change x a) (behind b a)).l⟩ : It) = ⟨x.c, (change (change x b) a).m, (change (change x b) a).l⟩
  rw [hm, hl]
theorem change_then {x : It} {a b : Ch} (hx : m4 x.m) (ha : ChOk a) (hb : ChOk b) : change x (thenCh a b) = change (change x a) b := by
  have hm : (change x (thenCh a b)).m = (change (change x a) b).m := mark_then hx ha.clr ha.set hb.clr hb.set
  have hl : (change x (thenCh a b)).l = (change (change x a) b).l := by
    show (if (a.goes || b.goes) && !Dc.ends x then (if b.goes then b.link else a.link) else x.l) = (if b.goes && !Dc.ends x then b.link else (if a.goes && !Dc.ends x then a.link else x.l))
    cases a.goes <;> cases b.goes <;> cases Dc.ends x <;> rfl
  show (⟨x.c, (change x (thenCh a b)).m, (change x (thenCh a b)).l⟩ : It) = ⟨x.c, (change (change x a) b).m, (change (change x a) b).l⟩
  rw [hm, hl]
theorem change_nop {x : It} (hx : m4 x.m) : change x nop = x := by
  show (⟨x.c, mark x.m 0 0, x.l⟩ : It) = x
  rw [mark_nop hx]
theorem behind_ok {a b : Ch} (ha : ChOk a) (hb : ChOk b) : ChOk (behind b a) := ⟨less_m4 hb.set (both_m4 ha.set ha.clr), less_m4 hb.clr (both_m4 ha.set ha.clr)⟩
theorem then_ok {a b : Ch} (ha : ChOk a) (hb : ChOk b) : ChOk (thenCh a b) := ⟨both_m4 (less_m4 ha.set hb.clr) hb.set, both_m4 (less_m4 ha.clr hb.set) hb.clr⟩

/- Turn. -/
/-- Where a is at a Keep or a Cut, f being the rest of a: b's puts go ahead. -/
def onto (h : Option Ch) (f : List A → List A × List A) : List A → List A × List A
  | [] => ([], [])
  | some (.inr y) :: b => (.keep nop :: (onto h f b).1, .put y :: (onto h f b).2)
  | some (.inl d) :: b => match h with
    | some c => (.keep c :: (f b).1, .keep (behind d c) :: (f b).2)
    | none => (.cut :: (f b).1, (f b).2)
  | none :: b => match h with
    | some _ => ((f b).1, .cut :: (f b).2)
    | none => f b
def tails : List A → List A × List A
  | some (.inr y) :: b => (.keep nop :: (tails b).1, .put y :: (tails b).2)
  | _ => ([], [])
def turn : List A → List A → List A × List A
  | [], b => tails b
  | some (.inr x) :: a, b => (.put x :: (turn a b).1, .keep nop :: (turn a b).2)
  | some (.inl c) :: a, b => onto (some c) (turn a) b
  | none :: a, b => onto none (turn a) b
theorem turn_put (x : It) (a b : List A) : turn (.put x :: a) b = (.put x :: (turn a b).1, .keep nop :: (turn a b).2) := rfl
theorem turn_np (y : It) (b : List A) : turn [] (.put y :: b) = (.keep nop :: (turn [] b).1, .put y :: (turn [] b).2) := rfl
theorem turn_kp (c : Ch) (y : It) (a b : List A) : turn (.keep c :: a) (.put y :: b) = (.keep nop :: (turn (.keep c :: a) b).1, .put y :: (turn (.keep c :: a) b).2) := rfl
theorem turn_cp (y : It) (a b : List A) : turn (.cut :: a) (.put y :: b) = (.keep nop :: (turn (.cut :: a) b).1, .put y :: (turn (.cut :: a) b).2) := rfl
theorem turn_kk (c d : Ch) (a b : List A) : turn (.keep c :: a) (.keep d :: b) = (.keep c :: (turn a b).1, .keep (behind d c) :: (turn a b).2) := rfl
theorem turn_ck (d : Ch) (a b : List A) : turn (.cut :: a) (.keep d :: b) = (.cut :: (turn a b).1, (turn a b).2) := rfl
theorem turn_kc (c : Ch) (a b : List A) : turn (.keep c :: a) (.cut :: b) = ((turn a b).1, .cut :: (turn a b).2) := rfl
theorem turn_cc (a b : List A) : turn (.cut :: a) (.cut :: b) = turn a b := rfl
theorem turn_nn : turn [] [] = ([], []) := rfl
end Ac
namespace Ac
def M4 (d : List It) : Prop := ∀ x ∈ d, m4 x.m
theorem Ok.tail {a : A} {l : List A} (h : Ok (a :: l)) : Ok l := fun b hb => h b (by simp [hb])
theorem Ok.head {a : A} {l : List A} (h : Ok (a :: l)) : A.ok a := h a (by simp)
theorem M4.tail {x : It} {d : List It} (h : M4 (x :: d)) : M4 d := fun y hy => h y (by simp [hy])
theorem M4.head {x : It} {d : List It} (h : M4 (x :: d)) : m4 x.m := h x (by simp)
theorem ap_put_some {x : It} {r : List A} {d p : List It} (h : ap (.put x :: r) d = some p) : ∃ p', p = x :: p' ∧ ap r d = some p' := by
  rw [ap_put] at h
  cases hr : ap r d with
  | none => rw [hr] at h; cases h
  | some q => rw [hr] at h; cases h; exact ⟨q, rfl, rfl⟩
theorem ap_keep_some {c : Ch} {r : List A} {d p : List It} (h : ap (.keep c :: r) d = some p) : ∃ z d' p', d = z :: d' ∧ p = change z c :: p' ∧ ap r d' = some p' := by
  cases d with
  | nil => cases h
  | cons z d' =>
    rw [ap_keep] at h
    cases hr : ap r d' with
    | none => rw [hr] at h; cases h
    | some q => rw [hr] at h; cases h; exact ⟨z, d', q, rfl, rfl, hr⟩
theorem ap_cut_some {r : List A} {d p : List It} (h : ap (.cut :: r) d = some p) : ∃ z d', d = z :: d' ∧ ap r d' = some p := by
  cases d with
  | nil => cases h
  | cons z d' => exact ⟨z, d', rfl, h⟩
theorem ap_nil_some {d p : List It} (h : ap [] d = some p) : d = [] ∧ p = [] := by
  cases d with
  | nil => cases h; exact ⟨rfl, rfl⟩
  | cons => cases h
theorem ap_m4 : ∀ (l : List A) (d p : List It), Ok l → M4 d → ap l d = some p → M4 p
  | [], d, p, _, _, h => by rw [(ap_nil_some h).2]; intro x hx; simp at hx
  | some (.inr x) :: r, d, p, ho, hd, h => by
    obtain ⟨p', rfl, h'⟩ := ap_put_some h
    have ih := ap_m4 r d p' ho.tail hd h'
    intro y hy
    rcases List.mem_cons.1 hy with rfl | hy
    · exact ho.head
    · exact ih y hy
  | some (.inl c) :: r, d, p, ho, hd, h => by
    obtain ⟨z, d', p', rfl, rfl, h'⟩ := ap_keep_some h
    have ih := ap_m4 r d' p' ho.tail hd.tail h'
    intro y hy
    rcases List.mem_cons.1 hy with rfl | hy
    · exact mark_m4 hd.head ho.head.clr ho.head.set
    · exact ih y hy
  | none :: r, d, p, ho, hd, h => by
    obtain ⟨z, d', rfl, h'⟩ := ap_cut_some h
    exact ap_m4 r d' p ho.tail hd.tail h'
/-- Two, done in either order, each turned behind the other one, make the same. -/
theorem turn_meets : ∀ (n : Nat) (a b : List A), a.length + b.length ≤ n → ∀ (d p q : List It), M4 d → Ok a → Ok b → ap a d = some p → ap b d = some q → ∃ r, ap (turn a b).2 p = some r ∧ ap (turn a b).1 q = some r
  | n, some (.inr x) :: a, b, hn, d, p, q, hd, ha, hb, h1, h2 => by
    obtain ⟨p', rfl, h1'⟩ := ap_put_some h1
    match n, hn with
    | 0, hn => simp at hn
    | n + 1, hn =>
      obtain ⟨r, g1, g2⟩ := turn_meets n a b (by simp only [List.length_cons] at hn; omega) d p' q hd ha.tail hb h1' h2
      rw [turn_put]
      refine ⟨x :: r, ?_, ?_⟩
      · show ap (.keep nop :: (turn a b).2) (x :: p') = _
        rw [ap_keep, g1, change_nop ha.head]; rfl
      · show ap (.put x :: (turn a b).1) q = _
        rw [ap_put, g2]; rfl
  | n, [], some (.inr y) :: b, hn, d, p, q, hd, ha, hb, h1, h2 => by
    obtain ⟨q', rfl, h2'⟩ := ap_put_some h2
    match n, hn with
    | 0, hn => simp at hn
    | n + 1, hn =>
      obtain ⟨r, g1, g2⟩ := turn_meets n [] b (by simp only [List.length_cons] at hn; omega) d p q' hd ha hb.tail h1 h2'
      rw [turn_np]
      refine ⟨y :: r, ?_, ?_⟩
      · show ap (.put y :: (turn [] b).2) p = _
        rw [ap_put, g1]; rfl
      · show ap (.keep nop :: (turn [] b).1) (y :: q') = _
        rw [ap_keep, g2, change_nop hb.head]; rfl
  | n, some (.inl c) :: a, some (.inr y) :: b, hn, d, p, q, hd, ha, hb, h1, h2 => by
    obtain ⟨q', rfl, h2'⟩ := ap_put_some h2
    match n, hn with
    | 0, hn => simp at hn
    | n + 1, hn =>
      obtain ⟨r, g1, g2⟩ := turn_meets n (.keep c :: a) b (by simp only [List.length_cons] at hn ⊢; omega) d p q' hd ha hb.tail h1 h2'
      rw [turn_kp]
      refine ⟨y :: r, ?_, ?_⟩
      · show ap (.put y :: (turn (.keep c :: a) b).2) p = _
        rw [ap_put, g1]; rfl
      · show ap (.keep nop :: (turn (.keep c :: a) b).1) (y :: q') = _
        rw [ap_keep, g2, change_nop hb.head]; rfl
  | n, none :: a, some (.inr y) :: b, hn, d, p, q, hd, ha, hb, h1, h2 => by
    obtain ⟨q', rfl, h2'⟩ := ap_put_some h2
    match n, hn with
    | 0, hn => simp at hn
    | n + 1, hn =>
      obtain ⟨r, g1, g2⟩ := turn_meets n (.cut :: a) b (by simp only [List.length_cons] at hn ⊢; omega) d p q' hd ha hb.tail h1 h2'
      rw [turn_cp]
      refine ⟨y :: r, ?_, ?_⟩
      · show ap (.put y :: (turn (.cut :: a) b).2) p = _
        rw [ap_put, g1]; rfl
      · show ap (.keep nop :: (turn (.cut :: a) b).1) (y :: q') = _
        rw [ap_keep, g2, change_nop hb.head]; rfl
  | n, some (.inl c) :: a, some (.inl e) :: b, hn, d, p, q, hd, ha, hb, h1, h2 => by
    obtain ⟨z, d', p', rfl, rfl, h1'⟩ := ap_keep_some h1
    obtain ⟨z2, d2, q', hz, rfl, h2'⟩ := ap_keep_some h2
    cases hz
    match n, hn with
    | 0, hn => simp at hn
    | n + 1, hn =>
      obtain ⟨r, g1, g2⟩ := turn_meets n a b (by simp only [List.length_cons] at hn; omega) d' p' q' hd.tail ha.tail hb.tail h1' h2'
      rw [turn_kk]
      refine ⟨change (change z e) c :: r, ?_, ?_⟩
      · show ap (.keep (behind e c) :: (turn a b).2) (change z c :: p') = _
        rw [ap_keep, g1, change_turn hd.head ha.head hb.head]; rfl
      · show ap (.keep c :: (turn a b).1) (change z e :: q') = _
        rw [ap_keep, g2]; rfl
  | n, none :: a, some (.inl e) :: b, hn, d, p, q, hd, ha, hb, h1, h2 => by
    obtain ⟨z, d', rfl, h1'⟩ := ap_cut_some h1
    obtain ⟨z2, d2, q', hz, rfl, h2'⟩ := ap_keep_some h2
    cases hz
    match n, hn with
    | 0, hn => simp at hn
    | n + 1, hn =>
      obtain ⟨r, g1, g2⟩ := turn_meets n a b (by simp only [List.length_cons] at hn; omega) d' p q' hd.tail ha.tail hb.tail h1' h2'
      rw [turn_ck]
      exact ⟨r, g1, g2⟩
  | n, some (.inl c) :: a, none :: b, hn, d, p, q, hd, ha, hb, h1, h2 => by
    obtain ⟨z, d', p', rfl, rfl, h1'⟩ := ap_keep_some h1
    obtain ⟨z2, d2, hz, h2'⟩ := ap_cut_some h2
    cases hz
    match n, hn with
    | 0, hn => simp at hn
    | n + 1, hn =>
      obtain ⟨r, g1, g2⟩ := turn_meets n a b (by simp only [List.length_cons] at hn; omega) d' p' q hd.tail ha.tail hb.tail h1' h2'
      rw [turn_kc]
      exact ⟨r, g1, g2⟩
  | n, none :: a, none :: b, hn, d, p, q, hd, ha, hb, h1, h2 => by
    obtain ⟨z, d', rfl, h1'⟩ := ap_cut_some h1
    obtain ⟨z2, d2, hz, h2'⟩ := ap_cut_some h2
    cases hz
    match n, hn with
    | 0, hn => simp at hn
    | n + 1, hn =>
      obtain ⟨r, g1, g2⟩ := turn_meets n a b (by simp only [List.length_cons] at hn; omega) d' p q hd.tail ha.tail hb.tail h1' h2'
      rw [turn_cc]
      exact ⟨r, g1, g2⟩
  | _, [], [], _, d, p, q, _, _, _, h1, h2 => by
    rw [(ap_nil_some h1).2, (ap_nil_some h2).2, turn_nn]
    exact ⟨[], rfl, rfl⟩
  | _, [], some (.inl e) :: b, _, d, p, q, _, _, _, h1, h2 => by
    rw [(ap_nil_some h1).1] at h2; cases h2
  | _, [], none :: b, _, d, p, q, _, _, _, h1, h2 => by
    rw [(ap_nil_some h1).1] at h2; cases h2
  | _, some (.inl c) :: a, [], _, d, p, q, _, _, _, h1, h2 => by
    rw [(ap_nil_some h2).1] at h1; cases h1
  | _, none :: a, [], _, d, p, q, _, _, _, h1, h2 => by
    rw [(ap_nil_some h2).1] at h1; cases h1

/- Join. -/
/-- Where a is at a Keep or a Put, f being the rest of a: b's puts go ahead. -/
def into (h : Ch ⊕ It) (f : List A → List A) : List A → List A
  | [] => []
  | some (.inr y) :: b => .put y :: into h f b
  | some (.inl e) :: b => match h with
    | .inl c => .keep (thenCh c e) :: f b
    | .inr x => .put (change x e) :: f b
  | none :: b => match h with
    | .inl _ => .cut :: f b
    | .inr _ => f b
def puts : List A → List A
  | some (.inr y) :: b => .put y :: puts b
  | _ => []
def join : List A → List A → List A
  | [], b => puts b
  | none :: a, b => .cut :: join a b
  | some h :: a, b => into h (join a) b
theorem join_cut (a b : List A) : join (.cut :: a) b = .cut :: join a b := rfl
theorem join_nil : join [] [] = [] := rfl
theorem join_kk (c e : Ch) (a b : List A) : join (.keep c :: a) (.keep e :: b) = .keep (thenCh c e) :: join a b := rfl
theorem join_kc (c : Ch) (a b : List A) : join (.keep c :: a) (.cut :: b) = .cut :: join a b := rfl
theorem join_pk (x : It) (e : Ch) (a b : List A) : join (.put x :: a) (.keep e :: b) = .put (change x e) :: join a b := rfl
theorem join_pc (x : It) (a b : List A) : join (.put x :: a) (.cut :: b) = join a b := rfl
theorem join_kp (c : Ch) (y : It) (a b : List A) : join (.keep c :: a) (.put y :: b) = .put y :: join (.keep c :: a) b := rfl
theorem join_pp (x y : It) (a b : List A) : join (.put x :: a) (.put y :: b) = .put y :: join (.put x :: a) b := rfl
theorem join_np (y : It) (b : List A) : join [] (.put y :: b) = .put y :: join [] b := rfl
/-- b's put goes in ahead of what a keeps, or puts. -/
theorem join_put (a b : List A) (y : It) (h : ∀ a', a ≠ .cut :: a') : join a (.put y :: b) = .put y :: join a b := by
  match a, h with
  | [], _ => rfl
  | some (.inl c) :: a, _ => rfl
  | some (.inr x) :: a, _ => rfl
  | none :: a, h => exact absurd rfl (h a)
theorem ap_join : ∀ (n : Nat) (a b : List A), a.length + b.length ≤ n → ∀ (d p q : List It), M4 d → Ok a → Ok b → ap a d = some p → ap b p = some q → ap (join a b) d = some q
  | n, none :: a, b, hn, d, p, q, hd, ha, hb, h1, h2 => by
    obtain ⟨z, d', rfl, h1'⟩ := ap_cut_some h1
    match n, hn with
    | 0, hn => simp at hn
    | n + 1, hn =>
      rw [join_cut, ap_cut]
      exact ap_join n a b (by simp only [List.length_cons] at hn; omega) d' p q hd.tail ha.tail hb h1' h2
  | n, [], some (.inr y) :: b, hn, d, p, q, hd, ha, hb, h1, h2 => by
    obtain ⟨q', rfl, h2'⟩ := ap_put_some h2
    match n, hn with
    | 0, hn => simp at hn
    | n + 1, hn =>
      rw [join_put _ _ _ (by intro a' e; cases e), ap_put, ap_join n [] b (by simp only [List.length_cons] at hn; omega) d p q' hd ha hb.tail h1 h2']
      rfl
  | n, some (.inl c) :: a, some (.inr y) :: b, hn, d, p, q, hd, ha, hb, h1, h2 => by
    obtain ⟨q', rfl, h2'⟩ := ap_put_some h2
    match n, hn with
    | 0, hn => simp at hn
    | n + 1, hn =>
      rw [join_put _ _ _ (by intro a' e; cases e), ap_put, ap_join n (.keep c :: a) b (by simp only [List.length_cons] at hn ⊢; omega) d p q' hd ha hb.tail h1 h2']
      rfl
  | n, some (.inr x) :: a, some (.inr y) :: b, hn, d, p, q, hd, ha, hb, h1, h2 => by
    obtain ⟨q', rfl, h2'⟩ := ap_put_some h2
    match n, hn with
    | 0, hn => simp at hn
    | n + 1, hn =>
      rw [join_put _ _ _ (by intro a' e; cases e), ap_put, ap_join n (.put x :: a) b (by simp only [List.length_cons] at hn ⊢; omega) d p q' hd ha hb.tail h1 h2']
      rfl
  | n, some (.inl c) :: a, some (.inl e) :: b, hn, d, p, q, hd, ha, hb, h1, h2 => by
    obtain ⟨z, d', p', rfl, rfl, h1'⟩ := ap_keep_some h1
    obtain ⟨z2, p2, q', hz, rfl, h2'⟩ := ap_keep_some h2
    cases hz
    match n, hn with
    | 0, hn => simp at hn
    | n + 1, hn =>
      rw [join_kk, ap_keep, ap_join n a b (by simp only [List.length_cons] at hn; omega) d' p' q' hd.tail ha.tail hb.tail h1' h2', change_then hd.head ha.head hb.head]
      rfl
  | n, some (.inl c) :: a, none :: b, hn, d, p, q, hd, ha, hb, h1, h2 => by
    obtain ⟨z, d', p', rfl, rfl, h1'⟩ := ap_keep_some h1
    obtain ⟨z2, p2, hz, h2'⟩ := ap_cut_some h2
    cases hz
    match n, hn with
    | 0, hn => simp at hn
    | n + 1, hn =>
      rw [join_kc, ap_cut]
      exact ap_join n a b (by simp only [List.length_cons] at hn; omega) d' p' q hd.tail ha.tail hb.tail h1' h2'
  | n, some (.inr x) :: a, some (.inl e) :: b, hn, d, p, q, hd, ha, hb, h1, h2 => by
    obtain ⟨p', rfl, h1'⟩ := ap_put_some h1
    obtain ⟨z2, p2, q', hz, rfl, h2'⟩ := ap_keep_some h2
    cases hz
    match n, hn with
    | 0, hn => simp at hn
    | n + 1, hn =>
      rw [join_pk, ap_put, ap_join n a b (by simp only [List.length_cons] at hn; omega) d p' q' hd ha.tail hb.tail h1' h2']
      rfl
  | n, some (.inr x) :: a, none :: b, hn, d, p, q, hd, ha, hb, h1, h2 => by
    obtain ⟨p', rfl, h1'⟩ := ap_put_some h1
    obtain ⟨z2, p2, hz, h2'⟩ := ap_cut_some h2
    cases hz
    match n, hn with
    | 0, hn => simp at hn
    | n + 1, hn =>
      rw [join_pc]
      exact ap_join n a b (by simp only [List.length_cons] at hn; omega) d p' q hd ha.tail hb.tail h1' h2'
  | _, [], [], _, d, p, q, _, _, _, h1, h2 => by
    rw [(ap_nil_some h1).1, (ap_nil_some h2).2, join_nil]
    rfl
  | _, [], some (.inl e) :: b, _, d, p, q, _, _, _, h1, h2 => by
    rw [(ap_nil_some h1).2] at h2; cases h2
  | _, [], none :: b, _, d, p, q, _, _, _, h1, h2 => by
    rw [(ap_nil_some h1).2] at h2; cases h2
  | _, some (.inl c) :: a, [], _, d, p, q, _, _, _, h1, h2 => by
    rw [(ap_nil_some h2).1] at h1
    obtain ⟨_, _, _, _, e, _⟩ := ap_keep_some h1
    cases e
  | _, some (.inr x) :: a, [], _, d, p, q, _, _, _, h1, h2 => by
    rw [(ap_nil_some h2).1] at h1
    obtain ⟨_, e, _⟩ := ap_put_some h1
    cases e
end Ac
namespace Ac
/- How many items: of what is turned, of what is joined. -/
theorem turn_long : ∀ (n : Nat) (a b : List A), a.length + b.length ≤ n → need a = need b → need (turn a b).1 = leave b ∧ need (turn a b).2 = leave a ∧ leave (turn a b).1 = leave (turn a b).2
  | n, some (.inr x) :: a, b, hn, h => by
    match n, hn with
    | 0, hn => simp at hn
    | n + 1, hn =>
      obtain ⟨g1, g2, g3⟩ := turn_long n a b (by simp only [List.length_cons] at hn; omega) h
      rw [turn_put]
      exact ⟨g1, by simp [need, leave, g2], by simp [leave, g3]⟩
  | n, [], some (.inr y) :: b, hn, h => by
    match n, hn with
    | 0, hn => simp at hn
    | n + 1, hn =>
      obtain ⟨g1, g2, g3⟩ := turn_long n [] b (by simp only [List.length_cons] at hn; omega) h
      rw [turn_np]
      exact ⟨by simp [need, leave, g1], g2, by simp [leave, g3]⟩
  | n, some (.inl c) :: a, some (.inr y) :: b, hn, h => by
    match n, hn with
    | 0, hn => simp at hn
    | n + 1, hn =>
      obtain ⟨g1, g2, g3⟩ := turn_long n (.keep c :: a) b (by simp only [List.length_cons] at hn ⊢; omega) h
      rw [turn_kp]
      exact ⟨by simp [need, leave, g1], g2, by simp [leave, g3]⟩
  | n, none :: a, some (.inr y) :: b, hn, h => by
    match n, hn with
    | 0, hn => simp at hn
    | n + 1, hn =>
      obtain ⟨g1, g2, g3⟩ := turn_long n (.cut :: a) b (by simp only [List.length_cons] at hn ⊢; omega) h
      rw [turn_cp]
      exact ⟨by simp [need, leave, g1], g2, by simp [leave, g3]⟩
  | n, some (.inl c) :: a, some (.inl e) :: b, hn, h => by
    match n, hn with
    | 0, hn => simp at hn
    | n + 1, hn =>
      obtain ⟨g1, g2, g3⟩ := turn_long n a b (by simp only [List.length_cons] at hn; omega) (by simpa [need] using h)
      rw [turn_kk]
      exact ⟨by simp [need, leave, g1], by simp [need, leave, g2], by simp [leave, g3]⟩
  | n, none :: a, some (.inl e) :: b, hn, h => by
    match n, hn with
    | 0, hn => simp at hn
    | n + 1, hn =>
      obtain ⟨g1, g2, g3⟩ := turn_long n a b (by simp only [List.length_cons] at hn; omega) (by simpa [need] using h)
      rw [turn_ck]
      exact ⟨by simp [need, leave, g1], by simp [leave, g2], by simp [leave, g3]⟩
  | n, some (.inl c) :: a, none :: b, hn, h => by
    match n, hn with
    | 0, hn => simp at hn
    | n + 1, hn =>
      obtain ⟨g1, g2, g3⟩ := turn_long n a b (by simp only [List.length_cons] at hn; omega) (by simpa [need] using h)
      rw [turn_kc]
      exact ⟨by simp [leave, g1], by simp [need, leave, g2], by simp [leave, g3]⟩
  | n, none :: a, none :: b, hn, h => by
    match n, hn with
    | 0, hn => simp at hn
    | n + 1, hn =>
      obtain ⟨g1, g2, g3⟩ := turn_long n a b (by simp only [List.length_cons] at hn; omega) (by simpa [need] using h)
      rw [turn_cc]
      exact ⟨by simp [leave, g1], by simp [leave, g2], g3⟩
  | _, [], [], _, _ => by
    rw [turn_nn]
    exact ⟨rfl, rfl, rfl⟩
  | _, [], some (.inl e) :: b, _, h => by simp [need] at h
  | _, [], none :: b, _, h => by simp [need] at h
  | _, some (.inl c) :: a, [], _, h => by simp [need] at h
  | _, none :: a, [], _, h => by simp [need] at h
theorem less_both_assoc {s1 s2 c2 s3 c3 : Int} (h1 : m4 s1) (h3 : m4 s2) (h4 : m4 c2) (h5 : m4 s3) (h6 : m4 c3) :
    both (less (both (less s1 c2) s2) c3) s3 = both (less s1 (both (less c2 s3) c3)) (both (less s2 c3) s3) := by
  obtain ⟨a, ha, rfl⟩ := m4_nat h1
  obtain ⟨b, hb, rfl⟩ := m4_nat h3
  obtain ⟨e, he, rfl⟩ := m4_nat h4
  obtain ⟨f, hf, rfl⟩ := m4_nat h5
  obtain ⟨g, hg, rfl⟩ := m4_nat h6
  have h : ∀ a < 4, ∀ b < 4, ∀ e < 4, ∀ f < 4, ∀ g < 4, (((a - (a &&& e)) ||| b) - (((a - (a &&& e)) ||| b) &&& g)) ||| f = (a - (a &&& ((e - (e &&& f)) ||| g))) ||| ((b - (b &&& g)) ||| f) := by decide +kernel
  exact congrArg Int.ofNat (h a ha b hb e he f hf g hg)
end Ac
namespace Ac
theorem ch_ext {a b : Ch} (h1 : a.set = b.set) (h2 : a.clr = b.clr) (h3 : a.goes = b.goes) (h4 : a.link = b.link) : a = b := by
  cases a
  cases b
  simp only at h1 h2 h3 h4
  rw [h1, h2, h3, h4]
theorem then_assoc {a b c : Ch} (ha : ChOk a) (hb : ChOk b) (hc : ChOk c) : thenCh (thenCh a b) c = thenCh a (thenCh b c) := by
  have h1 : (thenCh (thenCh a b) c).set = (thenCh a (thenCh b c)).set := less_both_assoc ha.set hb.set hb.clr hc.set hc.clr
  have h2 : (thenCh (thenCh a b) c).clr = (thenCh a (thenCh b c)).clr := less_both_assoc ha.clr hb.clr hb.set hc.clr hc.set
  have h3 : (thenCh (thenCh a b) c).goes = (thenCh a (thenCh b c)).goes := Bool.or_assoc ..
  have h4 : (thenCh (thenCh a b) c).link = (thenCh a (thenCh b c)).link := by
    show (if c.goes then c.link else if b.goes then b.link else a.link) = (if (b.goes || c.goes) then (if c.goes then c.link else b.link) else a.link)
    cases b.goes <;> cases c.goes <;> rfl
  exact ch_ext h1 h2 h3 h4
/-- Joined three in either way are the same. -/
theorem join_assoc : ∀ (n : Nat) (a b c : List A), a.length + b.length + c.length ≤ n → Ok a → Ok b → Ok c → leave a = need b → leave b = need c → join (join a b) c = join a (join b c)
  | n, none :: a, b, c, hn, ha, hb, hc, h1, h2 => by
    match n, hn with
    | 0, hn => simp at hn
    | n + 1, hn =>
      rw [join_cut, join_cut, join_cut, join_assoc n a b c (by simp only [List.length_cons] at hn; omega) ha.tail hb hc h1 h2]
  | n, some (.inl k) :: a, none :: b, c, hn, ha, hb, hc, h1, h2 => by
    match n, hn with
    | 0, hn => simp at hn
    | n + 1, hn =>
      rw [join_kc, join_cut, join_cut, join_kc, join_assoc n a b c (by simp only [List.length_cons] at hn; omega) ha.tail hb.tail hc (by simpa [leave, need] using h1) h2]
  | n, some (.inr x) :: a, none :: b, c, hn, ha, hb, hc, h1, h2 => by
    match n, hn with
    | 0, hn => simp at hn
    | n + 1, hn =>
      rw [join_pc, join_cut, join_pc, join_assoc n a b c (by simp only [List.length_cons] at hn; omega) ha.tail hb.tail hc (by simpa [leave, need] using h1) h2]
  | n, [], none :: b, c, _, _, _, _, h1, _ => by simp [leave, need] at h1
  | n, some (.inl k) :: a, some (.inr z) :: b, some (.inr y) :: c, hn, ha, hb, hc, h1, h2 => by
    match n, hn with
    | 0, hn => simp at hn
    | n + 1, hn =>
      have ih := join_assoc n (.keep k :: a) (.put z :: b) c (by simp only [List.length_cons] at hn ⊢; omega) ha hb hc.tail h1 h2
      rw [join_kp, join_pp, join_pp, join_kp, ← ih, join_kp]
  | n, some (.inr x) :: a, some (.inr z) :: b, some (.inr y) :: c, hn, ha, hb, hc, h1, h2 => by
    match n, hn with
    | 0, hn => simp at hn
    | n + 1, hn =>
      have ih := join_assoc n (.put x :: a) (.put z :: b) c (by simp only [List.length_cons] at hn ⊢; omega) ha hb hc.tail h1 h2
      rw [join_pp x z, join_pp z y, join_pp z y, join_pp x y, ← ih, join_pp x z]
  | n, [], some (.inr z) :: b, some (.inr y) :: c, hn, ha, hb, hc, h1, h2 => by
    match n, hn with
    | 0, hn => simp at hn
    | n + 1, hn =>
      have ih := join_assoc n [] (.put z :: b) c (by simp only [List.length_cons] at hn ⊢; omega) ha hb hc.tail h1 h2
      rw [join_np z, join_pp z y, join_pp z y, join_np y, ← ih, join_np z]
  | n, some (.inl k) :: a, some (.inr z) :: b, some (.inl e) :: c, hn, ha, hb, hc, h1, h2 => by
    match n, hn with
    | 0, hn => simp at hn
    | n + 1, hn =>
      rw [join_kp, join_pk, join_pk, join_kp, join_assoc n (.keep k :: a) b c (by simp only [List.length_cons] at hn ⊢; omega) ha hb.tail hc.tail h1 (by simpa [leave, need] using h2)]
  | n, some (.inr x) :: a, some (.inr z) :: b, some (.inl e) :: c, hn, ha, hb, hc, h1, h2 => by
    match n, hn with
    | 0, hn => simp at hn
    | n + 1, hn =>
      rw [join_pp, join_pk, join_pk, join_pp, join_assoc n (.put x :: a) b c (by simp only [List.length_cons] at hn ⊢; omega) ha hb.tail hc.tail h1 (by simpa [leave, need] using h2)]
  | n, [], some (.inr z) :: b, some (.inl e) :: c, hn, ha, hb, hc, h1, h2 => by
    match n, hn with
    | 0, hn => simp at hn
    | n + 1, hn =>
      rw [join_np, join_pk, join_pk, join_np, join_assoc n [] b c (by simp only [List.length_cons] at hn ⊢; omega) ha hb.tail hc.tail h1 (by simpa [leave, need] using h2)]
  | n, some (.inl k) :: a, some (.inr z) :: b, none :: c, hn, ha, hb, hc, h1, h2 => by
    match n, hn with
    | 0, hn => simp at hn
    | n + 1, hn =>
      rw [join_kp, join_pc, join_pc, join_assoc n (.keep k :: a) b c (by simp only [List.length_cons] at hn ⊢; omega) ha hb.tail hc.tail h1 (by simpa [leave, need] using h2)]
  | n, some (.inr x) :: a, some (.inr z) :: b, none :: c, hn, ha, hb, hc, h1, h2 => by
    match n, hn with
    | 0, hn => simp at hn
    | n + 1, hn =>
      rw [join_pp, join_pc, join_pc, join_assoc n (.put x :: a) b c (by simp only [List.length_cons] at hn ⊢; omega) ha hb.tail hc.tail h1 (by simpa [leave, need] using h2)]
  | n, [], some (.inr z) :: b, none :: c, hn, ha, hb, hc, h1, h2 => by
    match n, hn with
    | 0, hn => simp at hn
    | n + 1, hn =>
      rw [join_np, join_pc, join_pc, join_assoc n [] b c (by simp only [List.length_cons] at hn ⊢; omega) ha hb.tail hc.tail h1 (by simpa [leave, need] using h2)]
  | n, _, some (.inr z) :: b, [], _, _, _, _, _, h2 => by simp [leave, need] at h2
  | n, some (.inl k) :: a, some (.inl f) :: b, some (.inr y) :: c, hn, ha, hb, hc, h1, h2 => by
    match n, hn with
    | 0, hn => simp at hn
    | n + 1, hn =>
      have ih := join_assoc n (.keep k :: a) (.keep f :: b) c (by simp only [List.length_cons] at hn ⊢; omega) ha hb hc.tail h1 h2
      rw [join_kk] at ih
      rw [join_kk, join_kp, join_kp, join_kp, ih]
  | n, some (.inr x) :: a, some (.inl f) :: b, some (.inr y) :: c, hn, ha, hb, hc, h1, h2 => by
    match n, hn with
    | 0, hn => simp at hn
    | n + 1, hn =>
      have ih := join_assoc n (.put x :: a) (.keep f :: b) c (by simp only [List.length_cons] at hn ⊢; omega) ha hb hc.tail h1 h2
      rw [join_pk] at ih
      rw [join_pk, join_pp, join_kp, join_pp, ih]
  | n, some (.inl k) :: a, some (.inl f) :: b, some (.inl e) :: c, hn, ha, hb, hc, h1, h2 => by
    match n, hn with
    | 0, hn => simp at hn
    | n + 1, hn =>
      rw [join_kk, join_kk, join_kk, join_kk, then_assoc ha.head hb.head hc.head, join_assoc n a b c (by simp only [List.length_cons] at hn; omega) ha.tail hb.tail hc.tail (by simpa [leave, need] using h1) (by simpa [leave, need] using h2)]
  | n, some (.inr x) :: a, some (.inl f) :: b, some (.inl e) :: c, hn, ha, hb, hc, h1, h2 => by
    match n, hn with
    | 0, hn => simp at hn
    | n + 1, hn =>
      rw [join_pk, join_pk, join_kk, join_pk, change_then ha.head hb.head hc.head, join_assoc n a b c (by simp only [List.length_cons] at hn; omega) ha.tail hb.tail hc.tail (by simpa [leave, need] using h1) (by simpa [leave, need] using h2)]
  | n, some (.inl k) :: a, some (.inl f) :: b, none :: c, hn, ha, hb, hc, h1, h2 => by
    match n, hn with
    | 0, hn => simp at hn
    | n + 1, hn =>
      rw [join_kk, join_kc, join_kc, join_kc, join_assoc n a b c (by simp only [List.length_cons] at hn; omega) ha.tail hb.tail hc.tail (by simpa [leave, need] using h1) (by simpa [leave, need] using h2)]
  | n, some (.inr x) :: a, some (.inl f) :: b, none :: c, hn, ha, hb, hc, h1, h2 => by
    match n, hn with
    | 0, hn => simp at hn
    | n + 1, hn =>
      rw [join_pk, join_pc, join_kc, join_pc, join_assoc n a b c (by simp only [List.length_cons] at hn; omega) ha.tail hb.tail hc.tail (by simpa [leave, need] using h1) (by simpa [leave, need] using h2)]
  | n, _, some (.inl f) :: b, [], _, _, _, _, _, h2 => by simp [leave, need] at h2
  | n, [], some (.inl f) :: b, c, _, _, _, _, h1, _ => by simp [leave, need] at h1
  | n, [], [], some (.inr y) :: c, hn, ha, hb, hc, h1, h2 => by
    match n, hn with
    | 0, hn => simp at hn
    | n + 1, hn =>
      have ih := join_assoc n [] [] c (by simp only [List.length_cons, List.length_nil] at hn ⊢; omega) ha hb hc.tail h1 h2
      rw [join_nil] at ih
      rw [join_nil, join_np, join_np, ← ih]
  | n, [], [], [], _, _, _, _, _, _ => by rw [join_nil, join_nil]
  | n, [], [], some (.inl e) :: c, _, _, _, _, _, h2 => by simp [leave, need] at h2
  | n, [], [], none :: c, _, _, _, _, _, h2 => by simp [leave, need] at h2
  | n, some (.inl k) :: a, [], c, _, _, _, _, h1, _ => by simp [leave, need] at h1
  | n, some (.inr x) :: a, [], c, _, _, _, _, h1, _ => by simp [leave, need] at h1
end Ac
namespace Ac
/- Tidy: what is put ahead of what is cut, between what is kept. -/
def group (ps : List It) (n : Nat) : List A := ps.map A.put ++ List.replicate n A.cut
def norm : List It → Nat → List A → List A
  | ps, n, [] => group ps n
  | ps, n, some (.inr x) :: r => norm (ps ++ [x]) n r
  | ps, n, none :: r => norm ps (n + 1) r
  | ps, n, some (.inl c) :: r => group ps n ++ .keep c :: norm [] 0 r
def nf (l : List A) : List A := norm [] 0 l
theorem ap_puts : ∀ (ps : List It) (l : List A) (d : List It), ap (ps.map A.put ++ l) d = (ap l d).map (ps ++ ·)
  | [], l, d => by simp
  | x :: ps, l, d => by
    rw [List.map_cons, List.cons_append, ap_put, ap_puts ps l d, Option.map_map]
    rfl
theorem ap_cuts : ∀ (n : Nat) (l : List A) (d : List It), ap (List.replicate n A.cut ++ l) d = if n ≤ d.length then ap l (d.drop n) else none
  | 0, l, d => by simp
  | n + 1, l, [] => by simp [List.replicate_succ, ap]
  | n + 1, l, x :: d => by
    rw [List.replicate_succ, List.cons_append, ap_cut, ap_cuts n l d]
    simp
theorem ap_group (ps : List It) (n : Nat) (l : List A) (d : List It) : ap (group ps n ++ l) d = (if n ≤ d.length then ap l (d.drop n) else none).map (ps ++ ·) := by
  unfold group
  rw [List.append_assoc, ap_puts, ap_cuts]
theorem ap_norm : ∀ (l : List A) (ps : List It) (n : Nat) (d : List It), ap (norm ps n l) d = (if n ≤ d.length then ap l (d.drop n) else none).map (ps ++ ·)
  | [], ps, n, d => by
    rw [norm]
    have := ap_group ps n [] d
    rw [List.append_nil] at this
    exact this
  | some (.inr x) :: r, ps, n, d => by
    rw [norm, ap_norm r, ap_put]
    split
    · rw [Option.map_map]
      congr 1
      funext z
      simp
    · rfl
  | none :: r, ps, n, d => by
    rw [norm, ap_norm r]
    by_cases h : n + 1 ≤ d.length
    · rw [if_pos h, if_pos (by omega)]
      have hn : n < d.length := by omega
      rw [List.drop_eq_getElem_cons hn, ap_cut]
    · rw [if_neg h]
      by_cases h2 : n ≤ d.length
      · have e : d.length = n := by omega
        rw [if_pos h2, List.drop_eq_nil_of_le (by omega)]
        rfl
      · rw [if_neg h2]
  | some (.inl c) :: r, ps, n, d => by
    rw [norm, ap_group]
    split
    · cases hd : d.drop n with
      | nil => rfl
      | cons x d' =>
        rw [ap_keep, ap_keep, ap_norm r]
        simp
    · rfl
/-- Tidy does the same. -/
theorem ap_nf (l : List A) (d : List It) : ap (nf l) d = ap l d := by
  unfold nf
  rw [ap_norm]
  simp
theorem norm_puts : ∀ (qs : List It) (ps : List It) (n : Nat) (r : List A), norm ps n (qs.map A.put ++ r) = norm (ps ++ qs) n r
  | [], ps, n, r => by simp
  | x :: qs, ps, n, r => by
    rw [List.map_cons, List.cons_append, norm, norm_puts qs]
    simp
theorem norm_cuts : ∀ (k : Nat) (ps : List It) (n : Nat) (r : List A), norm ps n (List.replicate k A.cut ++ r) = norm ps (n + k) r
  | 0, ps, n, r => by simp
  | k + 1, ps, n, r => by
    rw [List.replicate_succ, List.cons_append, norm, norm_cuts k]
    congr 1
    omega
theorem norm_group (qs : List It) (k : Nat) (ps : List It) (n : Nat) (r : List A) : norm ps n (group qs k ++ r) = norm (ps ++ qs) (n + k) r := by
  unfold group
  rw [List.append_assoc, norm_puts, norm_cuts]
theorem norm_norm : ∀ (l : List A) (qs : List It) (k : Nat) (ps : List It) (n : Nat), norm ps n (norm qs k l) = norm (ps ++ qs) (n + k) l
  | [], qs, k, ps, n => by
    have := norm_group qs k ps n []
    rw [List.append_nil] at this
    exact this
  | some (.inr x) :: r, qs, k, ps, n => by
    rw [norm, norm_norm r, norm]
    simp
  | none :: r, qs, k, ps, n => by
    rw [norm, norm_norm r, norm]
    congr 1
  | some (.inl c) :: r, qs, k, ps, n => by
    have ih := norm_norm r [] 0 [] 0
    rw [norm, norm_group, norm, norm, ih]
    rfl
/-- Made tidy again it is the same. -/
theorem nf_nf (l : List A) : nf (nf l) = nf l := norm_norm l [] 0 [] 0
/-- Alike, made tidy. -/
def Like (l l' : List A) : Prop := ∀ ps n, norm ps n l = norm ps n l'
theorem Like.refl (l : List A) : Like l l := fun _ _ => rfl
theorem Like.symm {l l' : List A} (h : Like l l') : Like l' l := fun ps n => (h ps n).symm
theorem Like.trans {a b c : List A} (h : Like a b) (k : Like b c) : Like a c := fun ps n => (h ps n).trans (k ps n)
theorem Like.cons {l l' : List A} (a : A) (h : Like l l') : Like (a :: l) (a :: l') := by
  intro ps n
  rcases a with _ | (c | x)
  · exact h _ _
  · show group ps n ++ .keep c :: norm [] 0 l = group ps n ++ .keep c :: norm [] 0 l'
    rw [h]
  · exact h _ _
theorem like_swap (x : It) (r : List A) : Like (.cut :: .put x :: r) (.put x :: .cut :: r) := fun _ _ => rfl
theorem like_nf (l : List A) : Like (nf l) l := by
  intro ps n
  have := norm_norm l [] 0 ps n
  rw [List.append_nil, Nat.add_zero] at this
  exact this
theorem nf_of {l l' : List A} (h : Like l l') : nf l = nf l' := h [] 0
theorem need_norm : ∀ (l : List A) (ps : List It) (n : Nat), need (norm ps n l) = n + need l ∧ leave (norm ps n l) = ps.length + leave l := by
  have hg : ∀ (ps : List It) (n : Nat) (r : List A), need (group ps n ++ r) = n + need r ∧ leave (group ps n ++ r) = ps.length + leave r := by
    intro ps n r
    unfold group
    rw [List.append_assoc]
    have h1 : ∀ (k : Nat), need (List.replicate k A.cut ++ r) = k + need r ∧ leave (List.replicate k A.cut ++ r) = leave r := by
      intro k
      induction k with
      | zero => simp
      | succ k ih => rw [List.replicate_succ, List.cons_append, need, leave, ih.1, ih.2]; exact ⟨by omega, rfl⟩
    induction ps with
    | nil => simpa using h1 n
    | cons x ps ih =>
      rw [List.map_cons, List.cons_append, need, leave, ih.1, ih.2]
      exact ⟨rfl, by simp; omega⟩
  intro l
  induction l with
  | nil =>
    intro ps n
    have := hg ps n []
    rw [List.append_nil] at this
    exact this
  | cons a r ih =>
    intro ps n
    rcases a with _ | (c | x)
    · rw [norm, (ih _ _).1, (ih _ _).2]; simp [need, leave]; omega
    · rw [norm, (hg _ _ _).1, (hg _ _ _).2]; simp [need, leave, (ih [] 0).1, (ih [] 0).2]
    · rw [norm, (ih _ _).1, (ih _ _).2]; simp [need, leave]; omega
theorem need_nf (l : List A) : need (nf l) = need l := by have := (need_norm l [] 0).1; rw [Nat.zero_add] at this; exact this
theorem leave_nf (l : List A) : leave (nf l) = leave l := by have := (need_norm l [] 0).2; rw [List.length_nil, Nat.zero_add] at this; exact this
/-- One step of tidying: what is put goes ahead of what is cut. -/
def Step (l l' : List A) : Prop := ∃ p x r, l = p ++ .cut :: .put x :: r ∧ l' = p ++ .put x :: .cut :: r
theorem Step.swap (x : It) (r : List A) : Step (.cut :: .put x :: r) (.put x :: .cut :: r) := ⟨[], x, r, rfl, rfl⟩
theorem Step.cons (a : A) {l l' : List A} (h : Step l l') : Step (a :: l) (a :: l') := by
  obtain ⟨p, x, r, rfl, rfl⟩ := h
  exact ⟨a :: p, x, r, rfl, rfl⟩
theorem step_cases {l l' : List A} (h : Step l l') : (∃ x r, l = .cut :: .put x :: r ∧ l' = .put x :: .cut :: r) ∨ (∃ a m m', l = a :: m ∧ l' = a :: m' ∧ Step m m') := by
  obtain ⟨p, x, r, rfl, rfl⟩ := h
  cases p with
  | nil => exact .inl ⟨x, r, rfl, rfl⟩
  | cons a p => exact .inr ⟨a, _, _, rfl, rfl, p, x, r, rfl, rfl⟩
def StepsN : Nat → List A → List A → Prop
  | 0, l, l' => l = l'
  | k + 1, l, l' => ∃ m, Step l m ∧ StepsN k m l'
def Steps (l l' : List A) : Prop := ∃ k, StepsN k l l'
theorem Steps.refl (l : List A) : Steps l l := ⟨0, rfl⟩
theorem Steps.head {a b c : List A} (h : Step a b) (k : Steps b c) : Steps a c := by
  obtain ⟨n, hn⟩ := k
  exact ⟨n + 1, b, h, hn⟩
theorem stepsN_trans : ∀ (n : Nat) {a b c : List A}, StepsN n a b → Steps b c → Steps a c
  | 0, a, b, c, h, k => by rw [show a = b from h]; exact k
  | n + 1, a, b, c, h, k => by
    obtain ⟨m, h1, h2⟩ := h
    exact Steps.head h1 (stepsN_trans n h2 k)
theorem Steps.trans {a b c : List A} (h : Steps a b) (k : Steps b c) : Steps a c := by
  obtain ⟨n, hn⟩ := h
  exact stepsN_trans n hn k
theorem stepsN_cons (a : A) : ∀ (n : Nat) {l l' : List A}, StepsN n l l' → StepsN n (a :: l) (a :: l')
  | 0, l, l', h => by rw [show l = l' from h]; exact rfl
  | n + 1, l, l', h => by
    obtain ⟨m, h1, h2⟩ := h
    exact ⟨a :: m, h1.cons a, stepsN_cons a n h2⟩
theorem Steps.cons {l l' : List A} (a : A) (h : Steps l l') : Steps (a :: l) (a :: l') := by
  obtain ⟨n, hn⟩ := h
  exact ⟨n, stepsN_cons a n hn⟩
theorem steps_puts (ps : List It) {l l' : List A} (h : Steps l l') : Steps (ps.map A.put ++ l) (ps.map A.put ++ l') := by
  induction ps with
  | nil => exact h
  | cons x ps ih => exact ih.cons _
theorem steps_cuts (x : It) (r : List A) : ∀ n, Steps (List.replicate n A.cut ++ .put x :: r) (.put x :: (List.replicate n A.cut ++ r))
  | 0 => Steps.refl _
  | n + 1 => by
    rw [List.replicate_succ, List.cons_append, List.cons_append]
    exact ((steps_cuts x r n).cons .cut).trans (Steps.head (Step.swap x _) (Steps.refl _))
theorem steps_norm : ∀ (l : List A) (ps : List It) (n : Nat), Steps (group ps n ++ l) (norm ps n l)
  | [], ps, n => by rw [List.append_nil]; exact Steps.refl _
  | some (.inr x) :: r, ps, n => by
    refine Steps.trans ?_ (steps_norm r (ps ++ [x]) n)
    unfold group
    rw [List.append_assoc, List.map_append, List.append_assoc, List.append_assoc]
    exact steps_puts ps (steps_cuts x r n)
  | none :: r, ps, n => by
    refine Steps.trans ?_ (steps_norm r ps (n + 1))
    have e : group ps n ++ .cut :: r = group ps (n + 1) ++ r := by
      unfold group
      rw [List.append_assoc, List.append_assoc, List.replicate_succ', List.append_assoc]
      rfl
    rw [e]
    exact Steps.refl _
  | some (.inl c) :: r, ps, n => by
    rw [norm]
    have h := (steps_norm r [] 0).cons (.keep c)
    have hg : ∀ (k : Nat) {l l' : List A}, Steps l l' → Steps (List.replicate k A.cut ++ l) (List.replicate k A.cut ++ l') := by
      intro k l l' hl
      induction k with
      | zero => exact hl
      | succ k ih => exact ih.cons .cut
    unfold group
    rw [List.append_assoc, List.append_assoc]
    exact steps_puts ps (hg n h)
theorem steps_nf (l : List A) : Steps l (nf l) := steps_norm l [] 0
end Ac
namespace Ac
theorem step_long {l l' : List A} (h : Step l l') : need l' = need l ∧ leave l' = leave l := by
  obtain ⟨p, x, r, rfl, rfl⟩ := h
  induction p with
  | nil => exact ⟨rfl, rfl⟩
  | cons a p ih =>
    rcases a with _ | (c | y)
    · exact ⟨congrArg (· + 1) ih.1, ih.2⟩
    · exact ⟨congrArg (· + 1) ih.1, congrArg (· + 1) ih.2⟩
    · exact ⟨ih.1, congrArg (· + 1) ih.2⟩
/-- What is put ahead of all else, but for what is cut. -/
theorem join_put_like : ∀ (a b : List A) (y : It), Like (join a (.put y :: b)) (.put y :: join a b)
  | none :: a, b, y => by
    rw [join_cut, join_cut]
    exact ((join_put_like a b y).cons .cut).trans (like_swap y _)
  | [], b, y => by rw [join_np]; exact Like.refl _
  | some (.inl c) :: a, b, y => by rw [join_kp]; exact Like.refl _
  | some (.inr x) :: a, b, y => by rw [join_pp]; exact Like.refl _
/-- Joined with one that is a step tidier. -/
theorem join_step_r : ∀ (n : Nat) (a b b' : List A), a.length + b.length ≤ n → Step b b' → leave a = need b → Like (join a b) (join a b') := by
  intro n
  induction n with
  | zero =>
    intro a b b' hn hs h
    rcases step_cases hs with ⟨x, r, rfl, rfl⟩ | ⟨e, l, l', rfl, rfl, _⟩ <;> simp at hn
  | succ n ih =>
    intro a b b' hn hs h
    rcases a with _ | ⟨k, a⟩
    · rcases step_cases hs with ⟨y, r, rfl, rfl⟩ | ⟨e, l, l', rfl, rfl, hs'⟩
      · simp [leave, need] at h
      · rcases e with _ | (e | y)
        · simp [leave, need] at h
        · simp [leave, need] at h
        · rw [join_np, join_np]
          exact (ih [] l l' (by simp only [List.length_cons] at hn; omega) hs' h).cons _
    · rcases k with _ | (c | x)
      · rw [join_cut, join_cut]
        exact (ih a b b' (by simp only [List.length_cons] at hn; omega) hs h).cons .cut
      · rcases step_cases hs with ⟨y, r, rfl, rfl⟩ | ⟨e, l, l', rfl, rfl, hs'⟩
        · rw [join_kc, join_kp, join_kc]
          exact ((join_put_like a r y).cons .cut).trans (like_swap y _)
        · rcases e with _ | (e | y)
          · rw [join_kc, join_kc]
            exact (ih a l l' (by simp only [List.length_cons] at hn; omega) hs' (by simpa [leave, need] using h)).cons _
          · rw [join_kk, join_kk]
            exact (ih a l l' (by simp only [List.length_cons] at hn; omega) hs' (by simpa [leave, need] using h)).cons _
          · rw [join_kp, join_kp]
            exact (ih (.keep c :: a) l l' (by simp only [List.length_cons] at hn ⊢; omega) hs' h).cons _
      · rcases step_cases hs with ⟨y, r, rfl, rfl⟩ | ⟨e, l, l', rfl, rfl, hs'⟩
        · rw [join_pc, join_pp, join_pc]
          exact join_put_like a r y
        · rcases e with _ | (e | y)
          · rw [join_pc, join_pc]
            exact ih a l l' (by simp only [List.length_cons] at hn; omega) hs' (by simpa [leave, need] using h)
          · rw [join_pk, join_pk]
            exact (ih a l l' (by simp only [List.length_cons] at hn; omega) hs' (by simpa [leave, need] using h)).cons _
          · rw [join_pp, join_pp]
            exact (ih (.put x :: a) l l' (by simp only [List.length_cons] at hn ⊢; omega) hs' h).cons _
/-- One that is a step tidier, joined. -/
theorem join_swap_l (x : It) : ∀ (b r : List A), leave (.cut :: .put x :: r) = need b → Like (join (.cut :: .put x :: r) b) (join (.put x :: .cut :: r) b)
  | [], r, h => by simp [leave, need] at h
  | some (.inr y) :: b, r, h => by
    have ih := join_swap_l x b r h
    rw [join_cut] at ih
    rw [join_cut, join_pp, join_pp]
    exact (like_swap y _).trans (ih.cons _)
  | some (.inl e) :: b, r, h => by
    rw [join_cut, join_pk, join_pk, join_cut]
    exact like_swap _ _
  | none :: b, r, h => by
    rw [join_cut, join_pc, join_pc, join_cut]
    exact Like.refl _
theorem join_step_l : ∀ (n : Nat) (a a' b : List A), a.length + b.length ≤ n → Step a a' → leave a = need b → Like (join a b) (join a' b) := by
  intro n
  induction n with
  | zero =>
    intro a a' b hn hs h
    rcases step_cases hs with ⟨x, r, rfl, rfl⟩ | ⟨e, l, l', rfl, rfl, _⟩ <;> simp at hn
  | succ n ih =>
    intro a a' b hn hs h
    rcases step_cases hs with ⟨x, r, rfl, rfl⟩ | ⟨k, l, l', rfl, rfl, hs'⟩
    · exact join_swap_l x b r h
    · rcases k with _ | (c | x)
      · rw [join_cut, join_cut]
        exact (ih l l' b (by simp only [List.length_cons] at hn; omega) hs' h).cons _
      · rcases b with _ | ⟨e, b⟩
        · simp [leave, need] at h
        · rcases e with _ | (e | y)
          · rw [join_kc, join_kc]
            exact (ih l l' b (by simp only [List.length_cons] at hn; omega) hs' (by simpa [leave, need] using h)).cons _
          · rw [join_kk, join_kk]
            exact (ih l l' b (by simp only [List.length_cons] at hn; omega) hs' (by simpa [leave, need] using h)).cons _
          · rw [join_kp, join_kp]
            exact (ih (.keep c :: l) (.keep c :: l') b (by simp only [List.length_cons] at hn ⊢; omega) (hs'.cons _) h).cons _
      · rcases b with _ | ⟨e, b⟩
        · simp [leave, need] at h
        · rcases e with _ | (e | y)
          · rw [join_pc, join_pc]
            exact ih l l' b (by simp only [List.length_cons] at hn; omega) hs' (by simpa [leave, need] using h)
          · rw [join_pk, join_pk]
            exact (ih l l' b (by simp only [List.length_cons] at hn; omega) hs' (by simpa [leave, need] using h)).cons _
          · rw [join_pp, join_pp]
            exact (ih (.put x :: l) (.put x :: l') b (by simp only [List.length_cons] at hn ⊢; omega) (hs'.cons _) h).cons _
theorem join_steps_l : ∀ (k : Nat) {a a' : List A}, StepsN k a a' → ∀ (b : List A), leave a = need b → Like (join a b) (join a' b)
  | 0, a, a', hs, b, _ => by rw [show a = a' from hs]; exact Like.refl _
  | k + 1, a, a', hs, b, h => by
    obtain ⟨m, h1, h2⟩ := hs
    exact (join_step_l _ a m b (Nat.le_refl _) h1 h).trans (join_steps_l k h2 b (by rw [(step_long h1).2]; exact h))
theorem join_steps_r (a : List A) : ∀ (k : Nat) {b b' : List A}, StepsN k b b' → leave a = need b → Like (join a b) (join a b')
  | 0, b, b', hs, _ => by rw [show b = b' from hs]; exact Like.refl _
  | k + 1, b, b', hs, h => by
    obtain ⟨m, h1, h2⟩ := hs
    exact (join_step_r _ a b m (Nat.le_refl _) h1 h).trans (join_steps_r a k h2 (by rw [(step_long h1).1]; exact h))
/-- Joined, made tidy: of what was made tidy ahead the same. -/
theorem nf_join_l (a b : List A) (h : leave a = need b) : nf (join (nf a) b) = nf (join a b) := by
  obtain ⟨k, hk⟩ := steps_nf a
  exact (nf_of (join_steps_l k hk b h)).symm
theorem nf_join_r (a b : List A) (h : leave a = need b) : nf (join a (nf b)) = nf (join a b) := by
  obtain ⟨k, hk⟩ := steps_nf b
  exact (nf_of (join_steps_r a k hk h)).symm
theorem join_long : ∀ (n : Nat) (a b : List A), a.length + b.length ≤ n → leave a = need b → need (join a b) = need a ∧ leave (join a b) = leave b
  | n, none :: a, b, hn, h => by
    match n, hn with
    | 0, hn => simp at hn
    | n + 1, hn =>
      obtain ⟨g1, g2⟩ := join_long n a b (by simp only [List.length_cons] at hn; omega) h
      rw [join_cut]
      exact ⟨by simp [need, g1], by simp [leave, g2]⟩
  | n, [], some (.inr y) :: b, hn, h => by
    match n, hn with
    | 0, hn => simp at hn
    | n + 1, hn =>
      obtain ⟨g1, g2⟩ := join_long n [] b (by simp only [List.length_cons] at hn; omega) h
      rw [join_np]
      exact ⟨by simpa [need] using g1, by simp [leave, g2]⟩
  | n, some (.inl c) :: a, some (.inr y) :: b, hn, h => by
    match n, hn with
    | 0, hn => simp at hn
    | n + 1, hn =>
      obtain ⟨g1, g2⟩ := join_long n (.keep c :: a) b (by simp only [List.length_cons] at hn ⊢; omega) h
      rw [join_kp]
      exact ⟨by simpa [need] using g1, by simp [leave, g2]⟩
  | n, some (.inr x) :: a, some (.inr y) :: b, hn, h => by
    match n, hn with
    | 0, hn => simp at hn
    | n + 1, hn =>
      obtain ⟨g1, g2⟩ := join_long n (.put x :: a) b (by simp only [List.length_cons] at hn ⊢; omega) h
      rw [join_pp]
      exact ⟨by simpa [need] using g1, by simp [leave, g2]⟩
  | n, some (.inl c) :: a, some (.inl e) :: b, hn, h => by
    match n, hn with
    | 0, hn => simp at hn
    | n + 1, hn =>
      obtain ⟨g1, g2⟩ := join_long n a b (by simp only [List.length_cons] at hn; omega) (by simpa [leave, need] using h)
      rw [join_kk]
      exact ⟨by simp [need, g1], by simp [leave, g2]⟩
  | n, some (.inl c) :: a, none :: b, hn, h => by
    match n, hn with
    | 0, hn => simp at hn
    | n + 1, hn =>
      obtain ⟨g1, g2⟩ := join_long n a b (by simp only [List.length_cons] at hn; omega) (by simpa [leave, need] using h)
      rw [join_kc]
      exact ⟨by simp [need, g1], by simp [leave, g2]⟩
  | n, some (.inr x) :: a, some (.inl e) :: b, hn, h => by
    match n, hn with
    | 0, hn => simp at hn
    | n + 1, hn =>
      obtain ⟨g1, g2⟩ := join_long n a b (by simp only [List.length_cons] at hn; omega) (by simpa [leave, need] using h)
      rw [join_pk]
      exact ⟨by simp [need, g1], by simp [leave, g2]⟩
  | n, some (.inr x) :: a, none :: b, hn, h => by
    match n, hn with
    | 0, hn => simp at hn
    | n + 1, hn =>
      obtain ⟨g1, g2⟩ := join_long n a b (by simp only [List.length_cons] at hn; omega) (by simpa [leave, need] using h)
      rw [join_pc]
      exact ⟨by simp [need, g1], by simp [leave, g2]⟩
  | _, [], [], _, _ => by rw [join_nil]; exact ⟨rfl, rfl⟩
  | _, [], some (.inl e) :: b, _, h => by simp [leave, need] at h
  | _, [], none :: b, _, h => by simp [leave, need] at h
  | _, some (.inl c) :: a, [], _, h => by simp [leave, need] at h
  | _, some (.inr x) :: a, [], _, h => by simp [leave, need] at h
/-- Joined three in either way, made tidy at each step, are the same. -/
theorem nf_assoc (a b c : List A) (ha : Ok a) (hb : Ok b) (hc : Ok c) (h1 : leave a = need b) (h2 : leave b = need c) : nf (join (nf (join a b)) c) = nf (join a (nf (join b c))) := by
  obtain ⟨_, g2⟩ := join_long _ a b (Nat.le_refl _) h1
  obtain ⟨g1, _⟩ := join_long _ b c (Nat.le_refl _) h2
  rw [nf_join_l _ c (by rw [g2]; exact h2), nf_join_r a _ (by rw [g1]; exact h1), join_assoc _ a b c (Nat.le_refl _) ha hb hc h1 h2]
end Ac
end Go.Proofs.YtbhcklkbckacpaaDoor

/-
  Lists of items in memory, and doc.Items of any list.
-/
namespace Go.Proofs.YtbhcklkbckacpaaDoor
open Go.RowKit
namespace Dc
def errs : List It → Int
  | [] => 0
  | x :: t => if err x = 0 then errs t else err x
theorem errs_step (l : List It) (k : Nat) (h : k < l.length) : errs (l.drop k) = if err l[k] = 0 then errs (l.drop (k + 1)) else err l[k] := by
  rw [List.drop_eq_getElem_cons h, errs]
end Dc
/-- From place 'off' of block b on lie the items l. -/
structure At (w : World) (b off : Nat) (l : List It) : Prop where
  c : ∀ i (h : i < l.length), w.cell? ⟨b, off + i * 3, none⟩ = some (.int .u8 l[i].c.toNat)
  m : ∀ i (h : i < l.length), w.cell? ⟨b, off + i * 3 + 1, none⟩ = some (.int .i64 l[i].m)
  l : ∀ i (h : i < l.length), w.cell? ⟨b, off + i * 3 + 2, none⟩ = some (.string l[i].l)
theorem At.below {w w' : World} {b off : Nat} {l : List It} (h : At w b off l) (hb : Below w.heap.size w w') : At w' b off l :=
  ⟨fun i hi => cell_below (h.c i hi) hb, fun i hi => cell_below (h.m i hi) hb, fun i hi => cell_below (h.l i hi) hb⟩
/-- Each link is a text that there may be. -/
def Fit (l : List It) : Prop := ∀ x ∈ l, x.l.size ≤ 9223372036854775807
/-- The slice (ao, n, cap) is the document l. -/
structure Doc (w : World) (ao : Option Addr) (n cap : Nat) (l : List It) : Prop where
  fit : Fit l
  len : l.length = n
  room : n ≤ cap
  big : cap ≤ 9223372036854775807
  lies : n ≠ 0 → ∃ b off, ao = some ⟨b, off, none⟩ ∧ At w b off l
theorem Doc.below {w w' : World} {ao : Option Addr} {n cap : Nat} {l : List It} (h : Doc w ao n cap l) (hb : Below w.heap.size w w') : Doc w' ao n cap l :=
  ⟨h.fit, h.len, h.room, h.big, fun hn => by obtain ⟨b, off, e, hA⟩ := h.lies hn; exact ⟨b, off, e, hA.below hb⟩⟩

set_option maxHeartbeats 1600000 in
theorem items_any (ao : Option Addr) (n cap : Nat) (l : List It) (w : World) (hD : Doc w ao n cap l) (hS : Sch w) :
    Calls Tryd.prog 88 #[.slice ao n cap] w fun e w' => e = .returned (.int .i64 (Dc.errs l)) ∧ Below w.heap.size w w' := by
  have HD : Hid (Doc w ao n cap l) := hD
  have hn := hD.len
  subst hn
  have hcap := hD.room
  have hbig := hD.big
  clear hD
  have HS : Hid (Sch w) := hS
  clear hS
  obtain ⟨r, hr⟩ : ∃ r, Dc.errs l = r := ⟨_, rfl⟩
  have HR : Hid (Dc.errs l = r) := hr
  rw [hr]
  clear hr
  go_enter Tryd.func88, Tryd.ntmps88
  go_wp2
  go_loopw [8] (fun i wr => ∃ k : Nat, k ≤ l.length ∧ i = .int .i64 k ∧ Below w.heap.size w wr ∧ Dc.errs (l.drop k) = r) (fun i _ => l.length - (intOf i).toNat)
  case atStart => exact ⟨0, Nat.zero_le _, rfl, Below.refl _ _, HR.out⟩
  case round =>
    obtain ⟨k, hk, rfl, hbr, her⟩ := hrel
    have HE : Hid (Dc.errs (l.drop k) = r) := her
    have HBR : Hid (Below w.heap.size w wr) := hbr
    clear her hbr
    by_cases hlt : k < l.length
    · obtain ⟨b, off, rfl, A0⟩ := HD.out.lies (by omega)
      have A1 := A0.below HBR.out
      have hc0 := A1.c k hlt
      have hc1 := A1.m k hlt
      have hc2 := A1.l k hlt
      have hfx := HD.out.fit _ (List.getElem_mem hlt)
      have HX : Hid (Dc.errs (l.drop k) = if Dc.err l[k] = 0 then Dc.errs (l.drop (k + 1)) else Dc.err l[k]) := Dc.errs_step l k hlt
      clear A1 A0
      generalize hx : l[k] = x at *
      have HS2 : Hid (Sch (boxed x wr)) := HS.out.below (HBR.out.trans ((boxed_below x wr).mono HBR.out.size))
      have H1 : Hid (Below w.heap.size w (boxed x wr)) := HBR.out.trans ((boxed_below x wr).mono HBR.out.size)
      clear hx
      go_wp2_with fail
      change Calls Tryd.prog 109 _ (boxed x wr) _
      refine (item_any x _ HS2.out hfx).mono ?_
      rintro e w1 ⟨rfl, hb⟩
      have H2 : Hid (Below w.heap.size w w1) := H1.out.trans (hb.mono H1.out.size)
      clear hb
      by_cases h0 : Dc.err x = 0
      · have HN : Hid (Dc.errs (l.drop (k + 1)) = r) := by show _ = _; rw [← HE.out, HX.out, if_pos h0]
        rw [h0]
        clear h0
        go_wp2
        go_roundw
        case rel => exact ⟨k + 1, by omega, by go_num, H2.out, HN.out⟩
        case measure => simp [intOf]; omega
      · have hrr : Dc.err x = r := by rw [← HE.out, HX.out, if_neg h0]
        rw [hrr] at h0 ⊢
        clear hrr
        go_wp2
        go_ret
        exact ⟨rfl, H2.out⟩
    · have : r = 0 := by rw [← HE.out, List.drop_eq_nil_of_le (by omega)]; rfl
      subst this
      go_wp2
      go_ret
      exact ⟨rfl, HBR.out⟩
end Go.Proofs.YtbhcklkbckacpaaDoor

/-
  The reference's CheckItem and CheckItems: as doc.Item and doc.Items have it.
-/
namespace Go.Proofs.YtbhcklkbckacpaaDoor
open Go.RowKit

set_option maxHeartbeats 3200000 in
theorem CheckItem_any (x : It) (w : World) (hl : x.l.size ≤ 9223372036854775807) : Calls Tryd.prog 118 #[.agg #[.int .u8 x.c.toNat, .int .i64 x.m, .string x.l]] w fun e w' => e = .returned (.int .i64 (Dc.err x)) ∧ Below w.heap.size w w' := by
  have H1 : Hid (Below w.heap.size w (boxed x w)) := boxed_below x w
  have CM : Hid (∀ w, Calls Tryd.prog 104 #[.string x.l] w fun e w' => e = .returned (.bool (Lk.may x.l.data.toList)) ∧ Below w.heap.size w w') := fun w => MayBe_any x.l w hl
  obtain ⟨r, hr⟩ : ∃ r, Dc.err x = r := ⟨_, rfl⟩
  have HR : Hid (Dc.err x = r) := hr
  rw [hr]
  clear hr
  by_cases h10 : (x.c.toNat : Int) = 10
  · have he : Dc.ends x = true := by unfold Dc.ends; simpa using h10
    by_cases hm : x.m < 0
    · have : r = 3 := HR.out.symm.trans (err_marks (.inl he) (.inl hm))
      subst this
      clear HR
      go_enter Tryd.func118, Tryd.ntmps118
      go_wp2
      go_ret
      exact ⟨rfl, (Below.refl _ _).alloc (Nat.le_refl _) _⟩
    · by_cases hm3 : 3 < x.m
      · have : r = 3 := HR.out.symm.trans (err_marks (.inl he) (.inr hm3))
        subst this
        clear HR
        go_enter Tryd.func118, Tryd.ntmps118
        go_wp2
        go_ret
        exact ⟨rfl, (Below.refl _ _).alloc (Nat.le_refl _) _⟩
      · have hk := err_link (.inl he) (by omega) (by omega)
        cases h0 : x.l.toList.isEmpty
        · rw [show Dc.link x = false by unfold Dc.link; rw [h0, he]; rfl] at hk
          have : r = 4 := HR.out.symm.trans (hk)
          subst this
          clear HR
          go_enter Tryd.func118, Tryd.ntmps118
          go_wp2
          go_ret
          exact ⟨rfl, (Below.refl _ _).alloc (Nat.le_refl _) _⟩
        · rw [show Dc.link x = true by unfold Dc.link; rw [h0]; rfl] at hk
          have : r = 0 := HR.out.symm.trans (hk)
          subst this
          clear HR
          go_enter Tryd.func118, Tryd.ntmps118
          go_wp2
          go_ret
          exact ⟨rfl, (Below.refl _ _).alloc (Nat.le_refl _) _⟩
  · have he : Dc.ends x = false := by unfold Dc.ends; simpa using h10
    by_cases hlo : (x.c.toNat : Int) < 32
    · have hch : Dc.isChar x = false := by unfold Dc.isChar; rw [decide_eq_false (by omega)]; rfl
      have : r = 1 := HR.out.symm.trans (err_text he hch)
      subst this
      clear HR
      go_enter Tryd.func118, Tryd.ntmps118
      go_wp2
      go_ret
      exact ⟨rfl, (Below.refl _ _).alloc (Nat.le_refl _) _⟩
    · by_cases hhi : 126 < (x.c.toNat : Int)
      · have hch : Dc.isChar x = false := by unfold Dc.isChar; rw [decide_eq_false (show ¬ (x.c.toNat : Int) ≤ 126 by omega)]; simp
        have : r = 1 := HR.out.symm.trans (err_text he hch)
        subst this
        clear HR
        go_enter Tryd.func118, Tryd.ntmps118
        go_wp2
        go_ret
        exact ⟨rfl, (Below.refl _ _).alloc (Nat.le_refl _) _⟩
      · have hch : Dc.isChar x = true := by unfold Dc.isChar; rw [decide_eq_true (show (x.c.toNat : Int) ≤ 126 by omega), decide_eq_true (show 32 ≤ (x.c.toNat : Int) by omega)]; rfl
        by_cases hm : x.m < 0
        · have : r = 3 := HR.out.symm.trans (err_marks (.inr hch) (.inl hm))
          subst this
          clear HR
          go_enter Tryd.func118, Tryd.ntmps118
          go_wp2
          go_ret
          exact ⟨rfl, (Below.refl _ _).alloc (Nat.le_refl _) _⟩
        · by_cases hm3 : 3 < x.m
          · have : r = 3 := HR.out.symm.trans (err_marks (.inr hch) (.inr hm3))
            subst this
            clear HR
            go_enter Tryd.func118, Tryd.ntmps118
            go_wp2
            go_ret
            exact ⟨rfl, (Below.refl _ _).alloc (Nat.le_refl _) _⟩
          · have hk := err_link (.inr hch) (by omega) (by omega)
            cases h0 : x.l.toList.isEmpty
            · cases hmay : Lk.may x.l.data.toList
              · rw [show Dc.link x = false by unfold Dc.link; rw [h0, he, hmay]; rfl] at hk
                rw [hmay] at CM
                have : r = 4 := HR.out.symm.trans (hk)
                subst this
                clear HR
                go_enter Tryd.func118, Tryd.ntmps118
                go_wp2_with fail
                refine (CM.out _).mono ?_
                rintro e w2 ⟨rfl, hb⟩
                have H2 : Hid (Below w.heap.size w w2) := H1.out.trans (hb.mono H1.out.size)
                clear hb
                go_wp2
                go_ret
                exact ⟨rfl, H2.out⟩
              · rw [show Dc.link x = true by unfold Dc.link; rw [h0, he, hmay]; rfl] at hk
                rw [hmay] at CM
                have : r = 0 := HR.out.symm.trans (hk)
                subst this
                clear HR
                go_enter Tryd.func118, Tryd.ntmps118
                go_wp2_with fail
                refine (CM.out _).mono ?_
                rintro e w2 ⟨rfl, hb⟩
                have H2 : Hid (Below w.heap.size w w2) := H1.out.trans (hb.mono H1.out.size)
                clear hb
                go_wp2
                go_ret
                exact ⟨rfl, H2.out⟩
            · rw [show Dc.link x = true by unfold Dc.link; rw [h0]; rfl] at hk
              have : r = 0 := HR.out.symm.trans (hk)
              subst this
              clear HR
              go_enter Tryd.func118, Tryd.ntmps118
              go_wp2
              go_ret
              exact ⟨rfl, (Below.refl _ _).alloc (Nat.le_refl _) _⟩

set_option maxHeartbeats 1600000 in
theorem CheckItems_any (ao : Option Addr) (n cap : Nat) (l : List It) (w : World) (hD : Doc w ao n cap l) :
    Calls Tryd.prog 105 #[.slice ao n cap] w fun e w' => e = .returned (.int .i64 (Dc.errs l)) ∧ Below w.heap.size w w' := by
  have HD : Hid (Doc w ao n cap l) := hD
  have hn := hD.len
  subst hn
  have hcap := hD.room
  have hbig := hD.big
  clear hD
  obtain ⟨r, hr⟩ : ∃ r, Dc.errs l = r := ⟨_, rfl⟩
  have HR : Hid (Dc.errs l = r) := hr
  rw [hr]
  clear hr
  go_enter Tryd.func105, Tryd.ntmps105
  go_wp2
  go_loopw [8] (fun i wr => ∃ k : Nat, k ≤ l.length ∧ i = .int .i64 k ∧ Below w.heap.size w wr ∧ Dc.errs (l.drop k) = r) (fun i _ => l.length - (intOf i).toNat)
  case atStart => exact ⟨0, Nat.zero_le _, rfl, Below.refl _ _, HR.out⟩
  case round =>
    obtain ⟨k, hk, rfl, hbr, her⟩ := hrel
    have HE : Hid (Dc.errs (l.drop k) = r) := her
    have HBR : Hid (Below w.heap.size w wr) := hbr
    clear her hbr
    by_cases hlt : k < l.length
    · obtain ⟨b, off, rfl, A0⟩ := HD.out.lies (by omega)
      have A1 := A0.below HBR.out
      have hc0 := A1.c k hlt
      have hc1 := A1.m k hlt
      have hc2 := A1.l k hlt
      have hfx := HD.out.fit _ (List.getElem_mem hlt)
      have HX : Hid (Dc.errs (l.drop k) = if Dc.err l[k] = 0 then Dc.errs (l.drop (k + 1)) else Dc.err l[k]) := Dc.errs_step l k hlt
      clear A1 A0
      generalize hx : l[k] = x at *
      have H1 : Hid (Below w.heap.size w (boxed x wr)) := HBR.out.trans ((boxed_below x wr).mono HBR.out.size)
      clear hx
      go_wp2_with fail
      change Calls Tryd.prog 118 _ (boxed x wr) _
      refine (CheckItem_any x _ hfx).mono ?_
      rintro e w1 ⟨rfl, hb⟩
      have H2 : Hid (Below w.heap.size w w1) := H1.out.trans (hb.mono H1.out.size)
      clear hb
      by_cases h0 : Dc.err x = 0
      · have HN : Hid (Dc.errs (l.drop (k + 1)) = r) := by show _ = _; rw [← HE.out, HX.out, if_pos h0]
        rw [h0]
        clear h0
        go_wp2
        go_roundw
        case rel => exact ⟨k + 1, by omega, by go_num, H2.out, HN.out⟩
        case measure => simp [intOf]; omega
      · have hrr : Dc.err x = r := by rw [← HE.out, HX.out, if_neg h0]
        rw [hrr] at h0 ⊢
        clear hrr
        go_wp2
        go_ret
        exact ⟨rfl, H2.out⟩
    · have : r = 0 := by rw [← HE.out, List.drop_eq_nil_of_le (by omega)]; rfl
      subst this
      go_wp2
      go_ret
      exact ⟨rfl, HBR.out⟩
end Go.Proofs.YtbhcklkbckacpaaDoor

/-
  doc.Check of any list of items, and the reference's CheckDoc: what is wrong with it as a document.
-/
namespace Go.Proofs.YtbhcklkbckacpaaDoor
open Go.RowKit
namespace Dc
def check (l : List It) : Int := if 80 < l.length then 2 else if errs l ≠ 0 then errs l else if h : l.length - 1 < l.length then (if ends l[l.length - 1] then 0 else 4) else 4
theorem check_many {l : List It} (h : 80 < l.length) : check l = 2 := by unfold check; rw [if_pos h]
theorem check_errs {l : List It} (h : ¬ 80 < l.length) (h0 : ¬ errs l = 0) : check l = errs l := by unfold check; rw [if_neg h, if_pos h0]
theorem check_none {l : List It} (h0 : errs l = 0) (hn : l.length = 0) : check l = 4 := by
  unfold check
  rw [if_neg (by omega), if_neg (by simpa using h0), dif_neg (by omega)]
theorem check_last {l : List It} {k : Nat} (h : ¬ 80 < l.length) (h0 : errs l = 0) (hk : k < l.length) (hl : l.length = k + 1) : check l = if ends l[k] then 0 else 4 := by
  unfold check
  rw [if_neg h, if_neg (by simpa using h0), dif_pos (by omega)]
  obtain rfl : k = l.length - 1 := by omega
  rfl
end Dc
theorem At.get {w : World} {b off : Nat} {l : List It} (h : At w b off l) {k : Nat} {x : It} (hx : l[k]? = some x) :
    w.cell? ⟨b, off + k * 3, none⟩ = some (.int .u8 x.c.toNat) ∧ w.cell? ⟨b, off + k * 3 + 1, none⟩ = some (.int .i64 x.m) ∧ w.cell? ⟨b, off + k * 3 + 2, none⟩ = some (.string x.l) := by
  obtain ⟨hk, rfl⟩ := List.getElem?_eq_some_iff.1 hx
  exact ⟨h.c k hk, h.m k hk, h.l k hk⟩

set_option maxHeartbeats 1600000 in
theorem check_any (ao : Option Addr) (n cap : Nat) (l : List It) (w : World) (hD : Doc w ao n cap l) (hS : Sch w) :
    Calls Tryd.prog 57 #[.slice ao n cap] w fun e w' => e = .returned (.int .i64 (Dc.check l)) ∧ Below w.heap.size w w' := by
  have HD : Hid (Doc w ao n cap l) := hD
  have HN : Hid (l.length = n) := hD.len
  have hcap := hD.room
  have hbig := hD.big
  have CI : Hid (Calls Tryd.prog 88 #[.slice ao n cap] w fun e w' => e = .returned (.int .i64 (Dc.errs l)) ∧ Below w.heap.size w w') := items_any ao _ cap l w hD hS
  clear hD hS
  obtain ⟨r, hr⟩ : ∃ r, Dc.check l = r := ⟨_, rfl⟩
  have HR : Hid (Dc.check l = r) := hr
  rw [hr]
  clear hr
  by_cases h80 : 80 < n
  · have : r = 2 := HR.out.symm.trans (Dc.check_many (by rw [HN.out]; exact h80))
    subst this
    clear HR CI
    go_enter Tryd.func57, Tryd.ntmps57
    go_wp2
    go_ret
    exact ⟨rfl, Below.refl _ _⟩
  · by_cases h0 : Dc.errs l = 0
    · rw [h0] at CI
      by_cases hn0 : n = 0
      · have : r = 4 := HR.out.symm.trans (Dc.check_none h0 (HN.out.trans hn0))
        subst this
        subst hn0
        clear HR h0
        go_enter Tryd.func57, Tryd.ntmps57
        go_wp2_with fail
        refine CI.out.mono ?_
        rintro e w1 ⟨rfl, hb⟩
        have H1 : Hid (Below w.heap.size w w1) := hb
        clear hb
        go_wp2
        go_ret
        exact ⟨rfl, H1.out⟩
      · obtain ⟨k, rfl⟩ : ∃ k, n = k + 1 := ⟨n - 1, by omega⟩
        obtain ⟨b, off, rfl, A0⟩ := HD.out.lies hn0
        have HA : Hid (At w b off l) := A0
        obtain ⟨x, hx, hrl⟩ : ∃ x, l[k]? = some x ∧ r = if Dc.ends x then 0 else 4 := by
          have hl := HN.out
          have hk : k < l.length := by omega
          exact ⟨l[k], List.getElem?_eq_getElem hk, HR.out.symm.trans (Dc.check_last (by omega) h0 hk hl)⟩
        have HX : Hid (l[k]? = some x) := hx
        clear HR h0 A0 hx
        cases he : Dc.ends x
        all_goals
          rw [he] at hrl
          first | (have : r = 0 := hrl; subst this) | (have : r = 4 := hrl; subst this)
          clear hrl
          go_enter Tryd.func57, Tryd.ntmps57
          go_wp2_with fail
          refine CI.out.mono ?_
          rintro e w1 ⟨rfl, hb⟩
          have H1 : Hid (Below w.heap.size w w1) := hb
          obtain ⟨hc0, hc1, hc2⟩ := (HA.out.below hb).get HX.out
          clear hb
          go_wp2_with fail
          refine (ends_any x _).mono ?_
          rintro e w2 ⟨rfl, hb⟩
          rw [he]
          have H2 : Hid (Below w.heap.size w w2) := H1.out.trans (hb.mono H1.out.size)
          clear hb
          go_wp2
          go_ret
          exact ⟨rfl, H2.out⟩
    · have hrr : Dc.errs l = r := (Dc.check_errs (by rw [HN.out]; exact h80) h0).symm.trans HR.out
      rw [hrr] at CI h0
      clear HR hrr
      go_enter Tryd.func57, Tryd.ntmps57
      go_wp2_with fail
      refine CI.out.mono ?_
      rintro e w1 ⟨rfl, hb⟩
      have H1 : Hid (Below w.heap.size w w1) := hb
      clear hb
      go_wp2
      go_ret
      exact ⟨rfl, H1.out⟩

end Go.Proofs.YtbhcklkbckacpaaDoor

/-
  doc.walk, with whatever is called at each place.
-/
namespace Go.Proofs.YtbhcklkbckacpaaDoor
open Go.RowKit

end Go.Proofs.YtbhcklkbckacpaaDoor

/-
  doc.Plain of any list of items: its characters.
-/
namespace Go.Proofs.YtbhcklkbckacpaaDoor
open Go.RowKit

/-- A call that was begun in w0 has laid its argument d in a block, and a variable of type T in the next one: it holds a slice of the call's own, xs in it. -/
structure Txt (w0 : World) (d : Value) (T E : TypeId) (v : Value) (xs : List Value) (w : World) : Prop where
  below : Below w0.heap.size w0 w
  box : w.heap[w0.heap.size]? = some (.cells #[d] 32 (0, 0))
  var : w.heap[w0.heap.size + 1]? = some (.cells #[v] T (0, 0))
  own : w.ownsRow (w0.heap.size + 2) E 1 v xs.length xs
theorem ownBlock_ge {w : World} {base : Nat} {e : TypeId} {size : Nat} {v : Value} {n : Nat} {xs : List Value} (h : w.ownsRow base e size v n xs) : ∀ k, v.ownBlock = some k → base ≤ k := by
  intro k hk
  rcases h.2 with ⟨rfl, _⟩ | ⟨g, cap, cur, rfl, hg, _⟩
  · cases hk
  · simp [Value.ownBlock] at hk; omega
theorem Txt.size {w0 : World} {d : Value} {T E : TypeId} {v : Value} {xs : List Value} {w : World} (h : Txt w0 d T E v xs w) : w0.heap.size + 2 ≤ w.heap.size := lt_of_block h.var
theorem Txt.beneath {w0 : World} {d : Value} {T E : TypeId} {v : Value} {xs : List Value} {w w' : World} (h : Txt w0 d T E v xs w) (hb : Below w.heap.size w w') : Txt w0 d T E v xs w' := by
  have hs := h.size
  refine ⟨h.below.trans (hb.mono (by omega)), (hb.block _ (by omega)).trans h.box, (hb.block _ (by omega)).trans h.var, ?_⟩
  refine ⟨h.own.1, ?_⟩
  rcases h.own.2 with h2 | ⟨g, cap, cur, hv, hg, hh, r⟩
  · exact .inl h2
  · exact .inr ⟨g, cap, cur, hv, hg, (hb.block g (lt_of_block hh)).trans hh, r⟩
theorem Txt.keeps {w0 : World} {d : Value} {T E : TypeId} {v : Value} {xs : List Value} {w w1 w2 : World} (h : Txt w0 d T E v xs w) (hb : Below w.heap.size w w1) (hg : w1.grownBy w2 v.ownBlock) :
    w2.heap[w0.heap.size]? = some (.cells #[d] 32 (0, 0)) ∧ w2.heap[w0.heap.size + 1]? = some (.cells #[v] T (0, 0)) ∧ Below w0.heap.size w0 w2 := by
  have h1 := h.beneath hb
  have hs := h1.size
  have hne : ∀ k, k < w0.heap.size + 2 → some k ≠ v.ownBlock := fun k hk e => by have := ownBlock_ge h.own k e.symm; omega
  exact ⟨(hg.block _ (by omega) (hne _ (by omega))).trans h1.box, (hg.block _ (by omega) (hne _ (by omega))).trans h1.var, h1.below.trans ⟨hg.os, hg.tape, hg.output, hg.size, fun k hk => hg.block k (by omega) (hne k (by omega))⟩⟩
/-- Something is appended to what the variable holds. -/
theorem Txt.push {w0 : World} {d : Value} {T E : TypeId} {v v' : Value} {xs ys : List Value} {w w1 w2 : World} (h : Txt w0 d T E v xs w) (hb : Below w.heap.size w w1)
    (hown : w2.ownsRow (w0.heap.size + 2) E 1 v' ys.length ys) (hg : w1.grownBy w2 v.ownBlock) : Txt w0 d T E v' ys (w2.setCell ⟨w0.heap.size + 1, 0, none⟩ v') := by
  have h1 := h.beneath hb
  have hs := h1.size
  have hne : ∀ k, k < w0.heap.size + 2 → some k ≠ v.ownBlock := fun k hk e => by have := ownBlock_ge h.own k e.symm; omega
  have hx : w2.heap[w0.heap.size + 1]? = some (.cells #[v] T (0, 0)) := (hg.block _ (by omega) (hne _ (by omega))).trans h1.var
  refine ⟨?_, ?_, one_setCell hx, ?_⟩
  · refine (h1.below.trans ⟨hg.os, hg.tape, hg.output, hg.size, fun k hk => hg.block k (by omega) (hne k (by omega))⟩).setCell (by simp) _
  · rw [Below.heap_setCell _ _ _ _ (by simp)]
    exact (hg.block _ (by omega) (hne _ (by omega))).trans h1.box
  · exact ownsRow_setCell_below hown (by simp) _

theorem cell_far {w : World} {a p : Addr} {u v : Value} (h : w.cell? a = some v) (hne : a.block ≠ p.block) : (w.setCell p u).cell? a = some v :=
  (World.cell?_of_block (w := w) (Below.heap_setCell w p u a.block hne)).trans h

theorem Tryd.info5 : (Tryd.prog.info? 5).map (fun i => (i.zero, i.size, i.bytes)) = some (some (.int .u8 0), 1, 1) := by kernel_rfl

def cb (c : UInt8) : Value := .int .u8 c.toNat
theorem conv_own {B : Nat} {v : Value} {l : List UInt8} {w : World} (h : w.ownsRow B 5 1 v (l.map cb).length (l.map cb)) : (convert 170 9 v).run Tryd.prog w = .ok (.string (Go.Proofs.YtbhcklkbckacpaaDoor.B l)) w := by
  rw [List.length_map] at h
  rcases h.2 with ⟨rfl, h0⟩ | ⟨g, cap, cur, rfl, hrest⟩
  · obtain rfl : l = [] := List.length_eq_zero_iff.1 h0
    exact run_convert_bytes_nil w 170 5 Tryd.underlying170 Tryd.underlying5 0 0 9 Tryd.underlying9
  · refine run_convert_bytes_back w 170 9 5 ⟨g, 0, none⟩ cap l Tryd.underlying170 Tryd.underlying5 Tryd.underlying9 (fun j hj => ?_)
    exact h.cells (g := g) rfl j _ (by simp [cb, List.getElem?_eq_getElem hj])

namespace Dc
def plain (l : List It) : List UInt8 := if check l = 0 then l.map It.c else []
theorem check_ok {l : List It} (h : check l = 0) : l.length ≤ 80 := by
  by_cases h80 : 80 < l.length
  · rw [check_many h80] at h; cases h
  · omega
end Dc
/-- The world in which doc.Plain and doc.Runs call doc.walk. -/
def begun (w : World) (d : Value) (T : TypeId) : World := (w.alloc (.cells #[d] 32)).alloc (.cells #[.slice none 0 0] T)
theorem begun_txt (w : World) (d : Value) (T E : TypeId) : Txt w d T E (.slice none 0 0) [] (begun w d T) := by
  have h1 : (w.alloc (.cells #[d] 32)).heap[w.heap.size]? = some (.cells #[d] 32) := heap_alloc_new w _
  have h2 := heap_alloc_new (w.alloc (.cells #[d] 32)) (.cells #[.slice none 0 0] T)
  rw [World.size_alloc] at h2
  exact ⟨((Below.refl _ _).alloc (Nat.le_refl _) _).alloc (by simp) _, (Below.heap_alloc _ _ _ (by simp)).trans h1, h2, World.ownsRow_nil _ _ _ _⟩

end Go.Proofs.YtbhcklkbckacpaaDoor

/-
  doc.turns: whether an item is of another run than the one ahead of it.
-/
namespace Go.Proofs.YtbhcklkbckacpaaDoor
open Go.RowKit

def It.zero : It := ⟨0, 0, ⟨#[]⟩⟩
namespace Dc
def turns (a x : It) : Bool := ends a || ends x || (x.m != a.m) || !(x.l.toList == a.l.toList)
end Dc

end Go.Proofs.YtbhcklkbckacpaaDoor

/-
  doc.Runs of any list of items: the places where its runs begin.
-/
namespace Go.Proofs.YtbhcklkbckacpaaDoor
open Go.RowKit

theorem Tryd.info3 : (Tryd.prog.info? 3).map (fun i => (i.zero, i.size, i.bytes)) = some (some (.int .i64 0), 1, 8) := by kernel_rfl
namespace Dc
/-- Whether a run begins at place k. -/
def runB (l : List It) : Nat → Bool
  | 0 => true
  | j + 1 => turns (l[j]?.getD It.zero) (l[j + 1]?.getD It.zero)
theorem runB_succ {l : List It} {j : Nat} (hj : j + 1 < l.length) : runB l (j + 1) = turns l[j] l[j + 1] := by
  show turns (l[j]?.getD It.zero) (l[j + 1]?.getD It.zero) = _
  rw [List.getElem?_eq_getElem (by omega), List.getElem?_eq_getElem hj]
  rfl
end Dc

namespace Dc
def runsTo (l : List It) (k : Nat) : List Nat := (List.range k).filter (runB l)
def runs (l : List It) : List Nat := if check l = 0 then runsTo l l.length else []
theorem runsTo_succ (l : List It) (k : Nat) : runsTo l (k + 1) = if runB l k then runsTo l k ++ [k] else runsTo l k := by
  unfold runsTo
  rw [List.range_succ, List.filter_append]
  by_cases h : runB l k = true
  · rw [if_pos h]; simp [h]
  · rw [if_neg h]; simp [h]
theorem runsTo_len (l : List It) (k : Nat) : (runsTo l k).length ≤ k := by
  have := List.length_filter_le (runB l) (List.range k)
  simpa [runsTo] using this
end Dc
def ci (k : Nat) : Value := .int .i64 k

end Go.Proofs.YtbhcklkbckacpaaDoor

/-
  slices.Equal at two lists of items, and doc.Same.
-/
namespace Go.Proofs.YtbhcklkbckacpaaDoor
open Go.RowKit

namespace Dc
def alike (x y : It) : Bool := ((x.c.toNat : Int) == (y.c.toNat : Int)) && ((x.m == y.m) && (x.l.toList == y.l.toList))
def same : List It → List It → Bool
  | [], [] => true
  | x :: s, y :: t => alike x y && same s t
  | _, _ => false
theorem same_len : ∀ (s t : List It), ¬ s.length = t.length → same s t = false
  | [], [], h => absurd rfl h
  | [], _ :: _, _ => rfl
  | _ :: _, [], _ => rfl
  | x :: s, y :: t, h => by
    rw [same, same_len s t (by simpa using h), Bool.and_false]
theorem same_step (s t : List It) (k : Nat) (h : k < s.length) (h' : k < t.length) : same (s.drop k) (t.drop k) = (alike s[k] t[k] && same (s.drop (k + 1)) (t.drop (k + 1))) := by
  rw [List.drop_eq_getElem_cons h, List.drop_eq_getElem_cons h', same]
end Dc
theorem guard36 : Tryd.prog.eqGuardType Tryd.prog.depth 79 = false := by kernel_rfl
theorem held36 : Tryd.prog.stoodInHeld 79 = false := by kernel_rfl
theorem under36 : Tryd.prog.underlying 79 = some (.struct (Tryd.prog.fieldsOf 79)) := by kernel_rfl
theorem neq_items (x y : It) (w : World) : (binOp .neq 79 (.agg #[.int .u8 x.c.toNat, .int .i64 x.m, .string x.l]) (.agg #[.int .u8 y.c.toNat, .int .i64 y.m, .string y.l])).run Tryd.prog w = .ok (.bool (!Dc.alike x y)) w := by
  rw [run_neq_struct, run_equalIn_agg w 9999 79 _ _ under36 held36]
  have hu := Tryd.underlying79
  simp [go_sem, hu, Program.fieldsOf]
  unfold Dc.alike
  by_cases h1 : (x.c.toNat : Int) = (y.c.toNat : Int)
  · by_cases h2 : x.m = y.m
    · by_cases h3 : x.l.toList = y.l.toList
      · simp [h1, h2, h3]
      · simp [h1, h2, h3]
    · simp [h1, h2]
  · simp [h1]

set_option maxRecDepth 100000 in
set_option maxHeartbeats 1600000 in
theorem equal_any (ao ao' : Option Addr) (n cap n' cap' : Nat) (l l' : List It) (w : World) (hD : Doc w ao n cap l) (hD' : Doc w ao' n' cap' l') :
    Calls Tryd.prog 60 #[.slice ao n cap, .slice ao' n' cap'] w fun e w' => e = .returned (.bool (Dc.same l l')) ∧ ∃ m, w' = w.drewN m := by
  have HD : Hid (Doc w ao n cap l) := hD
  have HD' : Hid (Doc w ao' n' cap' l') := hD'
  have hcap := hD.room
  have hbig := hD.big
  clear hD hD'
  obtain ⟨r, hr⟩ : ∃ r, Dc.same l l' = r := ⟨_, rfl⟩
  have HR : Hid (Dc.same l l' = r) := hr
  rw [hr]
  clear hr
  by_cases hnn : n = n'
  · subst hnn
    have hg := guard36
    go_enter Tryd.func60, Tryd.ntmps60
    go_wp2
    go_loopw [13] (fun i wr => ∃ k : Nat, k ≤ n ∧ i = .int .i64 k ∧ (∃ m, wr = w.drewN m) ∧ Dc.same (l.drop k) (l'.drop k) = r) (fun i _ => n - (intOf i).toNat)
    case atStart => exact ⟨0, Nat.zero_le _, rfl, ⟨0, rfl⟩, HR.out⟩
    case round =>
      obtain ⟨k, hk, rfl, ⟨m, rfl⟩, hsm⟩ := hrel
      have HM : Hid (Dc.same (l.drop k) (l'.drop k) = r) := hsm
      clear hsm
      by_cases hlt : k < n
      · obtain ⟨b, off, rfl, A0⟩ := HD.out.lies (by omega)
        obtain ⟨b', off', rfl, A0'⟩ := HD'.out.lies (by omega)
        have h1 : k < l.length := by rw [HD.out.len]; exact hlt
        have h2 : k < l'.length := by rw [HD'.out.len]; exact hlt
        obtain ⟨ha0, ha1, ha2⟩ := A0.get (List.getElem?_eq_getElem h1)
        obtain ⟨hx0, hx1, hx2⟩ := A0'.get (List.getElem?_eq_getElem h2)
        have HX : Hid (Dc.same (l.drop k) (l'.drop k) = (Dc.alike l[k] l'[k] && Dc.same (l.drop (k + 1)) (l'.drop (k + 1)))) := Dc.same_step l l' k h1 h2
        clear A0 A0'
        generalize l[k] = x at *
        generalize l'[k] = y at *
        clear h1 h2
        have hq := neq_items x y
        cases hal : Dc.alike x y
        · have hrr : r = false := by rw [← HM.out, HX.out, hal]; rfl
          subst hrr
          rw [hal] at hq
          clear hal
          go_wp2
          go_quiet (fail)
          go_wp2
          go_ret
          exact ⟨rfl, _, (World.drewN_drewN _ _ _)⟩
        · have HM2 : Hid (Dc.same (l.drop (k + 1)) (l'.drop (k + 1)) = r) := by show _ = _; rw [← HM.out, HX.out, hal, Bool.true_and]
          rw [hal] at hq
          clear hal
          go_wp2
          go_quiet (fail)
          go_wp2
          go_roundw
          case rel => exact ⟨k + 1, by omega, by go_num, ⟨_, rfl⟩, HM2.out⟩
          case measure => simp [intOf]; omega
      · have hrr : r = true := by
          rw [← HM.out, List.drop_eq_nil_of_le (by rw [HD.out.len]; omega), List.drop_eq_nil_of_le (by rw [HD'.out.len]; omega)]
          rfl
        subst hrr
        go_wp2
        go_ret
        exact ⟨rfl, m, rfl⟩
  · have hrr : r = false := HR.out.symm.trans (Dc.same_len _ _ (by rw [HD.out.len, HD'.out.len]; exact hnn))
    subst hrr
    go_enter Tryd.func60, Tryd.ntmps60
    go_wp2
    go_ret
    exact ⟨rfl, 0, rfl⟩

theorem same_any (ao ao' : Option Addr) (n cap n' cap' : Nat) (l l' : List It) (w : World) (hD : Doc w ao n cap l) (hD' : Doc w ao' n' cap' l') :
    Calls Tryd.prog 23 #[.slice ao n cap, .slice ao' n' cap'] w fun e w' => e = .returned (.bool (Dc.same l l')) ∧ ∃ m, w' = w.drewN m := by
  have HE := equal_any ao ao' n cap n' cap' l l' w hD hD'
  clear hD hD'
  generalize Dc.same l l' = r at *
  have H : Hid (Calls Tryd.prog 60 #[.slice ao n cap, .slice ao' n' cap'] w fun e w' => e = .returned (.bool r) ∧ ∃ m, w' = w.drewN m) := HE
  clear HE
  go_enter Tryd.func23, Tryd.ntmps23
  go_wp2_with fail
  refine H.out.mono ?_
  rintro e w1 ⟨rfl, m, rfl⟩
  go_wp2
  go_ret
  exact ⟨rfl, m, rfl⟩
end Go.Proofs.YtbhcklkbckacpaaDoor

/-
  The document that the laws' closed facts ask about, in memory.
-/
namespace Go.Proofs.YtbhcklkbckacpaaDoor
open Go.RowKit

def smallDoc : List It := [⟨97, 0, ⟨#[]⟩⟩, ⟨98, 1, ⟨#[]⟩⟩, ⟨10, 1, ⟨#[]⟩⟩, ⟨60, 0, ⟨#[104, 116, 116, 112, 58, 38]⟩⟩, ⟨10, 2, ⟨#[]⟩⟩]
theorem small_check : Dc.check smallDoc = 0 := by decide +kernel
theorem small_check2 : Dc.check (smallDoc.take 2) = 4 := by decide +kernel
theorem small_plain : Dc.plain smallDoc = [97, 98, 10, 60, 10] := by decide +kernel
theorem small_runs : Dc.runs smallDoc = [0, 1, 2, 3, 4] := by decide +kernel

/-- The cells of a list of items. -/
def itCells : List It → List Value
  | [] => []
  | x :: t => .int .u8 x.c.toNat :: .int .i64 x.m :: .string x.l :: itCells t
theorem itCells_at : ∀ (l : List It) (i : Nat) (h : i < l.length), (itCells l)[i * 3]? = some (.int .u8 l[i].c.toNat) ∧ (itCells l)[i * 3 + 1]? = some (.int .i64 l[i].m) ∧ (itCells l)[i * 3 + 2]? = some (.string l[i].l)
  | [], _, h => by simp at h
  | x :: t, 0, _ => ⟨rfl, rfl, rfl⟩
  | x :: t, i + 1, h => by
    obtain ⟨h1, h2, h3⟩ := itCells_at t i (by simpa using h)
    have e : (i + 1) * 3 = i * 3 + 1 + 1 + 1 := by omega
    rw [e]
    exact ⟨h1, h2, h3⟩
theorem at_block {w : World} {b : Nat} {l : List It} {T : TypeId} {fr : Nat × Nat} (h : w.heap[b]? = some (.cells (itCells l).toArray T fr)) : At w b 0 l := by
  have hc : ∀ j, w.cell? ⟨b, j, none⟩ = (itCells l)[j]? := fun j => by
    unfold World.cell?
    rw [h]
    simp
  refine ⟨fun i hi => ?_, fun i hi => ?_, fun i hi => ?_⟩
  · rw [Nat.zero_add, hc]; exact (itCells_at l i hi).1
  · rw [Nat.zero_add, hc]; exact (itCells_at l i hi).2.1
  · rw [Nat.zero_add, hc]; exact (itCells_at l i hi).2.2
theorem At.take {w : World} {b off : Nat} {l : List It} (h : At w b off l) (k : Nat) : At w b off (l.take k) := by
  refine ⟨fun i hi => ?_, fun i hi => ?_, fun i hi => ?_⟩
  all_goals
    have h2 : i < l.length := by simp at hi; omega
    rw [List.getElem_take]
  · exact h.c i h2
  · exact h.m i h2
  · exact h.l i h2

set_option maxRecDepth 100000 in
theorem smalld_any (w : World) : Calls Tryd.prog 44 #[] w fun e w' => e = .returned (.slice (some ⟨w.heap.size, 0, none⟩) 5 5) ∧ w' = w.alloc (.cells (itCells smallDoc).toArray 79) := by
  go_enter Tryd.func44, Tryd.ntmps44
  go_wp2
  go_ret
  exact ⟨rfl, rfl⟩
theorem small_fit : Fit smallDoc := by unfold Fit; decide +kernel
theorem small_at (w : World) : Doc (w.alloc (.cells (itCells smallDoc).toArray 79)) (some ⟨w.heap.size, 0, none⟩) 5 5 smallDoc :=
  ⟨small_fit, rfl, Nat.le_refl _, by decide, fun _ => ⟨_, _, rfl, at_block (heap_alloc_new w _)⟩⟩
theorem smallD (w : World) : Calls Tryd.prog 44 #[] w fun e w' => e = .returned (.slice (some ⟨w.heap.size, 0, none⟩) 5 5) ∧ Doc w' (some ⟨w.heap.size, 0, none⟩) 5 5 smallDoc ∧ Below w.heap.size w w' :=
  (smalld_any w).mono fun _ _ ⟨he, hw⟩ => ⟨he, by rw [hw]; exact small_at w, by rw [hw]; exact (Below.refl _ _).alloc (Nat.le_refl _) _⟩
theorem Doc.take {w : World} {ao : Option Addr} {n cap : Nat} {l : List It} (h : Doc w ao n cap l) (k : Nat) (hk : k ≤ n) : Doc w ao k cap (l.take k) :=
  ⟨fun x hx => h.fit x (List.mem_of_mem_take hx), by rw [List.length_take, h.len]; omega, Nat.le_trans hk h.room, h.big, fun h0 => by obtain ⟨b, off, e, hA⟩ := h.lies (by omega); exact ⟨b, off, e, hA.take k⟩⟩

theorem own_below {w w' : World} {B n : Nat} {v : Value} {xs : List Value} (h : w.ownsRow B 3 1 v n xs) (hb : Below w.heap.size w w') : w'.ownsRow B 3 1 v n xs := by
  refine ⟨h.1, ?_⟩
  rcases h.2 with h2 | ⟨g, cap, cur, hv, hg, hh, r⟩
  · exact .inl h2
  · exact .inr ⟨g, cap, cur, hv, hg, (hb.block g (lt_of_block hh)).trans hh, r⟩

end Go.Proofs.YtbhcklkbckacpaaDoor

/-
  slices.Grow of nothing, and slices.Concat of two lists of items.
-/
namespace Go.Proofs.YtbhcklkbckacpaaDoor
open Go.RowKit

theorem Tryd.info79 : (Tryd.prog.info? 79).map (fun i => (i.zero, i.size, i.bytes)) = some (some (.agg #[.int .u8 0, .int .i64 0, .string ⟨#[]⟩]), 3, 32) := by kernel_rfl

/-- An append whose run is known, in a region's list. -/
theorem wpList_of_append {P : Program} {w : World} {ops : Array Oper} {rest : List Oper} {o : Oper} {a : Act} {Q : Exit → Act → World → Prop} (hgd : o.guard = none) (s x : Operand) (ts : Array TypeId)
    (ho : o.op = .call { callee := .builtin .append, args := #[s, x], argTypes := ts }) (v u r : Value) (w' : World) (hs : a.eval s = v) (hx : a.eval x = u)
    (hr : (Builtin.append_ ts o.type #[v, u]).run P w = .ok r w') (h : wpList P ops Q rest (a.put o.dst r) w') : wpList P ops Q (o :: rest) a w :=
  wpList_plain hgd fun _ hK => by
    unfold Oper.wp execOp
    simp only [ho, resolve, invoke, builtin, Sem.run_bind, Sem.run_pure, Result.andThen_ok, List.map_toArray, List.map_cons, List.map_nil, hs, hx, hr]
    exact hK _ _ h
/-- What a new block of zero values is: a row of none. -/
theorem own_zeros (w : World) (zc : Array Value) (s cap : Nat) (hz : zc.size = 3) (h1 : s ≤ cap) (h2 : cap ≤ maxLen) :
    (w.drew.alloc (.cells (Builtin.zeroCells zc s ++ Builtin.zeroCells zc (cap - s)) 79)).ownsRow w.heap.size 79 3 (.slice (some ⟨w.heap.size, 0, none⟩) 0 cap) 0 [] := by
  refine ⟨rfl, .inr ⟨w.heap.size, cap, _, rfl, Nat.le_refl _, heap_alloc_new w.drew _, Nat.zero_le _, h2, ?_, by simp⟩⟩
  rw [Array.size_append, size_zeroCells, size_zeroCells, hz, ← Nat.add_mul]
  congr 1
  omega

theorem itCells_len : ∀ l : List It, (itCells l).length = l.length * 3
  | [] => rfl
  | x :: t => by
    show (itCells t).length + 1 + 1 + 1 = _
    rw [itCells_len t, List.length_cons, Nat.add_mul]
theorem itCells_app : ∀ l l' : List It, itCells (l ++ l') = itCells l ++ itCells l'
  | [], _ => rfl
  | x :: t, l' => by
    show _ :: _ :: _ :: itCells (t ++ l') = _
    rw [itCells_app t l']
    rfl
theorem itCells_one : ∀ l : List It, ∀ u ∈ itCells l, u.oneCell' = true
  | [], u, hu => by simp [itCells] at hu
  | x :: t, u, hu => by
    simp only [itCells, List.mem_cons] at hu
    rcases hu with rfl | rfl | rfl | hu
    · rfl
    · rfl
    · rfl
    · exact itCells_one t u hu
theorem at_cells {w : World} {b off : Nat} {l : List It} (h : At w b off l) (j : Nat) (u : Value) (hu : (itCells l)[j]? = some u) : w.cell? ((⟨b, off, none⟩ : Addr).add j) = some u := by
  have hadd : (⟨b, off, none⟩ : Addr).add j = ⟨b, off + j, none⟩ := by unfold Addr.add; split <;> simp_all
  rw [hadd]
  have hlt : j < l.length * 3 := by rw [← itCells_len]; exact (List.getElem?_eq_some_iff.1 hu).1
  have hi : j / 3 < l.length := by omega
  obtain ⟨h1, h2, h3⟩ := itCells_at l (j / 3) hi
  have hr : j = j / 3 * 3 ∨ j = j / 3 * 3 + 1 ∨ j = j / 3 * 3 + 2 := by omega
  rcases hr with e | e | e
  · rw [e, h1] at hu
    rw [e]
    exact (h.c _ hi).trans hu
  · rw [e, h2] at hu
    rw [e, ← Nat.add_assoc]
    exact (h.m _ hi).trans hu
  · rw [e, h3] at hu
    rw [e, ← Nat.add_assoc]
    exact (h.l _ hi).trans hu
/-- A row that is owned is a list of items. -/
theorem own_at {w : World} {B0 g cap n : Nat} {l : List It} (h : w.ownsRow B0 79 3 (.slice (some ⟨g, 0, none⟩) n cap) n (itCells l)) : At w g 0 l := by
  have hc : ∀ j u, (itCells l)[j]? = some u → w.cell? ⟨g, 0 + j, none⟩ = some u := fun j u hu => by
    have := h.cells (g := g) rfl j u hu
    have e : (⟨g, 0, none⟩ : Addr).add j = ⟨g, 0 + j, none⟩ := by unfold Addr.add; split <;> simp_all
    rw [e] at this
    exact this
  refine ⟨fun i hi => hc _ _ (itCells_at l i hi).1, fun i hi => ?_, fun i hi => ?_⟩
  · rw [Nat.add_assoc]; exact hc _ _ (itCells_at l i hi).2.1
  · rw [Nat.add_assoc]; exact hc _ _ (itCells_at l i hi).2.2

end Go.Proofs.YtbhcklkbckacpaaDoor

/-
  Chapter 7 on parts: the acts of an operation's parts, one an item; acts made parts again, as Tidy lays them; and what holds of that.
-/
namespace Go.Proofs.YtbhcklkbckacpaaDoor
open Go.RowKit
namespace Ac
/-- A part of an operation. -/
structure Pt where
  kind : Int
  n : Int
  items : List It
  set : Int
  clr : Int
  goes : Bool
  link : ByteArray
def chOf (p : Pt) : Ch := ⟨p.set, p.clr, p.goes, p.link⟩
def keepP (c : Ch) (n : Int) : Pt := ⟨1, n, [], c.set, c.clr, c.goes, c.link⟩
def putP (xs : List It) : Pt := ⟨2, 0, xs, 0, 0, false, ⟨#[]⟩⟩
def cutP (n : Nat) : Pt := ⟨3, n, [], 0, 0, false, ⟨#[]⟩⟩
/-- The acts of a part, one an item. -/
def acts1 (p : Pt) : List A := if p.kind = 2 then p.items.map A.put else List.replicate p.n.toNat (if p.kind = 1 then A.keep (chOf p) else A.cut)
def acts (o : List Pt) : List A := o.flatMap acts1
theorem acts_nil : acts [] = [] := rfl
theorem acts_cons (p : Pt) (o : List Pt) : acts (p :: o) = acts1 p ++ acts o := rfl
theorem acts_app (o o' : List Pt) : acts (o ++ o') = acts o ++ acts o' := List.flatMap_append
theorem acts1_keep (c : Ch) (n : Int) : acts1 (keepP c n) = List.replicate n.toNat (A.keep c) := rfl
theorem acts1_put (xs : List It) : acts1 (putP xs) = xs.map A.put := rfl
theorem acts1_cut (n : Nat) : acts1 (cutP n) = List.replicate n A.cut := rfl
/-- What is put and cut, as parts. -/
def flushP (ps : List It) (n : Nat) : List Pt := (if ps.isEmpty then [] else [putP ps]) ++ (if n = 0 then [] else [cutP n])
theorem acts_flush (ps : List It) (n : Nat) : acts (flushP ps n) = group ps n := by
  unfold flushP group
  rw [acts_app]
  congr 1
  · cases ps with
    | nil => rfl
    | cons x t => simp [acts, acts1_put]
  · cases n with
    | zero => rfl
    | succ n => simp [acts, acts1_cut]
/-- Whether a part keeps, with the same change. -/
def likeK (p : Pt) (c : Ch) : Bool := p.kind == 1 && p.set == c.set && p.clr == c.clr && p.goes == c.goes && p.link.data.toList == c.link.data.toList
/-- One more item is kept. -/
def addK : List Pt → Ch → List Pt
  | [], c => [keepP c 1]
  | [p], c => if likeK p c then [{ p with n := p.n + 1 }] else [p, keepP c 1]
  | p :: q :: o, c => p :: addK (q :: o) c
theorem likeK_ch {p : Pt} {c : Ch} (h : likeK p c = true) : p.kind = 1 ∧ chOf p = c := by
  unfold likeK at h
  simp only [Bool.and_eq_true, beq_iff_eq] at h
  obtain ⟨⟨⟨⟨h1, h2⟩, h3⟩, h4⟩, h5⟩ := h
  refine ⟨h1, ?_⟩
  unfold chOf
  cases c
  simp at h2 h3 h4 h5
  have : p.link = _ := ByteArray.ext h5
  rw [h2, h3, h4, this]
/-- Parts of which what is kept is some. -/
def Pos (o : List Pt) : Prop := ∀ p ∈ o, p.kind = 1 → 1 ≤ p.n
theorem acts_addK : ∀ (o : List Pt) (c : Ch), Pos o → acts (addK o c) = acts o ++ [A.keep c]
  | [], c, _ => rfl
  | [p], c, hp => by
    rw [addK]
    split
    · rename_i h
      obtain ⟨h1, h2⟩ := likeK_ch h
      have hn := hp p (by simp) h1
      have a1 : ∀ q : Pt, q.kind = 1 → chOf q = c → acts1 q = List.replicate q.n.toNat (A.keep c) := fun q k1 k2 => by
        unfold acts1
        rw [if_neg (by rw [k1]; decide), if_pos k1, k2]
      have hc : chOf { p with n := p.n + 1 } = c := h2
      rw [acts_cons, acts_nil, acts_cons, acts_nil, List.append_nil, List.append_nil, a1 p h1 h2, a1 { p with n := p.n + 1 } h1 hc]
      show List.replicate (p.n + 1).toNat _ = _
      rw [show (p.n + 1).toNat = p.n.toNat + 1 by omega, List.replicate_succ']
    · rw [acts_cons, acts_cons, acts_cons, acts_nil, List.append_nil, List.append_nil]
      rfl
  | p :: q :: o, c, hp => by
    rw [addK, acts_cons, acts_addK (q :: o) c (fun x hx => hp x (List.mem_cons_of_mem _ hx)), acts_cons p, List.append_assoc]
theorem addK_pos : ∀ (o : List Pt) (c : Ch), Pos o → Pos (addK o c)
  | [], c, _ => by
    intro p hp _
    simp [addK] at hp
    subst hp
    exact Int.le_refl _
  | [p], c, h => by
    rw [addK]
    split
    · intro x hx h1
      simp at hx
      subst hx
      have := h p (by simp) h1
      simp only
      omega
    · intro x hx h1
      simp at hx
      rcases hx with rfl | rfl
      · exact h x (by simp) h1
      · exact Int.le_refl _
  | p :: q :: o, c, h => by
    rw [addK]
    intro x hx h1
    rcases List.mem_cons.1 hx with rfl | hx
    · exact h x (by simp) h1
    · exact addK_pos (q :: o) c (fun x hx => h x (List.mem_cons_of_mem _ hx)) x hx h1
theorem flush_pos (ps : List It) (n : Nat) : Pos (flushP ps n) := by
  intro p hp h1
  unfold flushP at hp
  rcases List.mem_append.1 hp with h | h
  · split at h
    · cases h
    · simp at h; subst h; cases h1
  · split at h
    · cases h
    · simp at h; subst h; cases h1
theorem Pos.app {o o' : List Pt} (h : Pos o) (h' : Pos o') : Pos (o ++ o') := fun p hp h1 => by
  rcases List.mem_append.1 hp with hp | hp
  · exact h p hp h1
  · exact h' p hp h1
/-- Acts made parts: what was laid so far, what is put and cut behind it, what is to come. -/
def tdy : List Pt → List It → Nat → List A → List Pt
  | out, ps, n, [] => out ++ flushP ps n
  | out, ps, n, some (.inr x) :: r => tdy out (ps ++ [x]) n r
  | out, ps, n, none :: r => tdy out ps (n + 1) r
  | out, ps, n, some (.inl c) :: r => tdy (addK (out ++ flushP ps n) c) [] 0 r
theorem acts_tdy : ∀ (l : List A) (out : List Pt) (ps : List It) (n : Nat), Pos out → acts (tdy out ps n l) = acts out ++ norm ps n l
  | [], out, ps, n, _ => by rw [tdy, norm, acts_app, acts_flush]
  | some (.inr x) :: r, out, ps, n, h => by rw [tdy, norm, acts_tdy r out _ _ h]
  | none :: r, out, ps, n, h => by rw [tdy, norm, acts_tdy r out _ _ h]
  | some (.inl c) :: r, out, ps, n, h => by
    have hp := h.app (flush_pos ps n)
    rw [tdy, norm, acts_tdy r _ _ _ (addK_pos _ c hp), acts_addK _ c hp, acts_app, acts_flush]
    simp
def tidy (o : List Pt) : List Pt := tdy [] [] 0 (acts o)
/-- Tidy's acts are its operation's, what is put ahead of what is cut. -/
theorem acts_tidy (o : List Pt) : acts (tidy o) = nf (acts o) := by
  unfold tidy
  rw [acts_tdy _ _ _ _ (fun p hp => by cases hp), acts_nil]
  rfl
theorem tdy_puts : ∀ (qs : List It) (out : List Pt) (ps : List It) (n : Nat) (r : List A), tdy out ps n (qs.map A.put ++ r) = tdy out (ps ++ qs) n r
  | [], out, ps, n, r => by simp
  | x :: qs, out, ps, n, r => by
    rw [List.map_cons, List.cons_append, tdy, tdy_puts qs]
    simp
theorem tdy_cuts : ∀ (k : Nat) (out : List Pt) (ps : List It) (n : Nat) (r : List A), tdy out ps n (List.replicate k A.cut ++ r) = tdy out ps (n + k) r
  | 0, out, ps, n, r => by simp
  | k + 1, out, ps, n, r => by
    rw [List.replicate_succ, List.cons_append, tdy, tdy_cuts k]
    congr 1
    omega
theorem tdy_group (qs : List It) (k : Nat) (out : List Pt) (ps : List It) (n : Nat) (r : List A) : tdy out ps n (group qs k ++ r) = tdy out (ps ++ qs) (n + k) r := by
  unfold group
  rw [List.append_assoc, tdy_puts, tdy_cuts]
theorem tdy_norm : ∀ (l : List A) (out : List Pt) (qs : List It) (k : Nat) (ps : List It) (n : Nat), tdy out ps n (norm qs k l) = tdy out (ps ++ qs) (n + k) l
  | [], out, qs, k, ps, n => by
    have := tdy_group qs k out ps n []
    rw [List.append_nil] at this
    exact this
  | some (.inr x) :: r, out, qs, k, ps, n => by
    rw [norm, tdy_norm r, tdy]
    simp
  | none :: r, out, qs, k, ps, n => by
    rw [norm, tdy_norm r, tdy]
    rfl
  | some (.inl c) :: r, out, qs, k, ps, n => by
    rw [norm, tdy_group, tdy, tdy, tdy_norm r]
    rfl
/-- What is tidy is as Tidy makes it. -/
theorem tidy_tidy (o : List Pt) : tidy (tidy o) = tidy o := by
  unfold tidy
  rw [show acts (tdy [] [] 0 (acts o)) = nf (acts o) from acts_tidy o]
  exact tdy_norm (acts o) [] [] 0 [] 0
/-- What says the same, as acts, is tidied to the same. -/
theorem tidy_of {o o' : List Pt} (h : nf (acts o) = nf (acts o')) : tidy o = tidy o' := by
  have h1 := tdy_norm (acts o) [] [] 0 [] 0
  have h2 := tdy_norm (acts o') [] [] 0 [] 0
  unfold nf at h
  rw [h] at h1
  exact h1.symm.trans h2
end Ac
end Go.Proofs.YtbhcklkbckacpaaDoor

/-
  Operations in memory: lists of parts, each with a list of items; chapter 7's check, measure and sameness on parts.
-/
namespace Go.Proofs.YtbhcklkbckacpaaDoor
open Go.RowKit
namespace Ac
def says (p q : Pt) : Bool := (p.set == q.set) && ((p.clr == q.clr) && ((p.goes == q.goes) && (p.link.toList == q.link.toList)))
def same1 (p q : Pt) : Bool := (p.kind == q.kind) && ((p.n == q.n) && (Dc.same p.items q.items && says p q))
def sameO : List Pt → List Pt → Bool
  | [], [] => true
  | p :: s, q :: t => same1 p q && sameO s t
  | _, _ => false
theorem sameO_len : ∀ (s t : List Pt), ¬ s.length = t.length → sameO s t = false
  | [], [], h => absurd rfl h
  | [], _ :: _, _ => rfl
  | _ :: _, [], _ => rfl
  | x :: s, y :: t, h => by rw [sameO, sameO_len s t (by simpa using h), Bool.and_false]
theorem sameO_step (s t : List Pt) (k : Nat) (h : k < s.length) (h' : k < t.length) : sameO (s.drop k) (t.drop k) = (same1 s[k] t[k] && sameO (s.drop (k + 1)) (t.drop (k + 1))) := by
  rw [List.drop_eq_getElem_cons h, List.drop_eq_getElem_cons h', sameO]
/-- A part with nothing in it but what its kind has a use for. -/
def usedP (p : Pt) : Pt := if p.kind = 1 then { p with items := [] } else if p.kind = 2 then ⟨p.kind, 0, p.items, 0, 0, false, ⟨#[]⟩⟩ else ⟨p.kind, p.n, [], 0, 0, false, ⟨#[]⟩⟩
def areM (m : Int) : Bool := decide (0 ≤ m) && decide (m ≤ 3)
def errN (n : Int) : Int := if n < 1 ∨ 80 < n then 3 else 0
def errPut (l : List It) : Int := if l.length < 1 ∨ 80 < l.length then 2 else Dc.errs l
def marksBad (s c : Int) : Bool := !areM s || (!areM c || (s.toNat &&& c.toNat) != 0)
def linkBad (g : Bool) (l : ByteArray) : Bool := !l.toList.isEmpty && (!g || !Lk.may l.data.toList)
def errK (p : Pt) : Int := if marksBad p.set p.clr then 3 else if linkBad p.goes p.link then 4 else errN p.n
def err0 (p : Pt) : Int := if p.kind = 1 then errK p else if p.kind = 2 then errPut p.items else if p.kind = 3 then errN p.n else 4
def err1 (p : Pt) : Int := if err0 p = 0 then (if same1 p (usedP p) then 0 else 4) else err0 p
def chks : Int → List Pt → Int
  | _, [] => 0
  | s, p :: t => if err1 p = 0 then (if 80 < s + p.n then 2 else chks (s + p.n) t) else err1 p
def chk (o : List Pt) : Int := if o.length < 1 ∨ 40 < o.length then 2 else if chks 0 o = 0 then (match o.getLast? with | some p => if p.kind = 1 then 0 else 4 | none => 4) else chks 0 o
def lfS (s : Int) (p : Pt) : Int := if p.kind = 1 ∨ p.kind = 3 then wrap64 (s + p.n) else s
def ltS (s : Int) (p : Pt) : Int := if p.kind = 1 then wrap64 (s + p.n) else if p.kind = 2 then wrap64 (s + p.items.length) else s
def lf (o : List Pt) : Int := o.foldl lfS 0
def lt (o : List Pt) : Int := o.foldl ltS 0
end Ac
/-- A part in memory: its fields, and where its items lie. -/
structure PV where
  kind : Int
  n : Int
  ao : Option Addr
  m : Nat
  cap : Nat
  items : List It
  set : Int
  clr : Int
  goes : Bool
  link : ByteArray
def PV.pt (v : PV) : Ac.Pt := ⟨v.kind, v.n, v.items, v.set, v.clr, v.goes, v.link⟩
def pvC (v : PV) : List Value := [.int .i64 v.kind, .int .i64 v.n, .slice v.ao v.m v.cap, .int .i64 v.set, .int .i64 v.clr, .bool v.goes, .string v.link]
def pvCells (l : List PV) : List Value := l.flatMap pvC
theorem pvCells_nil : pvCells [] = [] := rfl
theorem pvCells_cons (v : PV) (l : List PV) : pvCells (v :: l) = .int .i64 v.kind :: .int .i64 v.n :: .slice v.ao v.m v.cap :: .int .i64 v.set :: .int .i64 v.clr :: .bool v.goes :: .string v.link :: pvCells l := rfl
theorem pvCells_app (l l' : List PV) : pvCells (l ++ l') = pvCells l ++ pvCells l' := List.flatMap_append
theorem pvCells_one (v : PV) : pvCells [v] = pvC v := by simp [pvCells]
theorem pvCells_len : ∀ l : List PV, (pvCells l).length = l.length * 7
  | [] => rfl
  | k :: l => by rw [pvCells_cons]; simp only [List.length_cons]; rw [pvCells_len l]; omega
theorem pvCells_at : ∀ (l : List PV) (i : Nat) (h : i < l.length), (pvCells l)[i * 7]? = some (.int .i64 l[i].kind) ∧ (pvCells l)[i * 7 + 1]? = some (.int .i64 l[i].n) ∧ (pvCells l)[i * 7 + 2]? = some (.slice l[i].ao l[i].m l[i].cap) ∧ (pvCells l)[i * 7 + 3]? = some (.int .i64 l[i].set) ∧ (pvCells l)[i * 7 + 4]? = some (.int .i64 l[i].clr) ∧ (pvCells l)[i * 7 + 5]? = some (.bool l[i].goes) ∧ (pvCells l)[i * 7 + 6]? = some (.string l[i].link)
  | [], _, h => by simp at h
  | k :: l, 0, _ => ⟨rfl, rfl, rfl, rfl, rfl, rfl, rfl⟩
  | k :: l, i + 1, h => by
    have := pvCells_at l i (by simpa using h)
    rw [pvCells_cons, show (i + 1) * 7 = i * 7 + 1 + 1 + 1 + 1 + 1 + 1 + 1 by omega]
    exact this
theorem pvCells_oneCell (l : List PV) : ∀ u ∈ pvCells l, u.oneCell' = true := by
  intro u hu
  obtain ⟨k, _, h⟩ := List.mem_flatMap.1 hu
  simp only [pvC, List.mem_cons, List.not_mem_nil, or_false] at h
  rcases h with rfl | rfl | rfl | rfl | rfl | rfl | rfl <;> rfl
/-- A part's items lie where it says. -/
structure Pvt (w : World) (v : PV) : Prop where
  doc : Doc w v.ao v.m v.cap v.items
  fit : v.link.size ≤ 9223372036854775807
theorem Pvt.below {w w' : World} {v : PV} (h : Pvt w v) (hb : Below w.heap.size w w') : Pvt w' v := ⟨h.doc.below hb, h.fit⟩
/-- The cells of a part. -/
structure Seven (w : World) (b off : Nat) (v : PV) : Prop where
  c0 : w.cell? ⟨b, off, none⟩ = some (.int .i64 v.kind)
  c1 : w.cell? ⟨b, off + 1, none⟩ = some (.int .i64 v.n)
  c2 : w.cell? ⟨b, off + 2, none⟩ = some (.slice v.ao v.m v.cap)
  c3 : w.cell? ⟨b, off + 3, none⟩ = some (.int .i64 v.set)
  c4 : w.cell? ⟨b, off + 4, none⟩ = some (.int .i64 v.clr)
  c5 : w.cell? ⟨b, off + 5, none⟩ = some (.bool v.goes)
  c6 : w.cell? ⟨b, off + 6, none⟩ = some (.string v.link)
theorem Seven.below {w w' : World} {b off : Nat} {v : PV} (h : Seven w b off v) (hb : Below w.heap.size w w') : Seven w' b off v :=
  ⟨cell_below h.c0 hb, cell_below h.c1 hb, cell_below h.c2 hb, cell_below h.c3 hb, cell_below h.c4 hb, cell_below h.c5 hb, cell_below h.c6 hb⟩
/-- A slice of parts. -/
structure Ops (w : World) (ao : Option Addr) (n cap : Nat) (vs : List PV) : Prop where
  row : Row w ao n cap 7 (pvCells vs)
  pts : ∀ v ∈ vs, Pvt w v
theorem Ops.below {w w' : World} {ao : Option Addr} {n cap : Nat} {vs : List PV} (h : Ops w ao n cap vs) (hb : Below w.heap.size w w') : Ops w' ao n cap vs :=
  ⟨h.row.below hb, fun v hv => (h.pts v hv).below hb⟩
theorem Ops.len {w : World} {ao : Option Addr} {n cap : Nat} {vs : List PV} (h : Ops w ao n cap vs) : vs.length = n := by
  have := h.row.len
  rw [pvCells_len] at this
  omega
theorem Ops.get {w : World} {ao : Option Addr} {n cap : Nat} {vs : List PV} (h : Ops w ao n cap vs) (hn : n ≠ 0) : ∃ b off, ao = some ⟨b, off, none⟩ ∧ ∀ i (hi : i < vs.length), Seven w b (off + i * 7) vs[i] := by
  obtain ⟨b, off, e, hc⟩ := h.row.lies hn
  refine ⟨b, off, e, fun i hi => ?_⟩
  obtain ⟨h0, h1, h2, h3, h4, h5, h6⟩ := pvCells_at vs i hi
  exact ⟨hc _ _ h0, by rw [Nat.add_assoc]; exact hc _ _ h1, by rw [Nat.add_assoc]; exact hc _ _ h2, by rw [Nat.add_assoc]; exact hc _ _ h3, by rw [Nat.add_assoc]; exact hc _ _ h4, by rw [Nat.add_assoc]; exact hc _ _ h5, by rw [Nat.add_assoc]; exact hc _ _ h6⟩
/-- A call that is handed a part lays it in a block of its own. -/
def boxp (v : PV) (w : World) : World := w.alloc (.cells #[.int .i64 v.kind, .int .i64 v.n, .slice v.ao v.m v.cap, .int .i64 v.set, .int .i64 v.clr, .bool v.goes, .string v.link] 77)
theorem boxp_below (v : PV) (w : World) : Below w.heap.size w (boxp v w) := (Below.refl _ _).alloc (Nat.le_refl _) _
theorem boxp_size (v : PV) (w : World) : (boxp v w).heap.size = w.heap.size + 1 := World.size_alloc ..
theorem boxp_blk (v : PV) (w : World) : Blk (boxp v w) w.heap.size (pvC v) 77 := Blk.new w _ _
theorem seven_blk {w : World} {b : Nat} {v : PV} (h : Blk w b (pvC v) 77) : Seven w b 0 v := ⟨h.cell 0, h.cell 1, h.cell 2, h.cell 3, h.cell 4, h.cell 5, h.cell 6⟩
theorem boxp_at (v : PV) (w : World) : Seven (boxp v w) w.heap.size 0 v := seven_blk (boxp_blk v w)
theorem boxp2_below (v u : PV) (w : World) : Below w.heap.size w (boxp u (boxp v w)) := (boxp_below v w).trans ((boxp_below u _).mono (boxp_below v w).size)
theorem boxp2_fst (v u : PV) (w : World) : Seven (boxp u (boxp v w)) w.heap.size 0 v := (boxp_at v w).below (boxp_below u _)
theorem boxp2_snd (v u : PV) (w : World) : Seven (boxp u (boxp v w)) (w.heap.size + 1) 0 u := by
  have := boxp_at u (boxp v w)
  rw [boxp_size] at this
  exact this
theorem Tryd.infP : (Tryd.prog.info? 77).map (fun i => (i.zero, i.size, i.bytes)) = some (some (.agg #[.int .i64 0, .int .i64 0, .slice none 0 0, .int .i64 0, .int .i64 0, .bool false, .string ⟨#[]⟩]), 7, 80) := by kernel_rfl
end Go.Proofs.YtbhcklkbckacpaaDoor
