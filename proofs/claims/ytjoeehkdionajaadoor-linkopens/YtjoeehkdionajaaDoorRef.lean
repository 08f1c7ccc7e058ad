/-
  The reference's MayBe and CleanOf: as link.May and link.Clean have it.
-/
import Derived.Test.YtjoeehkdionajaaDoorSm
import Derived.Test.YtjoeehkdionajaaDoorLed
namespace Go.Proofs.YtjoeehkdionajaaDoor
open Go.RowKit

def leadsB : List ByteArray := [⟨#[104, 116, 116, 112]⟩, ⟨#[104, 116, 116, 112, 115]⟩, ⟨#[109, 97, 105, 108, 116, 111]⟩]
theorem containsS_lead (x : List UInt8) : Lib.containsS (leadsB.take 3) (B x) = Lk.lead x := by
  have h1 := Lib.containsS_iff (leadsB.take 3) (B x)
  have h2 : B x ∈ leadsB.take 3 ↔ Lk.lead x = true := by
    have e : leadsB.take 3 = Lk.leads.map B := rfl
    rw [e, Lk.lead, List.contains_iff_mem]
    constructor
    · intro h
      obtain ⟨y, hy, hb⟩ := List.mem_map.1 h
      rw [← B_inj hb]; exact hy
    · intro h; exact List.mem_map.2 ⟨x, h, rfl⟩
  rw [h2] at h1
  exact Bool.eq_iff_iff.2 h1

/-- In block b lie the three schemes. -/
def Three (b : Nat) (w : World) : Prop := ∃ t fr, w.heap[b]? = some (.cells scells t fr)
theorem Three.cell {b : Nat} {w : World} (h : Three b w) (j : Nat) (hj : j < leadsB.length) : w.cell? ⟨b, 0 + j, none⟩ = some (.string (leadsB.getD j ByteArray.empty)) := by
  obtain ⟨t, fr, hg⟩ := h
  match j, hj with
  | 0, _ => simp [World.cell?, hg]; rfl
  | 1, _ => simp [World.cell?, hg]; rfl
  | 2, _ => simp [World.cell?, hg]; rfl
theorem Three.new (w : World) : Three w.heap.size (w.alloc (.cells scells 9)) := ⟨_, _, heap_alloc_new w _⟩
theorem Three.below {b : Nat} {w w' : World} (h : Three b w) (hb : Below w.heap.size w w') : Three b w' := by
  obtain ⟨t, fr, hg⟩ := h
  exact ⟨t, fr, (hb.block b (Array.getElem?_eq_some_iff.1 hg).1).trans hg⟩
theorem lead3 (b : Nat) (x : List UInt8) (w : World) (h : Three b w) : Calls Tryd.prog 24 #[.slice (some ⟨b, 0, none⟩) 3 3, .string (B x)] w fun e w' => e = .returned (.bool (Lk.lead x)) ∧ w' = w := by
  have := Tryd.slices_Contains_string b 0 3 3 leadsB (B x) w (by decide) (by decide) h.cell
  rw [containsS_lead] at this
  exact this

set_option maxRecDepth 100000 in
set_option maxHeartbeats 1600000 in
theorem MayBe_any (s : ByteArray) (w : World) (hs : s.size ≤ 9223372036854775807) :
    Calls Tryd.prog 19 #[.string s] w fun e w' => e = .returned (.bool (Lk.may s.data.toList)) ∧ Below w.heap.size w w' := by
  have hl := len_list s
  by_cases h1 : s.size < 1
  · rw [may_len _ (.inl (by omega))]
    clear hl
    go_enter Tryd.func19, Tryd.ntmps19
    go_wp2
    go_ret
    exact ⟨rfl, Below.refl _ _⟩
  · by_cases h2 : 24 < s.size
    · rw [may_len _ (.inr (by omega))]
      clear hl
      go_enter Tryd.func19, Tryd.ntmps19
      go_wp2
      go_ret
      exact ⟨rfl, Below.refl _ _⟩
    · obtain ⟨m, hm⟩ : ∃ m, Lk.may s.data.toList = m := ⟨_, rfl⟩
      rw [hm]
      have HM : Hid (Lk.may s.data.toList = m) := hm
      clear hm
      go_enter Tryd.func19, Tryd.ntmps19
      go_wp2
      go_loop [14] (fun i => ∃ k : Nat, k ≤ s.size ∧ i = .int .i64 k ∧ (s.data.toList.take k).all Lk.stand = true) (fun i => s.size - (intOf i).toNat)
      case atStart => exact ⟨0, Nat.zero_le _, rfl, by simp⟩
      case round =>
        obtain ⟨k, hk, rfl, hall⟩ := hrel
        have HA : Hid ((s.data.toList.take k).all Lk.stand = true) := hall
        clear hall
        by_cases hlt : k < s.size
        · have hkl : k < s.data.toList.length := by omega
          obtain ⟨c, hc⟩ : ∃ c : UInt8, s[k]'hlt = c := ⟨_, rfl⟩
          have hcl : s.data.toList[k] = c := by rw [← hc]; rfl
          have hix := run_index_at s k hlt
          rw [hc] at hix
          have HF : Hid (Lk.stand c = false → m = false) := fun hst => by
            rw [← HM.out]; exact may_not s.data.toList k hkl (by rw [hcl]; exact hst)
          have HT : Hid (Lk.stand c = true → (s.data.toList.take (k + 1)).all Lk.stand = true) := fun hst => by
            rw [List.take_succ_eq_append_getElem hkl, List.all_append, HA.out, hcl]
            simp [hst]
          clear hcl hc
          by_cases hlo : 33 ≤ c.toNat
          · by_cases hhi : c.toNat ≤ 126
            · have hst := stand_mid hlo hhi
              have hback : ((c.toNat : Int)).toNat.toUInt8 = c := by simp
              have hI := fun w => Tryd.strings_IndexByte ⟨#[34, 39, 60, 62, 92, 96]⟩ (c.toNat : Int) w
              rw [hback] at hI
              change ∀ w, Calls Tryd.prog 39 _ w fun e w' => e = .returned (.int .i64 (Lib.indexByte Lk.barred c)) ∧ w' = w at hI
              have HI : Hid (∀ w, Calls Tryd.prog 39 #[.string ⟨#[34, 39, 60, 62, 92, 96]⟩, .int .u8 c.toNat] w fun e w' => e = .returned (.int .i64 (Lib.indexByte Lk.barred c)) ∧ w' = w) := hI
              clear hI hback
              generalize Lib.indexByte Lk.barred c = z at *
              by_cases hz : z < 0
              · have H2 : Hid ((s.data.toList.take (k + 1)).all Lk.stand = true) := HT.out (by rw [hst]; exact decide_eq_true hz)
                clear hst
                go_wp2_with fail
                refine (HI.out _).mono ?_
                rintro e w' ⟨rfl, hw⟩
                rw [hw]
                go_wp2
                go_round
                case rel => exact ⟨k + 1, by omega, by go_num, H2.out⟩
                case measure => simp [intOf]; omega
              · have hmf := HF.out (by rw [hst]; exact decide_eq_false hz)
                subst hmf
                clear hst
                go_wp2_with fail
                refine (HI.out _).mono ?_
                rintro e w' ⟨rfl, hw⟩
                rw [hw]
                go_wp2
                go_ret
                exact ⟨rfl, Below.refl _ _⟩
            · have hmf := HF.out (stand_hi (by omega))
              subst hmf
              go_wp2
              go_ret
              exact ⟨rfl, Below.refl _ _⟩
          · have hmf := HF.out (stand_lo (by omega))
            subst hmf
            go_wp2
            go_ret
            exact ⟨rfl, Below.refl _ _⟩
        · have hal : s.data.toList.all Lk.stand = true := by
            have := HA.out
            rw [List.take_of_length_le (by omega)] at this
            exact this
          have hmm := may_all s.data.toList (by omega) (by omega) hal
          rw [HM.out] at hmm
          have HH : Hid (m = Lk.lead (Lk.scheme s.data.toList)) := hmm
          clear hal hmm
          go_wp2_with fail
          have HT : Hid (Three w.heap.size (w.alloc (.cells scells 9))) := Three.new w
          have HW : Hid (Below w.heap.size w (w.alloc (.cells scells 9))) := (Below.refl _ _).alloc (Nat.le_refl _) _
          change Calls Tryd.prog 21 #[.string s] (w.alloc (.cells scells 9)) _
          generalize w.alloc (.cells scells 9) = w1 at *
          refine (SchemeOf_any s w1 (by omega)).mono ?_
          rintro e w2 ⟨rfl, hb2⟩
          have H2 : Hid (Below w.heap.size w w2) := HW.out.trans (hb2.mono HW.out.size)
          have T2 : Hid (Three w.heap.size w2) := HT.out.below hb2
          clear hb2
          go_wp2_with fail
          refine (lead3 _ _ _ T2.out).mono ?_
          rintro e w3 ⟨rfl, hw⟩
          rw [hw]
          go_wp2
          go_ret
          exact ⟨by rw [HH.out]; rfl, H2.out⟩

def blanks2 : List UInt8 := [32, 9, 13, 10, 12]
theorem bl_idx (x : UInt8) : decide (0 ≤ Lib.indexByte blanks2 x) = Lk.bl x := by
  rw [← Lib.contains_iff_indexByte]
  unfold Lk.bl Lk.blanks blanks2
  simp only [List.contains_cons, List.contains_nil, Bool.or_false]
  cases (x == 32) <;> cases (x == 9) <;> cases (x == 13) <;> cases (x == 10) <;> cases (x == 12) <;> rfl
theorem has_blank (x : UInt8) (w : World) : Calls Tryd.prog 23 #[.string ⟨#[32, 9, 13, 10, 12]⟩, .string (B [x])] w fun e w' => e = .returned (.bool (Lk.bl x)) ∧ w' = w := by
  have := Tryd.strings_Contains_one ⟨#[32, 9, 13, 10, 12]⟩ x w
  change Calls Tryd.prog 23 _ w fun e w' => e = .returned (.bool (decide (0 ≤ Lib.indexByte blanks2 x))) ∧ w' = w at this
  rw [bl_idx] at this
  exact this
theorem trim_ends (l : List UInt8) : Lk.tr Lk.bl (Lk.tl Lk.bl l) = Lk.trim l := (Lk.tr_tl Lk.bl l).symm
theorem ne_nil (x : UInt8) (t : List UInt8) : (B (x :: t)).toList.isEmpty = false := by rw [Lib.toList_data, B_data]; rfl
theorem ne_nil' (t : List UInt8) (x : UInt8) : (B (t ++ [x])).toList.isEmpty = false := by rw [Lib.toList_data, B_data]; simp

set_option maxRecDepth 100000 in
set_option maxHeartbeats 8000000 in
theorem CleanOf_any (s : ByteArray) (w : World) (hs : s.size ≤ 20000) :
    Calls Tryd.prog 22 #[.string s] w fun e w' => e = .returned (.string (B (Lk.clean s.data.toList))) ∧ Below w.heap.size w w' := by
  obtain ⟨l, hl⟩ : ∃ l, s.data.toList = l := ⟨_, rfl⟩
  have hsB : s = B l := by rw [← hl]; rfl
  have hll : l.length ≤ 20000 := by rw [← hl, len_list]; exact hs
  rw [hl]
  subst hsB
  clear hl hs
  obtain ⟨r, hr⟩ : ∃ r, Lk.clean l = r := ⟨_, rfl⟩
  rw [hr]
  have HR : Hid (Lk.clean l = r) := hr
  clear hr
  go_enter Tryd.func22, Tryd.ntmps22
  go_wp2
  go_loopg [0] l.length (fun g v wx => ∃ m : List UInt8, m.length = g ∧ v = .string (B m) ∧ wx = w ∧ m.length ≤ 20000 ∧ Lk.tl Lk.bl m = Lk.tl Lk.bl l)
  case atStart => exact ⟨l, rfl, rfl, rfl, hll, rfl⟩
  case round =>
    obtain ⟨m, hmg, rfl, rfl, hml, hmr⟩ := hrel
    have HM : Hid (Lk.tl Lk.bl m = Lk.tl Lk.bl l) := hmr
    clear hmr
    cases m with
    | nil =>
      have hne : (B []).toList.isEmpty = true := by rw [Lib.toList_data]; rfl
      have H0 : Hid (Lk.tr Lk.bl [] = Lk.trim l) := by show _ = _; rw [← trim_ends, ← HM.out]; rfl
      clear HM
      generalize hbx : B [] = bx at *
      go_wp2
      go_loopg [0] ([] : List UInt8).length (fun g v wx => ∃ m : List UInt8, m.length = g ∧ v = .string (B m) ∧ wx = wr ∧ m.length ≤ 20000 ∧ Lk.tr Lk.bl m = Lk.trim l)
      case atStart => exact ⟨([] : List UInt8), rfl, by first | rfl | rw [hbx], rfl, by first | omega | simp; omega, H0.out⟩
      case round =>
        obtain ⟨m, hmg, rfl, rfl, hml, hmr⟩ := hrel
        have HN : Hid (Lk.tr Lk.bl m = Lk.trim l) := hmr
        clear hmr hbx H0
        rcases List.eq_nil_or_concat m with rfl | ⟨t, x, rfl⟩
        · have HE : Hid (Lk.trim l = []) := HN.out.symm
          have hne : (B []).toList.isEmpty = true := by rw [Lib.toList_data]; rfl
          have hM : Hid (∀ w, Calls Tryd.prog 19 #[.string (B [])] w fun e w' => e = .returned (.bool false) ∧ Below w.heap.size w w') := fun w => MayBe_any (B []) w (by decide)
          have hrr : r = [] := by rw [← HR.out, Lk.clean, HE.out]; rfl
          subst hrr
          generalize B [] = bx at *
          go_wp2_with fail
          refine (hM.out _).mono ?_
          rintro e w2 ⟨rfl, hb2⟩
          have H2 : Hid (Below wr.heap.size wr w2) := hb2
          clear hb2
          go_wp2
          go_ret
          exact ⟨rfl, H2.out⟩
        · simp only [List.concat_eq_append] at *
          have hlen : (t ++ [x]).length = t.length + 1 := by simp
          have hsz := B_size (t ++ [x])
          rw [hlen] at hsz hmg hml
          have hslf : ∀ w, (Instr.slice 9 (.string (B (t ++ [x]))) (some (.int .i64 t.length)) none none).run Tryd.prog w = .ok (.string (B [x])) w := fun w => by
            rw [slice_from (B (t ++ [x])) t.length (by omega) w, B_data]
            simp
          have hsl := fun w => slice_last t x w
          have hsn := Lk.tr_snoc Lk.bl x t
          have hne := ne_nil' t x
          have hszz : ((B (t ++ [x])).size : Int) - 1 = (t.length : Int) := by omega
          have hwr : IntKind.i64.wrap ((B (t ++ [x])).size - 1) = (t.length : Int) := by rw [hszz]; exact IntWalk.i64_in _ ⟨by omega, by omega⟩
          cases hin : Lk.bl x
          · have HE : Hid (Lk.trim l = t ++ [x]) := by show _ = _; rw [← HN.out, hsn, hin]; rfl
            clear hsn
            have hM : Hid (∀ w, Calls Tryd.prog 19 #[.string (B (t ++ [x]))] w fun e w' => e = .returned (.bool (Lk.may (t ++ [x]))) ∧ Below w.heap.size w w') := fun w => MayBe_any (B (t ++ [x])) w (by rw [B_size]; omega)
            clear hsz hmg hlen
            cases hmay : Lk.may (t ++ [x])
            · have hrr : r = [] := by rw [← HR.out, Lk.clean, HE.out, hmay]; rfl
              subst hrr
              rw [hmay] at hM
              generalize B (t ++ [x]) = bx at *
              go_wp2_with (go_at_call 23; refine (has_blank x _).mono ?_; rintro e w' ⟨rfl, hw⟩; rw [hw, hin])
              refine (hM.out _).mono ?_
              rintro e w2 ⟨rfl, hb2⟩
              have H2 : Hid (Below wr.heap.size wr w2) := hb2
              clear hb2
              go_wp2
              go_ret
              exact ⟨rfl, H2.out⟩
            · have hrr : r = t ++ [x] := by rw [← HR.out, Lk.clean, HE.out, hmay]; rfl
              subst hrr
              rw [hmay] at hM
              generalize hbx : B (t ++ [x]) = bx at *
              go_wp2_with (go_at_call 23; refine (has_blank x _).mono ?_; rintro e w' ⟨rfl, hw⟩; rw [hw, hin])
              refine (hM.out _).mono ?_
              rintro e w2 ⟨rfl, hb2⟩
              have H2 : Hid (Below wr.heap.size wr w2) := hb2
              clear hb2
              go_wp2
              go_ret
              exact ⟨by rw [hbx]; rfl, H2.out⟩
          · have HN2 : Hid (Lk.tr Lk.bl t = Lk.trim l) := by show _ = _; rw [← HN.out, hsn, hin]; rfl
            clear hsn hsz
            generalize B (t ++ [x]) = bx at *
            go_wp2_with (go_at_call 23; refine (has_blank x _).mono ?_; rintro e w' ⟨rfl, hw⟩; rw [hw, hin])
            go_roundg t.length
            case measure => omega
            case rel => exact ⟨t, rfl, rfl, rfl, by omega, HN2.out⟩
    | cons x t =>
      have hsz := B_size (x :: t)
      have hpos : 0 < (B (x :: t)).size := by rw [hsz]; simp
      have hsl0 : ∀ w, (Instr.slice 9 (.string (B (x :: t))) none (some (.int .i64 1)) none).run Tryd.prog w = .ok (.string (B [x])) w := fun w => slice_to (B (x :: t)) 1 (by omega) w
      have hsl : ∀ w, (Instr.slice 9 (.string (B (x :: t))) (some (.int .i64 1)) none none).run Tryd.prog w = .ok (.string (B t)) w := fun w => slice_from (B (x :: t)) 1 (by omega) w
      have hne := ne_nil x t
      simp only [List.length_cons] at hmg hml
      cases hin : Lk.bl x
      · have H0 : Hid (Lk.tr Lk.bl (x :: t) = Lk.trim l) := by show _ = _; rw [← trim_ends, ← HM.out, tl_stop _ x t hin]
        clear HM hsz
        generalize hbx : B (x :: t) = bx at *
        go_wp2_with (go_at_call 23; refine (has_blank x _).mono ?_; rintro e w' ⟨rfl, hw⟩; rw [hw, hin])
        clear hin hne hsl hsl0 hpos
        go_loopg [0] (x :: t).length (fun g v wx => ∃ m : List UInt8, m.length = g ∧ v = .string (B m) ∧ wx = wr ∧ m.length ≤ 20000 ∧ Lk.tr Lk.bl m = Lk.trim l)
        case atStart => exact ⟨x :: t, rfl, by first | rfl | rw [hbx], rfl, by first | omega | simp; omega, H0.out⟩
        case round =>
          obtain ⟨m, hmg, rfl, rfl, hml, hmr⟩ := hrel
          have HN : Hid (Lk.tr Lk.bl m = Lk.trim l) := hmr
          clear hmr hbx H0
          rcases List.eq_nil_or_concat m with rfl | ⟨t2, x2, rfl⟩
          · have HE : Hid (Lk.trim l = []) := HN.out.symm
            have hne : (B []).toList.isEmpty = true := by rw [Lib.toList_data]; rfl
            have hM : Hid (∀ w, Calls Tryd.prog 19 #[.string (B [])] w fun e w' => e = .returned (.bool false) ∧ Below w.heap.size w w') := fun w => MayBe_any (B []) w (by decide)
            have hrr : r = [] := by rw [← HR.out, Lk.clean, HE.out]; rfl
            subst hrr
            generalize B [] = bx at *
            go_wp2_with fail
            refine (hM.out _).mono ?_
            rintro e w2 ⟨rfl, hb2⟩
            have H2 : Hid (Below wr.heap.size wr w2) := hb2
            clear hb2
            go_wp2
            go_ret
            exact ⟨rfl, H2.out⟩
          · simp only [List.concat_eq_append] at *
            have hlen : (t2 ++ [x2]).length = t2.length + 1 := by simp
            have hsz := B_size (t2 ++ [x2])
            rw [hlen] at hsz hmg hml
            have hslf : ∀ w, (Instr.slice 9 (.string (B (t2 ++ [x2]))) (some (.int .i64 t2.length)) none none).run Tryd.prog w = .ok (.string (B [x2])) w := fun w => by
              rw [slice_from (B (t2 ++ [x2])) t2.length (by omega) w, B_data]
              simp
            have hsl := fun w => slice_last t2 x2 w
            have hsn := Lk.tr_snoc Lk.bl x2 t2
            have hne := ne_nil' t2 x2
            have hszz : ((B (t2 ++ [x2])).size : Int) - 1 = (t2.length : Int) := by omega
            have hwr : IntKind.i64.wrap ((B (t2 ++ [x2])).size - 1) = (t2.length : Int) := by rw [hszz]; exact IntWalk.i64_in _ ⟨by omega, by omega⟩
            cases hin : Lk.bl x2
            · have HE : Hid (Lk.trim l = t2 ++ [x2]) := by show _ = _; rw [← HN.out, hsn, hin]; rfl
              clear hsn
              have hM : Hid (∀ w, Calls Tryd.prog 19 #[.string (B (t2 ++ [x2]))] w fun e w' => e = .returned (.bool (Lk.may (t2 ++ [x2]))) ∧ Below w.heap.size w w') := fun w => MayBe_any (B (t2 ++ [x2])) w (by rw [B_size]; omega)
              clear hsz hmg hlen
              cases hmay : Lk.may (t2 ++ [x2])
              · have hrr : r = [] := by rw [← HR.out, Lk.clean, HE.out, hmay]; rfl
                subst hrr
                rw [hmay] at hM
                generalize B (t2 ++ [x2]) = bx at *
                go_wp2_with (go_at_call 23; refine (has_blank x2 _).mono ?_; rintro e w' ⟨rfl, hw⟩; rw [hw, hin])
                refine (hM.out _).mono ?_
                rintro e w2 ⟨rfl, hb2⟩
                have H2 : Hid (Below wr.heap.size wr w2) := hb2
                clear hb2
                go_wp2
                go_ret
                exact ⟨rfl, H2.out⟩
              · have hrr : r = t2 ++ [x2] := by rw [← HR.out, Lk.clean, HE.out, hmay]; rfl
                subst hrr
                rw [hmay] at hM
                generalize hbx : B (t2 ++ [x2]) = bx at *
                go_wp2_with (go_at_call 23; refine (has_blank x2 _).mono ?_; rintro e w' ⟨rfl, hw⟩; rw [hw, hin])
                refine (hM.out _).mono ?_
                rintro e w2 ⟨rfl, hb2⟩
                have H2 : Hid (Below wr.heap.size wr w2) := hb2
                clear hb2
                go_wp2
                go_ret
                exact ⟨by rw [hbx]; rfl, H2.out⟩
            · have HN2 : Hid (Lk.tr Lk.bl t2 = Lk.trim l) := by show _ = _; rw [← HN.out, hsn, hin]; rfl
              clear hsn hsz
              generalize B (t2 ++ [x2]) = bx at *
              go_wp2_with (go_at_call 23; refine (has_blank x2 _).mono ?_; rintro e w' ⟨rfl, hw⟩; rw [hw, hin])
              go_roundg t2.length
              case measure => omega
              case rel => exact ⟨t2, rfl, rfl, rfl, by omega, HN2.out⟩
      · have H2 : Hid (Lk.tl Lk.bl t = Lk.tl Lk.bl l) := by show _ = _; rw [← HM.out]; exact (tl_step _ x t hin).symm
        clear hsz
        generalize B (x :: t) = bx at *
        go_wp2_with (go_at_call 23; refine (has_blank x _).mono ?_; rintro e w' ⟨rfl, hw⟩; rw [hw, hin])
        go_roundg t.length
        case measure => omega
        case rel => exact ⟨t, rfl, rfl, rfl, by omega, H2.out⟩
end Go.Proofs.YtjoeehkdionajaaDoor
