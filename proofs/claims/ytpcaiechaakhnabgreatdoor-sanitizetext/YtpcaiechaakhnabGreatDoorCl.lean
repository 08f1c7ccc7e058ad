/-
  strings.Trim at a set of ASCII characters and whatever text; link.Clean.
-/
import Derived.Test.YtpcaiechaakhnabGreatDoorM3
namespace Go.Proofs.YtpcaiechaakhnabGreatDoor
open Go.RowKit

/-- In block b lies the set of the bytes cs. -/
def SetAt (b : Nat) (cs : List UInt8) (w : World) : Prop := ∀ x : UInt8, w.cell? ⟨b, x.toNat, none⟩ = some (.bool (cs.contains x))

theorem tl_step (p : UInt8 → Bool) (x : UInt8) (t : List UInt8) (h : p x = true) : Lk.tl p (x :: t) = Lk.tl p t := by simp [Lk.tl, h]
theorem tl_stop (p : UInt8 → Bool) (x : UInt8) (t : List UInt8) (h : p x = false) : Lk.tl p (x :: t) = x :: t := by simp [Lk.tl, h]

set_option maxRecDepth 100000 in
set_option maxHeartbeats 1600000 in
theorem trimL (l cs : List UInt8) (b : Nat) (w : World) (hs : l.length ≤ 9223372036854775807) (hc : SetAt b cs w) :
    Calls Tryz.prog 139 #[.string (B l), .pointer (some ⟨b, 0, none⟩)] w fun e w' => e = .returned (.string (B (Lk.tl (fun c => cs.contains c) l))) ∧ w' = w := by
  obtain ⟨r, hr⟩ : ∃ r, Lk.tl (fun c => cs.contains c) l = r := ⟨_, rfl⟩
  rw [hr]
  have HR : Hid (Lk.tl (fun c => cs.contains c) l = r) := hr
  have HC : Hid (SetAt b cs w) := hc
  clear hr hc
  go_enter Tryz.func139, Tryz.ntmps139
  go_wp2
  go_loopg [0] l.length (fun g v wx => ∃ m : List UInt8, m.length = g ∧ v = .string (B m) ∧ wx = w ∧ m.length ≤ 9223372036854775807 ∧ Lk.tl (fun c => cs.contains c) m = r)
  case atStart => exact ⟨l, rfl, rfl, rfl, hs, HR.out⟩
  case round =>
    obtain ⟨m, hmg, rfl, rfl, hml, hmr⟩ := hrel
    have HM : Hid (Lk.tl (fun c => cs.contains c) m = r) := hmr
    clear hmr HR
    have hsz := B_size m
    cases m with
    | nil =>
      have hz : ¬ ((0 : Int) < 0) := by omega
      simp only [List.length_nil] at hsz
      have hrr : r = [] := HM.out.symm
      subst hrr
      go_wp2
      go_ret
      exact ⟨rfl, rfl⟩
    | cons x t =>
      have hpos : 0 < (B (x :: t)).size := by rw [hsz]; simp
      have hix : ∀ w, (Instr.index 9 (.string (B (x :: t))) (.int .i64 0)).run Tryz.prog w = .ok (.int .u8 x.toNat) w := fun w => run_index_at (B (x :: t)) 0 hpos w
      have hsl : ∀ w, (Instr.slice 9 (.string (B (x :: t))) (some (.int .i64 1)) none none).run Tryz.prog w = .ok (.string (B t)) w := fun w => slice_from (B (x :: t)) 1 (by omega) w
      have hcx := HC.out x
      simp only [List.length_cons] at hmg hml
      have hposz : (0 : Int) < ((B (x :: t)).size : Int) := by omega
      cases hin : cs.contains x
      · rw [hin] at hcx
        have hrr : r = x :: t := by rw [← HM.out]; exact tl_stop _ x t hin
        subst hrr
        clear hsz
        generalize hB : B (x :: t) = bx at *
        go_wp2_with (go_at_call 146; refine (Tryz.asciiSet_contains _ x _ _ hcx).mono ?_; rintro e w' ⟨rfl, hw⟩; rw [hw])
        go_ret
        exact ⟨by rw [hB]; rfl, rfl⟩
      · rw [hin] at hcx
        have H2 : Hid (Lk.tl (fun c => cs.contains c) t = r) := by show _ = _; rw [← HM.out]; exact (tl_step _ x t hin).symm
        clear hsz
        generalize B (x :: t) = bx at *
        go_wp2_with (go_at_call 146; refine (Tryz.asciiSet_contains _ x _ _ hcx).mono ?_; rintro e w' ⟨rfl, hw⟩; rw [hw])
        go_roundg t.length
        case measure => omega
        case rel => exact ⟨t, rfl, rfl, rfl, by omega, H2.out⟩

theorem index_last (m : List UInt8) (x : UInt8) (w : World) : (Instr.index 9 (.string (B (m ++ [x]))) (.int .i64 m.length)).run Tryz.prog w = .ok (.int .u8 x.toNat) w := by
  have h : m.length < (B (m ++ [x])).size := by rw [B_size]; simp
  rw [run_index_at (B (m ++ [x])) m.length h w]
  have : (B (m ++ [x]))[m.length]'h = x := by
    have h1 := Lib.data_getElem? (B (m ++ [x])) m.length h
    rw [B_data, List.getElem?_append_right (Nat.le_refl _)] at h1
    simp at h1
    exact h1.symm
  rw [this]
theorem slice_last (m : List UInt8) (x : UInt8) (w : World) : (Instr.slice 9 (.string (B (m ++ [x]))) none (some (.int .i64 m.length)) none).run Tryz.prog w = .ok (.string (B m)) w := by
  rw [slice_to (B (m ++ [x])) m.length (by rw [B_size]; simp) w, B_data]
  simp

set_option maxRecDepth 100000 in
set_option maxHeartbeats 1600000 in
theorem trimR (l cs : List UInt8) (b : Nat) (w : World) (hs : l.length ≤ 9223372036854775807) (hc : SetAt b cs w) :
    Calls Tryz.prog 140 #[.string (B l), .pointer (some ⟨b, 0, none⟩)] w fun e w' => e = .returned (.string (B (Lk.tr (fun c => cs.contains c) l))) ∧ w' = w := by
  obtain ⟨r, hr⟩ : ∃ r, Lk.tr (fun c => cs.contains c) l = r := ⟨_, rfl⟩
  rw [hr]
  have HR : Hid (Lk.tr (fun c => cs.contains c) l = r) := hr
  have HC : Hid (SetAt b cs w) := hc
  clear hr hc
  go_enter Tryz.func140, Tryz.ntmps140
  go_wp2
  go_loopg [0] l.length (fun g v wx => ∃ m : List UInt8, m.length = g ∧ v = .string (B m) ∧ wx = w ∧ m.length ≤ 9223372036854775807 ∧ Lk.tr (fun c => cs.contains c) m = r)
  case atStart => exact ⟨l, rfl, rfl, rfl, hs, HR.out⟩
  case round =>
    obtain ⟨m, hmg, rfl, rfl, hml, hmr⟩ := hrel
    have HM : Hid (Lk.tr (fun c => cs.contains c) m = r) := hmr
    clear hmr HR
    have hsz := B_size m
    rcases List.eq_nil_or_concat m with rfl | ⟨t, x, rfl⟩
    · simp only [List.length_nil] at hsz
      have hrr : r = [] := HM.out.symm
      subst hrr
      go_wp2
      go_ret
      exact ⟨rfl, rfl⟩
    · simp only [List.concat_eq_append] at *
      have hix := fun w => index_last t x w
      have hsl := fun w => slice_last t x w
      have hcx := HC.out x
      have hsn := Lk.tr_snoc (fun c => cs.contains c) x t
      have hlen : (t ++ [x]).length = t.length + 1 := by simp
      rw [hlen] at hsz hmg hml
      have hposz : (0 : Int) < ((B (t ++ [x])).size : Int) := by omega
      have hszz : ((B (t ++ [x])).size : Int) - 1 = (t.length : Int) := by omega
      have hwr : IntKind.i64.wrap ((B (t ++ [x])).size - 1) = (t.length : Int) := by rw [hszz]; exact IntWalk.i64_in _ ⟨by omega, by omega⟩
      cases hin : cs.contains x
      · rw [hin] at hcx
        have hrr : r = t ++ [x] := by rw [← HM.out, hsn]; simp only [hin]; rfl
        subst hrr
        clear hsz hsn
        generalize hB : B (t ++ [x]) = bx at *
        go_wp2_with (go_at_call 146; refine (Tryz.asciiSet_contains _ x _ _ hcx).mono ?_; rintro e w' ⟨rfl, hw⟩; rw [hw])
        go_ret
        exact ⟨by rw [hB]; rfl, rfl⟩
      · rw [hin] at hcx
        have H2 : Hid (Lk.tr (fun c => cs.contains c) t = r) := by show _ = _; rw [← HM.out, hsn]; simp only [hin]; rfl
        clear hsz hsn
        generalize B (t ++ [x]) = bx at *
        go_wp2_with (go_at_call 146; refine (Tryz.asciiSet_contains _ x _ _ hcx).mono ?_; rintro e w' ⟨rfl, hw⟩; rw [hw])
        go_roundg t.length
        case measure => omega
        case rel => exact ⟨t, rfl, rfl, rfl, by omega, H2.out⟩

theorem blanks_ascii : Ascii ⟨#[32, 9, 10, 13, 12]⟩ := by
  intro j b h
  match j, h with
  | 0, h => cases h; decide
  | 1, h => cases h; decide
  | 2, h => cases h; decide
  | 3, h => cases h; decide
  | 4, h => cases h; decide
  | j + 5, h => simp at h

set_option maxRecDepth 100000 in
set_option maxHeartbeats 1600000 in
theorem trim_any (s : ByteArray) (w : World) (hs : s.size ≤ 9223372036854775807) :
    Calls Tryz.prog 124 #[.string s, .string ⟨#[32, 9, 10, 13, 12]⟩] w fun e w' => e = .returned (.string (B (Lk.trim s.data.toList))) ∧ Below w.heap.size w w' := by
  have hl := len_list s
  by_cases h0 : s.size = 0
  · have hnil : s.data.toList = [] := List.eq_nil_of_length_eq_zero (by omega)
    have hs0 : s = ⟨#[]⟩ := ext_list hnil
    subst hs0
    clear hnil hl
    go_enter Tryz.func124, Tryz.ntmps124
    go_wp2
    go_ret
    exact ⟨rfl, Below.refl _ _⟩
  · have hemp : s.toList.isEmpty = false := by
      rw [Lib.toList_data]
      cases h : s.data.toList with
      | nil => rw [h, List.length_nil] at hl; omega
      | cons _ _ => rfl
    obtain ⟨r, hr⟩ : ∃ r, Lk.trim s.data.toList = r := ⟨_, rfl⟩
    rw [hr]
    have hM := Tryz.strings_makeASCIISet (zero_of_info h116).1 ⟨#[32, 9, 10, 13, 12]⟩ w (by decide) blanks_ascii
    change Calls Tryz.prog 138 _ w fun e w' => e = .returned (.tuple #[.agg (Lib.setCells Lk.blanks), .bool true]) ∧ w' = w.alloc (.cells (Lib.setCells Lk.blanks) 193) at hM
    have hsc := Lw.store w Lk.blanks
    have hsz := Lib.setCells_size Lk.blanks
    have HB : Hid (Below w.heap.size w (Lw w Lk.blanks)) := Lw.below w _
    have hset : SetAt (w.heap.size + 1) Lk.blanks (Lw w Lk.blanks) := Lw.cell w _
    have hv := (zero_of_info h116).1
    have HR := trimR s.data.toList Lk.blanks (w.heap.size + 1) (Lw w Lk.blanks) (by omega) hset
    have HL := trimL (Lk.tr (fun c => Lk.blanks.contains c) s.data.toList) Lk.blanks (w.heap.size + 1) (Lw w Lk.blanks) (by have := Lk.tr_len (fun c => Lk.blanks.contains c) s.data.toList; omega) hset
    change Calls Tryz.prog 139 _ _ fun e w' => e = .returned (.string (B (Lk.trim s.data.toList))) ∧ w' = Lw w Lk.blanks at HL
    rw [hr] at HL
    rw [B_of] at HR
    have HRR : Hid (Calls Tryz.prog 140 #[.string s, .pointer (some ⟨w.heap.size + 1, 0, none⟩)] (Lw w Lk.blanks) fun e w' => e = .returned (.string (B (Lk.tr (fun c => Lk.blanks.contains c) s.data.toList))) ∧ w' = Lw w Lk.blanks) := HR
    have HLL : Hid (Calls Tryz.prog 139 #[.string (B (Lk.tr (fun c => Lk.blanks.contains c) s.data.toList)), .pointer (some ⟨w.heap.size + 1, 0, none⟩)] (Lw w Lk.blanks) fun e w' => e = .returned (.string (B r)) ∧ w' = Lw w Lk.blanks) := HL
    clear HR HL hr hset hl
    generalize B (Lk.tr (fun c => Lk.blanks.contains c) s.data.toList) = m at *
    go_enter Tryz.func124, Tryz.ntmps124
    go_wp2_with (go_at_call 138; refine hM.mono ?_; rintro e w' ⟨rfl, hw⟩; rw [hw])
    refine HRR.out.mono ?_
    rintro e w' ⟨rfl, hw⟩
    rw [hw]
    go_wp2_with fail
    refine HLL.out.mono ?_
    rintro e w' ⟨rfl, hw⟩
    rw [hw]
    go_wp2
    go_ret
    exact ⟨rfl, HB.out⟩

set_option maxHeartbeats 400000 in
theorem clone_any (s : ByteArray) (w : World) (hs : s.size ≤ 281474976710656) : Calls Tryz.prog 125 #[.string s] w fun e w' => e = .returned (.string s) ∧ Below w.heap.size w w' := by
  go_enter Tryz.func125, Tryz.ntmps125
  go_wp2_with fail
  refine (Tryz.stringslite_Clone s w hs).mono ?_
  rintro e w1 ⟨rfl, hb1⟩
  have H1 : Hid (Below w.heap.size w w1) := hb1
  clear hb1
  go_wp2
  go_ret
  exact ⟨rfl, H1.out⟩

set_option maxHeartbeats 400000 in
theorem clean_many (s : ByteArray) (w : World) (hs : s.size ≤ 9223372036854775807) (h : 20000 < s.size) :
    Calls Tryz.prog 111 #[.string s] w fun e w' => e = .returned (.tuple #[.string ⟨#[]⟩, .int .i64 2]) ∧ w' = w := by
  go_enter Tryz.func111, Tryz.ntmps111
  go_wp2
  go_ret2
  exact ⟨rfl, rfl⟩

set_option maxRecDepth 100000 in
set_option maxHeartbeats 800000 in
theorem clean_any (s : ByteArray) (w : World) (hs : s.size ≤ 20000) (hS : Sch w) :
    Calls Tryz.prog 111 #[.string s] w fun e w' => e = .returned (.tuple #[.string (B (Lk.clean s.data.toList)), .int .i64 0]) ∧ Below w.heap.size w w' := by
  have HS : Hid (Sch w) := hS
  clear hS
  have htl := Lk.trim_len s.data.toList
  rw [len_list] at htl
  have hT : Hid (Calls Tryz.prog 124 #[.string s, .string ⟨#[32, 9, 10, 13, 12]⟩] w fun e w' => e = .returned (.string (B (Lk.trim s.data.toList))) ∧ Below w.heap.size w w') := trim_any s w (by omega)
  have hM : Hid (∀ w, Sch w → Calls Tryz.prog 116 #[.string (B (Lk.trim s.data.toList))] w fun e w' => e = .returned (.bool (Lk.may (Lk.trim s.data.toList))) ∧ Below w.heap.size w w') := fun w h => may_any (B (Lk.trim s.data.toList)) w (by rw [B_size]; omega) h
  have hC : Hid (∀ w, Calls Tryz.prog 125 #[.string (B (Lk.trim s.data.toList))] w fun e w' => e = .returned (.string (B (Lk.trim s.data.toList))) ∧ Below w.heap.size w w') := fun w => clone_any _ w (by rw [B_size]; omega)
  cases hm : Lk.may (Lk.trim s.data.toList)
  · have hcl : Lk.clean s.data.toList = [] := by unfold Lk.clean; rw [hm]; rfl
    rw [hcl]
    rw [hm] at hM
    clear hm hcl htl
    generalize B (Lk.trim s.data.toList) = t at *
    go_enter Tryz.func111, Tryz.ntmps111
    go_wp2_with fail
    refine hT.out.mono ?_
    rintro e w1 ⟨rfl, hb1⟩
    have H1 : Hid (Below w.heap.size w w1) := hb1
    have S1 : Hid (Sch w1) := HS.out.below hb1
    clear hb1
    go_wp2_with fail
    refine (hM.out _ S1.out).mono ?_
    rintro e w2 ⟨rfl, hb2⟩
    have H2 : Hid (Below w.heap.size w w2) := H1.out.trans (hb2.mono H1.out.size)
    clear hb2
    go_wp2
    go_ret2
    exact ⟨rfl, H2.out⟩
  · have hcl : Lk.clean s.data.toList = Lk.trim s.data.toList := by unfold Lk.clean; rw [hm]; rfl
    rw [hcl]
    rw [hm] at hM
    clear hm hcl htl
    generalize B (Lk.trim s.data.toList) = t at *
    go_enter Tryz.func111, Tryz.ntmps111
    go_wp2_with fail
    refine hT.out.mono ?_
    rintro e w1 ⟨rfl, hb1⟩
    have H1 : Hid (Below w.heap.size w w1) := hb1
    have S1 : Hid (Sch w1) := HS.out.below hb1
    clear hb1
    go_wp2_with fail
    refine (hM.out _ S1.out).mono ?_
    rintro e w2 ⟨rfl, hb2⟩
    have H2 : Hid (Below w.heap.size w w2) := H1.out.trans (hb2.mono H1.out.size)
    clear hb2
    go_wp2_with fail
    refine (hC.out _).mono ?_
    rintro e w3 ⟨rfl, hb3⟩
    have H3 : Hid (Below w.heap.size w w3) := H2.out.trans (hb3.mono H2.out.size)
    clear hb3
    go_wp2
    go_ret2
    exact ⟨rfl, H3.out⟩
end Go.Proofs.YtpcaiechaakhnabGreatDoor
