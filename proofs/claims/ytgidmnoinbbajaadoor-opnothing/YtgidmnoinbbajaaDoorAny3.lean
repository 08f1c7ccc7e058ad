/-
  strings.IndexAny and ContainsAny at a set of two or more ASCII characters and whatever text: the first byte that is among them; whether there is one.
-/
import Derived.Test.YtgidmnoinbbajaaDoorAny2
namespace Go.Proofs.YtgidmnoinbbajaaDoor
open Go.RowKit

/-- The iterator of the text s stands at place i, in block k; below, all is as it was. -/
def Iter (w : World) (s : ByteArray) (i : Nat) (wx : World) : Prop := wx.heap[w.heap.size]? = some (.stringIter s i) ∧ Below w.heap.size w wx

theorem Iter.start (w : World) (s : ByteArray) : Iter w s 0 (w.iter s 0) := ⟨World.iter_heap w s 0, (Below.refl _ _).alloc (Nat.le_refl _) _⟩
theorem Iter.next {w : World} {s : ByteArray} {i : Nat} {wx : World} (h : Iter w s i wx) (j : Nat) : Iter w s j (wx.iterAt w.heap.size s j) :=
  ⟨Lib.iterAt_heap wx w.heap.size s i j h.1, Lib.below_iterAt h.2 (Nat.le_refl _) s j⟩
theorem Iter.below {w : World} {s : ByteArray} {i : Nat} {wx w2 : World} (h : Iter w s i wx) (hb : Below wx.heap.size wx w2) : Iter w s i w2 :=
  ⟨(hb.block _ (Array.getElem?_eq_some_iff.1 h.1).1).trans h.1, h.2.trans (hb.mono h.2.size)⟩

theorem noAny_span {s chars : ByteArray} (hc : Ascii chars) {i n : Nat} (h : Lib.NoAny s.data.toList chars.data.toList i) (hs : ∀ j, i ≤ j → j < i + n → ∃ hj : j < s.size, 128 ≤ (s[j]'hj).toNat) : Lib.NoAny s.data.toList chars.data.toList (i + n) := by
  intro j b hj hb
  by_cases hji : j < i
  · exact h j b hji hb
  · obtain ⟨hjs, h128⟩ := hs j (by omega) hj
    rw [Lib.data_getElem? s j hjs] at hb
    cases hb
    have := ascii_out hc _ h128 0
    simpa using this

set_option maxHeartbeats 8000000 in
set_option maxRecDepth 1000000 in
theorem ia_short (s chars : ByteArray) (w : World) (h2 : 2 ≤ chars.size) (h8 : s.size ≤ 8) (hc : Ascii chars) :
    Calls Tryd.prog 97 #[.string s, .string chars] w fun e w' => e = .returned (.int .i64 (Lib.indexAny s.data.toList chars.data.toList)) ∧ Below w.heap.size w w' := by
  have HC : Hid (Ascii chars) := hc
  clear hc
  have hemp : chars.toList.isEmpty = false := by
    rw [Lib.toList_data]
    cases h : chars.data.toList with
    | nil => have := Lib.size_eq chars; rw [h, List.length_nil] at this; omega
    | cons _ _ => rfl
  have hn1 : ((chars.size : Int) == 1) = false := beq_eq_false_iff_ne.2 (by omega)
  have h8z : decide ((8 : Int) < (s.size : Int)) = false := decide_eq_false (by omega)
  go_enter Tryd.func97, Tryd.ntmps97
  go_wp2_with (go_at_call 104; refine (Tryd.strings_shouldUseASCIISet _ _).mono ?_; rintro e w' ⟨rfl, hw⟩; rw [hw, h8z])
  go_loopg [9, 10] s.size (fun g _ _ wx => ∃ i : Nat, i + g = s.size ∧ Iter w s i wx ∧ Lib.NoAny s.data.toList chars.data.toList i)
  case atStart => exact ⟨0, by omega, Iter.start w s, Lib.NoAny.zero _ _⟩
  case round =>
    obtain ⟨i, hig, hit, hno⟩ := hrel
    have HN : Hid (Lib.NoAny s.data.toList chars.data.toList i) := hno
    have HI : Hid (Iter w s i wr) := hit
    clear hno hit
    by_cases hi : i < s.size
    · obtain ⟨x, hx⟩ : ∃ x : UInt8, s[i]'hi = x := ⟨_, rfl⟩
      have hxl : s.data.toList[i]? = some x := by rw [← hx]; exact Lib.data_getElem? s i hi
      by_cases hx128 : x.toNat < 128
      · have hnx := fun ty => Lib.run_next_ascii_at (P := Tryd.prog) wr w.heap.size s i ty HI.out.1 hi (by rw [hx]; exact hx128)
        rw [hx] at hnx
        obtain ⟨wn, hwn⟩ : ∃ wn, wr.iterAt w.heap.size s (i + 1) = wn := ⟨_, rfl⟩
        rw [hwn] at hnx
        have H1 : Hid (Iter w s (i + 1) wn) := by rw [← hwn]; exact HI.out.next (i + 1)
        have Hx : Hid (s.data.toList[i]? = some x) := hxl
        clear hxl hx hwn
        have hcon := Lib.contains_iff_indexByte chars.data.toList x
        have hback : ((x.toNat : Int)).toNat.toUInt8 = x := by simp
        cases hin : chars.data.toList.contains x
        · rw [hin] at hcon
          have hlt : ¬ ((0 : Int) ≤ Lib.indexByte chars.data.toList x) := of_decide_eq_false hcon.symm
          have Hin : Hid (chars.data.toList.contains x = false) := hin
          clear hcon hin
          go_wp2_with (go_at_call 103; refine (Tryd.strings_IndexRune_ascii _ _ _ (by omega) (by omega)).mono ?_; rintro e w' ⟨rfl, hw⟩; rw [hw, hback])
          go_roundg (s.size - (i + 1))
          case measure => omega
          case rel => exact ⟨i + 1, by omega, H1.out, HN.out.succ Hx.out Hin.out⟩
        · rw [hin] at hcon
          have hge : (0 : Int) ≤ Lib.indexByte chars.data.toList x := of_decide_eq_true hcon.symm
          have Hin : Hid (chars.data.toList.contains x = true) := hin
          clear hcon hin
          go_wp2_with (go_at_call 103; refine (Tryd.strings_IndexRune_ascii _ _ _ (by omega) (by omega)).mono ?_; rintro e w' ⟨rfl, hw⟩; rw [hw, hback])
          go_ret
          exact ⟨by rw [Lib.indexAny_hit HN.out Hx.out Hin.out]; rfl, H1.out.2⟩
      · have hhi : 128 ≤ (s[i]'hi).toNat := by rw [hx]; omega
        have hsp := decode_span s i hi hhi
        obtain ⟨hr, hn⟩ := decode_high s i hi hhi
        have hnx := fun ty => Lib.run_next_any_at (P := Tryd.prog) wr w.heap.size s i ty HI.out.1 hi
        obtain ⟨r, n, hd⟩ : ∃ r n, Utf8.decode s i = (r, n) := ⟨_, _, rfl⟩
        rw [hd] at hnx hsp hr hn
        simp only at hnx hsp hr hn
        obtain ⟨wn, hwn⟩ : ∃ wn, wr.iterAt w.heap.size s (i + n) = wn := ⟨_, rfl⟩
        rw [hwn] at hnx
        have H1 : Hid (Iter w s (i + n) wn) := by rw [← hwn]; exact HI.out.next (i + n)
        have H2 : Hid (Lib.NoAny s.data.toList chars.data.toList (i + n)) := noAny_span HC.out HN.out hsp
        have hin : i + n ≤ s.size := by
          obtain ⟨hj, _⟩ := hsp (i + (n - 1)) (by omega) (by omega)
          omega
        clear hsp hd hwn hhi hxl hx
        go_wp2_with fail
        refine (ir_big chars r _ HC.out (by omega)).mono ?_
        rintro e w2 ⟨rfl, hb2⟩
        have H3 : Hid (Iter w s (i + n) w2) := H1.out.below hb2
        clear hb2
        go_wp2
        go_roundg (s.size - (i + n))
        case measure => omega
        case rel => exact ⟨i + n, by omega, H3.out, H2.out⟩
    · have hnx := fun ty => Lib.run_next_end_at (P := Tryd.prog) wr w.heap.size s i ty HI.out.1 hi
      go_wp2
      go_ret
      exact ⟨by rw [Lib.indexAny_none (by rw [← Lib.size_eq, show s.size = i by omega]; exact HN.out)]; rfl, HI.out.2⟩

theorem h116 : (Tryd.prog.info? 126).map (fun i => (i.zero, i.size)) = some (some (.agg (Array.replicate 256 (.bool false))), 256) := by kernel_rfl

/-- The world in which the set of the bytes cs lies twice behind what was there: makeASCIISet's own, and a copy. -/
def Lw (w : World) (cs : List UInt8) : World := (w.alloc (.cells (Lib.setCells cs) 126)).alloc (.cells (Lib.setCells cs) 126)
theorem Lw.below (w : World) (cs : List UInt8) : Below w.heap.size w (Lw w cs) := ((Below.refl _ _).alloc (Nat.le_refl _) _).alloc (by simp) _
theorem Lw.cell (w : World) (cs : List UInt8) (x : UInt8) : (Lw w cs).cell? ⟨w.heap.size + 1, x.toNat, none⟩ = some (.bool (cs.contains x)) := by
  unfold Lw
  have h : (w.alloc (.cells (Lib.setCells cs) 126)).heap.size = w.heap.size + 1 := by simp
  rw [World.cell?_alloc_at _ _ _ _ (by simp), Lib.setCells_at]
theorem Lw.store (w : World) (cs : List UInt8) : (storeCells ⟨w.heap.size + 1, 0, none⟩ (Lib.setCells cs).toList 0).run Tryd.prog ((w.alloc (.cells (Lib.setCells cs) 126)).alloc (.cells (Array.replicate 256 (.bool false)) 126)) = .ok () (Lw w cs) := by
  have := run_storeCells_new (P := Tryd.prog) (w.alloc (.cells (Lib.setCells cs) 126)) 126 (Array.replicate 256 (.bool false)) (Lib.setCells cs) (by rw [Lib.setCells_size]; exact (zero_of_info h116).2) (by rw [Lib.setCells_size, Array.size_replicate]) (Lib.setCells_one _)
  simpa [Lw] using this

theorem not_empty {s : ByteArray} (h : 1 ≤ s.size) : s.toList.isEmpty = false := by
  rw [Lib.toList_data]
  cases hl : s.data.toList with
  | nil => have := Lib.size_eq s; rw [hl, List.length_nil] at this; omega
  | cons _ _ => rfl

set_option maxHeartbeats 3200000 in
set_option maxRecDepth 100000 in
theorem ia_long (s chars : ByteArray) (w : World) (h2 : 2 ≤ chars.size) (h3 : chars.size ≤ 100) (h8 : 8 < s.size) (hs : s.size ≤ 9223372036854775807) (hc : Ascii chars) :
    Calls Tryd.prog 97 #[.string s, .string chars] w fun e w' => e = .returned (.int .i64 (Lib.indexAny s.data.toList chars.data.toList)) ∧ Below w.heap.size w w' := by
  obtain ⟨z, hz⟩ : ∃ z, Lib.indexAny s.data.toList chars.data.toList = z := ⟨_, rfl⟩
  rw [hz]
  have HZ : Hid (Lib.indexAny s.data.toList chars.data.toList = z) := hz
  have HM : Hid (Calls Tryd.prog 105 #[.string chars] w fun e w' => e = .returned (.tuple #[.agg (Lib.setCells chars.data.toList), .bool true]) ∧ w' = w.alloc (.cells (Lib.setCells chars.data.toList) 126)) := Tryd.strings_makeASCIISet (zero_of_info h116).1 chars w (by omega) hc
  have HL : Hid (Below w.heap.size w (Lw w chars.data.toList)) := Lw.below w _
  have HC : Hid (∀ x : UInt8, (Lw w chars.data.toList).cell? ⟨w.heap.size + 1, x.toNat, none⟩ = some (.bool (chars.data.toList.contains x))) := Lw.cell w _
  have hst := Lw.store w chars.data.toList
  have hcells := Lib.setCells_size chars.data.toList
  have hzero := (zero_of_info h116).1
  have hempty := not_empty (s := chars) (by omega)
  have hone : ((chars.size : Int) == 1) = false := beq_eq_false_iff_ne.2 (by omega)
  have height : decide ((8 : Int) < (s.size : Int)) = true := decide_eq_true (by omega)
  clear hc hz
  go_enter Tryd.func97, Tryd.ntmps97
  go_wp2_with fail
  refine (Tryd.strings_shouldUseASCIISet _ _).mono ?_
  rintro e w' ⟨rfl, hw⟩
  rw [hw, height]
  go_wp2_with fail
  refine HM.out.mono ?_
  rintro e w' ⟨rfl, hw⟩
  rw [hw]
  go_wp2
  clear hst hcells hzero
  generalize Lw w chars.data.toList = wl at *
  go_loopw [8] (fun i wx => ∃ k : Nat, k ≤ s.size ∧ i = .int .i64 k ∧ wx = wl ∧ Lib.NoAny s.data.toList chars.data.toList k) (fun i _ => s.size - (intOf i).toNat)
  case atStart => exact ⟨0, Nat.zero_le _, rfl, rfl, Lib.NoAny.zero _ _⟩
  case round =>
    obtain ⟨k, hk, rfl, rfl, hno⟩ := hrel
    have HN : Hid (Lib.NoAny s.data.toList chars.data.toList k) := hno
    clear hno
    by_cases hlt : k < s.size
    · obtain ⟨c, hc⟩ : ∃ c : UInt8, s[k]'hlt = c := ⟨_, rfl⟩
      have hix := run_index_at s k hlt
      rw [hc] at hix
      have HK : Hid (s.data.toList[k]? = some c) := by show _ = _; rw [← hc]; exact Lib.data_getElem? s k hlt
      have hset := HC.out c
      clear hc
      cases hin : chars.data.toList.contains c <;> rw [hin] at hset
      · have H1 : Hid (Lib.NoAny s.data.toList chars.data.toList (k + 1)) := HN.out.succ HK.out hin
        go_wp2_with (go_at_call 106; refine (Tryd.asciiSet_contains _ c _ _ hset).mono ?_; rintro e w' ⟨rfl, hw⟩; rw [hw])
        go_roundw
        case rel => exact ⟨k + 1, by omega, by go_num, by first | rfl | exact trivial, H1.out⟩
        case measure => simp [intOf]; omega
      · have H1 : Hid (z = k) := by show _ = _; rw [← HZ.out]; exact Lib.indexAny_hit HN.out HK.out hin
        go_wp2_with (go_at_call 106; refine (Tryd.asciiSet_contains _ c _ _ hset).mono ?_; rintro e w' ⟨rfl, hw⟩; rw [hw])
        go_ret
        exact ⟨by rw [H1.out]; rfl, HL.out⟩
    · have hks : k = s.data.toList.length := by rw [← Lib.size_eq]; omega
      have H1 : Hid (z = -1) := by show _ = _; rw [← HZ.out]; exact Lib.indexAny_none (hks ▸ HN.out)
      clear hks
      go_wp2
      go_ret
      exact ⟨by rw [H1.out]; rfl, HL.out⟩

theorem ia_any (s chars : ByteArray) (w : World) (h2 : 2 ≤ chars.size) (h3 : chars.size ≤ 100) (hs : s.size ≤ 9223372036854775807) (hc : Ascii chars) :
    Calls Tryd.prog 97 #[.string s, .string chars] w fun e w' => e = .returned (.int .i64 (Lib.indexAny s.data.toList chars.data.toList)) ∧ Below w.heap.size w w' := by
  by_cases h8 : s.size ≤ 8
  · exact ia_short s chars w h2 h8 hc
  · exact ia_long s chars w h2 h3 (by omega) hs hc

set_option maxHeartbeats 400000 in
theorem ca_any (s chars : ByteArray) (w : World) (b : Bool) (h2 : 2 ≤ chars.size) (h3 : chars.size ≤ 100) (hs : s.size ≤ 9223372036854775807) (hc : Ascii chars) (hb : Lib.containsAny s.data.toList chars.data.toList = b) :
    Calls Tryd.prog 89 #[.string s, .string chars] w fun e w' => e = .returned (.bool b) ∧ Below w.heap.size w w' := by
  have HI : Hid (Calls Tryd.prog 97 #[.string s, .string chars] w fun e w' => e = .returned (.int .i64 (Lib.indexAny s.data.toList chars.data.toList)) ∧ Below w.heap.size w w') := ia_any s chars w h2 h3 hs hc
  have HB : Hid (decide (0 ≤ Lib.indexAny s.data.toList chars.data.toList) = b) := hb
  clear hb hc
  generalize Lib.indexAny s.data.toList chars.data.toList = z at *
  go_enter Tryd.func89, Tryd.ntmps89
  go_wp2_with fail
  refine HI.out.mono ?_
  rintro e w1 ⟨rfl, hb1⟩
  have H1 : Hid (Below w.heap.size w w1) := hb1
  clear hb1
  go_wp2
  go_ret
  exact ⟨by rw [← HB.out]; rfl, H1.out⟩

theorem noAny_of (s chars : List UInt8) (h : ∀ x ∈ s, chars.contains x = false) (i : Nat) : Lib.NoAny s chars i :=
  fun _ b _ hb => h b (List.mem_of_getElem? hb)
theorem ca_false (s chars : List UInt8) (h : ∀ x ∈ s, chars.contains x = false) : Lib.containsAny s chars = false := by
  unfold Lib.containsAny
  rw [Lib.indexAny_none (noAny_of s chars h s.length)]
  rfl
theorem ca_mem : ∀ (s chars : List UInt8), Lib.containsAny s chars = false → ∀ x ∈ s, chars.contains x = false
  | [], _, _, x, hx => by simp at hx
  | b :: l, chars, h, x, hx => by
    unfold Lib.containsAny at h
    have h0 : ¬ (0 ≤ Lib.indexAny (b :: l) chars) := of_decide_eq_false h
    have hge := Lib.indexAny_ge chars l
    rw [Lib.indexAny] at h0
    cases hb : chars.contains b
    · rw [hb] at h0
      have hl : Lib.indexAny l chars = -1 := by
        by_cases e : Lib.indexAny l chars = -1
        · exact e
        · have hne : (Lib.indexAny l chars == -1) = false := beq_eq_false_iff_ne.2 e
          rw [hne] at h0
          simp at h0
          omega
      have ih := ca_mem l chars (by unfold Lib.containsAny; rw [hl]; rfl)
      rcases List.mem_cons.1 hx with rfl | hx'
      · exact hb
      · exact ih x hx'
    · rw [hb] at h0
      simp at h0
end Go.Proofs.YtgidmnoinbbajaaDoor
