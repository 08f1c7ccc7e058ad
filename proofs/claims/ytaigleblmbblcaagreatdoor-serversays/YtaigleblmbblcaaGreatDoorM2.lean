/-
  Texts of this proof, one behind the other.
-/
import Derived.Test.YtaigleblmbblcaaGreatDoorM1
import Derived.WalkSpells

/-
  strings.IndexAny and ContainsAny at a set of two or more ASCII characters and whatever text: the first byte that is among them; whether there is one.
-/
namespace Go.Proofs.YtaigleblmbblcaaGreatDoor
open Go.RowKit

/-- The iterator of the text s stands at place i, in block k; below, all is as it was. -/
def Iter (w : World) (s : ByteArray) (i : Nat) (wx : World) : Prop := wx.heap[w.heap.size]? = some (.stringIter s i) ∧ Below w.heap.size w wx

theorem Iter.start (w : World) (s : ByteArray) : Iter w s 0 (w.iter s 0) := ⟨World.iter_heap w s 0, (Below.refl _ _).alloc (Nat.le_refl _) _⟩
theorem Iter.next {w : World} {s : ByteArray} {i : Nat} {wx : World} (h : Iter w s i wx) (j : Nat) : Iter w s j (wx.iterAt w.heap.size s j) :=
  ⟨Lib.iterAt_heap wx w.heap.size s i j h.1, Lib.below_iterAt h.2 (Nat.le_refl _) s j⟩
theorem Iter.below {w : World} {s : ByteArray} {i : Nat} {wx w2 : World} (h : Iter w s i wx) (hb : Below wx.heap.size wx w2) : Iter w s i w2 :=
  ⟨(hb.block _ (Array.getElem?_eq_some_iff.1 h.1).1).trans h.1, h.2.trans (hb.mono h.2.size)⟩

theorem noAny_span {s chars : ByteArray} (hc : Ascii chars) {i n : Nat} (h : Lib.NoAny s.data.toList chars.data.toList i) (hs : ∀ j, i ≤ j → j < i + n → ∃ hj : j < s.size, 128 ≤ (s[j]'hj).toNat) : Lib.NoAny s.data.toList chars.data.toList (i + n) := by
  intro j b hj hb
  by_cases hji : j < i
  · exact h j b hji hb
  · obtain ⟨hjs, h128⟩ := hs j (by omega) hj
    rw [Lib.data_getElem? s j hjs] at hb
    cases hb
    have := ascii_out hc _ h128 0
    simpa using this

set_option maxHeartbeats 8000000 in
set_option maxRecDepth 1000000 in
theorem ia_short (s chars : ByteArray) (w : World) (h2 : 2 ≤ chars.size) (h8 : s.size ≤ 8) (hc : Ascii chars) :
    Calls Tryz.prog 142 #[.string s, .string chars] w fun e w' => e = .returned (.int .i64 (Lib.indexAny s.data.toList chars.data.toList)) ∧ Below w.heap.size w w' := by
  have HC : Hid (Ascii chars) := hc
  clear hc
  have hemp : chars.toList.isEmpty = false := by
    rw [Lib.toList_data]
    cases h : chars.data.toList with
    | nil => have := Lib.size_eq chars; rw [h, List.length_nil] at this; omega
    | cons _ _ => rfl
  have hn1 : ((chars.size : Int) == 1) = false := beq_eq_false_iff_ne.2 (by omega)
  have h8z : decide ((8 : Int) < (s.size : Int)) = false := decide_eq_false (by omega)
  go_enter Tryz.func142, Tryz.ntmps142
  go_wp2_with (go_at_call 149; refine (Tryz.strings_shouldUseASCIISet _ _).mono ?_; rintro e w' ⟨rfl, hw⟩; rw [hw, h8z])
  go_loopg [9, 10] s.size (fun g _ _ wx => ∃ i : Nat, i + g = s.size ∧ Iter w s i wx ∧ Lib.NoAny s.data.toList chars.data.toList i)
  case atStart => exact ⟨0, by omega, Iter.start w s, Lib.NoAny.zero _ _⟩
  case round =>
    obtain ⟨i, hig, hit, hno⟩ := hrel
    have HN : Hid (Lib.NoAny s.data.toList chars.data.toList i) := hno
    have HI : Hid (Iter w s i wr) := hit
    clear hno hit
    by_cases hi : i < s.size
    · obtain ⟨x, hx⟩ : ∃ x : UInt8, s[i]'hi = x := ⟨_, rfl⟩
      have hxl : s.data.toList[i]? = some x := by rw [← hx]; exact Lib.data_getElem? s i hi
      by_cases hx128 : x.toNat < 128
      · have hnx := fun ty => Lib.run_next_ascii_at (P := Tryz.prog) wr w.heap.size s i ty HI.out.1 hi (by rw [hx]; exact hx128)
        rw [hx] at hnx
        obtain ⟨wn, hwn⟩ : ∃ wn, wr.iterAt w.heap.size s (i + 1) = wn := ⟨_, rfl⟩
        rw [hwn] at hnx
        have H1 : Hid (Iter w s (i + 1) wn) := by rw [← hwn]; exact HI.out.next (i + 1)
        have Hx : Hid (s.data.toList[i]? = some x) := hxl
        clear hxl hx hwn
        have hcon := Lib.contains_iff_indexByte chars.data.toList x
        have hback : ((x.toNat : Int)).toNat.toUInt8 = x := by simp
        cases hin : chars.data.toList.contains x
        · rw [hin] at hcon
          have hlt : ¬ ((0 : Int) ≤ Lib.indexByte chars.data.toList x) := of_decide_eq_false hcon.symm
          have Hin : Hid (chars.data.toList.contains x = false) := hin
          clear hcon hin
          go_wp2_with (go_at_call 148; refine (Tryz.strings_IndexRune_ascii _ _ _ (by omega) (by omega)).mono ?_; rintro e w' ⟨rfl, hw⟩; rw [hw, hback])
          go_roundg (s.size - (i + 1))
          case measure => omega
          case rel => exact ⟨i + 1, by omega, H1.out, HN.out.succ Hx.out Hin.out⟩
        · rw [hin] at hcon
          have hge : (0 : Int) ≤ Lib.indexByte chars.data.toList x := of_decide_eq_true hcon.symm
          have Hin : Hid (chars.data.toList.contains x = true) := hin
          clear hcon hin
          go_wp2_with (go_at_call 148; refine (Tryz.strings_IndexRune_ascii _ _ _ (by omega) (by omega)).mono ?_; rintro e w' ⟨rfl, hw⟩; rw [hw, hback])
          go_ret
          exact ⟨by rw [Lib.indexAny_hit HN.out Hx.out Hin.out]; rfl, H1.out.2⟩
      · have hhi : 128 ≤ (s[i]'hi).toNat := by rw [hx]; omega
        have hsp := decode_span s i hi hhi
        obtain ⟨hr, hn⟩ := decode_high s i hi hhi
        have hnx := fun ty => Lib.run_next_any_at (P := Tryz.prog) wr w.heap.size s i ty HI.out.1 hi
        obtain ⟨r, n, hd⟩ : ∃ r n, Utf8.decode s i = (r, n) := ⟨_, _, rfl⟩
        rw [hd] at hnx hsp hr hn
        simp only at hnx hsp hr hn
        obtain ⟨wn, hwn⟩ : ∃ wn, wr.iterAt w.heap.size s (i + n) = wn := ⟨_, rfl⟩
        rw [hwn] at hnx
        have H1 : Hid (Iter w s (i + n) wn) := by rw [← hwn]; exact HI.out.next (i + n)
        have H2 : Hid (Lib.NoAny s.data.toList chars.data.toList (i + n)) := noAny_span HC.out HN.out hsp
        have hin : i + n ≤ s.size := by
          obtain ⟨hj, _⟩ := hsp (i + (n - 1)) (by omega) (by omega)
          omega
        clear hsp hd hwn hhi hxl hx
        go_wp2_with fail
        refine (ir_big chars r _ HC.out (by omega)).mono ?_
        rintro e w2 ⟨rfl, hb2⟩
        have H3 : Hid (Iter w s (i + n) w2) := H1.out.below hb2
        clear hb2
        go_wp2
        go_roundg (s.size - (i + n))
        case measure => omega
        case rel => exact ⟨i + n, by omega, H3.out, H2.out⟩
    · have hnx := fun ty => Lib.run_next_end_at (P := Tryz.prog) wr w.heap.size s i ty HI.out.1 hi
      go_wp2
      go_ret
      exact ⟨by rw [Lib.indexAny_none (by rw [← Lib.size_eq, show s.size = i by omega]; exact HN.out)]; rfl, HI.out.2⟩

theorem h116 : (Tryz.prog.info? 174).map (fun i => (i.zero, i.size)) = some (some (.agg (Array.replicate 256 (.bool false))), 256) := by kernel_rfl

/-- The world in which the set of the bytes cs lies twice behind what was there: makeASCIISet's own, and a copy. -/
def Lw (w : World) (cs : List UInt8) : World := (w.alloc (.cells (Lib.setCells cs) 174)).alloc (.cells (Lib.setCells cs) 174)
theorem Lw.below (w : World) (cs : List UInt8) : Below w.heap.size w (Lw w cs) := ((Below.refl _ _).alloc (Nat.le_refl _) _).alloc (by simp) _
theorem Lw.cell (w : World) (cs : List UInt8) (x : UInt8) : (Lw w cs).cell? ⟨w.heap.size + 1, x.toNat, none⟩ = some (.bool (cs.contains x)) := by
  unfold Lw
  have h : (w.alloc (.cells (Lib.setCells cs) 174)).heap.size = w.heap.size + 1 := by simp
  rw [World.cell?_alloc_at _ _ _ _ (by simp), Lib.setCells_at]
theorem Lw.store (w : World) (cs : List UInt8) : (storeCells ⟨w.heap.size + 1, 0, none⟩ (Lib.setCells cs).toList 0).run Tryz.prog ((w.alloc (.cells (Lib.setCells cs) 174)).alloc (.cells (Array.replicate 256 (.bool false)) 174)) = .ok () (Lw w cs) := by
  have := run_storeCells_new (P := Tryz.prog) (w.alloc (.cells (Lib.setCells cs) 174)) 174 (Array.replicate 256 (.bool false)) (Lib.setCells cs) (by rw [Lib.setCells_size]; exact (zero_of_info h116).2) (by rw [Lib.setCells_size, Array.size_replicate]) (Lib.setCells_one _)
  simpa [Lw] using this

theorem not_empty {s : ByteArray} (h : 1 ≤ s.size) : s.toList.isEmpty = false := by
  rw [Lib.toList_data]
  cases hl : s.data.toList with
  | nil => have := Lib.size_eq s; rw [hl, List.length_nil] at this; omega
  | cons _ _ => rfl

set_option maxHeartbeats 3200000 in
set_option maxRecDepth 100000 in
theorem ia_long (s chars : ByteArray) (w : World) (h2 : 2 ≤ chars.size) (h3 : chars.size ≤ 100) (h8 : 8 < s.size) (hs : s.size ≤ 9223372036854775807) (hc : Ascii chars) :
    Calls Tryz.prog 142 #[.string s, .string chars] w fun e w' => e = .returned (.int .i64 (Lib.indexAny s.data.toList chars.data.toList)) ∧ Below w.heap.size w w' := by
  obtain ⟨z, hz⟩ : ∃ z, Lib.indexAny s.data.toList chars.data.toList = z := ⟨_, rfl⟩
  rw [hz]
  have HZ : Hid (Lib.indexAny s.data.toList chars.data.toList = z) := hz
  have HM : Hid (Calls Tryz.prog 150 #[.string chars] w fun e w' => e = .returned (.tuple #[.agg (Lib.setCells chars.data.toList), .bool true]) ∧ w' = w.alloc (.cells (Lib.setCells chars.data.toList) 174)) := Tryz.strings_makeASCIISet (zero_of_info h116).1 chars w (by omega) hc
  have HL : Hid (Below w.heap.size w (Lw w chars.data.toList)) := Lw.below w _
  have HC : Hid (∀ x : UInt8, (Lw w chars.data.toList).cell? ⟨w.heap.size + 1, x.toNat, none⟩ = some (.bool (chars.data.toList.contains x))) := Lw.cell w _
  have hst := Lw.store w chars.data.toList
  have hcells := Lib.setCells_size chars.data.toList
  have hzero := (zero_of_info h116).1
  have hempty := not_empty (s := chars) (by omega)
  have hone : ((chars.size : Int) == 1) = false := beq_eq_false_iff_ne.2 (by omega)
  have height : decide ((8 : Int) < (s.size : Int)) = true := decide_eq_true (by omega)
  clear hc hz
  go_enter Tryz.func142, Tryz.ntmps142
  go_wp2_with fail
  refine (Tryz.strings_shouldUseASCIISet _ _).mono ?_
  rintro e w' ⟨rfl, hw⟩
  rw [hw, height]
  go_wp2_with fail
  refine HM.out.mono ?_
  rintro e w' ⟨rfl, hw⟩
  rw [hw]
  go_wp2
  clear hst hcells hzero
  generalize Lw w chars.data.toList = wl at *
  go_loopw [8] (fun i wx => ∃ k : Nat, k ≤ s.size ∧ i = .int .i64 k ∧ wx = wl ∧ Lib.NoAny s.data.toList chars.data.toList k) (fun i _ => s.size - (intOf i).toNat)
  case atStart => exact ⟨0, Nat.zero_le _, rfl, rfl, Lib.NoAny.zero _ _⟩
  case round =>
    obtain ⟨k, hk, rfl, rfl, hno⟩ := hrel
    have HN : Hid (Lib.NoAny s.data.toList chars.data.toList k) := hno
    clear hno
    by_cases hlt : k < s.size
    · obtain ⟨c, hc⟩ : ∃ c : UInt8, s[k]'hlt = c := ⟨_, rfl⟩
      have hix := run_index_at s k hlt
      rw [hc] at hix
      have HK : Hid (s.data.toList[k]? = some c) := by show _ = _; rw [← hc]; exact Lib.data_getElem? s k hlt
      have hset := HC.out c
      clear hc
      cases hin : chars.data.toList.contains c <;> rw [hin] at hset
      · have H1 : Hid (Lib.NoAny s.data.toList chars.data.toList (k + 1)) := HN.out.succ HK.out hin
        go_wp2_with (go_at_call 151; refine (Tryz.asciiSet_contains _ c _ _ hset).mono ?_; rintro e w' ⟨rfl, hw⟩; rw [hw])
        go_roundw
        case rel => exact ⟨k + 1, by omega, by go_num, by first | rfl | exact trivial, H1.out⟩
        case measure => simp [intOf]; omega
      · have H1 : Hid (z = k) := by show _ = _; rw [← HZ.out]; exact Lib.indexAny_hit HN.out HK.out hin
        go_wp2_with (go_at_call 151; refine (Tryz.asciiSet_contains _ c _ _ hset).mono ?_; rintro e w' ⟨rfl, hw⟩; rw [hw])
        go_ret
        exact ⟨by rw [H1.out]; rfl, HL.out⟩
    · have hks : k = s.data.toList.length := by rw [← Lib.size_eq]; omega
      have H1 : Hid (z = -1) := by show _ = _; rw [← HZ.out]; exact Lib.indexAny_none (hks ▸ HN.out)
      clear hks
      go_wp2
      go_ret
      exact ⟨by rw [H1.out]; rfl, HL.out⟩

theorem ia_any (s chars : ByteArray) (w : World) (h2 : 2 ≤ chars.size) (h3 : chars.size ≤ 100) (hs : s.size ≤ 9223372036854775807) (hc : Ascii chars) :
    Calls Tryz.prog 142 #[.string s, .string chars] w fun e w' => e = .returned (.int .i64 (Lib.indexAny s.data.toList chars.data.toList)) ∧ Below w.heap.size w w' := by
  by_cases h8 : s.size ≤ 8
  · exact ia_short s chars w h2 h8 hc
  · exact ia_long s chars w h2 h3 (by omega) hs hc

set_option maxHeartbeats 400000 in
theorem ca_any (s chars : ByteArray) (w : World) (b : Bool) (h2 : 2 ≤ chars.size) (h3 : chars.size ≤ 100) (hs : s.size ≤ 9223372036854775807) (hc : Ascii chars) (hb : Lib.containsAny s.data.toList chars.data.toList = b) :
    Calls Tryz.prog 133 #[.string s, .string chars] w fun e w' => e = .returned (.bool b) ∧ Below w.heap.size w w' := by
  have HI : Hid (Calls Tryz.prog 142 #[.string s, .string chars] w fun e w' => e = .returned (.int .i64 (Lib.indexAny s.data.toList chars.data.toList)) ∧ Below w.heap.size w w') := ia_any s chars w h2 h3 hs hc
  have HB : Hid (decide (0 ≤ Lib.indexAny s.data.toList chars.data.toList) = b) := hb
  clear hb hc
  generalize Lib.indexAny s.data.toList chars.data.toList = z at *
  go_enter Tryz.func133, Tryz.ntmps133
  go_wp2_with fail
  refine HI.out.mono ?_
  rintro e w1 ⟨rfl, hb1⟩
  have H1 : Hid (Below w.heap.size w w1) := hb1
  clear hb1
  go_wp2
  go_ret
  exact ⟨by rw [← HB.out]; rfl, H1.out⟩

theorem noAny_of (s chars : List UInt8) (h : ∀ x ∈ s, chars.contains x = false) (i : Nat) : Lib.NoAny s chars i :=
  fun _ b _ hb => h b (List.mem_of_getElem? hb)
theorem ca_false (s chars : List UInt8) (h : ∀ x ∈ s, chars.contains x = false) : Lib.containsAny s chars = false := by
  unfold Lib.containsAny
  rw [Lib.indexAny_none (noAny_of s chars h s.length)]
  rfl
theorem ca_mem : ∀ (s chars : List UInt8), Lib.containsAny s chars = false → ∀ x ∈ s, chars.contains x = false
  | [], _, _, x, hx => by simp at hx
  | b :: l, chars, h, x, hx => by
    unfold Lib.containsAny at h
    have h0 : ¬ (0 ≤ Lib.indexAny (b :: l) chars) := of_decide_eq_false h
    have hge := Lib.indexAny_ge chars l
    rw [Lib.indexAny] at h0
    cases hb : chars.contains b
    · rw [hb] at h0
      have hl : Lib.indexAny l chars = -1 := by
        by_cases e : Lib.indexAny l chars = -1
        · exact e
        · have hne : (Lib.indexAny l chars == -1) = false := beq_eq_false_iff_ne.2 e
          rw [hne] at h0
          simp at h0
          omega
      have ih := ca_mem l chars (by unfold Lib.containsAny; rw [hl]; rfl)
      rcases List.mem_cons.1 hx with rfl | hx'
      · exact hb
      · exact ih x hx'
    · rw [hb] at h0
      simp at h0
end Go.Proofs.YtaigleblmbblcaaGreatDoor

/-
  link.smallLetters and link.Scheme at whatever text: the letters A to Z small, all else as it is; what stands ahead of the first colon.
-/
namespace Go.Proofs.YtaigleblmbblcaaGreatDoor
open Go.RowKit

/-- The text ahead of the first colon, what stands behind it, and whether there is one. -/
theorem lcut (s : ByteArray) (w : World) (hs : s.size ≤ 9223372036854775807) :
    Calls Tryz.prog 152 #[.string s, .string ⟨#[58]⟩] w fun e w' => (∃ t, e = .returned (.tuple #[.string (if s.data.toList.contains 58 then B (Lk.head s.data.toList) else s), .string t, .bool (s.data.toList.contains 58)])) ∧ ∃ n, w' = w.drewN n := by
  rcases Lk.idx_cases s.data.toList with hix | ⟨i, hix⟩
  · have hno := Lk.no_head _ hix
    rw [if_neg (by rw [hno]; exact Bool.false_ne_true), hno]
    go_enter Tryz.func152, Tryz.ntmps152
    go_wp2_with (go_at_call 141; refine (Tryz.stringslite_Index_one _ _ _).mono ?_; rintro e w' ⟨rfl, rfl⟩; rw [hix])
    go_ret3
    exact ⟨⟨_, rfl⟩, 0, rfl⟩
  · obtain ⟨h1, h2, h3⟩ := Lk.head_at _ i hix
    rw [len_list] at h1
    rw [if_pos h3, h3]
    have hs1 := slice_to s i (by omega)
    rw [h2] at hs1
    clear h2
    have hs2 := slice_from s (i + 1) (by omega)
    have c1 : (0 : Int) ≤ ↑i := by omega
    have hz : (ByteArray.mk #[58]).size = 1 := rfl
    have hcast : ((i + 1 : Nat) : Int) = (i : Int) + 1 := by omega
    rw [hcast] at hs2
    have hw : IntKind.i64.wrap ((i : Int) + 1) = (i : Int) + 1 := IntWalk.i64_in _ ⟨by omega, by omega⟩
    go_enter Tryz.func152, Tryz.ntmps152
    go_wp2_with (go_at_call 141; refine (Tryz.stringslite_Index_one _ _ _).mono ?_; rintro e w' ⟨rfl, rfl⟩; rw [hix])
    go_region
    go_wp2
    go_ret3
    exact ⟨⟨_, rfl⟩, 1, rfl⟩

theorem cut1 (s : ByteArray) (w : World) (hs : s.size ≤ 9223372036854775807) :
    Calls Tryz.prog 143 #[.string s, .string ⟨#[58]⟩] w fun e w' => (∃ t, e = .returned (.tuple #[.string (if s.data.toList.contains 58 then B (Lk.head s.data.toList) else s), .string t, .bool (s.data.toList.contains 58)])) ∧ Below w.heap.size w w' := by
  have H := lcut s w hs
  generalize (if s.data.toList.contains 58 = true then B (Lk.head s.data.toList) else s) = h at *
  generalize s.data.toList.contains 58 = f at *
  go_enter Tryz.func143, Tryz.ntmps143
  go_wp2_with fail
  refine H.mono ?_
  rintro e w1 ⟨⟨t, rfl⟩, n, rfl⟩
  go_wp2
  go_ret3
  exact ⟨⟨_, rfl⟩, ⟨rfl, rfl, rfl, Nat.le_refl _, fun _ _ => rfl⟩⟩

set_option maxRecDepth 100000 in
set_option maxHeartbeats 1600000 in
theorem small_any (s : ByteArray) (w : World) (hs : s.size ≤ 9223372036854775807) :
    Calls Tryz.prog 144 #[.string s] w fun e w' => e = .returned (.string (B (Lk.small s.data.toList))) ∧ Below w.heap.size w w' := by
  obtain ⟨sm, hsm⟩ : ∃ sm, Lk.small s.data.toList = sm := ⟨_, rfl⟩
  rw [hsm]
  have HM : Hid (Lk.small s.data.toList = sm) := hsm
  clear hsm
  have hcv := Lib.run_convert_string_bytes (P := Tryz.prog) w 9 167 5 s Tryz.underlying9 Tryz.underlying167 Tryz.underlying5
  have HS : Hid (SBuf w.heap.size w (Lib.bytesWorld w 5 s) (smP s.data.toList 0)) := by rw [smP_zero]; exact SBuf.start w s
  generalize Lib.bytesWorld w 5 s = w0 at *
  generalize grownCap w s.size 0 5 = cap at *
  go_enter Tryz.func144, Tryz.ntmps144
  go_wp2
  go_loopw [10] (fun i wr => ∃ k : Nat, k ≤ s.size ∧ i = .int .i64 k ∧ SBuf w.heap.size w wr (smP s.data.toList k)) (fun i _ => s.size - (intOf i).toNat)
  case atStart => exact ⟨0, Nat.zero_le _, rfl, HS.out⟩
  case round =>
    obtain ⟨k, hk, rfl, hob⟩ := hrel
    have HB : Hid (SBuf w.heap.size w wr (smP s.data.toList k)) := hob
    clear hob hcv
    by_cases hlt : k < s.size
    · have hkl : k < s.data.toList.length := by rw [len_list]; exact hlt
      have hkp : k < (smP s.data.toList k).length := by rw [smP_len]; exact hkl
      obtain ⟨c, hc⟩ : ∃ c : UInt8, s.data.toList[k] = c := ⟨_, rfl⟩
      have hcell := HB.out.cell k hkp
      rw [smP_at _ _ hkl, hc] at hcell
      have hfz := HB.out.frozen k hkp
      have H1 : Hid (Lk.small1 c = c → SBuf w.heap.size w wr (smP s.data.toList (k + 1))) := fun h => by rw [smP_same _ _ hkl (by rw [hc]; exact h)]; exact HB.out
      have H2 : Hid (SBuf w.heap.size w (wr.setCell ⟨w.heap.size, k, none⟩ (.int .u8 (Lk.small1 c).toNat)) (smP s.data.toList (k + 1))) := by
        rw [smP_succ _ _ hkl, hc]; exact HB.out.set k _
      clear hc hkp hkl
      by_cases hA : 65 ≤ c.toNat
      · by_cases hZ : c.toNat ≤ 90
        · have hcc : (Lk.small1 c).toNat = c.toNat + 32 := by
            unfold Lk.small1
            rw [if_pos ⟨by rw [UInt8.le_iff_toNat_le]; exact hA, by rw [UInt8.le_iff_toNat_le]; exact hZ⟩]
            rw [UInt8.toNat_add]
            show (c.toNat + 32) % 256 = _
            omega
          go_wp2
          go_roundw
          case rel =>
            refine ⟨k + 1, by omega, by go_num, ?_⟩
            have := H2.out
            rw [hcc] at this
            rw [show ((c.toNat : Int) - 65 + 97) = ((c.toNat + 32 : Nat) : Int) by omega]
            exact this
          case measure => simp [intOf]; omega
        · have hcc : Lk.small1 c = c := by
            unfold Lk.small1
            rw [if_neg (fun h => hZ (by have := h.2; rw [UInt8.le_iff_toNat_le] at this; exact this))]
          go_wp2
          go_roundw
          case rel => exact ⟨k + 1, by omega, by go_num, H1.out hcc⟩
          case measure => simp [intOf]; omega
      · have hcc : Lk.small1 c = c := by
          unfold Lk.small1
          rw [if_neg (fun h => hA (by have := h.1; rw [UInt8.le_iff_toNat_le] at this; exact this))]
        go_wp2
        go_roundw
        case rel => exact ⟨k + 1, by omega, by go_num, H1.out hcc⟩
        case measure => simp [intOf]; omega
    · have hsz : (smP s.data.toList k) = Lk.small s.data.toList := smP_all _ _ (by rw [len_list]; omega)
      have H3 : Hid (SBuf w.heap.size w wr (Lk.small s.data.toList)) := by rw [← hsz]; exact HB.out
      have hcb := run_convert_bytes_back (P := Tryz.prog) wr 167 9 5 ⟨w.heap.size, 0, none⟩ cap (Lk.small s.data.toList) Tryz.underlying167 Tryz.underlying5 Tryz.underlying9 (fun j hj => by
        rw [show (⟨w.heap.size, 0, none⟩ : Addr).add j = ⟨w.heap.size, j, none⟩ by cases j <;> simp [Addr.add]]
        exact H3.out.cell j hj)
      rw [Lk.small_len, len_list] at hcb
      change _ = Result.ok (Value.string (B (Lk.small s.data.toList))) _ at hcb
      rw [HM.out] at hcb
      clear hsz
      go_wp2
      go_ret
      exact ⟨rfl, H3.out.below⟩

theorem path_ascii : Ascii ⟨#[47, 63, 35]⟩ := by
  intro j b h
  match j, h with
  | 0, h => cases h; decide
  | 1, h => cases h; decide
  | 2, h => cases h; decide
  | j + 3, h => simp at h

set_option maxRecDepth 100000 in
set_option maxHeartbeats 800000 in
theorem scheme_any (s : ByteArray) (w : World) (hs : s.size ≤ 9223372036854775807) :
    Calls Tryz.prog 138 #[.string s] w fun e w' => e = .returned (.string (B (Lk.scheme s.data.toList))) ∧ Below w.heap.size w w' := by
  have hc := cut1 s w hs
  have hhl := Lk.head_len s.data.toList
  rw [len_list] at hhl
  have hsz : (B (Lk.head s.data.toList)).size ≤ 9223372036854775807 := by rw [B_size]; omega
  cases hf : s.data.toList.contains 58
  · have hsch : Lk.scheme s.data.toList = [] := by unfold Lk.scheme; rw [hf]; rfl
    rw [hsch]
    rw [hf, if_neg Bool.false_ne_true] at hc
    have HC : Hid (Calls Tryz.prog 143 #[.string s, .string ⟨#[58]⟩] w fun e w' => (∃ t, e = .returned (.tuple #[.string s, .string t, .bool false])) ∧ Below w.heap.size w w') := hc
    clear hc
    clear hsch
    go_enter Tryz.func138, Tryz.ntmps138
    go_wp2_with fail
    refine HC.out.mono ?_
    rintro e w1 ⟨⟨t, rfl⟩, hb1⟩
    have H1 : Hid (Below w.heap.size w w1) := hb1
    clear hb1
    go_wp2
    go_ret
    exact ⟨rfl, H1.out⟩
  · rw [hf, if_pos rfl] at hc
    have HC : Hid (Calls Tryz.prog 143 #[.string s, .string ⟨#[58]⟩] w fun e w' => (∃ t, e = .returned (.tuple #[.string (B (Lk.head s.data.toList)), .string t, .bool true])) ∧ Below w.heap.size w w') := hc
    clear hc
    cases hca : Lib.containsAny (Lk.head s.data.toList) Lk.path
    · have hsch : Lk.scheme s.data.toList = Lk.small (Lk.head s.data.toList) := by unfold Lk.scheme; rw [hf, hca]; rfl
      rw [hsch]
      have HA : Hid (∀ w, Calls Tryz.prog 133 #[.string (B (Lk.head s.data.toList)), .string ⟨#[47, 63, 35]⟩] w fun e w' => e = .returned (.bool false) ∧ Below w.heap.size w w') := fun w => ca_any _ _ w false (by decide) (by decide) hsz path_ascii hca
      have HS : Hid (∀ w, Calls Tryz.prog 144 #[.string (B (Lk.head s.data.toList))] w fun e w' => e = .returned (.string (B (Lk.small (Lk.head s.data.toList)))) ∧ Below w.heap.size w w') := fun w => small_any _ w hsz
      clear hsch hca hf hhl hsz
      generalize B (Lk.head s.data.toList) = h at *
      generalize B (Lk.small (Lk.head s.data.toList)) = r at *
      go_enter Tryz.func138, Tryz.ntmps138
      go_wp2_with fail
      refine HC.out.mono ?_
      rintro e w1 ⟨⟨t, rfl⟩, hb1⟩
      have H1 : Hid (Below w.heap.size w w1) := hb1
      clear hb1
      go_wp2_with fail
      refine (HA.out _).mono ?_
      rintro e w2 ⟨rfl, hb2⟩
      have H2 : Hid (Below w.heap.size w w2) := H1.out.trans (hb2.mono H1.out.size)
      clear hb2
      go_wp2_with fail
      refine (HS.out _).mono ?_
      rintro e w3 ⟨rfl, hb3⟩
      have H3 : Hid (Below w.heap.size w w3) := H2.out.trans (hb3.mono H2.out.size)
      clear hb3
      go_wp2
      go_ret
      exact ⟨rfl, H3.out⟩
    · have hsch : Lk.scheme s.data.toList = [] := by unfold Lk.scheme; rw [hf, hca]; rfl
      rw [hsch]
      have HA : Hid (∀ w, Calls Tryz.prog 133 #[.string (B (Lk.head s.data.toList)), .string ⟨#[47, 63, 35]⟩] w fun e w' => e = .returned (.bool true) ∧ Below w.heap.size w w') := fun w => ca_any _ _ w true (by decide) (by decide) hsz path_ascii hca
      clear hsch hca hf hhl hsz
      generalize B (Lk.head s.data.toList) = h at *
      go_enter Tryz.func138, Tryz.ntmps138
      go_wp2_with fail
      refine HC.out.mono ?_
      rintro e w1 ⟨⟨t, rfl⟩, hb1⟩
      have H1 : Hid (Below w.heap.size w w1) := hb1
      clear hb1
      go_wp2_with fail
      refine (HA.out _).mono ?_
      rintro e w2 ⟨rfl, hb2⟩
      have H2 : Hid (Below w.heap.size w w2) := H1.out.trans (hb2.mono H1.out.size)
      clear hb2
      go_wp2
      go_ret
      exact ⟨rfl, H2.out⟩
end Go.Proofs.YtaigleblmbblcaaGreatDoor

/-
  The reference's Small: the letters A to Z small.
-/
namespace Go.Proofs.YtaigleblmbblcaaGreatDoor
open Go.RowKit

def upper : List UInt8 := [65, 66, 67, 68, 69, 70, 71, 72, 73, 74, 75, 76, 77, 78, 79, 80, 81, 82, 83, 84, 85, 86, 87, 88, 89, 90]
def lower : ByteArray := ⟨#[97, 98, 99, 100, 101, 102, 103, 104, 105, 106, 107, 108, 109, 110, 111, 112, 113, 114, 115, 116, 117, 118, 119, 120, 121, 122]⟩
theorem up_idx (c : UInt8) : Lib.indexByte upper c = if 65 ≤ c.toNat ∧ c.toNat ≤ 90 then (c.toNat : Int) - 65 else -1 := by
  have h : ∀ n : Fin 256, Lib.indexByte upper (UInt8.ofNat n.val) = if 65 ≤ n.val ∧ n.val ≤ 90 then (n.val : Int) - 65 else -1 := by decide +kernel
  have := h ⟨c.toNat, c.toNat_lt⟩
  simpa using this
theorem low_all : ∀ n : Fin 26, (lower.data.toList[n.val]?).map (fun b => b.toNat) = some (n.val + 97) := by decide +kernel
theorem low_at (c : UInt8) (hA : 65 ≤ c.toNat) (hZ : c.toNat ≤ 90) (w : World) : (Instr.index 9 (.string lower) (.int .i64 ((c.toNat : Int) - 65))).run Tryz.prog w = .ok (.int .u8 (Lk.small1 c).toNat) w := by
  have hsz : lower.size = 26 := rfl
  have hk : c.toNat - 65 < lower.size := by omega
  have h := run_index_at lower (c.toNat - 65) hk w
  rw [show ((c.toNat - 65 : Nat) : Int) = (c.toNat : Int) - 65 by omega] at h
  rw [h]
  have ha := low_all ⟨c.toNat - 65, by omega⟩
  have hd := Lib.data_getElem? lower (c.toNat - 65) hk
  simp only [hd, Option.map_some, Option.some.injEq] at ha
  rw [ha, small_toNat c hA hZ, show c.toNat - 65 + 97 = c.toNat + 32 by omega]

/-- The first k letters small, alone. -/
def smQ (s : ByteArray) (k : Nat) : ByteArray := B (Lk.small (s.data.toList.take k))
theorem smQ_zero (s : ByteArray) : smQ s 0 = ⟨#[]⟩ := by simp [smQ, Lk.small, B]
theorem smQ_all (s : ByteArray) (k : Nat) (h : s.size ≤ k) : smQ s k = B (Lk.small s.data.toList) := by
  unfold smQ
  rw [List.take_of_length_le (by rw [len_list]; exact h)]
theorem smQ_size (s : ByteArray) (k : Nat) : (smQ s k).size ≤ k := by
  rw [smQ, B_size, Lk.small_len]
  exact List.length_take_le _ _
theorem smQ_succ (s : ByteArray) (k : Nat) (h : k < s.size) : smQ s (k + 1) = smQ s k ++ ⟨#[Lk.small1 (s[k]'h)]⟩ := by
  apply ext_list
  have hk : k < s.data.toList.length := by rw [len_list]; exact h
  rw [ByteArray.data_append, Array.toList_append]
  show Lk.small (s.data.toList.take (k + 1)) = Lk.small (s.data.toList.take k) ++ [Lk.small1 (s[k]'h)]
  rw [List.take_succ_eq_append_getElem hk, Lk.small, List.map_append]
  rfl

set_option maxRecDepth 100000 in
set_option maxHeartbeats 1600000 in
theorem Small_any (s : ByteArray) (w : World) (hs : s.size ≤ 9223372036854775807) :
    Calls Tryz.prog 134 #[.string s] w fun e w' => e = .returned (.string (B (Lk.small s.data.toList))) ∧ Below w.heap.size w w' := by
  have hz1 : ∀ c : UInt8, (ByteArray.mk #[c]).size = 1 := fun _ => rfl
  go_enter Tryz.func134, Tryz.ntmps134
  go_wp2
  go_loopw [3, 9] (fun o i wr => ∃ k : Nat, k ≤ s.size ∧ i = .int .i64 k ∧ o = .string (smQ s k) ∧ Below w.heap.size w wr) (fun _ i _ => s.size - (intOf i).toNat)
  case atStart => exact ⟨0, Nat.zero_le _, rfl, by rw [smQ_zero], Below.refl _ _⟩
  case round =>
    obtain ⟨k, hk, rfl, rfl, hb⟩ := hrel
    have HB : Hid (Below w.heap.size w wr) := hb
    clear hb
    have hz := smQ_size s k
    by_cases hlt : k < s.size
    · obtain ⟨c, hc⟩ : ∃ c : UInt8, s[k]'hlt = c := ⟨_, rfl⟩
      have hix := run_index_at s k hlt
      rw [hc] at hix
      have HS : Hid (smQ s (k + 1) = smQ s k ++ ⟨#[Lk.small1 c]⟩) := by show _ = _; rw [smQ_succ s k hlt, hc]
      clear hc
      have hback : ((c.toNat : Int)).toNat.toUInt8 = c := by simp
      have hI := fun w => Tryz.strings_IndexByte ⟨upper.toArray⟩ (c.toNat : Int) w
      rw [hback] at hI
      change ∀ w, Calls Tryz.prog 118 _ w fun e w' => e = .returned (.int .i64 (Lib.indexByte upper c)) ∧ w' = w at hI
      rw [up_idx] at hI
      have hcb : ∀ (d : UInt8) (wx : World), (convert 167 9 (.slice (some ⟨wx.heap.size, 0, none⟩) 1 1)).run Tryz.prog (wx.alloc (.cells #[.int .u8 d.toNat] 5)) = .ok (.string ⟨#[d]⟩) (wx.alloc (.cells #[.int .u8 d.toNat] 5)) := fun d wx => by
        have := run_convert_bytes_back (P := Tryz.prog) (wx.alloc (.cells #[.int .u8 d.toNat] 5)) 167 9 5 ⟨wx.heap.size, 0, none⟩ 1 [d] Tryz.underlying167 Tryz.underlying5 Tryz.underlying9 (fun j hj => by
          simp at hj
          subst hj
          simp [Addr.add])
        exact this
      by_cases hA : 65 ≤ c.toNat ∧ c.toNat ≤ 90
      · rw [if_pos hA] at hI
        have HI : Hid (∀ w, Calls Tryz.prog 118 #[.string ⟨upper.toArray⟩, .int .u8 c.toNat] w fun e w' => e = .returned (.int .i64 ((c.toNat : Int) - 65)) ∧ w' = w) := hI
        clear hI
        have hlow := low_at c hA.1 hA.2
        have hge : (0 : Int) ≤ (c.toNat : Int) - 65 := by omega
        have hcb1 := hcb (Lk.small1 c)
        unfold lower at hlow
        generalize Lk.small1 c = d at *
        go_wp2_with fail
        refine (HI.out _).mono ?_
        rintro e w' ⟨rfl, hw⟩
        rw [hw]
        go_wp2
        go_roundw
        case rel => exact ⟨k + 1, by omega, by go_num, by rw [HS.out], HB.out.alloc HB.out.size _⟩
        case measure => simp [intOf]; omega
      · rw [if_neg hA] at hI
        have HI : Hid (∀ w, Calls Tryz.prog 118 #[.string ⟨upper.toArray⟩, .int .u8 c.toNat] w fun e w' => e = .returned (.int .i64 (-1)) ∧ w' = w) := hI
        clear hI
        have hcb1 := hcb c
        have HN : Hid (Lk.small1 c = c) := small_not c hA
        clear hA
        go_wp2_with fail
        refine (HI.out _).mono ?_
        rintro e w' ⟨rfl, hw⟩
        rw [hw]
        go_wp2
        go_roundw
        case rel => exact ⟨k + 1, by omega, by go_num, by rw [HS.out, HN.out], HB.out.alloc HB.out.size _⟩
        case measure => simp [intOf]; omega
    · have HA : Hid (smQ s k = B (Lk.small s.data.toList)) := smQ_all s k (by omega)
      go_wp2
      go_ret
      exact ⟨by rw [← HA.out]; rfl, HB.out⟩

end Go.Proofs.YtaigleblmbblcaaGreatDoor

/-
  The reference's Small and SchemeOf: as link.smallLetters and link.Scheme have it.
-/
namespace Go.Proofs.YtaigleblmbblcaaGreatDoor
open Go.RowKit

theorem scheme_k (l : List UInt8) (k : Nat) (h : Lib.indexByte l 58 = k) (hc : Lib.containsAny (Lk.head l) Lk.path = false) : Lk.scheme l = Lk.small (Lk.head l) := by
  unfold Lk.scheme
  rw [(Lk.head_at l k h).2.2, hc]
  rfl
theorem scheme_path (l : List UInt8) (hc : Lib.containsAny (Lk.head l) Lk.path = true) : Lk.scheme l = [] := by
  unfold Lk.scheme
  rw [hc]
  simp
theorem scheme_none (l : List UInt8) (h : l.contains 58 = false) : Lk.scheme l = [] := by
  unfold Lk.scheme
  rw [h]
  rfl

set_option maxRecDepth 100000 in
set_option maxHeartbeats 1600000 in
theorem SchemeOf_any (s : ByteArray) (w : World) (hs : s.size ≤ 9223372036854775807) :
    Calls Tryz.prog 120 #[.string s] w fun e w' => e = .returned (.string (B (Lk.scheme s.data.toList))) ∧ Below w.heap.size w w' := by
  have hI := fun w => Tryz.strings_Index_one s 58 w
  rcases Lk.idx_cases s.data.toList with hix | ⟨k, hix⟩
  · rw [hix] at hI
    rw [scheme_none _ (Lk.no_head _ hix)]
    clear hix
    go_enter Tryz.func120, Tryz.ntmps120
    go_wp2_with fail
    refine (hI _).mono ?_
    rintro e w' ⟨rfl, hw⟩
    rw [hw]
    go_wp2
    go_ret
    exact ⟨rfl, Below.refl _ _⟩
  · obtain ⟨h1, h2, h3⟩ := Lk.head_at _ k hix
    rw [len_list] at h1
    have hhl := Lk.head_len s.data.toList
    rw [len_list] at hhl
    have hsz : (B (Lk.head s.data.toList)).size ≤ 9223372036854775807 := by rw [B_size]; omega
    rw [hix] at hI
    by_cases hk0 : k < 1
    · obtain rfl : k = 0 := by omega
      have hsn : Lk.scheme s.data.toList = [] := by
        have hh : Lk.head s.data.toList = [] := by rw [← h2]; rfl
        unfold Lk.scheme
        rw [hh, h3]
        rfl
      rw [hsn]
      clear hsn hix h2 h3 hhl hsz
      go_enter Tryz.func120, Tryz.ntmps120
      go_wp2_with fail
      refine (hI _).mono ?_
      rintro e w' ⟨rfl, hw⟩
      rw [hw]
      go_wp2
      go_ret
      exact ⟨rfl, Below.refl _ _⟩
    · have hsl := slice_to s k (by omega)
      rw [h2] at hsl
      cases hca : Lib.containsAny (Lk.head s.data.toList) Lk.path
      · rw [scheme_k _ k hix hca]
        have HA : Hid (∀ w, Calls Tryz.prog 133 #[.string (B (Lk.head s.data.toList)), .string ⟨#[47, 63, 35]⟩] w fun e w' => e = .returned (.bool false) ∧ Below w.heap.size w w') := fun w => ca_any _ _ w false (by decide) (by decide) (by omega) path_ascii hca
        have HS : Hid (∀ w, Calls Tryz.prog 134 #[.string (B (Lk.head s.data.toList))] w fun e w' => e = .returned (.string (B (Lk.small (Lk.head s.data.toList)))) ∧ Below w.heap.size w w') := fun w => Small_any _ w hsz
        clear hca hhl hsz hix h2 h3
        generalize B (Lk.head s.data.toList) = h at *
        generalize B (Lk.small (Lk.head s.data.toList)) = r at *
        go_enter Tryz.func120, Tryz.ntmps120
        go_wp2_with fail
        refine (hI _).mono ?_
        rintro e w' ⟨rfl, hw⟩
        rw [hw]
        go_wp2_with fail
        refine (HA.out _).mono ?_
        rintro e w2 ⟨rfl, hb2⟩
        have H2 : Hid (Below w.heap.size w w2) := hb2
        clear hb2
        go_wp2_with fail
        refine (HS.out _).mono ?_
        rintro e w3 ⟨rfl, hb3⟩
        have H3 : Hid (Below w.heap.size w w3) := H2.out.trans (hb3.mono H2.out.size)
        clear hb3
        go_wp2
        go_ret
        exact ⟨rfl, H3.out⟩
      · rw [scheme_path _ hca]
        have HA : Hid (∀ w, Calls Tryz.prog 133 #[.string (B (Lk.head s.data.toList)), .string ⟨#[47, 63, 35]⟩] w fun e w' => e = .returned (.bool true) ∧ Below w.heap.size w w') := fun w => ca_any _ _ w true (by decide) (by decide) (by omega) path_ascii hca
        clear hca hhl hsz hix h2 h3
        generalize B (Lk.head s.data.toList) = h at *
        go_enter Tryz.func120, Tryz.ntmps120
        go_wp2_with fail
        refine (hI _).mono ?_
        rintro e w' ⟨rfl, hw⟩
        rw [hw]
        go_wp2_with fail
        refine (HA.out _).mono ?_
        rintro e w2 ⟨rfl, hb2⟩
        have H2 : Hid (Below w.heap.size w w2) := hb2
        clear hb2
        go_wp2
        go_ret
        exact ⟨rfl, H2.out⟩
end Go.Proofs.YtaigleblmbblcaaGreatDoor

/-
  link.May at whatever text: whether one may be led to it; the variable 'schemes' holding what its initialiser lays.
-/
namespace Go.Proofs.YtaigleblmbblcaaGreatDoor
open Go.RowKit

def scells : Array Value := #[.string ⟨#[104, 116, 116, 112]⟩, .string ⟨#[104, 116, 116, 112, 115]⟩, .string ⟨#[109, 97, 105, 108, 116, 111]⟩]
/-- The variable 'schemes' (block 2) holds what its initialiser lays. -/
def Sch (w : World) : Prop := ∃ t fr, w.heap[0]? = some (.cells scells t fr)
theorem Sch.pos {w : World} (h : Sch w) : 0 < w.heap.size := by
  obtain ⟨t, fr, hg⟩ := h
  exact (Array.getElem?_eq_some_iff.1 hg).1
theorem Sch.below {w w' : World} (h : Sch w) (hb : Below w.heap.size w w') : Sch w' := by
  have hp := h.pos
  obtain ⟨t, fr, hg⟩ := h
  exact ⟨t, fr, (hb.block 0 hp).trans hg⟩
theorem Sch.cell {w : World} (h : Sch w) (j : Nat) : w.cell? ⟨0, j, none⟩ = scells[j]? := by
  obtain ⟨t, fr, hg⟩ := h
  simp [World.cell?, hg]

theorem stand_lo {c : UInt8} (h : c.toNat < 33) : Lk.stand c = false := by
  unfold Lk.stand
  rw [decide_eq_false (fun hh => by rw [UInt8.le_iff_toNat_le] at hh; have : (33 : UInt8).toNat = 33 := rfl; omega)]
  rfl
theorem stand_hi {c : UInt8} (h : 126 < c.toNat) : Lk.stand c = false := by
  unfold Lk.stand
  have : decide (c ≤ 126) = false := decide_eq_false (fun hh => by rw [UInt8.le_iff_toNat_le] at hh; have : (126 : UInt8).toNat = 126 := rfl; omega)
  rw [this]
  simp
theorem stand_mid {c : UInt8} (h : 33 ≤ c.toNat) (h2 : c.toNat ≤ 126) : Lk.stand c = decide (Lib.indexByte Lk.barred c < 0) := by
  unfold Lk.stand
  rw [decide_eq_true (show (33 : UInt8) ≤ c by rw [UInt8.le_iff_toNat_le]; exact h), decide_eq_true (show c ≤ 126 by rw [UInt8.le_iff_toNat_le]; exact h2), Lib.contains_iff_indexByte]
  by_cases hz : Lib.indexByte Lk.barred c < 0
  · rw [decide_eq_true hz, decide_eq_false (by omega)]; rfl
  · rw [decide_eq_false hz, decide_eq_true (by omega)]; rfl

set_option maxHeartbeats 800000 in
theorem stand_any (c : UInt8) (w : World) : Calls Tryz.prog 136 #[.int .u8 c.toNat] w fun e w' => e = .returned (.bool (Lk.stand c)) ∧ w' = w := by
  by_cases h1 : 33 ≤ c.toNat
  · by_cases h2 : c.toNat ≤ 126
    · have hst := stand_mid h1 h2
      have hback : ((c.toNat : Int)).toNat.toUInt8 = c := by simp
      have hI := fun w => Tryz.strings_IndexByte ⟨#[34, 39, 60, 62, 92, 96]⟩ (c.toNat : Int) w
      rw [hback] at hI
      change ∀ w, Calls Tryz.prog 118 _ w fun e w' => e = .returned (.int .i64 (Lib.indexByte Lk.barred c)) ∧ w' = w at hI
      have HI : Hid (∀ w, Calls Tryz.prog 118 #[.string ⟨#[34, 39, 60, 62, 92, 96]⟩, .int .u8 c.toNat] w fun e w' => e = .returned (.int .i64 (Lib.indexByte Lk.barred c)) ∧ w' = w) := hI
      clear hI hback
      generalize Lib.indexByte Lk.barred c = z at *
      rw [hst]
      clear hst
      go_enter Tryz.func136, Tryz.ntmps136
      go_wp2_with fail
      refine (HI.out _).mono ?_
      rintro e w' ⟨rfl, rfl⟩
      go_wp2
      go_ret
      exact ⟨rfl, rfl⟩
    · rw [stand_hi (by omega)]
      go_enter Tryz.func136, Tryz.ntmps136
      go_wp2
      go_ret
      exact ⟨rfl, rfl⟩
  · rw [stand_lo (by omega)]
    go_enter Tryz.func136, Tryz.ntmps136
    go_wp2
    go_ret
    exact ⟨rfl, rfl⟩

theorem eqB (k x : List UInt8) : (k == (B x).toList) = decide (k = x) := by
  rw [Lib.toList_data, B_data]
  by_cases h : k = x
  · subst h; simp
  · rw [decide_eq_false h]; simpa using h
theorem Beq (k x : List UInt8) : ((B x).toList == k) = decide (k = x) := by
  rw [Lib.toList_data, B_data]
  by_cases h : k = x
  · subst h; simp
  · rw [decide_eq_false h]; simpa using fun e => h e.symm
theorem sidx0 (w : World) : (Instr.index 168 (.agg scells) (.int .i64 0)).run Tryz.prog w = .ok (.string ⟨#[104, 116, 116, 112]⟩) w := by kernel_rfl
theorem sidx1 (w : World) : (Instr.index 168 (.agg scells) (.int .i64 1)).run Tryz.prog w = .ok (.string ⟨#[104, 116, 116, 112, 115]⟩) w := by kernel_rfl
theorem sidx2 (w : World) : (Instr.index 168 (.agg scells) (.int .i64 2)).run Tryz.prog w = .ok (.string ⟨#[109, 97, 105, 108, 116, 111]⟩) w := by kernel_rfl
theorem sz79 : (Tryz.prog.info? 168).map (·.size) = some scells.size := by kernel_rfl

set_option maxHeartbeats 800000 in
set_option maxRecDepth 100000 in
theorem lead_any (x : List UInt8) (w : World) (hS : Sch w) : Calls Tryz.prog 137 #[.string (B x)] w fun e w' => e = .returned (.bool (Lk.lead x)) ∧ w' = w := by
  obtain ⟨t, fr, hg⟩ := hS
  have Hg : Hid (w.heap[0]? = some (.cells scells t fr)) := hg
  clear hg
  have i0 := sidx0
  have i1 := sidx1
  have i2 := sidx2
  have q1 := eqB [104, 116, 116, 112] x
  have q2 := eqB [104, 116, 116, 112, 115] x
  have q3 := eqB [109, 97, 105, 108, 116, 111] x
  by_cases h1 : [104, 116, 116, 112] = x
  · have hl : Lk.lead x = true := by subst h1; rfl
    rw [hl]
    rw [decide_eq_true h1] at q1
    clear hl q2 q3 h1
    generalize B x = b at *
    go_enter Tryz.func137, Tryz.ntmps137
    go_wp2_with (refine wpList_load_row rfl 168 _ rfl 0 rfl t _ fr _ Hg.out Tryz.underlying168 rfl sz79 ?_)
    refine wp_loop_rounds 5 ?_
    rw [rounds_succ]
    go_wp2
    go_ret
    exact ⟨rfl, rfl⟩
  · rw [decide_eq_false h1] at q1
    by_cases h2 : [104, 116, 116, 112, 115] = x
    · have hl : Lk.lead x = true := by subst h2; rfl
      rw [hl]
      rw [decide_eq_true h2] at q2
      clear hl q3 h1 h2
      generalize B x = b at *
      go_enter Tryz.func137, Tryz.ntmps137
      go_wp2_with (refine wpList_load_row rfl 168 _ rfl 0 rfl t _ fr _ Hg.out Tryz.underlying168 rfl sz79 ?_)
      refine wp_loop_rounds 5 ?_
      rw [rounds_succ]
      go_wp2
      rw [rounds_succ]
      go_wp2
      go_ret
      exact ⟨rfl, rfl⟩
    · rw [decide_eq_false h2] at q2
      by_cases h3 : [109, 97, 105, 108, 116, 111] = x
      · have hl : Lk.lead x = true := by subst h3; rfl
        rw [hl]
        rw [decide_eq_true h3] at q3
        clear hl h1 h2 h3
        generalize B x = b at *
        go_enter Tryz.func137, Tryz.ntmps137
        go_wp2_with (refine wpList_load_row rfl 168 _ rfl 0 rfl t _ fr _ Hg.out Tryz.underlying168 rfl sz79 ?_)
        refine wp_loop_rounds 5 ?_
        rw [rounds_succ]
        go_wp2
        rw [rounds_succ]
        go_wp2
        rw [rounds_succ]
        go_wp2
        go_ret
        exact ⟨rfl, rfl⟩
      · have hl : Lk.lead x = false := by
          unfold Lk.lead Lk.leads
          simp [Ne.symm h1, Ne.symm h2, Ne.symm h3]
        rw [hl]
        rw [decide_eq_false h3] at q3
        clear hl h1 h2 h3
        generalize B x = b at *
        go_enter Tryz.func137, Tryz.ntmps137
        go_wp2_with (refine wpList_load_row rfl 168 _ rfl 0 rfl t _ fr _ Hg.out Tryz.underlying168 rfl sz79 ?_)
        refine wp_loop_rounds 5 ?_
        rw [rounds_succ]
        go_wp2
        rw [rounds_succ]
        go_wp2
        rw [rounds_succ]
        go_wp2
        rw [rounds_succ]
        go_wp2
        go_ret
        exact ⟨rfl, rfl⟩

theorem may_len (l : List UInt8) (h : l.length < 1 ∨ 24 < l.length) : Lk.may l = false := by
  unfold Lk.may
  rcases h with h | h
  · rw [decide_eq_false (show ¬ 1 ≤ l.length by omega)]; simp
  · rw [decide_eq_false (show ¬ l.length ≤ 24 by omega)]; simp
theorem may_not (l : List UInt8) (k : Nat) (h : k < l.length) (hc : Lk.stand l[k] = false) : Lk.may l = false := by
  have : l.all Lk.stand = false := by
    rw [List.all_eq_false]
    exact ⟨l[k], List.getElem_mem h, by rw [hc]; exact Bool.false_ne_true⟩
  unfold Lk.may
  rw [this]
  simp
theorem may_all (l : List UInt8) (h1 : 1 ≤ l.length) (h2 : l.length ≤ 24) (hs : l.all Lk.stand = true) : Lk.may l = Lk.lead (Lk.scheme l) := by
  unfold Lk.may
  rw [hs, decide_eq_true h1, decide_eq_true h2]
  simp

set_option maxRecDepth 100000 in
set_option maxHeartbeats 1600000 in
theorem may_any (s : ByteArray) (w : World) (hs : s.size ≤ 9223372036854775807) (hS : Sch w) :
    Calls Tryz.prog 125 #[.string s] w fun e w' => e = .returned (.bool (Lk.may s.data.toList)) ∧ Below w.heap.size w w' := by
  have HS : Hid (Sch w) := hS
  clear hS
  have hl := len_list s
  by_cases h1 : s.size < 1
  · rw [may_len _ (.inl (by omega))]
    clear hl
    go_enter Tryz.func125, Tryz.ntmps125
    go_wp2
    go_ret
    exact ⟨rfl, Below.refl _ _⟩
  · by_cases h2 : 24 < s.size
    · rw [may_len _ (.inr (by omega))]
      clear hl
      go_enter Tryz.func125, Tryz.ntmps125
      go_wp2
      go_ret
      exact ⟨rfl, Below.refl _ _⟩
    · obtain ⟨m, hm⟩ : ∃ m, Lk.may s.data.toList = m := ⟨_, rfl⟩
      rw [hm]
      have HM : Hid (Lk.may s.data.toList = m) := hm
      clear hm
      go_enter Tryz.func125, Tryz.ntmps125
      go_wp2
      go_loop [3] (fun i => ∃ k : Nat, k ≤ s.size ∧ i = .int .i64 k ∧ (s.data.toList.take k).all Lk.stand = true) (fun i => s.size - (intOf i).toNat)
      case atStart => exact ⟨0, Nat.zero_le _, rfl, by simp⟩
      case round =>
        obtain ⟨k, hk, rfl, hall⟩ := hrel
        have HA : Hid ((s.data.toList.take k).all Lk.stand = true) := hall
        clear hall
        by_cases hlt : k < s.size
        · have hkl : k < s.data.toList.length := by omega
          obtain ⟨c, hc⟩ : ∃ c : UInt8, s[k]'hlt = c := ⟨_, rfl⟩
          have hcl : s.data.toList[k] = c := by rw [← hc]; rfl
          have hix := run_index_at s k hlt
          rw [hc] at hix
          cases hst : Lk.stand c
          · have hmf := may_not s.data.toList k hkl (by rw [hcl]; exact hst)
            rw [HM.out] at hmf
            subst hmf
            clear hcl hc
            go_wp2_with (go_at_call 136; refine (stand_any c _).mono ?_; rintro e w' ⟨rfl, hw⟩; rw [hw, hst])
            go_ret
            exact ⟨rfl, Below.refl _ _⟩
          · have H2 : Hid ((s.data.toList.take (k + 1)).all Lk.stand = true) := by
              show _ = _
              rw [List.take_succ_eq_append_getElem hkl, List.all_append, HA.out, hcl]
              simp [hst]
            clear hcl hc
            go_wp2_with (go_at_call 136; refine (stand_any c _).mono ?_; rintro e w' ⟨rfl, hw⟩; rw [hw, hst])
            go_round
            case rel => exact ⟨k + 1, by omega, by go_num, H2.out⟩
            case measure => simp [intOf]; omega
        · have hal : s.data.toList.all Lk.stand = true := by
            have := HA.out
            rw [List.take_of_length_le (by omega)] at this
            exact this
          have hmm := may_all s.data.toList (by omega) (by omega) hal
          rw [HM.out] at hmm
          clear hal
          go_wp2_with fail
          refine (scheme_any s _ hs).mono ?_
          rintro e w1 ⟨rfl, hb1⟩
          have H1 : Hid (Below w.heap.size w w1) := hb1
          have HS1 : Hid (Sch w1) := HS.out.below hb1
          clear hb1
          go_wp2_with fail
          refine (lead_any _ _ HS1.out).mono ?_
          rintro e w2 ⟨rfl, hw⟩
          rw [hw]
          have HH : Hid (m = Lk.lead (Lk.scheme s.data.toList)) := hmm
          clear hmm
          go_wp2
          go_ret
          exact ⟨by rw [HH.out]; rfl, H1.out⟩
end Go.Proofs.YtaigleblmbblcaaGreatDoor

/-
  The reference's MayBe: as link.May has it.
-/
namespace Go.Proofs.YtaigleblmbblcaaGreatDoor
open Go.RowKit

def leadsB : List ByteArray := [⟨#[104, 116, 116, 112]⟩, ⟨#[104, 116, 116, 112, 115]⟩, ⟨#[109, 97, 105, 108, 116, 111]⟩]
theorem containsS_lead (x : List UInt8) : Lib.containsS (leadsB.take 3) (B x) = Lk.lead x := by
  have h1 := Lib.containsS_iff (leadsB.take 3) (B x)
  have h2 : B x ∈ leadsB.take 3 ↔ Lk.lead x = true := by
    have e : leadsB.take 3 = Lk.leads.map B := rfl
    rw [e, Lk.lead, List.contains_iff_mem]
    constructor
    · intro h
      obtain ⟨y, hy, hb⟩ := List.mem_map.1 h
      rw [← B_inj hb]; exact hy
    · intro h; exact List.mem_map.2 ⟨x, h, rfl⟩
  rw [h2] at h1
  exact Bool.eq_iff_iff.2 h1

/-- In block b lie the three schemes. -/
def Three (b : Nat) (w : World) : Prop := ∃ t fr, w.heap[b]? = some (.cells scells t fr)
theorem Three.cell {b : Nat} {w : World} (h : Three b w) (j : Nat) (hj : j < leadsB.length) : w.cell? ⟨b, 0 + j, none⟩ = some (.string (leadsB.getD j ByteArray.empty)) := by
  obtain ⟨t, fr, hg⟩ := h
  match j, hj with
  | 0, _ => simp [World.cell?, hg]; rfl
  | 1, _ => simp [World.cell?, hg]; rfl
  | 2, _ => simp [World.cell?, hg]; rfl
theorem Three.new (w : World) : Three w.heap.size (w.alloc (.cells scells 9)) := ⟨_, _, heap_alloc_new w _⟩
theorem Three.below {b : Nat} {w w' : World} (h : Three b w) (hb : Below w.heap.size w w') : Three b w' := by
  obtain ⟨t, fr, hg⟩ := h
  exact ⟨t, fr, (hb.block b (Array.getElem?_eq_some_iff.1 hg).1).trans hg⟩
theorem lead3 (b : Nat) (x : List UInt8) (w : World) (h : Three b w) : Calls Tryz.prog 119 #[.slice (some ⟨b, 0, none⟩) 3 3, .string (B x)] w fun e w' => e = .returned (.bool (Lk.lead x)) ∧ w' = w := by
  have := Tryz.slices_Contains_string b 0 3 3 leadsB (B x) w (by decide) (by decide) h.cell
  rw [containsS_lead] at this
  exact this

set_option maxRecDepth 100000 in
set_option maxHeartbeats 1600000 in
theorem MayBe_any (s : ByteArray) (w : World) (hs : s.size ≤ 9223372036854775807) :
    Calls Tryz.prog 99 #[.string s] w fun e w' => e = .returned (.bool (Lk.may s.data.toList)) ∧ Below w.heap.size w w' := by
  have hl := len_list s
  by_cases h1 : s.size < 1
  · rw [may_len _ (.inl (by omega))]
    clear hl
    go_enter Tryz.func99, Tryz.ntmps99
    go_wp2
    go_ret
    exact ⟨rfl, Below.refl _ _⟩
  · by_cases h2 : 24 < s.size
    · rw [may_len _ (.inr (by omega))]
      clear hl
      go_enter Tryz.func99, Tryz.ntmps99
      go_wp2
      go_ret
      exact ⟨rfl, Below.refl _ _⟩
    · obtain ⟨m, hm⟩ : ∃ m, Lk.may s.data.toList = m := ⟨_, rfl⟩
      rw [hm]
      have HM : Hid (Lk.may s.data.toList = m) := hm
      clear hm
      go_enter Tryz.func99, Tryz.ntmps99
      go_wp2
      go_loop [14] (fun i => ∃ k : Nat, k ≤ s.size ∧ i = .int .i64 k ∧ (s.data.toList.take k).all Lk.stand = true) (fun i => s.size - (intOf i).toNat)
      case atStart => exact ⟨0, Nat.zero_le _, rfl, by simp⟩
      case round =>
        obtain ⟨k, hk, rfl, hall⟩ := hrel
        have HA : Hid ((s.data.toList.take k).all Lk.stand = true) := hall
        clear hall
        by_cases hlt : k < s.size
        · have hkl : k < s.data.toList.length := by omega
          obtain ⟨c, hc⟩ : ∃ c : UInt8, s[k]'hlt = c := ⟨_, rfl⟩
          have hcl : s.data.toList[k] = c := by rw [← hc]; rfl
          have hix := run_index_at s k hlt
          rw [hc] at hix
          have HF : Hid (Lk.stand c = false → m = false) := fun hst => by
            rw [← HM.out]; exact may_not s.data.toList k hkl (by rw [hcl]; exact hst)
          have HT : Hid (Lk.stand c = true → (s.data.toList.take (k + 1)).all Lk.stand = true) := fun hst => by
            rw [List.take_succ_eq_append_getElem hkl, List.all_append, HA.out, hcl]
            simp [hst]
          clear hcl hc
          by_cases hlo : 33 ≤ c.toNat
          · by_cases hhi : c.toNat ≤ 126
            · have hst := stand_mid hlo hhi
              have hback : ((c.toNat : Int)).toNat.toUInt8 = c := by simp
              have hI := fun w => Tryz.strings_IndexByte ⟨#[34, 39, 60, 62, 92, 96]⟩ (c.toNat : Int) w
              rw [hback] at hI
              change ∀ w, Calls Tryz.prog 118 _ w fun e w' => e = .returned (.int .i64 (Lib.indexByte Lk.barred c)) ∧ w' = w at hI
              have HI : Hid (∀ w, Calls Tryz.prog 118 #[.string ⟨#[34, 39, 60, 62, 92, 96]⟩, .int .u8 c.toNat] w fun e w' => e = .returned (.int .i64 (Lib.indexByte Lk.barred c)) ∧ w' = w) := hI
              clear hI hback
              generalize Lib.indexByte Lk.barred c = z at *
              by_cases hz : z < 0
              · have H2 : Hid ((s.data.toList.take (k + 1)).all Lk.stand = true) := HT.out (by rw [hst]; exact decide_eq_true hz)
                clear hst
                go_wp2_with fail
                refine (HI.out _).mono ?_
                rintro e w' ⟨rfl, hw⟩
                rw [hw]
                go_wp2
                go_round
                case rel => exact ⟨k + 1, by omega, by go_num, H2.out⟩
                case measure => simp [intOf]; omega
              · have hmf := HF.out (by rw [hst]; exact decide_eq_false hz)
                subst hmf
                clear hst
                go_wp2_with fail
                refine (HI.out _).mono ?_
                rintro e w' ⟨rfl, hw⟩
                rw [hw]
                go_wp2
                go_ret
                exact ⟨rfl, Below.refl _ _⟩
            · have hmf := HF.out (stand_hi (by omega))
              subst hmf
              go_wp2
              go_ret
              exact ⟨rfl, Below.refl _ _⟩
          · have hmf := HF.out (stand_lo (by omega))
            subst hmf
            go_wp2
            go_ret
            exact ⟨rfl, Below.refl _ _⟩
        · have hal : s.data.toList.all Lk.stand = true := by
            have := HA.out
            rw [List.take_of_length_le (by omega)] at this
            exact this
          have hmm := may_all s.data.toList (by omega) (by omega) hal
          rw [HM.out] at hmm
          have HH : Hid (m = Lk.lead (Lk.scheme s.data.toList)) := hmm
          clear hal hmm
          go_wp2_with fail
          have HT : Hid (Three w.heap.size (w.alloc (.cells scells 9))) := Three.new w
          have HW : Hid (Below w.heap.size w (w.alloc (.cells scells 9))) := (Below.refl _ _).alloc (Nat.le_refl _) _
          change Calls Tryz.prog 120 #[.string s] (w.alloc (.cells scells 9)) _
          generalize w.alloc (.cells scells 9) = w1 at *
          refine (SchemeOf_any s w1 (by omega)).mono ?_
          rintro e w2 ⟨rfl, hb2⟩
          have H2 : Hid (Below w.heap.size w w2) := HW.out.trans (hb2.mono HW.out.size)
          have T2 : Hid (Three w.heap.size w2) := HT.out.below hb2
          clear hb2
          go_wp2_with fail
          refine (lead3 _ _ _ T2.out).mono ?_
          rintro e w3 ⟨rfl, hw⟩
          rw [hw]
          go_wp2
          go_ret
          exact ⟨by rw [HH.out]; rfl, H2.out⟩

end Go.Proofs.YtaigleblmbblcaaGreatDoor

/-
  Chapter 3's items: what an item is in memory, and what package doc tells of one.
-/
namespace Go.Proofs.YtaigleblmbblcaaGreatDoor
open Go.RowKit
structure It where
  c : UInt8
  m : Int
  l : ByteArray
namespace Dc
def ends (x : It) : Bool := (x.c.toNat : Int) == 10
def isChar (x : It) : Bool := decide (32 ≤ (x.c.toNat : Int)) && decide ((x.c.toNat : Int) ≤ 126)
def marks (x : It) : Bool := decide (0 ≤ x.m) && decide (x.m ≤ 3)
def link (x : It) : Bool := x.l.toList.isEmpty || (!ends x && Lk.may x.l.data.toList)
def err (x : It) : Int := if !ends x && !isChar x then 1 else if !marks x then 3 else if !link x then 4 else 0
end Dc

theorem ends_any (x : It) (w : World) : Calls Tryz.prog 64 #[.agg #[.int .u8 x.c.toNat, .int .i64 x.m, .string x.l]] w fun e w' => e = .returned (.bool (Dc.ends x)) ∧ Below w.heap.size w w' := by
  go_enter Tryz.func64, Tryz.ntmps64
  go_wp2
  go_ret
  exact ⟨rfl, (Below.refl _ _).alloc (Nat.le_refl _) _⟩
theorem isch_any (x : It) (w : World) : Calls Tryz.prog 105 #[.agg #[.int .u8 x.c.toNat, .int .i64 x.m, .string x.l]] w fun e w' => e = .returned (.bool (Dc.isChar x)) ∧ Below w.heap.size w w' := by
  by_cases h : 32 ≤ (x.c.toNat : Int)
  · have hr : Dc.isChar x = decide ((x.c.toNat : Int) ≤ 126) := by unfold Dc.isChar; rw [decide_eq_true h]; rfl
    rw [hr]
    clear hr
    go_enter Tryz.func105, Tryz.ntmps105
    go_wp2
    go_ret
    exact ⟨rfl, (Below.refl _ _).alloc (Nat.le_refl _) _⟩
  · have hr : Dc.isChar x = false := by unfold Dc.isChar; rw [decide_eq_false h]; rfl
    rw [hr]
    clear hr
    go_enter Tryz.func105, Tryz.ntmps105
    go_wp2
    go_ret
    exact ⟨rfl, (Below.refl _ _).alloc (Nat.le_refl _) _⟩

/-- A call that is handed an item lays it in a block of its own. -/
def boxed (x : It) (w : World) : World := w.alloc (.cells #[.int .u8 x.c.toNat, .int .i64 x.m, .string x.l] 41)
theorem boxed_below (x : It) (w : World) : Below w.heap.size w (boxed x w) := (Below.refl _ _).alloc (Nat.le_refl _) _
structure Boxed (b : Nat) (x : It) (w : World) : Prop where
  c : w.cell? ⟨b, 0, none⟩ = some (.int .u8 x.c.toNat)
  m : w.cell? ⟨b, 1, none⟩ = some (.int .i64 x.m)
  l : w.cell? ⟨b, 2, none⟩ = some (.string x.l)
theorem cell_lt {w : World} {a : Addr} {v : Value} (h : w.cell? a = some v) : a.block < w.heap.size := by
  unfold World.cell? at h
  split at h
  · rename_i hh; exact (Array.getElem?_eq_some_iff.1 hh).1
  · cases h
theorem cell_below {w w' : World} {a : Addr} {v : Value} (h : w.cell? a = some v) (hb : Below w.heap.size w w') : w'.cell? a = some v :=
  (hb.cell (cell_lt h)).trans h
theorem Boxed.below {b : Nat} {x : It} {w w' : World} (h : Boxed b x w) (hb : Below w.heap.size w w') : Boxed b x w' :=
  ⟨cell_below h.c hb, cell_below h.m hb, cell_below h.l hb⟩
theorem boxed_at (x : It) (w : World) : Boxed w.heap.size x (boxed x w) := by
  have h : (boxed x w).heap[w.heap.size]? = some (.cells #[.int .u8 x.c.toNat, .int .i64 x.m, .string x.l] 41) := heap_alloc_new w _
  refine ⟨?_, ?_, ?_⟩ <;> (unfold World.cell?; rw [h]; rfl)

set_option maxHeartbeats 800000 in
theorem mayl_any (x : It) (w : World) (hS : Sch w) (hl : x.l.size ≤ 9223372036854775807) : Calls Tryz.prog 106 #[.agg #[.int .u8 x.c.toNat, .int .i64 x.m, .string x.l]] w fun e w' => e = .returned (.bool (Dc.link x)) ∧ Below w.heap.size w w' := by
  have HS : Hid (Sch (boxed x w)) := hS.below (boxed_below x w)
  clear hS
  have H1 : Hid (Below w.heap.size w (boxed x w)) := boxed_below x w
  have HB : Hid (Boxed w.heap.size x (boxed x w)) := boxed_at x w
  cases h0 : x.l.toList.isEmpty
  · have hr : Dc.link x = (!Dc.ends x && Lk.may x.l.data.toList) := by unfold Dc.link; rw [h0]; rfl
    rw [hr]
    clear hr
    cases he : Dc.ends x
    · go_enter Tryz.func106, Tryz.ntmps106
      go_wp2_with fail
      change Calls Tryz.prog 64 _ (boxed x w) _
      refine (ends_any x _).mono ?_
      rintro e w1 ⟨rfl, hb⟩
      rw [he]
      have hc := (HB.out.below hb).l
      have HS1 : Hid (Sch w1) := HS.out.below hb
      have H2 : Hid (Below w.heap.size w w1) := H1.out.trans (hb.mono H1.out.size)
      clear hb
      go_wp2_with fail
      refine (may_any x.l _ hl HS1.out).mono ?_
      rintro e w2 ⟨rfl, hb⟩
      have H3 : Hid (Below w.heap.size w w2) := H2.out.trans (hb.mono H2.out.size)
      clear hb
      go_wp2
      go_ret
      exact ⟨rfl, H3.out⟩
    · go_enter Tryz.func106, Tryz.ntmps106
      go_wp2_with fail
      change Calls Tryz.prog 64 _ (boxed x w) _
      refine (ends_any x _).mono ?_
      rintro e w1 ⟨rfl, hb⟩
      rw [he]
      have H2 : Hid (Below w.heap.size w w1) := H1.out.trans (hb.mono H1.out.size)
      clear hb
      go_wp2
      go_ret
      exact ⟨rfl, H2.out⟩
  · have hr : Dc.link x = true := by unfold Dc.link; rw [h0]; rfl
    rw [hr]
    clear hr
    go_enter Tryz.func106, Tryz.ntmps106
    go_wp2
    go_ret
    exact ⟨rfl, H1.out⟩

theorem err_text {x : It} (h : Dc.ends x = false) (h2 : Dc.isChar x = false) : Dc.err x = 1 := by unfold Dc.err; rw [h, h2]; rfl
theorem err_rest {x : It} (h : Dc.ends x = true ∨ Dc.isChar x = true) : Dc.err x = if !Dc.marks x then 3 else if !Dc.link x then 4 else 0 := by
  unfold Dc.err
  rcases h with h | h <;> rw [h] <;> simp
theorem err_marks {x : It} (h : Dc.ends x = true ∨ Dc.isChar x = true) (hm : x.m < 0 ∨ 3 < x.m) : Dc.err x = 3 := by
  rw [err_rest h]
  have : Dc.marks x = false := by unfold Dc.marks; simp; omega
  rw [this]; rfl
theorem err_link {x : It} (h : Dc.ends x = true ∨ Dc.isChar x = true) (h0 : 0 ≤ x.m) (h3 : x.m ≤ 3) : Dc.err x = if Dc.link x then 0 else 4 := by
  rw [err_rest h]
  have : Dc.marks x = true := by unfold Dc.marks; simp; omega
  rw [this]
  cases Dc.link x <;> rfl

set_option maxHeartbeats 3200000 in
theorem item_any (x : It) (w : World) (hS : Sch w) (hl : x.l.size ≤ 9223372036854775807) : Calls Tryz.prog 90 #[.agg #[.int .u8 x.c.toNat, .int .i64 x.m, .string x.l]] w fun e w' => e = .returned (.int .i64 (Dc.err x)) ∧ Below w.heap.size w w' := by
  have HS : Hid (Sch (boxed x w)) := hS.below (boxed_below x w)
  clear hS
  have H1 : Hid (Below w.heap.size w (boxed x w)) := boxed_below x w
  have HB : Hid (Boxed w.heap.size x (boxed x w)) := boxed_at x w
  obtain ⟨r, hr⟩ : ∃ r, Dc.err x = r := ⟨_, rfl⟩
  have HR : Hid (Dc.err x = r) := hr
  rw [hr]
  clear hr
  cases he : Dc.ends x
  · cases hc : Dc.isChar x
    · have : r = 1 := HR.out.symm.trans (err_text he hc)
      subst this
      go_enter Tryz.func90, Tryz.ntmps90
      go_wp2_with fail
      change Calls Tryz.prog 64 _ (boxed x w) _
      refine (ends_any x _).mono ?_
      rintro e w1 ⟨rfl, hb⟩
      rw [he]
      have B2 := HB.out.below hb
      have hc0 := B2.c
      have hc1 := B2.m
      have hc2 := B2.l
      have HB2 : Hid (Boxed w.heap.size x w1) := B2
      clear B2
      have HS2 : Hid (Sch w1) := HS.out.below hb
      have H2 : Hid (Below w.heap.size w w1) := H1.out.trans (hb.mono H1.out.size)
      clear hb
      go_wp2_with fail
      refine (isch_any x _).mono ?_
      rintro e w2 ⟨rfl, hb⟩
      rw [hc]
      have B3 := HB2.out.below hb
      have hd0 := B3.c
      have hd1 := B3.m
      have hd2 := B3.l
      clear B3
      have HS3 : Hid (Sch w2) := HS2.out.below hb
      have H3 : Hid (Below w.heap.size w w2) := H2.out.trans (hb.mono H2.out.size)
      clear hb
      go_wp2
      go_ret
      exact ⟨rfl, H3.out⟩
    · have ok : Dc.ends x = true ∨ Dc.isChar x = true := .inr hc
      by_cases hm : x.m < 0
      · have : r = 3 := HR.out.symm.trans (err_marks ok (.inl hm))
        subst this
        clear ok
        go_enter Tryz.func90, Tryz.ntmps90
        go_wp2_with fail
        change Calls Tryz.prog 64 _ (boxed x w) _
        refine (ends_any x _).mono ?_
        rintro e w1 ⟨rfl, hb⟩
        rw [he]
        have B2 := HB.out.below hb
        have hc0 := B2.c
        have hc1 := B2.m
        have hc2 := B2.l
        have HB2 : Hid (Boxed w.heap.size x w1) := B2
        clear B2
        have HS2 : Hid (Sch w1) := HS.out.below hb
        have H2 : Hid (Below w.heap.size w w1) := H1.out.trans (hb.mono H1.out.size)
        clear hb
        go_wp2_with fail
        refine (isch_any x _).mono ?_
        rintro e w2 ⟨rfl, hb⟩
        rw [hc]
        have B3 := HB2.out.below hb
        have hd0 := B3.c
        have hd1 := B3.m
        have hd2 := B3.l
        clear B3
        have HS3 : Hid (Sch w2) := HS2.out.below hb
        have H3 : Hid (Below w.heap.size w w2) := H2.out.trans (hb.mono H2.out.size)
        clear hb
        go_wp2
        go_ret
        exact ⟨rfl, H3.out⟩
      · by_cases hm3 : 3 < x.m
        · have : r = 3 := HR.out.symm.trans (err_marks ok (.inr hm3))
          subst this
          clear ok
          go_enter Tryz.func90, Tryz.ntmps90
          go_wp2_with fail
          change Calls Tryz.prog 64 _ (boxed x w) _
          refine (ends_any x _).mono ?_
          rintro e w1 ⟨rfl, hb⟩
          rw [he]
          have B2 := HB.out.below hb
          have hc0 := B2.c
          have hc1 := B2.m
          have hc2 := B2.l
          have HB2 : Hid (Boxed w.heap.size x w1) := B2
          clear B2
          have HS2 : Hid (Sch w1) := HS.out.below hb
          have H2 : Hid (Below w.heap.size w w1) := H1.out.trans (hb.mono H1.out.size)
          clear hb
          go_wp2_with fail
          refine (isch_any x _).mono ?_
          rintro e w2 ⟨rfl, hb⟩
          rw [hc]
          have B3 := HB2.out.below hb
          have hd0 := B3.c
          have hd1 := B3.m
          have hd2 := B3.l
          clear B3
          have HS3 : Hid (Sch w2) := HS2.out.below hb
          have H3 : Hid (Below w.heap.size w w2) := H2.out.trans (hb.mono H2.out.size)
          clear hb
          go_wp2
          go_ret
          exact ⟨rfl, H3.out⟩
        · have hrl := HR.out.symm.trans (err_link ok (by omega) (by omega))
          clear ok
          cases hk : Dc.link x
          · rw [hk] at hrl
            have : r = 4 := hrl
            subst this
            clear hrl
            go_enter Tryz.func90, Tryz.ntmps90
            go_wp2_with fail
            change Calls Tryz.prog 64 _ (boxed x w) _
            refine (ends_any x _).mono ?_
            rintro e w1 ⟨rfl, hb⟩
            rw [he]
            have B2 := HB.out.below hb
            have hc0 := B2.c
            have hc1 := B2.m
            have hc2 := B2.l
            have HB2 : Hid (Boxed w.heap.size x w1) := B2
            clear B2
            have HS2 : Hid (Sch w1) := HS.out.below hb
            have H2 : Hid (Below w.heap.size w w1) := H1.out.trans (hb.mono H1.out.size)
            clear hb
            go_wp2_with fail
            refine (isch_any x _).mono ?_
            rintro e w2 ⟨rfl, hb⟩
            rw [hc]
            have B3 := HB2.out.below hb
            have hd0 := B3.c
            have hd1 := B3.m
            have hd2 := B3.l
            clear B3
            have HS3 : Hid (Sch w2) := HS2.out.below hb
            have H3 : Hid (Below w.heap.size w w2) := H2.out.trans (hb.mono H2.out.size)
            clear hb
            go_wp2_with fail
            refine (mayl_any x _ HS3.out hl).mono ?_
            rintro e w4 ⟨rfl, hb⟩
            rw [hk]
            have H4 : Hid (Below w.heap.size w w4) := H3.out.trans (hb.mono H3.out.size)
            clear hb
            go_wp2
            go_ret
            exact ⟨rfl, H4.out⟩
          · rw [hk] at hrl
            have : r = 0 := hrl
            subst this
            clear hrl
            go_enter Tryz.func90, Tryz.ntmps90
            go_wp2_with fail
            change Calls Tryz.prog 64 _ (boxed x w) _
            refine (ends_any x _).mono ?_
            rintro e w1 ⟨rfl, hb⟩
            rw [he]
            have B2 := HB.out.below hb
            have hc0 := B2.c
            have hc1 := B2.m
            have hc2 := B2.l
            have HB2 : Hid (Boxed w.heap.size x w1) := B2
            clear B2
            have HS2 : Hid (Sch w1) := HS.out.below hb
            have H2 : Hid (Below w.heap.size w w1) := H1.out.trans (hb.mono H1.out.size)
            clear hb
            go_wp2_with fail
            refine (isch_any x _).mono ?_
            rintro e w2 ⟨rfl, hb⟩
            rw [hc]
            have B3 := HB2.out.below hb
            have hd0 := B3.c
            have hd1 := B3.m
            have hd2 := B3.l
            clear B3
            have HS3 : Hid (Sch w2) := HS2.out.below hb
            have H3 : Hid (Below w.heap.size w w2) := H2.out.trans (hb.mono H2.out.size)
            clear hb
            go_wp2_with fail
            refine (mayl_any x _ HS3.out hl).mono ?_
            rintro e w4 ⟨rfl, hb⟩
            rw [hk]
            have H4 : Hid (Below w.heap.size w w4) := H3.out.trans (hb.mono H3.out.size)
            clear hb
            go_wp2
            go_ret
            exact ⟨rfl, H4.out⟩
  · have ok : Dc.ends x = true ∨ Dc.isChar x = true := .inl he
    by_cases hm : x.m < 0
    · have : r = 3 := HR.out.symm.trans (err_marks ok (.inl hm))
      subst this
      clear ok
      go_enter Tryz.func90, Tryz.ntmps90
      go_wp2_with fail
      change Calls Tryz.prog 64 _ (boxed x w) _
      refine (ends_any x _).mono ?_
      rintro e w1 ⟨rfl, hb⟩
      rw [he]
      have B2 := HB.out.below hb
      have hc0 := B2.c
      have hc1 := B2.m
      have hc2 := B2.l
      have HB2 : Hid (Boxed w.heap.size x w1) := B2
      clear B2
      have HS2 : Hid (Sch w1) := HS.out.below hb
      have H2 : Hid (Below w.heap.size w w1) := H1.out.trans (hb.mono H1.out.size)
      clear hb
      go_wp2
      go_ret
      exact ⟨rfl, H2.out⟩
    · by_cases hm3 : 3 < x.m
      · have : r = 3 := HR.out.symm.trans (err_marks ok (.inr hm3))
        subst this
        clear ok
        go_enter Tryz.func90, Tryz.ntmps90
        go_wp2_with fail
        change Calls Tryz.prog 64 _ (boxed x w) _
        refine (ends_any x _).mono ?_
        rintro e w1 ⟨rfl, hb⟩
        rw [he]
        have B2 := HB.out.below hb
        have hc0 := B2.c
        have hc1 := B2.m
        have hc2 := B2.l
        have HB2 : Hid (Boxed w.heap.size x w1) := B2
        clear B2
        have HS2 : Hid (Sch w1) := HS.out.below hb
        have H2 : Hid (Below w.heap.size w w1) := H1.out.trans (hb.mono H1.out.size)
        clear hb
        go_wp2
        go_ret
        exact ⟨rfl, H2.out⟩
      · have hrl := HR.out.symm.trans (err_link ok (by omega) (by omega))
        clear ok
        cases hk : Dc.link x
        · rw [hk] at hrl
          have : r = 4 := hrl
          subst this
          clear hrl
          go_enter Tryz.func90, Tryz.ntmps90
          go_wp2_with fail
          change Calls Tryz.prog 64 _ (boxed x w) _
          refine (ends_any x _).mono ?_
          rintro e w1 ⟨rfl, hb⟩
          rw [he]
          have B2 := HB.out.below hb
          have hc0 := B2.c
          have hc1 := B2.m
          have hc2 := B2.l
          have HB2 : Hid (Boxed w.heap.size x w1) := B2
          clear B2
          have HS2 : Hid (Sch w1) := HS.out.below hb
          have H2 : Hid (Below w.heap.size w w1) := H1.out.trans (hb.mono H1.out.size)
          clear hb
          go_wp2_with fail
          refine (mayl_any x _ HS2.out hl).mono ?_
          rintro e w4 ⟨rfl, hb⟩
          rw [hk]
          have H4 : Hid (Below w.heap.size w w4) := H2.out.trans (hb.mono H2.out.size)
          clear hb
          go_wp2
          go_ret
          exact ⟨rfl, H4.out⟩
        · rw [hk] at hrl
          have : r = 0 := hrl
          subst this
          clear hrl
          go_enter Tryz.func90, Tryz.ntmps90
          go_wp2_with fail
          change Calls Tryz.prog 64 _ (boxed x w) _
          refine (ends_any x _).mono ?_
          rintro e w1 ⟨rfl, hb⟩
          rw [he]
          have B2 := HB.out.below hb
          have hc0 := B2.c
          have hc1 := B2.m
          have hc2 := B2.l
          have HB2 : Hid (Boxed w.heap.size x w1) := B2
          clear B2
          have HS2 : Hid (Sch w1) := HS.out.below hb
          have H2 : Hid (Below w.heap.size w w1) := H1.out.trans (hb.mono H1.out.size)
          clear hb
          go_wp2_with fail
          refine (mayl_any x _ HS2.out hl).mono ?_
          rintro e w4 ⟨rfl, hb⟩
          rw [hk]
          have H4 : Hid (Below w.heap.size w w4) := H2.out.trans (hb.mono H2.out.size)
          clear hb
          go_wp2
          go_ret
          exact ⟨rfl, H4.out⟩
end Go.Proofs.YtaigleblmbblcaaGreatDoor

/-
  Lists of items in memory, and doc.Items of any list.
-/
namespace Go.Proofs.YtaigleblmbblcaaGreatDoor
open Go.RowKit
namespace Dc
def errs : List It → Int
  | [] => 0
  | x :: t => if err x = 0 then errs t else err x
theorem errs_step (l : List It) (k : Nat) (h : k < l.length) : errs (l.drop k) = if err l[k] = 0 then errs (l.drop (k + 1)) else err l[k] := by
  rw [List.drop_eq_getElem_cons h, errs]
end Dc
/-- From place 'off' of block b on lie the items l. -/
structure At (w : World) (b off : Nat) (l : List It) : Prop where
  c : ∀ i (h : i < l.length), w.cell? ⟨b, off + i * 3, none⟩ = some (.int .u8 l[i].c.toNat)
  m : ∀ i (h : i < l.length), w.cell? ⟨b, off + i * 3 + 1, none⟩ = some (.int .i64 l[i].m)
  l : ∀ i (h : i < l.length), w.cell? ⟨b, off + i * 3 + 2, none⟩ = some (.string l[i].l)
theorem At.below {w w' : World} {b off : Nat} {l : List It} (h : At w b off l) (hb : Below w.heap.size w w') : At w' b off l :=
  ⟨fun i hi => cell_below (h.c i hi) hb, fun i hi => cell_below (h.m i hi) hb, fun i hi => cell_below (h.l i hi) hb⟩
/-- Each link is a text that there may be. -/
def Fit (l : List It) : Prop := ∀ x ∈ l, x.l.size ≤ 9223372036854775807
/-- The slice (ao, n, cap) is the document l. -/
structure Doc (w : World) (ao : Option Addr) (n cap : Nat) (l : List It) : Prop where
  fit : Fit l
  len : l.length = n
  room : n ≤ cap
  big : cap ≤ 9223372036854775807
  lies : n ≠ 0 → ∃ b off, ao = some ⟨b, off, none⟩ ∧ At w b off l
theorem Doc.below {w w' : World} {ao : Option Addr} {n cap : Nat} {l : List It} (h : Doc w ao n cap l) (hb : Below w.heap.size w w') : Doc w' ao n cap l :=
  ⟨h.fit, h.len, h.room, h.big, fun hn => by obtain ⟨b, off, e, hA⟩ := h.lies hn; exact ⟨b, off, e, hA.below hb⟩⟩

set_option maxHeartbeats 1600000 in
theorem items_any (ao : Option Addr) (n cap : Nat) (l : List It) (w : World) (hD : Doc w ao n cap l) (hS : Sch w) :
    Calls Tryz.prog 63 #[.slice ao n cap] w fun e w' => e = .returned (.int .i64 (Dc.errs l)) ∧ Below w.heap.size w w' := by
  have HD : Hid (Doc w ao n cap l) := hD
  have hn := hD.len
  subst hn
  have hcap := hD.room
  have hbig := hD.big
  clear hD
  have HS : Hid (Sch w) := hS
  clear hS
  obtain ⟨r, hr⟩ : ∃ r, Dc.errs l = r := ⟨_, rfl⟩
  have HR : Hid (Dc.errs l = r) := hr
  rw [hr]
  clear hr
  go_enter Tryz.func63, Tryz.ntmps63
  go_wp2
  go_loopw [8] (fun i wr => ∃ k : Nat, k ≤ l.length ∧ i = .int .i64 k ∧ Below w.heap.size w wr ∧ Dc.errs (l.drop k) = r) (fun i _ => l.length - (intOf i).toNat)
  case atStart => exact ⟨0, Nat.zero_le _, rfl, Below.refl _ _, HR.out⟩
  case round =>
    obtain ⟨k, hk, rfl, hbr, her⟩ := hrel
    have HE : Hid (Dc.errs (l.drop k) = r) := her
    have HBR : Hid (Below w.heap.size w wr) := hbr
    clear her hbr
    by_cases hlt : k < l.length
    · obtain ⟨b, off, rfl, A0⟩ := HD.out.lies (by omega)
      have A1 := A0.below HBR.out
      have hc0 := A1.c k hlt
      have hc1 := A1.m k hlt
      have hc2 := A1.l k hlt
      have hfx := HD.out.fit _ (List.getElem_mem hlt)
      have HX : Hid (Dc.errs (l.drop k) = if Dc.err l[k] = 0 then Dc.errs (l.drop (k + 1)) else Dc.err l[k]) := Dc.errs_step l k hlt
      clear A1 A0
      generalize hx : l[k] = x at *
      have HS2 : Hid (Sch (boxed x wr)) := HS.out.below (HBR.out.trans ((boxed_below x wr).mono HBR.out.size))
      have H1 : Hid (Below w.heap.size w (boxed x wr)) := HBR.out.trans ((boxed_below x wr).mono HBR.out.size)
      clear hx
      go_wp2_with fail
      change Calls Tryz.prog 90 _ (boxed x wr) _
      refine (item_any x _ HS2.out hfx).mono ?_
      rintro e w1 ⟨rfl, hb⟩
      have H2 : Hid (Below w.heap.size w w1) := H1.out.trans (hb.mono H1.out.size)
      clear hb
      by_cases h0 : Dc.err x = 0
      · have HN : Hid (Dc.errs (l.drop (k + 1)) = r) := by show _ = _; rw [← HE.out, HX.out, if_pos h0]
        rw [h0]
        clear h0
        go_wp2
        go_roundw
        case rel => exact ⟨k + 1, by omega, by go_num, H2.out, HN.out⟩
        case measure => simp [intOf]; omega
      · have hrr : Dc.err x = r := by rw [← HE.out, HX.out, if_neg h0]
        rw [hrr] at h0 ⊢
        clear hrr
        go_wp2
        go_ret
        exact ⟨rfl, H2.out⟩
    · have : r = 0 := by rw [← HE.out, List.drop_eq_nil_of_le (by omega)]; rfl
      subst this
      go_wp2
      go_ret
      exact ⟨rfl, HBR.out⟩
end Go.Proofs.YtaigleblmbblcaaGreatDoor

/-
  The reference's CheckItem and CheckItems: as doc.Item and doc.Items have it.
-/
namespace Go.Proofs.YtaigleblmbblcaaGreatDoor
open Go.RowKit

set_option maxHeartbeats 3200000 in
theorem CheckItem_any (x : It) (w : World) (hl : x.l.size ≤ 9223372036854775807) : Calls Tryz.prog 80 #[.agg #[.int .u8 x.c.toNat, .int .i64 x.m, .string x.l]] w fun e w' => e = .returned (.int .i64 (Dc.err x)) ∧ Below w.heap.size w w' := by
  have H1 : Hid (Below w.heap.size w (boxed x w)) := boxed_below x w
  have CM : Hid (∀ w, Calls Tryz.prog 99 #[.string x.l] w fun e w' => e = .returned (.bool (Lk.may x.l.data.toList)) ∧ Below w.heap.size w w') := fun w => MayBe_any x.l w hl
  obtain ⟨r, hr⟩ : ∃ r, Dc.err x = r := ⟨_, rfl⟩
  have HR : Hid (Dc.err x = r) := hr
  rw [hr]
  clear hr
  by_cases h10 : (x.c.toNat : Int) = 10
  · have he : Dc.ends x = true := by unfold Dc.ends; simpa using h10
    by_cases hm : x.m < 0
    · have : r = 3 := HR.out.symm.trans (err_marks (.inl he) (.inl hm))
      subst this
      clear HR
      go_enter Tryz.func80, Tryz.ntmps80
      go_wp2
      go_ret
      exact ⟨rfl, (Below.refl _ _).alloc (Nat.le_refl _) _⟩
    · by_cases hm3 : 3 < x.m
      · have : r = 3 := HR.out.symm.trans (err_marks (.inl he) (.inr hm3))
        subst this
        clear HR
        go_enter Tryz.func80, Tryz.ntmps80
        go_wp2
        go_ret
        exact ⟨rfl, (Below.refl _ _).alloc (Nat.le_refl _) _⟩
      · have hk := err_link (.inl he) (by omega) (by omega)
        cases h0 : x.l.toList.isEmpty
        · rw [show Dc.link x = false by unfold Dc.link; rw [h0, he]; rfl] at hk
          have : r = 4 := HR.out.symm.trans (hk)
          subst this
          clear HR
          go_enter Tryz.func80, Tryz.ntmps80
          go_wp2
          go_ret
          exact ⟨rfl, (Below.refl _ _).alloc (Nat.le_refl _) _⟩
        · rw [show Dc.link x = true by unfold Dc.link; rw [h0]; rfl] at hk
          have : r = 0 := HR.out.symm.trans (hk)
          subst this
          clear HR
          go_enter Tryz.func80, Tryz.ntmps80
          go_wp2
          go_ret
          exact ⟨rfl, (Below.refl _ _).alloc (Nat.le_refl _) _⟩
  · have he : Dc.ends x = false := by unfold Dc.ends; simpa using h10
    by_cases hlo : (x.c.toNat : Int) < 32
    · have hch : Dc.isChar x = false := by unfold Dc.isChar; rw [decide_eq_false (by omega)]; rfl
      have : r = 1 := HR.out.symm.trans (err_text he hch)
      subst this
      clear HR
      go_enter Tryz.func80, Tryz.ntmps80
      go_wp2
      go_ret
      exact ⟨rfl, (Below.refl _ _).alloc (Nat.le_refl _) _⟩
    · by_cases hhi : 126 < (x.c.toNat : Int)
      · have hch : Dc.isChar x = false := by unfold Dc.isChar; rw [decide_eq_false (show ¬ (x.c.toNat : Int) ≤ 126 by omega)]; simp
        have : r = 1 := HR.out.symm.trans (err_text he hch)
        subst this
        clear HR
        go_enter Tryz.func80, Tryz.ntmps80
        go_wp2
        go_ret
        exact ⟨rfl, (Below.refl _ _).alloc (Nat.le_refl _) _⟩
      · have hch : Dc.isChar x = true := by unfold Dc.isChar; rw [decide_eq_true (show (x.c.toNat : Int) ≤ 126 by omega), decide_eq_true (show 32 ≤ (x.c.toNat : Int) by omega)]; rfl
        by_cases hm : x.m < 0
        · have : r = 3 := HR.out.symm.trans (err_marks (.inr hch) (.inl hm))
          subst this
          clear HR
          go_enter Tryz.func80, Tryz.ntmps80
          go_wp2
          go_ret
          exact ⟨rfl, (Below.refl _ _).alloc (Nat.le_refl _) _⟩
        · by_cases hm3 : 3 < x.m
          · have : r = 3 := HR.out.symm.trans (err_marks (.inr hch) (.inr hm3))
            subst this
            clear HR
            go_enter Tryz.func80, Tryz.ntmps80
            go_wp2
            go_ret
            exact ⟨rfl, (Below.refl _ _).alloc (Nat.le_refl _) _⟩
          · have hk := err_link (.inr hch) (by omega) (by omega)
            cases h0 : x.l.toList.isEmpty
            · cases hmay : Lk.may x.l.data.toList
              · rw [show Dc.link x = false by unfold Dc.link; rw [h0, he, hmay]; rfl] at hk
                rw [hmay] at CM
                have : r = 4 := HR.out.symm.trans (hk)
                subst this
                clear HR
                go_enter Tryz.func80, Tryz.ntmps80
                go_wp2_with fail
                refine (CM.out _).mono ?_
                rintro e w2 ⟨rfl, hb⟩
                have H2 : Hid (Below w.heap.size w w2) := H1.out.trans (hb.mono H1.out.size)
                clear hb
                go_wp2
                go_ret
                exact ⟨rfl, H2.out⟩
              · rw [show Dc.link x = true by unfold Dc.link; rw [h0, he, hmay]; rfl] at hk
                rw [hmay] at CM
                have : r = 0 := HR.out.symm.trans (hk)
                subst this
                clear HR
                go_enter Tryz.func80, Tryz.ntmps80
                go_wp2_with fail
                refine (CM.out _).mono ?_
                rintro e w2 ⟨rfl, hb⟩
                have H2 : Hid (Below w.heap.size w w2) := H1.out.trans (hb.mono H1.out.size)
                clear hb
                go_wp2
                go_ret
                exact ⟨rfl, H2.out⟩
            · rw [show Dc.link x = true by unfold Dc.link; rw [h0]; rfl] at hk
              have : r = 0 := HR.out.symm.trans (hk)
              subst this
              clear HR
              go_enter Tryz.func80, Tryz.ntmps80
              go_wp2
              go_ret
              exact ⟨rfl, (Below.refl _ _).alloc (Nat.le_refl _) _⟩

set_option maxHeartbeats 1600000 in
theorem CheckItems_any (ao : Option Addr) (n cap : Nat) (l : List It) (w : World) (hD : Doc w ao n cap l) :
    Calls Tryz.prog 49 #[.slice ao n cap] w fun e w' => e = .returned (.int .i64 (Dc.errs l)) ∧ Below w.heap.size w w' := by
  have HD : Hid (Doc w ao n cap l) := hD
  have hn := hD.len
  subst hn
  have hcap := hD.room
  have hbig := hD.big
  clear hD
  obtain ⟨r, hr⟩ : ∃ r, Dc.errs l = r := ⟨_, rfl⟩
  have HR : Hid (Dc.errs l = r) := hr
  rw [hr]
  clear hr
  go_enter Tryz.func49, Tryz.ntmps49
  go_wp2
  go_loopw [8] (fun i wr => ∃ k : Nat, k ≤ l.length ∧ i = .int .i64 k ∧ Below w.heap.size w wr ∧ Dc.errs (l.drop k) = r) (fun i _ => l.length - (intOf i).toNat)
  case atStart => exact ⟨0, Nat.zero_le _, rfl, Below.refl _ _, HR.out⟩
  case round =>
    obtain ⟨k, hk, rfl, hbr, her⟩ := hrel
    have HE : Hid (Dc.errs (l.drop k) = r) := her
    have HBR : Hid (Below w.heap.size w wr) := hbr
    clear her hbr
    by_cases hlt : k < l.length
    · obtain ⟨b, off, rfl, A0⟩ := HD.out.lies (by omega)
      have A1 := A0.below HBR.out
      have hc0 := A1.c k hlt
      have hc1 := A1.m k hlt
      have hc2 := A1.l k hlt
      have hfx := HD.out.fit _ (List.getElem_mem hlt)
      have HX : Hid (Dc.errs (l.drop k) = if Dc.err l[k] = 0 then Dc.errs (l.drop (k + 1)) else Dc.err l[k]) := Dc.errs_step l k hlt
      clear A1 A0
      generalize hx : l[k] = x at *
      have H1 : Hid (Below w.heap.size w (boxed x wr)) := HBR.out.trans ((boxed_below x wr).mono HBR.out.size)
      clear hx
      go_wp2_with fail
      change Calls Tryz.prog 80 _ (boxed x wr) _
      refine (CheckItem_any x _ hfx).mono ?_
      rintro e w1 ⟨rfl, hb⟩
      have H2 : Hid (Below w.heap.size w w1) := H1.out.trans (hb.mono H1.out.size)
      clear hb
      by_cases h0 : Dc.err x = 0
      · have HN : Hid (Dc.errs (l.drop (k + 1)) = r) := by show _ = _; rw [← HE.out, HX.out, if_pos h0]
        rw [h0]
        clear h0
        go_wp2
        go_roundw
        case rel => exact ⟨k + 1, by omega, by go_num, H2.out, HN.out⟩
        case measure => simp [intOf]; omega
      · have hrr : Dc.err x = r := by rw [← HE.out, HX.out, if_neg h0]
        rw [hrr] at h0 ⊢
        clear hrr
        go_wp2
        go_ret
        exact ⟨rfl, H2.out⟩
    · have : r = 0 := by rw [← HE.out, List.drop_eq_nil_of_le (by omega)]; rfl
      subst this
      go_wp2
      go_ret
      exact ⟨rfl, HBR.out⟩
end Go.Proofs.YtaigleblmbblcaaGreatDoor
