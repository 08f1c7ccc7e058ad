/-
  token's reading: what is left of a page, and what is taken from its left end: by number, by a text, up to a byte of a set.
-/
import Derived.Test.YtbhcklkbckacpaaGreatDoorTq
import Derived.Test.YtbhcklkbckacpaaGreatDoorMem
import Derived.Test.YtbhcklkbckacpaaGreatDoorRead
import Derived.Test.YtbhcklkbckacpaaGreatDoorS0
namespace Go.Proofs.YtbhcklkbckacpaaGreatDoor
open Go.RowKit

/-- A page at work in block b: l is left of it. -/
def Rd (w : World) (b : Nat) (l : List UInt8) : Prop := Blk w b [.string (B l)] 86
theorem Rd.cell {w : World} {b : Nat} {l : List UInt8} (h : Rd w b l) : w.cell? ⟨b, 0, none⟩ = some (.string (B l)) := Blk.cell h 0
theorem Rd.free {w : World} {b : Nat} {l : List UInt8} (h : Rd w b l) : w.frozen? ⟨b, 0, none⟩ = false := Blk.frozen h 0
theorem Rd.put {w : World} {b : Nat} {l : List UInt8} (h : Rd w b l) (r : List UInt8) : Rd (w.setCell ⟨b, 0, none⟩ (.string (B r))) b r := Blk.set h 0 _
theorem Kept.of {w w' : World} (h : Below w.heap.size w w') (S : List Nat) : Kept w w' S := ⟨h.os, h.tape, h.output, h.size, fun k hk _ => h.block k hk⟩
theorem Kept.one (w : World) (b : Nat) (v : Value) : Kept w (w.setCell ⟨b, 0, none⟩ v) [b] := (Kept.refl w [b]).setCell _ _ (.inl (List.mem_singleton.2 rfl))
theorem Rd.far {w w' : World} {b : Nat} {l : List UInt8} (h : Rd w b l) (hb : Below w.heap.size w w') : Rd w' b l := (hb.block b h.lt).trans h
theorem Kept.far {w w1 w2 : World} {S : List Nat} (h : Kept w w1 S) (hb : Below w1.heap.size w1 w2) : Kept w w2 S := h.trans (Kept.of hb S)

theorem B_cat (a b : List UInt8) : B a ++ B b = B (a ++ b) := by
  apply ext_list
  rw [ByteArray.data_append, Array.toList_append]
  rfl

theorem begins_any (b : Nat) (l p : List UInt8) (w : World) (hR : Rd w b l) :
    Calls Tryz.prog 124 #[.pointer (some ⟨b, 0, none⟩), .string (B p)] w fun e w' => e = .returned (.bool (p.isPrefixOf l)) ∧ w' = w := by
  have c0 := hR.cell
  have H : Hid (∀ w, Calls Tryz.prog 57 #[.string (B l), .string (B p)] w fun e w' => e = .returned (.bool (p.isPrefixOf l)) ∧ w' = w) := fun w => Tryz.strings_HasPrefix (B l) (B p) w
  clear hR
  go_enter Tryz.func124, Tryz.ntmps124
  go_wp2_with fail
  refine (H.out _).mono ?_
  rintro e w1 ⟨rfl, rfl⟩
  go_wp2
  go_ret
  exact ⟨rfl, rfl⟩

theorem take_any (b n : Nat) (l : List UInt8) (w : World) (hR : Rd w b l) (hn : n ≤ l.length) :
    Calls Tryz.prog 125 #[.pointer (some ⟨b, 0, none⟩), .int .i64 n] w fun e w' => e = .returned (.string (B (l.take n))) ∧ Rd w' b (l.drop n) ∧ Kept w w' [b] := by
  have c0 := hR.cell
  have z0 := hR.free
  have HR : Hid (Rd w b l) := hR
  have hz := B_size l
  have s1 := slice_to (B l) n (by rw [hz]; exact hn)
  have s2 := slice_from (B l) n (by rw [hz]; exact hn)
  rw [B_data] at s1 s2
  clear hR hz
  go_enter Tryz.func125, Tryz.ntmps125
  go_wp2
  go_ret
  exact ⟨rfl, HR.out.put _, Kept.one _ _ _⟩

theorem takeIf_yes (b : Nat) (l p : List UInt8) (w : World) (hR : Rd w b l) (hp : p.isPrefixOf l = true) :
    Calls Tryz.prog 195 #[.pointer (some ⟨b, 0, none⟩), .string (B p)] w fun e w' => e = .returned (.bool true) ∧ Rd w' b (l.drop p.length) ∧ Kept w w' [b] := by
  have H1 : Hid (Calls Tryz.prog 124 #[.pointer (some ⟨b, 0, none⟩), .string (B p)] w fun e w' => e = .returned (.bool true) ∧ w' = w) := by
    have := begins_any b l p w hR
    rw [hp] at this
    exact this
  have H2 : Hid (Calls Tryz.prog 125 #[.pointer (some ⟨b, 0, none⟩), .int .i64 p.length] w fun e w' => e = .returned (.string (B (l.take p.length))) ∧ Rd w' b (l.drop p.length) ∧ Kept w w' [b]) := take_any b p.length l w hR (List.isPrefixOf_iff_prefix.1 hp).length_le
  have hz := B_size p
  clear hR hp
  generalize l.take p.length = x at *
  generalize l.drop p.length = y at *
  generalize p.length = n at *
  go_enter Tryz.func195, Tryz.ntmps195
  go_wp2_with fail
  refine H1.out.mono ?_
  rintro e w1 ⟨rfl, rfl⟩
  go_wp2_with fail
  refine H2.out.mono ?_
  rintro e w2 ⟨rfl, h3, h4⟩
  have H3 : Hid (Rd w2 b y) := h3
  have H4 : Hid (Kept w1 w2 [b]) := h4
  clear h3 h4
  go_wp2
  go_ret
  exact ⟨rfl, H3.out, H4.out⟩

theorem takeIf_no (b : Nat) (l p : List UInt8) (w : World) (hR : Rd w b l) (hp : p.isPrefixOf l = false) :
    Calls Tryz.prog 195 #[.pointer (some ⟨b, 0, none⟩), .string (B p)] w fun e w' => e = .returned (.bool false) ∧ w' = w := by
  have H1 : Hid (Calls Tryz.prog 124 #[.pointer (some ⟨b, 0, none⟩), .string (B p)] w fun e w' => e = .returned (.bool false) ∧ w' = w) := by
    have := begins_any b l p w hR
    rw [hp] at this
    exact this
  clear hR hp
  go_enter Tryz.func195, Tryz.ntmps195
  go_wp2_with fail
  refine H1.out.mono ?_
  rintro e w1 ⟨rfl, rfl⟩
  go_wp2
  go_ret
  exact ⟨rfl, rfl⟩

theorem smallByte_any (c : UInt8) (w : World) : Calls Tryz.prog 243 #[.int .u8 c.toNat] w fun e w' => e = .returned (.int .u8 (Lk.small1 c).toNat) ∧ w' = w := by
  by_cases hA : 65 ≤ c.toNat
  · by_cases hZ : c.toNat ≤ 90
    · have hcc := small_toNat c hA hZ
      rw [hcc]
      go_enter Tryz.func243, Tryz.ntmps243
      go_wp2
      go_ret
      exact ⟨by rw [show ((c.toNat + 32 : Nat) : Int) = (c.toNat : Int) - 65 + 97 by omega]; rfl, rfl⟩
    · rw [small_not c (by omega)]
      go_enter Tryz.func243, Tryz.ntmps243
      go_wp2
      go_ret
      exact ⟨rfl, rfl⟩
  · rw [small_not c (by omega)]
    go_enter Tryz.func243, Tryz.ntmps243
    go_wp2
    go_ret
    exact ⟨rfl, rfl⟩
theorem letter_small (c : UInt8) : Tk.letter c = (decide (97 ≤ (Lk.small1 c).toNat) && decide ((Lk.small1 c).toNat ≤ 122)) := by
  have := Tk.all256 (fun c => Tk.letter c == (decide (97 ≤ (Lk.small1 c).toNat) && decide ((Lk.small1 c).toNat ≤ 122))) (by decide +kernel) c
  simpa using this
theorem tletter_any (c : UInt8) (w : World) : Calls Tryz.prog 192 #[.int .u8 c.toNat] w fun e w' => e = .returned (.bool (Tk.letter c)) ∧ w' = w := by
  have H1 : Hid (Calls Tryz.prog 243 #[.int .u8 c.toNat] w fun e w' => e = .returned (.int .u8 (Lk.small1 c).toNat) ∧ w' = w) := smallByte_any c w
  rw [letter_small]
  generalize (Lk.small1 c).toNat = k at *
  by_cases hA : 97 ≤ k
  · by_cases hZ : k ≤ 122
    all_goals
      go_enter Tryz.func192, Tryz.ntmps192
      go_wp2_with fail
      refine H1.out.mono ?_
      rintro e w1 ⟨rfl, rfl⟩
      go_wp2
      go_ret
      exact ⟨by simp [hA, hZ]; omega, rfl⟩
  · go_enter Tryz.func192, Tryz.ntmps192
    go_wp2_with fail
    refine H1.out.mono ?_
    rintro e w1 ⟨rfl, rfl⟩
    go_wp2
    go_ret
    exact ⟨by simp, rfl⟩

/-- 'internal/bytealg.MaxLen' holds some number. -/
def Mxl (w : World) : Prop := ∃ m, w.cell? ⟨1, 0, none⟩ = some (.int .i64 m)
/-- What the token's functions read besides their arguments; b is a block behind it. -/
structure Env (w : World) (b : Nat) : Prop where
  pairs : Pairs w
  mx : Mxl w
  low : 7 < b ∧ 1 < b
  size : b ≤ w.heap.size
theorem Env.kept {w w' : World} {b c : Nat} (h : Env w b) (hk : Kept w w' [c]) (hc : b ≤ c) : Env w' b := by
  have hb := hk.below (B := b) h.size (fun x hx => by rw [List.mem_singleton.1 hx]; exact hc)
  obtain ⟨m, hm⟩ := h.mx
  exact ⟨h.pairs.below hb h.low.1, ⟨m, (World.cell?_of_block (w := w) (hb.block _ h.low.2)).trans hm⟩, h.low, Nat.le_trans h.size hb.size⟩
theorem Env.below {w w' : World} {b : Nat} (h : Env w b) (hb : Below w.heap.size w w') : Env w' b := h.kept (Kept.of hb [b]) (Nat.le_refl _)

/-- A letter behind p. -/
def lbh (p l : List UInt8) : Bool := p.isPrefixOf l && (match l.drop p.length with
  | [] => false
  | c :: _ => Tk.letter c)
theorem lbh_any (b : Nat) (l p : List UInt8) (w : World) (hR : Rd w b l) :
    Calls Tryz.prog 127 #[.pointer (some ⟨b, 0, none⟩), .string (B p)] w fun e w' => e = .returned (.bool (lbh p l)) ∧ w' = w := by
  have c0 := hR.cell
  have H1 := begins_any b l p w hR
  clear hR
  have z1 := B_size l
  have z2 := B_size p
  cases hp : p.isPrefixOf l
  · have hr : lbh p l = false := by unfold lbh; rw [hp]; rfl
    rw [hp] at H1
    have H1' : Hid (Calls Tryz.prog 124 #[.pointer (some ⟨b, 0, none⟩), .string (B p)] w fun e w' => e = .returned (.bool false) ∧ w' = w) := H1
    rw [hr]
    clear H1 hr hp
    go_enter Tryz.func127, Tryz.ntmps127
    go_wp2_with fail
    refine H1'.out.mono ?_
    rintro e w1 ⟨rfl, rfl⟩
    go_wp2
    go_ret
    exact ⟨rfl, rfl⟩
  · have hle := (List.isPrefixOf_iff_prefix.1 hp).length_le
    rw [hp] at H1
    have H1' : Hid (Calls Tryz.prog 124 #[.pointer (some ⟨b, 0, none⟩), .string (B p)] w fun e w' => e = .returned (.bool true) ∧ w' = w) := H1
    clear H1
    by_cases hlt : p.length < l.length
    · have hr : lbh p l = Tk.letter l[p.length] := by
        unfold lbh
        rw [hp, List.drop_eq_getElem_cons hlt]
        rfl
      have H2 : Hid (Calls Tryz.prog 192 #[.int .u8 l[p.length].toNat] w fun e w' => e = .returned (.bool (Tk.letter l[p.length])) ∧ w' = w) := tletter_any _ w
      have hix := run_index_at (B l) p.length (by rw [z1]; exact hlt)
      have hget : (B l)[p.length]'(by rw [z1]; exact hlt) = l[p.length] := by simp [B, ByteArray.getElem_eq_getElem_data]
      rw [hget] at hix
      rw [hr]
      clear hget hr hp
      generalize l[p.length] = c at *
      generalize Tk.letter c = r at *
      generalize p.length = n at *
      go_enter Tryz.func127, Tryz.ntmps127
      go_wp2_with fail
      refine H1'.out.mono ?_
      rintro e w1 ⟨rfl, rfl⟩
      go_wp2_with fail
      refine H2.out.mono ?_
      rintro e w1 ⟨rfl, rfl⟩
      go_wp2
      go_ret
      exact ⟨rfl, rfl⟩
    · have hr : lbh p l = false := by
        unfold lbh
        rw [hp, List.drop_eq_nil_of_le (by omega)]
        rfl
      rw [hr]
      clear hr hp
      generalize p.length = n at *
      go_enter Tryz.func127, Tryz.ntmps127
      go_wp2_with fail
      refine H1'.out.mono ?_
      rintro e w1 ⟨rfl, rfl⟩
      go_wp2
      go_ret
      exact ⟨rfl, rfl⟩

theorem through_any (b : Nat) (l p : List UInt8) (w : World) (hR : Rd w b l) (hE : Env w b) (hl : l.length ≤ 20000) (hp : p ≠ []) :
    Calls Tryz.prog 126 #[.pointer (some ⟨b, 0, none⟩), .string (B p)] w fun e w' => e = .returned (.tuple #[]) ∧ Rd w' b ((Tk.after p l).getD []) ∧ Kept w w' [b] := by
  have c0 := hR.cell
  have z0 := hR.free
  have HR : Hid (Rd w b l) := hR
  obtain ⟨m, hm⟩ := hE.mx
  have H1 := Tryz.strings_Cut (B l) (B p) m w (by rw [B_size]; omega) hm
  rw [B_data, B_data, Tk.cut_after p hp l] at H1
  change Calls Tryz.prog 191 _ w fun e w' => e = .returned (.tuple #[.string (B (Lib.cut l p).1), .string (B ((Tk.after p l).getD [])), .bool (Lib.cut l p).2.2]) ∧ ∃ n, w' = w.drewN n at H1
  generalize (Lib.cut l p).1 = x at *
  generalize (Lib.cut l p).2.2 = y at *
  generalize (Tk.after p l).getD [] = r at *
  have H1' : Hid (Calls Tryz.prog 191 #[.string (B l), .string (B p)] w fun e w' => e = .returned (.tuple #[.string (B x), .string (B r), .bool y]) ∧ ∃ n, w' = w.drewN n) := H1
  clear H1 hR hE hm
  go_enter Tryz.func126, Tryz.ntmps126
  go_wp2_with fail
  refine H1'.out.mono ?_
  rintro e w1 ⟨rfl, n, rfl⟩
  have z1 : (w.drewN n).frozen? ⟨b, 0, none⟩ = false := z0
  go_wp2
  go_end0
  exact ⟨rfl, Rd.put (w := w.drewN n) HR.out _, ((Kept.refl w [b]).drewN n).trans (Kept.one _ _ _)⟩

theorem oneOf_any (s : List UInt8) (w : World) :
    Calls Tryz.prog 123 #[.string (B s)] w fun e w' => e = .returned (.func (.func 190) #[] #[.pointer (some ⟨w.heap.size, 0, none⟩)]) ∧ Blk w' w.heap.size [.string (B s)] 9 ∧ Below w.heap.size w w' := by
  go_enter Tryz.func123, Tryz.ntmps123
  go_wp2
  go_ret
  exact ⟨rfl, Blk.new w [.string (B s)] 9, (Below.refl _ _).alloc (Nat.le_refl _) _⟩
theorem oneIn_any (a : Nat) (s : List UInt8) (c : UInt8) (w : World) (hA : Blk w a [.string (B s)] 9) :
    Calls Tryz.prog 190 #[.int .u8 c.toNat, .pointer (some ⟨a, 0, none⟩)] w fun e w' => e = .returned (.bool (Tk.inS s c)) ∧ w' = w := by
  have c0 : w.cell? ⟨a, 0, none⟩ = some (.string (B s)) := hA.cell 0
  have hI := Tryz.strings_IndexByte (B s) (c.toNat : Int) w
  rw [show ((c.toNat : Int)).toNat.toUInt8 = c by simp, B_data] at hI
  unfold Tk.inS
  generalize Lib.indexByte s c = x at *
  have HI : Hid (Calls Tryz.prog 70 #[.string (B s), .int .u8 c.toNat] w fun e w' => e = .returned (.int .i64 x) ∧ w' = w) := hI
  clear hI hA
  by_cases hx : 0 ≤ x
  all_goals
    go_enter Tryz.func190, Tryz.ntmps190
    go_wp2_with fail
    refine HI.out.mono ?_
    rintro e w1 ⟨rfl, rfl⟩
    go_wp2
    go_ret
    exact ⟨by simp [hx], rfl⟩

set_option maxRecDepth 100000 in
set_option maxHeartbeats 1600000 in
theorem upTo_one (a b : Nat) (p : UInt8 → Bool) (s l : List UInt8) (w : World) (hp : ∀ c, (Tk.inS s c) = !p c) (hR : Rd w b l) (hA : Blk w a [.string (B s)] 9) (hl : l.length ≤ 20000) :
    Calls Tryz.prog 122 #[.pointer (some ⟨b, 0, none⟩), .func (.func 190) #[] #[.pointer (some ⟨a, 0, none⟩)]] w fun e w' => e = .returned (.string (B (l.takeWhile p))) ∧ Rd w' b (l.dropWhile p) ∧ Kept w w' [b] := by
  have c0 := hR.cell
  have z1 := B_size l
  have HR : Hid (Rd w b l) := hR
  have HC : Hid (∀ c : UInt8, Calls Tryz.prog 190 #[.int .u8 c.toNat, .pointer (some ⟨a, 0, none⟩)] w fun e w' => e = .returned (.bool (!p c)) ∧ w' = w) := fun c => by
    have := oneIn_any a s c w hA
    rw [hp c] at this
    exact this
  clear hR hA hp
  obtain ⟨x, hx⟩ : ∃ x, l.takeWhile p = x := ⟨_, rfl⟩
  obtain ⟨y, hy⟩ : ∃ y, l.dropWhile p = y := ⟨_, rfl⟩
  rw [hx, hy]
  have HX : Hid (l.takeWhile p = x) := hx
  have HY : Hid (l.dropWhile p = y) := hy
  clear hx hy
  go_enter Tryz.func122, Tryz.ntmps122
  go_wp2
  go_loopw [5] (fun i wr => ∃ k : Nat, k ≤ l.length ∧ i = .int .i64 k ∧ wr = w ∧ (l.drop k).dropWhile p = y) (fun i _ => l.length - (intOf i).toNat)
  case atStart => exact ⟨0, Nat.zero_le _, rfl, rfl, HY.out⟩
  case round =>
    obtain ⟨k, hk, rfl, rfl, hd⟩ := hrel
    have HD : Hid ((l.drop k).dropWhile p = y) := hd
    clear hd
    have T : Hid (l.drop k = y → Calls Tryz.prog 125 #[.pointer (some ⟨b, 0, none⟩), .int .i64 k] wr fun e w' => e = .returned (.string (B x)) ∧ Rd w' b y ∧ Kept wr w' [b]) := fun h => by
      have t := take_any b k l wr HR.out hk
      have h0 := Tk.tw_of_dw (l := l) (p := p) (i := 0) (k := k) (Nat.zero_le _) hk (by rw [h, List.drop_zero, HY.out])
      rw [List.drop_zero, Nat.sub_zero, HX.out] at h0
      rw [h0, h] at t
      exact t
    by_cases hlt : k < l.length
    · have hix := run_index_at (B l) k (by rw [z1]; exact hlt)
      have hget : (B l)[k]'(by rw [z1]; exact hlt) = l[k] := by simp [B, ByteArray.getElem_eq_getElem_data]
      rw [hget] at hix
      have C1 := HC.out l[k]
      cases hc : p l[k]
      · have hD : l.drop k = y := by rw [← HD.out]; exact (Tk.dw_stop hlt hc).symm
        have T1 := T.out hD
        rw [hc] at C1
        have C1' : Hid (Calls Tryz.prog 190 #[.int .u8 l[k].toNat, .pointer (some ⟨a, 0, none⟩)] wr fun e w' => e = .returned (.bool true) ∧ w' = wr) := C1
        have T1' : Hid (Calls Tryz.prog 125 #[.pointer (some ⟨b, 0, none⟩), .int .i64 k] wr fun e w' => e = .returned (.string (B x)) ∧ Rd w' b y ∧ Kept wr w' [b]) := T1
        clear C1 T1 hD hc hget
        generalize l[k] = c at *
        go_wp2_with fail
        refine C1'.out.mono ?_
        rintro e w1 ⟨rfl, rfl⟩
        go_wp2_with fail
        refine T1'.out.mono ?_
        rintro e w2 ⟨rfl, h3, h4⟩
        have H3 : Hid (Rd w2 b y) := h3
        have H4 : Hid (Kept w1 w2 [b]) := h4
        clear h3 h4
        go_wp2
        go_ret
        exact ⟨rfl, H3.out, H4.out⟩
      · have HD2 : Hid ((l.drop (k + 1)).dropWhile p = y) := (Tk.dw_go hlt hc).trans HD.out
        rw [hc] at C1
        have C1' : Hid (Calls Tryz.prog 190 #[.int .u8 l[k].toNat, .pointer (some ⟨a, 0, none⟩)] wr fun e w' => e = .returned (.bool false) ∧ w' = wr) := C1
        clear C1 hc hget
        generalize l[k] = c at *
        go_wp2_with fail
        refine C1'.out.mono ?_
        rintro e w1 ⟨rfl, rfl⟩
        go_wp2
        go_roundw
        case rel => exact ⟨k + 1, by omega, by go_num, trivial, HD2.out⟩
        case measure => simp [intOf]; omega
    · have hD : l.drop k = y := by rw [← HD.out]; exact (Tk.dw_end (by omega)).symm
      have T1 := T.out hD
      have T1' : Hid (Calls Tryz.prog 125 #[.pointer (some ⟨b, 0, none⟩), .int .i64 k] wr fun e w' => e = .returned (.string (B x)) ∧ Rd w' b y ∧ Kept wr w' [b]) := T1
      clear T1 hD
      go_wp2_with fail
      refine T1'.out.mono ?_
      rintro e w2 ⟨rfl, h3, h4⟩
      have H3 : Hid (Rd w2 b y) := h3
      have H4 : Hid (Kept wr w2 [b]) := h4
      clear h3 h4
      go_wp2
      go_ret
      exact ⟨rfl, H3.out, H4.out⟩

theorem noneOf_any (s : List UInt8) (w : World) :
    Calls Tryz.prog 194 #[.string (B s)] w fun e w' => e = .returned (.func (.func 244) #[] #[.pointer (some ⟨w.heap.size, 0, none⟩)]) ∧ Blk w' w.heap.size [.string (B s)] 9 ∧ Below w.heap.size w w' := by
  go_enter Tryz.func194, Tryz.ntmps194
  go_wp2
  go_ret
  exact ⟨rfl, Blk.new w [.string (B s)] 9, (Below.refl _ _).alloc (Nat.le_refl _) _⟩
theorem noneIn_any (a : Nat) (s : List UInt8) (c : UInt8) (w : World) (hA : Blk w a [.string (B s)] 9) :
    Calls Tryz.prog 244 #[.int .u8 c.toNat, .pointer (some ⟨a, 0, none⟩)] w fun e w' => e = .returned (.bool (!Tk.inS s c)) ∧ w' = w := by
  have c0 : w.cell? ⟨a, 0, none⟩ = some (.string (B s)) := hA.cell 0
  have hI := Tryz.strings_IndexByte (B s) (c.toNat : Int) w
  rw [show ((c.toNat : Int)).toNat.toUInt8 = c by simp, B_data] at hI
  unfold Tk.inS
  generalize Lib.indexByte s c = x at *
  have HI : Hid (Calls Tryz.prog 70 #[.string (B s), .int .u8 c.toNat] w fun e w' => e = .returned (.int .i64 x) ∧ w' = w) := hI
  clear hI hA
  by_cases hx : 0 ≤ x
  all_goals
    go_enter Tryz.func244, Tryz.ntmps244
    go_wp2_with fail
    refine HI.out.mono ?_
    rintro e w1 ⟨rfl, rfl⟩
    go_wp2
    go_ret
    exact ⟨by simp [hx], rfl⟩

set_option maxRecDepth 100000 in
set_option maxHeartbeats 1600000 in
theorem upTo_none (a b : Nat) (p : UInt8 → Bool) (s l : List UInt8) (w : World) (hp : ∀ c, (!Tk.inS s c) = !p c) (hR : Rd w b l) (hA : Blk w a [.string (B s)] 9) (hl : l.length ≤ 20000) :
    Calls Tryz.prog 122 #[.pointer (some ⟨b, 0, none⟩), .func (.func 244) #[] #[.pointer (some ⟨a, 0, none⟩)]] w fun e w' => e = .returned (.string (B (l.takeWhile p))) ∧ Rd w' b (l.dropWhile p) ∧ Kept w w' [b] := by
  have c0 := hR.cell
  have z1 := B_size l
  have HR : Hid (Rd w b l) := hR
  have HC : Hid (∀ c : UInt8, Calls Tryz.prog 244 #[.int .u8 c.toNat, .pointer (some ⟨a, 0, none⟩)] w fun e w' => e = .returned (.bool (!p c)) ∧ w' = w) := fun c => by
    have := noneIn_any a s c w hA
    rw [hp c] at this
    exact this
  clear hR hA hp
  obtain ⟨x, hx⟩ : ∃ x, l.takeWhile p = x := ⟨_, rfl⟩
  obtain ⟨y, hy⟩ : ∃ y, l.dropWhile p = y := ⟨_, rfl⟩
  rw [hx, hy]
  have HX : Hid (l.takeWhile p = x) := hx
  have HY : Hid (l.dropWhile p = y) := hy
  clear hx hy
  go_enter Tryz.func122, Tryz.ntmps122
  go_wp2
  go_loopw [5] (fun i wr => ∃ k : Nat, k ≤ l.length ∧ i = .int .i64 k ∧ wr = w ∧ (l.drop k).dropWhile p = y) (fun i _ => l.length - (intOf i).toNat)
  case atStart => exact ⟨0, Nat.zero_le _, rfl, rfl, HY.out⟩
  case round =>
    obtain ⟨k, hk, rfl, rfl, hd⟩ := hrel
    have HD : Hid ((l.drop k).dropWhile p = y) := hd
    clear hd
    have T : Hid (l.drop k = y → Calls Tryz.prog 125 #[.pointer (some ⟨b, 0, none⟩), .int .i64 k] wr fun e w' => e = .returned (.string (B x)) ∧ Rd w' b y ∧ Kept wr w' [b]) := fun h => by
      have t := take_any b k l wr HR.out hk
      have h0 := Tk.tw_of_dw (l := l) (p := p) (i := 0) (k := k) (Nat.zero_le _) hk (by rw [h, List.drop_zero, HY.out])
      rw [List.drop_zero, Nat.sub_zero, HX.out] at h0
      rw [h0, h] at t
      exact t
    by_cases hlt : k < l.length
    · have hix := run_index_at (B l) k (by rw [z1]; exact hlt)
      have hget : (B l)[k]'(by rw [z1]; exact hlt) = l[k] := by simp [B, ByteArray.getElem_eq_getElem_data]
      rw [hget] at hix
      have C1 := HC.out l[k]
      cases hc : p l[k]
      · have hD : l.drop k = y := by rw [← HD.out]; exact (Tk.dw_stop hlt hc).symm
        have T1 := T.out hD
        rw [hc] at C1
        have C1' : Hid (Calls Tryz.prog 244 #[.int .u8 l[k].toNat, .pointer (some ⟨a, 0, none⟩)] wr fun e w' => e = .returned (.bool true) ∧ w' = wr) := C1
        have T1' : Hid (Calls Tryz.prog 125 #[.pointer (some ⟨b, 0, none⟩), .int .i64 k] wr fun e w' => e = .returned (.string (B x)) ∧ Rd w' b y ∧ Kept wr w' [b]) := T1
        clear C1 T1 hD hc hget
        generalize l[k] = c at *
        go_wp2_with fail
        refine C1'.out.mono ?_
        rintro e w1 ⟨rfl, rfl⟩
        go_wp2_with fail
        refine T1'.out.mono ?_
        rintro e w2 ⟨rfl, h3, h4⟩
        have H3 : Hid (Rd w2 b y) := h3
        have H4 : Hid (Kept w1 w2 [b]) := h4
        clear h3 h4
        go_wp2
        go_ret
        exact ⟨rfl, H3.out, H4.out⟩
      · have HD2 : Hid ((l.drop (k + 1)).dropWhile p = y) := (Tk.dw_go hlt hc).trans HD.out
        rw [hc] at C1
        have C1' : Hid (Calls Tryz.prog 244 #[.int .u8 l[k].toNat, .pointer (some ⟨a, 0, none⟩)] wr fun e w' => e = .returned (.bool false) ∧ w' = wr) := C1
        clear C1 hc hget
        generalize l[k] = c at *
        go_wp2_with fail
        refine C1'.out.mono ?_
        rintro e w1 ⟨rfl, rfl⟩
        go_wp2
        go_roundw
        case rel => exact ⟨k + 1, by omega, by go_num, trivial, HD2.out⟩
        case measure => simp [intOf]; omega
    · have hD : l.drop k = y := by rw [← HD.out]; exact (Tk.dw_end (by omega)).symm
      have T1 := T.out hD
      have T1' : Hid (Calls Tryz.prog 125 #[.pointer (some ⟨b, 0, none⟩), .int .i64 k] wr fun e w' => e = .returned (.string (B x)) ∧ Rd w' b y ∧ Kept wr w' [b]) := T1
      clear T1 hD
      go_wp2_with fail
      refine T1'.out.mono ?_
      rintro e w2 ⟨rfl, h3, h4⟩
      have H3 : Hid (Rd w2 b y) := h3
      have H4 : Hid (Kept wr w2 [b]) := h4
      clear h3 h4
      go_wp2
      go_ret
      exact ⟨rfl, H3.out, H4.out⟩
end Go.Proofs.YtbhcklkbckacpaaGreatDoor
