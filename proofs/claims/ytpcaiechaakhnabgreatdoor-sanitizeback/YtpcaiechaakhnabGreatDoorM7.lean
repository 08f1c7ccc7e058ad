/-
  Texts of this proof, one behind the other.
-/
import Derived.Test.YtpcaiechaakhnabGreatDoorM6
import Derived.Test.YtpcaiechaakhnabGreatDoorM3
import Derived.Deep.AppendLies
import Derived.Laws.AppendOwnNone
import Derived.Lib.AppendZeros
import Derived.Laws.StructEq
import Derived.Test.YtpcaiechaakhnabGreatDoorM4
import Derived.Deep.RegionWith

/-
  token's reading: what is left of a page, and what is taken from its left end: by number, by a text, up to a byte of a set.
-/
namespace Go.Proofs.YtpcaiechaakhnabGreatDoor
open Go.RowKit

/-- A page at work in block b: l is left of it. -/
def Rd (w : World) (b : Nat) (l : List UInt8) : Prop := Blk w b [.string (B l)] 50
theorem Rd.cell {w : World} {b : Nat} {l : List UInt8} (h : Rd w b l) : w.cell? ⟨b, 0, none⟩ = some (.string (B l)) := Blk.cell h 0
theorem Rd.free {w : World} {b : Nat} {l : List UInt8} (h : Rd w b l) : w.frozen? ⟨b, 0, none⟩ = false := Blk.frozen h 0
theorem Rd.put {w : World} {b : Nat} {l : List UInt8} (h : Rd w b l) (r : List UInt8) : Rd (w.setCell ⟨b, 0, none⟩ (.string (B r))) b r := Blk.set h 0 _
theorem Kept.of {w w' : World} (h : Below w.heap.size w w') (S : List Nat) : Kept w w' S := ⟨h.os, h.tape, h.output, h.size, fun k hk _ => h.block k hk⟩
theorem Kept.one (w : World) (b : Nat) (v : Value) : Kept w (w.setCell ⟨b, 0, none⟩ v) [b] := (Kept.refl w [b]).setCell _ _ (.inl (List.mem_singleton.2 rfl))
theorem Rd.far {w w' : World} {b : Nat} {l : List UInt8} (h : Rd w b l) (hb : Below w.heap.size w w') : Rd w' b l := (hb.block b h.lt).trans h
theorem Kept.far {w w1 w2 : World} {S : List Nat} (h : Kept w w1 S) (hb : Below w1.heap.size w1 w2) : Kept w w2 S := h.trans (Kept.of hb S)

theorem B_cat (a b : List UInt8) : B a ++ B b = B (a ++ b) := by
  apply ext_list
  rw [ByteArray.data_append, Array.toList_append]
  rfl

theorem begins_any (b : Nat) (l p : List UInt8) (w : World) (hR : Rd w b l) :
    Calls Tryz.prog 50 #[.pointer (some ⟨b, 0, none⟩), .string (B p)] w fun e w' => e = .returned (.bool (p.isPrefixOf l)) ∧ w' = w := by
  have c0 := hR.cell
  have H : Hid (∀ w, Calls Tryz.prog 26 #[.string (B l), .string (B p)] w fun e w' => e = .returned (.bool (p.isPrefixOf l)) ∧ w' = w) := fun w => Tryz.strings_HasPrefix (B l) (B p) w
  clear hR
  go_enter Tryz.func50, Tryz.ntmps50
  go_wp2_with fail
  refine (H.out _).mono ?_
  rintro e w1 ⟨rfl, rfl⟩
  go_wp2
  go_ret
  exact ⟨rfl, rfl⟩

theorem take_any (b n : Nat) (l : List UInt8) (w : World) (hR : Rd w b l) (hn : n ≤ l.length) :
    Calls Tryz.prog 51 #[.pointer (some ⟨b, 0, none⟩), .int .i64 n] w fun e w' => e = .returned (.string (B (l.take n))) ∧ Rd w' b (l.drop n) ∧ Kept w w' [b] := by
  have c0 := hR.cell
  have z0 := hR.free
  have HR : Hid (Rd w b l) := hR
  have hz := B_size l
  have s1 := slice_to (B l) n (by rw [hz]; exact hn)
  have s2 := slice_from (B l) n (by rw [hz]; exact hn)
  rw [B_data] at s1 s2
  clear hR hz
  go_enter Tryz.func51, Tryz.ntmps51
  go_wp2
  go_ret
  exact ⟨rfl, HR.out.put _, Kept.one _ _ _⟩

theorem takeIf_yes (b : Nat) (l p : List UInt8) (w : World) (hR : Rd w b l) (hp : p.isPrefixOf l = true) :
    Calls Tryz.prog 82 #[.pointer (some ⟨b, 0, none⟩), .string (B p)] w fun e w' => e = .returned (.bool true) ∧ Rd w' b (l.drop p.length) ∧ Kept w w' [b] := by
  have H1 : Hid (Calls Tryz.prog 50 #[.pointer (some ⟨b, 0, none⟩), .string (B p)] w fun e w' => e = .returned (.bool true) ∧ w' = w) := by
    have := begins_any b l p w hR
    rw [hp] at this
    exact this
  have H2 : Hid (Calls Tryz.prog 51 #[.pointer (some ⟨b, 0, none⟩), .int .i64 p.length] w fun e w' => e = .returned (.string (B (l.take p.length))) ∧ Rd w' b (l.drop p.length) ∧ Kept w w' [b]) := take_any b p.length l w hR (List.isPrefixOf_iff_prefix.1 hp).length_le
  have hz := B_size p
  clear hR hp
  generalize l.take p.length = x at *
  generalize l.drop p.length = y at *
  generalize p.length = n at *
  go_enter Tryz.func82, Tryz.ntmps82
  go_wp2_with fail
  refine H1.out.mono ?_
  rintro e w1 ⟨rfl, rfl⟩
  go_wp2_with fail
  refine H2.out.mono ?_
  rintro e w2 ⟨rfl, h3, h4⟩
  have H3 : Hid (Rd w2 b y) := h3
  have H4 : Hid (Kept w1 w2 [b]) := h4
  clear h3 h4
  go_wp2
  go_ret
  exact ⟨rfl, H3.out, H4.out⟩

theorem takeIf_no (b : Nat) (l p : List UInt8) (w : World) (hR : Rd w b l) (hp : p.isPrefixOf l = false) :
    Calls Tryz.prog 82 #[.pointer (some ⟨b, 0, none⟩), .string (B p)] w fun e w' => e = .returned (.bool false) ∧ w' = w := by
  have H1 : Hid (Calls Tryz.prog 50 #[.pointer (some ⟨b, 0, none⟩), .string (B p)] w fun e w' => e = .returned (.bool false) ∧ w' = w) := by
    have := begins_any b l p w hR
    rw [hp] at this
    exact this
  clear hR hp
  go_enter Tryz.func82, Tryz.ntmps82
  go_wp2_with fail
  refine H1.out.mono ?_
  rintro e w1 ⟨rfl, rfl⟩
  go_wp2
  go_ret
  exact ⟨rfl, rfl⟩

theorem smallByte_any (c : UInt8) (w : World) : Calls Tryz.prog 104 #[.int .u8 c.toNat] w fun e w' => e = .returned (.int .u8 (Lk.small1 c).toNat) ∧ w' = w := by
  by_cases hA : 65 ≤ c.toNat
  · by_cases hZ : c.toNat ≤ 90
    · have hcc := small_toNat c hA hZ
      rw [hcc]
      go_enter Tryz.func104, Tryz.ntmps104
      go_wp2
      go_ret
      exact ⟨by rw [show ((c.toNat + 32 : Nat) : Int) = (c.toNat : Int) - 65 + 97 by omega]; rfl, rfl⟩
    · rw [small_not c (by omega)]
      go_enter Tryz.func104, Tryz.ntmps104
      go_wp2
      go_ret
      exact ⟨rfl, rfl⟩
  · rw [small_not c (by omega)]
    go_enter Tryz.func104, Tryz.ntmps104
    go_wp2
    go_ret
    exact ⟨rfl, rfl⟩
theorem letter_small (c : UInt8) : Tk.letter c = (decide (97 ≤ (Lk.small1 c).toNat) && decide ((Lk.small1 c).toNat ≤ 122)) := by
  have := Tk.all256 (fun c => Tk.letter c == (decide (97 ≤ (Lk.small1 c).toNat) && decide ((Lk.small1 c).toNat ≤ 122))) (by decide +kernel) c
  simpa using this
theorem tletter_any (c : UInt8) (w : World) : Calls Tryz.prog 79 #[.int .u8 c.toNat] w fun e w' => e = .returned (.bool (Tk.letter c)) ∧ w' = w := by
  have H1 : Hid (Calls Tryz.prog 104 #[.int .u8 c.toNat] w fun e w' => e = .returned (.int .u8 (Lk.small1 c).toNat) ∧ w' = w) := smallByte_any c w
  rw [letter_small]
  generalize (Lk.small1 c).toNat = k at *
  by_cases hA : 97 ≤ k
  · by_cases hZ : k ≤ 122
    all_goals
      go_enter Tryz.func79, Tryz.ntmps79
      go_wp2_with fail
      refine H1.out.mono ?_
      rintro e w1 ⟨rfl, rfl⟩
      go_wp2
      go_ret
      exact ⟨by simp [hA, hZ]; omega, rfl⟩
  · go_enter Tryz.func79, Tryz.ntmps79
    go_wp2_with fail
    refine H1.out.mono ?_
    rintro e w1 ⟨rfl, rfl⟩
    go_wp2
    go_ret
    exact ⟨by simp, rfl⟩

/-- 'internal/bytealg.MaxLen' holds some number. -/
def Mxl (w : World) : Prop := ∃ m, w.cell? ⟨3, 0, none⟩ = some (.int .i64 m)
/-- What the token's functions read besides their arguments; b is a block behind it. -/
structure Env (w : World) (b : Nat) : Prop where
  pairs : Pairs w
  mx : Mxl w
  low : 7 < b ∧ 3 < b
  size : b ≤ w.heap.size
theorem Env.kept {w w' : World} {b c : Nat} (h : Env w b) (hk : Kept w w' [c]) (hc : b ≤ c) : Env w' b := by
  have hb := hk.below (B := b) h.size (fun x hx => by rw [List.mem_singleton.1 hx]; exact hc)
  obtain ⟨m, hm⟩ := h.mx
  exact ⟨h.pairs.below hb h.low.1, ⟨m, (World.cell?_of_block (w := w) (hb.block _ h.low.2)).trans hm⟩, h.low, Nat.le_trans h.size hb.size⟩
theorem Env.below {w w' : World} {b : Nat} (h : Env w b) (hb : Below w.heap.size w w') : Env w' b := h.kept (Kept.of hb [b]) (Nat.le_refl _)

/-- A letter behind p. -/
def lbh (p l : List UInt8) : Bool := p.isPrefixOf l && (match l.drop p.length with
  | [] => false
  | c :: _ => Tk.letter c)
theorem lbh_any (b : Nat) (l p : List UInt8) (w : World) (hR : Rd w b l) :
    Calls Tryz.prog 53 #[.pointer (some ⟨b, 0, none⟩), .string (B p)] w fun e w' => e = .returned (.bool (lbh p l)) ∧ w' = w := by
  have c0 := hR.cell
  have H1 := begins_any b l p w hR
  clear hR
  have z1 := B_size l
  have z2 := B_size p
  cases hp : p.isPrefixOf l
  · have hr : lbh p l = false := by unfold lbh; rw [hp]; rfl
    rw [hp] at H1
    have H1' : Hid (Calls Tryz.prog 50 #[.pointer (some ⟨b, 0, none⟩), .string (B p)] w fun e w' => e = .returned (.bool false) ∧ w' = w) := H1
    rw [hr]
    clear H1 hr hp
    go_enter Tryz.func53, Tryz.ntmps53
    go_wp2_with fail
    refine H1'.out.mono ?_
    rintro e w1 ⟨rfl, rfl⟩
    go_wp2
    go_ret
    exact ⟨rfl, rfl⟩
  · have hle := (List.isPrefixOf_iff_prefix.1 hp).length_le
    rw [hp] at H1
    have H1' : Hid (Calls Tryz.prog 50 #[.pointer (some ⟨b, 0, none⟩), .string (B p)] w fun e w' => e = .returned (.bool true) ∧ w' = w) := H1
    clear H1
    by_cases hlt : p.length < l.length
    · have hr : lbh p l = Tk.letter l[p.length] := by
        unfold lbh
        rw [hp, List.drop_eq_getElem_cons hlt]
        rfl
      have H2 : Hid (Calls Tryz.prog 79 #[.int .u8 l[p.length].toNat] w fun e w' => e = .returned (.bool (Tk.letter l[p.length])) ∧ w' = w) := tletter_any _ w
      have hix := run_index_at (B l) p.length (by rw [z1]; exact hlt)
      have hget : (B l)[p.length]'(by rw [z1]; exact hlt) = l[p.length] := by simp [B, ByteArray.getElem_eq_getElem_data]
      rw [hget] at hix
      rw [hr]
      clear hget hr hp
      generalize l[p.length] = c at *
      generalize Tk.letter c = r at *
      generalize p.length = n at *
      go_enter Tryz.func53, Tryz.ntmps53
      go_wp2_with fail
      refine H1'.out.mono ?_
      rintro e w1 ⟨rfl, rfl⟩
      go_wp2_with fail
      refine H2.out.mono ?_
      rintro e w1 ⟨rfl, rfl⟩
      go_wp2
      go_ret
      exact ⟨rfl, rfl⟩
    · have hr : lbh p l = false := by
        unfold lbh
        rw [hp, List.drop_eq_nil_of_le (by omega)]
        rfl
      rw [hr]
      clear hr hp
      generalize p.length = n at *
      go_enter Tryz.func53, Tryz.ntmps53
      go_wp2_with fail
      refine H1'.out.mono ?_
      rintro e w1 ⟨rfl, rfl⟩
      go_wp2
      go_ret
      exact ⟨rfl, rfl⟩

theorem through_any (b : Nat) (l p : List UInt8) (w : World) (hR : Rd w b l) (hE : Env w b) (hl : l.length ≤ 20000) (hp : p ≠ []) :
    Calls Tryz.prog 52 #[.pointer (some ⟨b, 0, none⟩), .string (B p)] w fun e w' => e = .returned (.tuple #[]) ∧ Rd w' b ((Tk.after p l).getD []) ∧ Kept w w' [b] := by
  have c0 := hR.cell
  have z0 := hR.free
  have HR : Hid (Rd w b l) := hR
  obtain ⟨m, hm⟩ := hE.mx
  have H1 := Tryz.strings_Cut (B l) (B p) m w (by rw [B_size]; omega) hm
  rw [B_data, B_data, Tk.cut_after p hp l] at H1
  change Calls Tryz.prog 78 _ w fun e w' => e = .returned (.tuple #[.string (B (Lib.cut l p).1), .string (B ((Tk.after p l).getD [])), .bool (Lib.cut l p).2.2]) ∧ ∃ n, w' = w.drewN n at H1
  generalize (Lib.cut l p).1 = x at *
  generalize (Lib.cut l p).2.2 = y at *
  generalize (Tk.after p l).getD [] = r at *
  have H1' : Hid (Calls Tryz.prog 78 #[.string (B l), .string (B p)] w fun e w' => e = .returned (.tuple #[.string (B x), .string (B r), .bool y]) ∧ ∃ n, w' = w.drewN n) := H1
  clear H1 hR hE hm
  go_enter Tryz.func52, Tryz.ntmps52
  go_wp2_with fail
  refine H1'.out.mono ?_
  rintro e w1 ⟨rfl, n, rfl⟩
  have z1 : (w.drewN n).frozen? ⟨b, 0, none⟩ = false := z0
  go_wp2
  go_end0
  exact ⟨rfl, Rd.put (w := w.drewN n) HR.out _, ((Kept.refl w [b]).drewN n).trans (Kept.one _ _ _)⟩

theorem oneOf_any (s : List UInt8) (w : World) :
    Calls Tryz.prog 49 #[.string (B s)] w fun e w' => e = .returned (.func (.func 77) #[] #[.pointer (some ⟨w.heap.size, 0, none⟩)]) ∧ Blk w' w.heap.size [.string (B s)] 9 ∧ Below w.heap.size w w' := by
  go_enter Tryz.func49, Tryz.ntmps49
  go_wp2
  go_ret
  exact ⟨rfl, Blk.new w [.string (B s)] 9, (Below.refl _ _).alloc (Nat.le_refl _) _⟩
theorem oneIn_any (a : Nat) (s : List UInt8) (c : UInt8) (w : World) (hA : Blk w a [.string (B s)] 9) :
    Calls Tryz.prog 77 #[.int .u8 c.toNat, .pointer (some ⟨a, 0, none⟩)] w fun e w' => e = .returned (.bool (Tk.inS s c)) ∧ w' = w := by
  have c0 : w.cell? ⟨a, 0, none⟩ = some (.string (B s)) := hA.cell 0
  have hI := Tryz.strings_IndexByte (B s) (c.toNat : Int) w
  rw [show ((c.toNat : Int)).toNat.toUInt8 = c by simp, B_data] at hI
  unfold Tk.inS
  generalize Lib.indexByte s c = x at *
  have HI : Hid (Calls Tryz.prog 37 #[.string (B s), .int .u8 c.toNat] w fun e w' => e = .returned (.int .i64 x) ∧ w' = w) := hI
  clear hI hA
  by_cases hx : 0 ≤ x
  all_goals
    go_enter Tryz.func77, Tryz.ntmps77
    go_wp2_with fail
    refine HI.out.mono ?_
    rintro e w1 ⟨rfl, rfl⟩
    go_wp2
    go_ret
    exact ⟨by simp [hx], rfl⟩

set_option maxRecDepth 100000 in
set_option maxHeartbeats 1600000 in
theorem upTo_one (a b : Nat) (p : UInt8 → Bool) (s l : List UInt8) (w : World) (hp : ∀ c, (Tk.inS s c) = !p c) (hR : Rd w b l) (hA : Blk w a [.string (B s)] 9) (hl : l.length ≤ 20000) :
    Calls Tryz.prog 48 #[.pointer (some ⟨b, 0, none⟩), .func (.func 77) #[] #[.pointer (some ⟨a, 0, none⟩)]] w fun e w' => e = .returned (.string (B (l.takeWhile p))) ∧ Rd w' b (l.dropWhile p) ∧ Kept w w' [b] := by
  have c0 := hR.cell
  have z1 := B_size l
  have HR : Hid (Rd w b l) := hR
  have HC : Hid (∀ c : UInt8, Calls Tryz.prog 77 #[.int .u8 c.toNat, .pointer (some ⟨a, 0, none⟩)] w fun e w' => e = .returned (.bool (!p c)) ∧ w' = w) := fun c => by
    have := oneIn_any a s c w hA
    rw [hp c] at this
    exact this
  clear hR hA hp
  obtain ⟨x, hx⟩ : ∃ x, l.takeWhile p = x := ⟨_, rfl⟩
  obtain ⟨y, hy⟩ : ∃ y, l.dropWhile p = y := ⟨_, rfl⟩
  rw [hx, hy]
  have HX : Hid (l.takeWhile p = x) := hx
  have HY : Hid (l.dropWhile p = y) := hy
  clear hx hy
  go_enter Tryz.func48, Tryz.ntmps48
  go_wp2
  go_loopw [5] (fun i wr => ∃ k : Nat, k ≤ l.length ∧ i = .int .i64 k ∧ wr = w ∧ (l.drop k).dropWhile p = y) (fun i _ => l.length - (intOf i).toNat)
  case atStart => exact ⟨0, Nat.zero_le _, rfl, rfl, HY.out⟩
  case round =>
    obtain ⟨k, hk, rfl, rfl, hd⟩ := hrel
    have HD : Hid ((l.drop k).dropWhile p = y) := hd
    clear hd
    have T : Hid (l.drop k = y → Calls Tryz.prog 51 #[.pointer (some ⟨b, 0, none⟩), .int .i64 k] wr fun e w' => e = .returned (.string (B x)) ∧ Rd w' b y ∧ Kept wr w' [b]) := fun h => by
      have t := take_any b k l wr HR.out hk
      have h0 := Tk.tw_of_dw (l := l) (p := p) (i := 0) (k := k) (Nat.zero_le _) hk (by rw [h, List.drop_zero, HY.out])
      rw [List.drop_zero, Nat.sub_zero, HX.out] at h0
      rw [h0, h] at t
      exact t
    by_cases hlt : k < l.length
    · have hix := run_index_at (B l) k (by rw [z1]; exact hlt)
      have hget : (B l)[k]'(by rw [z1]; exact hlt) = l[k] := by simp [B, ByteArray.getElem_eq_getElem_data]
      rw [hget] at hix
      have C1 := HC.out l[k]
      cases hc : p l[k]
      · have hD : l.drop k = y := by rw [← HD.out]; exact (Tk.dw_stop hlt hc).symm
        have T1 := T.out hD
        rw [hc] at C1
        have C1' : Hid (Calls Tryz.prog 77 #[.int .u8 l[k].toNat, .pointer (some ⟨a, 0, none⟩)] wr fun e w' => e = .returned (.bool true) ∧ w' = wr) := C1
        have T1' : Hid (Calls Tryz.prog 51 #[.pointer (some ⟨b, 0, none⟩), .int .i64 k] wr fun e w' => e = .returned (.string (B x)) ∧ Rd w' b y ∧ Kept wr w' [b]) := T1
        clear C1 T1 hD hc hget
        generalize l[k] = c at *
        go_wp2_with fail
        refine C1'.out.mono ?_
        rintro e w1 ⟨rfl, rfl⟩
        go_wp2_with fail
        refine T1'.out.mono ?_
        rintro e w2 ⟨rfl, h3, h4⟩
        have H3 : Hid (Rd w2 b y) := h3
        have H4 : Hid (Kept w1 w2 [b]) := h4
        clear h3 h4
        go_wp2
        go_ret
        exact ⟨rfl, H3.out, H4.out⟩
      · have HD2 : Hid ((l.drop (k + 1)).dropWhile p = y) := (Tk.dw_go hlt hc).trans HD.out
        rw [hc] at C1
        have C1' : Hid (Calls Tryz.prog 77 #[.int .u8 l[k].toNat, .pointer (some ⟨a, 0, none⟩)] wr fun e w' => e = .returned (.bool false) ∧ w' = wr) := C1
        clear C1 hc hget
        generalize l[k] = c at *
        go_wp2_with fail
        refine C1'.out.mono ?_
        rintro e w1 ⟨rfl, rfl⟩
        go_wp2
        go_roundw
        case rel => exact ⟨k + 1, by omega, by go_num, trivial, HD2.out⟩
        case measure => simp [intOf]; omega
    · have hD : l.drop k = y := by rw [← HD.out]; exact (Tk.dw_end (by omega)).symm
      have T1 := T.out hD
      have T1' : Hid (Calls Tryz.prog 51 #[.pointer (some ⟨b, 0, none⟩), .int .i64 k] wr fun e w' => e = .returned (.string (B x)) ∧ Rd w' b y ∧ Kept wr w' [b]) := T1
      clear T1 hD
      go_wp2_with fail
      refine T1'.out.mono ?_
      rintro e w2 ⟨rfl, h3, h4⟩
      have H3 : Hid (Rd w2 b y) := h3
      have H4 : Hid (Kept wr w2 [b]) := h4
      clear h3 h4
      go_wp2
      go_ret
      exact ⟨rfl, H3.out, H4.out⟩

theorem noneOf_any (s : List UInt8) (w : World) :
    Calls Tryz.prog 81 #[.string (B s)] w fun e w' => e = .returned (.func (.func 105) #[] #[.pointer (some ⟨w.heap.size, 0, none⟩)]) ∧ Blk w' w.heap.size [.string (B s)] 9 ∧ Below w.heap.size w w' := by
  go_enter Tryz.func81, Tryz.ntmps81
  go_wp2
  go_ret
  exact ⟨rfl, Blk.new w [.string (B s)] 9, (Below.refl _ _).alloc (Nat.le_refl _) _⟩
theorem noneIn_any (a : Nat) (s : List UInt8) (c : UInt8) (w : World) (hA : Blk w a [.string (B s)] 9) :
    Calls Tryz.prog 105 #[.int .u8 c.toNat, .pointer (some ⟨a, 0, none⟩)] w fun e w' => e = .returned (.bool (!Tk.inS s c)) ∧ w' = w := by
  have c0 : w.cell? ⟨a, 0, none⟩ = some (.string (B s)) := hA.cell 0
  have hI := Tryz.strings_IndexByte (B s) (c.toNat : Int) w
  rw [show ((c.toNat : Int)).toNat.toUInt8 = c by simp, B_data] at hI
  unfold Tk.inS
  generalize Lib.indexByte s c = x at *
  have HI : Hid (Calls Tryz.prog 37 #[.string (B s), .int .u8 c.toNat] w fun e w' => e = .returned (.int .i64 x) ∧ w' = w) := hI
  clear hI hA
  by_cases hx : 0 ≤ x
  all_goals
    go_enter Tryz.func105, Tryz.ntmps105
    go_wp2_with fail
    refine HI.out.mono ?_
    rintro e w1 ⟨rfl, rfl⟩
    go_wp2
    go_ret
    exact ⟨by simp [hx], rfl⟩

set_option maxRecDepth 100000 in
set_option maxHeartbeats 1600000 in
theorem upTo_none (a b : Nat) (p : UInt8 → Bool) (s l : List UInt8) (w : World) (hp : ∀ c, (!Tk.inS s c) = !p c) (hR : Rd w b l) (hA : Blk w a [.string (B s)] 9) (hl : l.length ≤ 20000) :
    Calls Tryz.prog 48 #[.pointer (some ⟨b, 0, none⟩), .func (.func 105) #[] #[.pointer (some ⟨a, 0, none⟩)]] w fun e w' => e = .returned (.string (B (l.takeWhile p))) ∧ Rd w' b (l.dropWhile p) ∧ Kept w w' [b] := by
  have c0 := hR.cell
  have z1 := B_size l
  have HR : Hid (Rd w b l) := hR
  have HC : Hid (∀ c : UInt8, Calls Tryz.prog 105 #[.int .u8 c.toNat, .pointer (some ⟨a, 0, none⟩)] w fun e w' => e = .returned (.bool (!p c)) ∧ w' = w) := fun c => by
    have := noneIn_any a s c w hA
    rw [hp c] at this
    exact this
  clear hR hA hp
  obtain ⟨x, hx⟩ : ∃ x, l.takeWhile p = x := ⟨_, rfl⟩
  obtain ⟨y, hy⟩ : ∃ y, l.dropWhile p = y := ⟨_, rfl⟩
  rw [hx, hy]
  have HX : Hid (l.takeWhile p = x) := hx
  have HY : Hid (l.dropWhile p = y) := hy
  clear hx hy
  go_enter Tryz.func48, Tryz.ntmps48
  go_wp2
  go_loopw [5] (fun i wr => ∃ k : Nat, k ≤ l.length ∧ i = .int .i64 k ∧ wr = w ∧ (l.drop k).dropWhile p = y) (fun i _ => l.length - (intOf i).toNat)
  case atStart => exact ⟨0, Nat.zero_le _, rfl, rfl, HY.out⟩
  case round =>
    obtain ⟨k, hk, rfl, rfl, hd⟩ := hrel
    have HD : Hid ((l.drop k).dropWhile p = y) := hd
    clear hd
    have T : Hid (l.drop k = y → Calls Tryz.prog 51 #[.pointer (some ⟨b, 0, none⟩), .int .i64 k] wr fun e w' => e = .returned (.string (B x)) ∧ Rd w' b y ∧ Kept wr w' [b]) := fun h => by
      have t := take_any b k l wr HR.out hk
      have h0 := Tk.tw_of_dw (l := l) (p := p) (i := 0) (k := k) (Nat.zero_le _) hk (by rw [h, List.drop_zero, HY.out])
      rw [List.drop_zero, Nat.sub_zero, HX.out] at h0
      rw [h0, h] at t
      exact t
    by_cases hlt : k < l.length
    · have hix := run_index_at (B l) k (by rw [z1]; exact hlt)
      have hget : (B l)[k]'(by rw [z1]; exact hlt) = l[k] := by simp [B, ByteArray.getElem_eq_getElem_data]
      rw [hget] at hix
      have C1 := HC.out l[k]
      cases hc : p l[k]
      · have hD : l.drop k = y := by rw [← HD.out]; exact (Tk.dw_stop hlt hc).symm
        have T1 := T.out hD
        rw [hc] at C1
        have C1' : Hid (Calls Tryz.prog 105 #[.int .u8 l[k].toNat, .pointer (some ⟨a, 0, none⟩)] wr fun e w' => e = .returned (.bool true) ∧ w' = wr) := C1
        have T1' : Hid (Calls Tryz.prog 51 #[.pointer (some ⟨b, 0, none⟩), .int .i64 k] wr fun e w' => e = .returned (.string (B x)) ∧ Rd w' b y ∧ Kept wr w' [b]) := T1
        clear C1 T1 hD hc hget
        generalize l[k] = c at *
        go_wp2_with fail
        refine C1'.out.mono ?_
        rintro e w1 ⟨rfl, rfl⟩
        go_wp2_with fail
        refine T1'.out.mono ?_
        rintro e w2 ⟨rfl, h3, h4⟩
        have H3 : Hid (Rd w2 b y) := h3
        have H4 : Hid (Kept w1 w2 [b]) := h4
        clear h3 h4
        go_wp2
        go_ret
        exact ⟨rfl, H3.out, H4.out⟩
      · have HD2 : Hid ((l.drop (k + 1)).dropWhile p = y) := (Tk.dw_go hlt hc).trans HD.out
        rw [hc] at C1
        have C1' : Hid (Calls Tryz.prog 105 #[.int .u8 l[k].toNat, .pointer (some ⟨a, 0, none⟩)] wr fun e w' => e = .returned (.bool false) ∧ w' = wr) := C1
        clear C1 hc hget
        generalize l[k] = c at *
        go_wp2_with fail
        refine C1'.out.mono ?_
        rintro e w1 ⟨rfl, rfl⟩
        go_wp2
        go_roundw
        case rel => exact ⟨k + 1, by omega, by go_num, trivial, HD2.out⟩
        case measure => simp [intOf]; omega
    · have hD : l.drop k = y := by rw [← HD.out]; exact (Tk.dw_end (by omega)).symm
      have T1 := T.out hD
      have T1' : Hid (Calls Tryz.prog 51 #[.pointer (some ⟨b, 0, none⟩), .int .i64 k] wr fun e w' => e = .returned (.string (B x)) ∧ Rd w' b y ∧ Kept wr w' [b]) := T1
      clear T1 hD
      go_wp2_with fail
      refine T1'.out.mono ?_
      rintro e w2 ⟨rfl, h3, h4⟩
      have H3 : Hid (Rd w2 b y) := h3
      have H4 : Hid (Kept wr w2 [b]) := h4
      clear h3 h4
      go_wp2
      go_ret
      exact ⟨rfl, H3.out, H4.out⟩
end Go.Proofs.YtpcaiechaakhnabGreatDoor

/-
  Slices in memory: rows of cells, of bytes, of tokens; slices.Equal at two lists of tokens.
-/
namespace Go.Proofs.YtpcaiechaakhnabGreatDoor
open Go.RowKit

theorem cell_under {w w' : World} {a : Addr} {v : Value} (h : w.cell? a = some v) (hb : Below w.heap.size w w') : w'.cell? a = some v :=
  (World.cell?_of_block (w := w) (hb.block _ (World.block_lt_of_cell? _ _ h))).trans h
theorem ownBlk_ge {w : World} {base : Nat} {e : TypeId} {size : Nat} {v : Value} {n : Nat} {xs : List Value} (h : w.ownsRow base e size v n xs) : ∀ k, v.ownBlock = some k → base ≤ k := by
  intro k hk
  rcases h.2 with ⟨rfl, _⟩ | ⟨g, cap, cur, rfl, hg, _⟩
  · cases hk
  · simp [Value.ownBlock] at hk; omega
theorem own_kept {w w' : World} {base b n sz : Nat} {e : TypeId} {v : Value} {xs : List Value} (h : w.ownsRow base e sz v n xs) (hk : Kept w w' [b]) (hb : b < base) : w'.ownsRow base e sz v n xs := by
  refine ⟨h.1, ?_⟩
  rcases h.2 with h2 | ⟨g, cap, cur, hv, hg, hh, r⟩
  · exact .inl h2
  · exact .inr ⟨g, cap, cur, hv, hg, (hk.block g (Array.getElem?_eq_some_iff.1 hh).1 (by simp; omega)).trans hh, r⟩
theorem own_under {w w' : World} {base n sz : Nat} {e : TypeId} {v : Value} {xs : List Value} (h : w.ownsRow base e sz v n xs) (hb : Below w.heap.size w w') : w'.ownsRow base e sz v n xs := by
  refine ⟨h.1, ?_⟩
  rcases h.2 with h2 | ⟨g, cap, cur, hv, hg, hh, r⟩
  · exact .inl h2
  · exact .inr ⟨g, cap, cur, hv, hg, (hb.block g (Array.getElem?_eq_some_iff.1 hh).1).trans hh, r⟩

/-- A slice of n elements, sz cells each: cs. -/
structure Row (w : World) (ao : Option Addr) (n cap sz : Nat) (cs : List Value) : Prop where
  len : cs.length = n * sz
  room : n ≤ cap
  big : cap ≤ 9223372036854775807
  lies : n ≠ 0 → ∃ b off, ao = some ⟨b, off, none⟩ ∧ ∀ j u, cs[j]? = some u → w.cell? ⟨b, off + j, none⟩ = some u
theorem Row.below {w w' : World} {ao : Option Addr} {n cap sz : Nat} {cs : List Value} (h : Row w ao n cap sz cs) (hb : Below w.heap.size w w') : Row w' ao n cap sz cs :=
  ⟨h.len, h.room, h.big, fun hn => by
    obtain ⟨b, off, he, hc⟩ := h.lies hn
    exact ⟨b, off, he, fun j u hu => cell_under (hc j u hu) hb⟩⟩
theorem Row.nil (w : World) (sz : Nat) : Row w none 0 0 sz [] := ⟨by simp, Nat.le_refl _, by decide, fun h => absurd rfl h⟩
/-- A row that is owned. -/
theorem own_row {w : World} {B0 n sz : Nat} {e : TypeId} {v : Value} {xs : List Value} (h : w.ownsRow B0 e sz v n xs) : ∃ ao cap, v = .slice ao n cap ∧ Row w ao n cap sz xs := by
  rcases h.2 with ⟨rfl, rfl⟩ | ⟨g, cap, cur, rfl, hg, hh, h1, h2, h3, h4⟩
  · have : xs = [] := by have := h.1; rw [Nat.zero_mul] at this; exact List.length_eq_zero_iff.1 this
    subst this
    exact ⟨none, 0, rfl, Row.nil w sz⟩
  · refine ⟨_, cap, rfl, h.1, h1, by unfold maxLen at h2; exact h2, fun _ => ⟨g, 0, rfl, fun j u hu => ?_⟩⟩
    have := h.cells (g := g) rfl j u hu
    have e : (⟨g, 0, none⟩ : Addr).add j = ⟨g, 0 + j, none⟩ := by unfold Addr.add; split <;> simp_all
    rw [e] at this
    exact this

/-- A token's cells. -/
def tkC (k : Tk) : List Value := [.int .i64 k.kind, .string (B k.name), .string (B k.text), .string (B k.href)]
def tkA (k : Tk) : Value := .agg #[.int .i64 k.kind, .string (B k.name), .string (B k.text), .string (B k.href)]
def tkCells (l : List Tk) : List Value := l.flatMap tkC
theorem tkCells_nil : tkCells [] = [] := rfl
theorem tkCells_cons (k : Tk) (l : List Tk) : tkCells (k :: l) = .int .i64 k.kind :: .string (B k.name) :: .string (B k.text) :: .string (B k.href) :: tkCells l := rfl
theorem tkCells_app (l l' : List Tk) : tkCells (l ++ l') = tkCells l ++ tkCells l' := List.flatMap_append
theorem tkCells_one (k : Tk) : tkCells [k] = tkC k := by simp [tkCells]
theorem tkCells_len : ∀ l : List Tk, (tkCells l).length = l.length * 4
  | [] => rfl
  | k :: l => by rw [tkCells_cons]; simp only [List.length_cons]; rw [tkCells_len l]; omega
theorem tkCells_at : ∀ (l : List Tk) (i : Nat) (h : i < l.length), (tkCells l)[i * 4]? = some (.int .i64 l[i].kind) ∧ (tkCells l)[i * 4 + 1]? = some (.string (B l[i].name)) ∧ (tkCells l)[i * 4 + 2]? = some (.string (B l[i].text)) ∧ (tkCells l)[i * 4 + 3]? = some (.string (B l[i].href))
  | [], _, h => by simp at h
  | k :: l, 0, _ => ⟨rfl, rfl, rfl, rfl⟩
  | k :: l, i + 1, h => by
    have := tkCells_at l i (by simpa using h)
    rw [tkCells_cons, show (i + 1) * 4 = i * 4 + 1 + 1 + 1 + 1 by omega]
    exact this
theorem tkCells_oneCell (l : List Tk) : ∀ u ∈ tkCells l, u.oneCell' = true := by
  intro u hu
  obtain ⟨k, _, h⟩ := List.mem_flatMap.1 hu
  simp only [tkC, List.mem_cons, List.not_mem_nil, or_false] at h
  rcases h with rfl | rfl | rfl | rfl <;> rfl
abbrev Tks (w : World) (ao : Option Addr) (n cap : Nat) (l : List Tk) : Prop := Row w ao n cap 4 (tkCells l)
theorem Row.toks {w : World} {ao : Option Addr} {n cap : Nat} {l : List Tk} (h : Tks w ao n cap l) : l.length = n := by
  have := h.len
  rw [tkCells_len] at this
  omega
theorem Row.tok {w : World} {ao : Option Addr} {n cap : Nat} {l : List Tk} (h : Tks w ao n cap l) (hn : n ≠ 0) : ∃ b off, ao = some ⟨b, off, none⟩ ∧ ∀ i (hi : i < l.length),
    w.cell? ⟨b, off + i * 4, none⟩ = some (.int .i64 l[i].kind) ∧ w.cell? ⟨b, off + i * 4 + 1, none⟩ = some (.string (B l[i].name)) ∧ w.cell? ⟨b, off + i * 4 + 2, none⟩ = some (.string (B l[i].text)) ∧ w.cell? ⟨b, off + i * 4 + 3, none⟩ = some (.string (B l[i].href)) := by
  obtain ⟨b, off, he, hc⟩ := h.lies hn
  refine ⟨b, off, he, fun i hi => ?_⟩
  obtain ⟨h0, h1, h2, h3⟩ := tkCells_at l i hi
  exact ⟨hc _ _ h0, by rw [Nat.add_assoc]; exact hc _ _ h1, by rw [Nat.add_assoc]; exact hc _ _ h2, by rw [Nat.add_assoc]; exact hc _ _ h3⟩
abbrev Byt (w : World) (ao : Option Addr) (n cap : Nat) (l : List UInt8) : Prop := Row w ao n cap 1 (l.map b8)
theorem Row.bytes {w : World} {ao : Option Addr} {n cap : Nat} {l : List UInt8} (h : Byt w ao n cap l) : l.length = n := by
  have := h.len
  rw [List.length_map] at this
  omega
theorem Row.byte {w : World} {ao : Option Addr} {n cap : Nat} {l : List UInt8} (h : Byt w ao n cap l) (hn : n ≠ 0) : ∃ b off, ao = some ⟨b, off, none⟩ ∧ ∀ i (hi : i < l.length), w.cell? ⟨b, off + i, none⟩ = some (.int .u8 l[i].toNat) := by
  obtain ⟨b, off, he, hc⟩ := h.lies hn
  exact ⟨b, off, he, fun i hi => hc i _ (by simp [b8, List.getElem?_eq_getElem hi])⟩

theorem conv_byt {w : World} {ao : Option Addr} {n cap : Nat} {l : List UInt8} (h : Byt w ao n cap l) : (convert 22 9 (.slice ao n cap)).run Tryz.prog w = .ok (.string (B l)) w := by
  have hl := h.bytes
  cases ao with
  | none =>
    have hn : n = 0 := Nat.eq_zero_of_not_pos fun hn => by
      obtain ⟨b, off, he, _⟩ := h.lies (by omega)
      cases he
    subst hn
    obtain rfl : l = [] := List.length_eq_zero_iff.1 hl
    exact run_convert_bytes_nil w 22 5 Tryz.underlying22 Tryz.underlying5 0 cap 9 Tryz.underlying9
  | some a =>
    rw [← hl]
    refine run_convert_bytes_back w 22 9 5 a cap l Tryz.underlying22 Tryz.underlying5 Tryz.underlying9 (fun j hj => ?_)
    obtain ⟨b, off, he, hc⟩ := h.byte (by omega)
    cases he
    have e : (⟨b, off, none⟩ : Addr).add j = ⟨b, off + j, none⟩ := by unfold Addr.add; split <;> simp_all
    rw [e]
    exact hc j hj
/-- Where a part of a slice begins. -/
def subA (b off cap i : Nat) : Option Addr := if cap = i then some ⟨b, off, none⟩ else some ⟨b, off + i, none⟩
/-- A part of a slice of bytes. -/
theorem Row.part {w : World} {b off n cap : Nat} {l : List UInt8} (h : Byt w (some ⟨b, off, none⟩) n cap l) (i k : Nat) (hi : i ≤ k) (hk : k ≤ n) : Byt w (subA b off cap i) (k - i) (cap - i) ((l.drop i).take (k - i)) := by
  have hl := h.bytes
  have hr := h.room
  have hb := h.big
  refine ⟨?_, by omega, by omega, fun hn => ⟨b, off + i, ?_, fun j u hu => ?_⟩⟩
  · simp
    omega
  · unfold subA
    rw [if_neg (by omega)]
  · obtain ⟨b', off', he, hc⟩ := h.lies (by omega)
    cases he
    have hj : j < k - i := by
      have := (List.getElem?_eq_some_iff.1 hu).1
      simp at this
      omega
    rw [Nat.add_assoc]
    refine hc (i + j) u ?_
    rw [← hu]
    simp [hj, List.getElem?_drop]
theorem sized1 (w : World) : (sizeOf (Tryz.prog.elem 22)).run Tryz.prog w = .ok 1 w := by
  have h : Tryz.prog.elem 22 = 5 := by kernel_rfl
  rw [h]
  exact Tryz.sizeOf5 w
theorem under_bytes : Tryz.prog.underlying 22 = some (.slice (Tryz.prog.elem 22)) := by kernel_rfl
theorem sliced_sub (b off cap i h : Nat) : sliced (some ⟨b, off, none⟩) i h cap 1 = .slice (subA b off cap i) (h - i) (cap - i) := by
  unfold sliced subA
  have e : (⟨b, off, none⟩ : Addr).add (i * 1) = ⟨b, off + i, none⟩ := by unfold Addr.add; split <;> simp_all
  split
  · rfl
  · simp only [Option.map_some, e]
theorem slice_lh (b off n cap i k : Nat) (hi : i ≤ k) (hk : k ≤ n) (hc : n ≤ cap) (w : World) : (Instr.slice 22 (.slice (some ⟨b, off, none⟩) n cap) (some (.int .i64 i)) (some (.int .i64 k)) none).run Tryz.prog w = .ok (.slice (subA b off cap i) (k - i) (cap - i)) w := by
  rw [run_slice_lh (P := Tryz.prog) (w := w) 22 _ n cap under_bytes .i64 .i64 (i : Int) (k : Int) (by omega) (by omega) (by omega), sized1]
  simp only [Result.andThen, Int.toNat_natCast, sliced_sub]
theorem slice_l (b off n cap i : Nat) (hi : i ≤ n) (w : World) : (Instr.slice 22 (.slice (some ⟨b, off, none⟩) n cap) (some (.int .i64 i)) none none).run Tryz.prog w = .ok (.slice (subA b off cap i) (n - i) (cap - i)) w := by
  rw [run_slice_l (P := Tryz.prog) (w := w) 22 _ n cap under_bytes .i64 (i : Int) (by omega) (by omega), sized1]
  simp only [Result.andThen, Int.toNat_natCast, sliced_sub]

namespace Tk
def alike (x y : Tk) : Bool := (x.kind == y.kind) && ((x.name == y.name) && ((x.text == y.text) && (x.href == y.href)))
def same : List Tk → List Tk → Bool
  | [], [] => true
  | x :: s, y :: t => alike x y && same s t
  | _, _ => false
theorem alike_eq {x y : Tk} (h : alike x y = true) : x = y := by
  unfold alike at h
  simp only [Bool.and_eq_true, beq_iff_eq] at h
  obtain ⟨a, b, c, d⟩ := h
  cases x; cases y
  simp at a b c d
  rw [a, b, c, d]
theorem alike_self (x : Tk) : alike x x = true := by unfold alike; simp
theorem same_self : ∀ l : List Tk, same l l = true
  | [] => rfl
  | x :: t => by rw [same, alike_self, same_self t]; rfl
theorem same_eq : ∀ {l l' : List Tk}, same l l' = true → l = l'
  | [], [], _ => rfl
  | [], _ :: _, h => by cases h
  | _ :: _, [], h => by cases h
  | x :: s, y :: t, h => by
    rw [same, Bool.and_eq_true] at h
    rw [alike_eq h.1, same_eq h.2]
theorem same_len : ∀ (s t : List Tk), ¬ s.length = t.length → same s t = false
  | [], [], h => absurd rfl h
  | [], _ :: _, _ => rfl
  | _ :: _, [], _ => rfl
  | x :: s, y :: t, h => by
    rw [same, same_len s t (by simpa using h), Bool.and_false]
theorem same_step (s t : List Tk) (k : Nat) (h : k < s.length) (h' : k < t.length) : same (s.drop k) (t.drop k) = (alike s[k] t[k] && same (s.drop (k + 1)) (t.drop (k + 1))) := by
  rw [List.drop_eq_getElem_cons h, List.drop_eq_getElem_cons h', same]
end Tk
theorem guardTk : Tryz.prog.eqGuardType Tryz.prog.depth 30 = false := by kernel_rfl
theorem heldTk : Tryz.prog.stoodInHeld 30 = false := by kernel_rfl
theorem underTk : Tryz.prog.underlying 30 = some (.struct (Tryz.prog.fieldsOf 30)) := by kernel_rfl
theorem toList_B (l : List UInt8) : (B l).toList = l := by
  have h := Lib.extract_toList (B l) 0 (B l).size
  have e : (B l).extract 0 (B l).size = B l := by
    apply ext_list
    rw [Lib.extract_data, B_size]
    simp [B_data]
  rw [e] at h
  rw [h, B_size]
  simp [B_data]
theorem neq_toks (x y : Tk) (w : World) : (binOp .neq 30 (.agg #[.int .i64 x.kind, .string (B x.name), .string (B x.text), .string (B x.href)]) (.agg #[.int .i64 y.kind, .string (B y.name), .string (B y.text), .string (B y.href)])).run Tryz.prog w = .ok (.bool (!Tk.alike x y)) w := by
  rw [run_neq_struct, run_equalIn_agg w 9999 30 _ _ underTk heldTk]
  have hu := Tryz.underlying30
  simp [go_sem, hu, Program.fieldsOf, toList_B]
  unfold Tk.alike
  by_cases h1 : x.kind = y.kind
  · by_cases h2 : x.name = y.name
    · by_cases h3 : x.text = y.text
      · by_cases h4 : x.href = y.href
        · simp [h1, h2, h3, h4]
        · simp [h1, h2, h3, h4]
      · simp [h1, h2, h3]
    · simp [h1, h2]
  · simp [h1]

set_option maxRecDepth 100000 in
set_option maxHeartbeats 1600000 in
theorem equalTk_any (ao ao' : Option Addr) (n cap n' cap' : Nat) (l l' : List Tk) (w : World) (hD : Tks w ao n cap l) (hD' : Tks w ao' n' cap' l') :
    Calls Tryz.prog 10 #[.slice ao n cap, .slice ao' n' cap'] w fun e w' => e = .returned (.bool (Tk.same l l')) ∧ ∃ m, w' = w.drewN m := by
  have HD : Hid (Tks w ao n cap l) := hD
  have HD' : Hid (Tks w ao' n' cap' l') := hD'
  have hcap := hD.room
  have hbig := hD.big
  clear hD hD'
  obtain ⟨r, hr⟩ : ∃ r, Tk.same l l' = r := ⟨_, rfl⟩
  have HR : Hid (Tk.same l l' = r) := hr
  rw [hr]
  clear hr
  by_cases hnn : n = n'
  · subst hnn
    have hg := guardTk
    go_enter Tryz.func10, Tryz.ntmps10
    go_wp2
    go_loopw [13] (fun i wr => ∃ k : Nat, k ≤ n ∧ i = .int .i64 k ∧ (∃ m, wr = w.drewN m) ∧ Tk.same (l.drop k) (l'.drop k) = r) (fun i _ => n - (intOf i).toNat)
    case atStart => exact ⟨0, Nat.zero_le _, rfl, ⟨0, rfl⟩, HR.out⟩
    case round =>
      obtain ⟨k, hk, rfl, ⟨m, rfl⟩, hsm⟩ := hrel
      have HM : Hid (Tk.same (l.drop k) (l'.drop k) = r) := hsm
      clear hsm
      by_cases hlt : k < n
      · obtain ⟨b, off, rfl, A0⟩ := HD.out.tok (by omega)
        obtain ⟨b', off', rfl, A0'⟩ := HD'.out.tok (by omega)
        have h1 : k < l.length := by rw [HD.out.toks]; exact hlt
        have h2 : k < l'.length := by rw [HD'.out.toks]; exact hlt
        obtain ⟨ha0, ha1, ha2, ha3⟩ := A0 k h1
        obtain ⟨hx0, hx1, hx2, hx3⟩ := A0' k h2
        have HX : Hid (Tk.same (l.drop k) (l'.drop k) = (Tk.alike l[k] l'[k] && Tk.same (l.drop (k + 1)) (l'.drop (k + 1)))) := Tk.same_step l l' k h1 h2
        clear A0 A0'
        generalize l[k] = x at *
        generalize l'[k] = y at *
        clear h1 h2
        have hq := neq_toks x y
        cases hal : Tk.alike x y
        · have hrr : r = false := by rw [← HM.out, HX.out, hal]; rfl
          subst hrr
          rw [hal] at hq
          clear hal
          go_wp2
          go_quiet (fail)
          go_wp2
          go_ret
          exact ⟨rfl, _, (World.drewN_drewN _ _ _)⟩
        · have HM2 : Hid (Tk.same (l.drop (k + 1)) (l'.drop (k + 1)) = r) := by show _ = _; rw [← HM.out, HX.out, hal, Bool.true_and]
          rw [hal] at hq
          clear hal
          go_wp2
          go_quiet (fail)
          go_wp2
          go_roundw
          case rel => exact ⟨k + 1, by omega, by go_num, ⟨_, rfl⟩, HM2.out⟩
          case measure => simp [intOf]; omega
      · have hrr : r = true := by
          rw [← HM.out, List.drop_eq_nil_of_le (by rw [HD.out.toks]; omega), List.drop_eq_nil_of_le (by rw [HD'.out.toks]; omega)]
          rfl
        subst hrr
        go_wp2
        go_ret
        exact ⟨rfl, m, rfl⟩
  · have hrr : r = false := HR.out.symm.trans (Tk.same_len _ _ (by rw [HD.out.toks, HD'.out.toks]; exact hnn))
    subst hrr
    go_enter Tryz.func10, Tryz.ntmps10
    go_wp2
    go_ret
    exact ⟨rfl, 0, rfl⟩
end Go.Proofs.YtpcaiechaakhnabGreatDoor

/-
  The document that the laws' closed facts ask about, in memory.
-/
namespace Go.Proofs.YtpcaiechaakhnabGreatDoor
open Go.RowKit

def smallDoc : List It := [⟨97, 0, ⟨#[]⟩⟩, ⟨98, 1, ⟨#[]⟩⟩, ⟨10, 1, ⟨#[]⟩⟩, ⟨60, 0, ⟨#[104, 116, 116, 112, 58, 38]⟩⟩, ⟨10, 2, ⟨#[]⟩⟩]
theorem small_check : Dc.check smallDoc = 0 := by decide +kernel
theorem small_check2 : Dc.check (smallDoc.take 2) = 4 := by decide +kernel
theorem small_plain : Dc.plain smallDoc = [97, 98, 10, 60, 10] := by decide +kernel
theorem small_runs : Dc.runs smallDoc = [0, 1, 2, 3, 4] := by decide +kernel

/-- The cells of a list of items. -/
def itCells : List It → List Value
  | [] => []
  | x :: t => .int .u8 x.c.toNat :: .int .i64 x.m :: .string x.l :: itCells t
theorem itCells_at : ∀ (l : List It) (i : Nat) (h : i < l.length), (itCells l)[i * 3]? = some (.int .u8 l[i].c.toNat) ∧ (itCells l)[i * 3 + 1]? = some (.int .i64 l[i].m) ∧ (itCells l)[i * 3 + 2]? = some (.string l[i].l)
  | [], _, h => by simp at h
  | x :: t, 0, _ => ⟨rfl, rfl, rfl⟩
  | x :: t, i + 1, h => by
    obtain ⟨h1, h2, h3⟩ := itCells_at t i (by simpa using h)
    have e : (i + 1) * 3 = i * 3 + 1 + 1 + 1 := by omega
    rw [e]
    exact ⟨h1, h2, h3⟩
theorem at_block {w : World} {b : Nat} {l : List It} {T : TypeId} {fr : Nat × Nat} (h : w.heap[b]? = some (.cells (itCells l).toArray T fr)) : At w b 0 l := by
  have hc : ∀ j, w.cell? ⟨b, j, none⟩ = (itCells l)[j]? := fun j => by
    unfold World.cell?
    rw [h]
    simp
  refine ⟨fun i hi => ?_, fun i hi => ?_, fun i hi => ?_⟩
  · rw [Nat.zero_add, hc]; exact (itCells_at l i hi).1
  · rw [Nat.zero_add, hc]; exact (itCells_at l i hi).2.1
  · rw [Nat.zero_add, hc]; exact (itCells_at l i hi).2.2
theorem At.take {w : World} {b off : Nat} {l : List It} (h : At w b off l) (k : Nat) : At w b off (l.take k) := by
  refine ⟨fun i hi => ?_, fun i hi => ?_, fun i hi => ?_⟩
  all_goals
    have h2 : i < l.length := by simp at hi; omega
    rw [List.getElem_take]
  · exact h.c i h2
  · exact h.m i h2
  · exact h.l i h2

set_option maxRecDepth 100000 in
theorem smalld_any (w : World) : Calls Tryz.prog 35 #[] w fun e w' => e = .returned (.slice (some ⟨w.heap.size, 0, none⟩) 5 5) ∧ w' = w.alloc (.cells (itCells smallDoc).toArray 39) := by
  go_enter Tryz.func35, Tryz.ntmps35
  go_wp2
  go_ret
  exact ⟨rfl, rfl⟩
theorem small_fit : Fit smallDoc := by unfold Fit; decide +kernel
theorem small_at (w : World) : Doc (w.alloc (.cells (itCells smallDoc).toArray 39)) (some ⟨w.heap.size, 0, none⟩) 5 5 smallDoc :=
  ⟨small_fit, rfl, Nat.le_refl _, by decide, fun _ => ⟨_, _, rfl, at_block (heap_alloc_new w _)⟩⟩
theorem smallD (w : World) : Calls Tryz.prog 35 #[] w fun e w' => e = .returned (.slice (some ⟨w.heap.size, 0, none⟩) 5 5) ∧ Doc w' (some ⟨w.heap.size, 0, none⟩) 5 5 smallDoc ∧ Below w.heap.size w w' :=
  (smalld_any w).mono fun _ _ ⟨he, hw⟩ => ⟨he, by rw [hw]; exact small_at w, by rw [hw]; exact (Below.refl _ _).alloc (Nat.le_refl _) _⟩
theorem Doc.take {w : World} {ao : Option Addr} {n cap : Nat} {l : List It} (h : Doc w ao n cap l) (k : Nat) (hk : k ≤ n) : Doc w ao k cap (l.take k) :=
  ⟨fun x hx => h.fit x (List.mem_of_mem_take hx), by rw [List.length_take, h.len]; omega, Nat.le_trans hk h.room, h.big, fun h0 => by obtain ⟨b, off, e, hA⟩ := h.lies (by omega); exact ⟨b, off, e, hA.take k⟩⟩

theorem own_below {w w' : World} {B n : Nat} {v : Value} {xs : List Value} (h : w.ownsRow B 3 1 v n xs) (hb : Below w.heap.size w w') : w'.ownsRow B 3 1 v n xs := by
  refine ⟨h.1, ?_⟩
  rcases h.2 with h2 | ⟨g, cap, cur, hv, hg, hh, r⟩
  · exact .inl h2
  · exact .inr ⟨g, cap, cur, hv, hg, (hb.block g (lt_of_block hh)).trans hh, r⟩

end Go.Proofs.YtpcaiechaakhnabGreatDoor

/-
  Package sanitize, its small functions: characters, marks, names of blocks, what hides, how deep.
-/
namespace Go.Proofs.YtpcaiechaakhnabGreatDoor
open Go.RowKit

def bncells : Array Value := #[.string ⟨#[112]⟩, .int .i64 0, .string ⟨#[100, 105, 118]⟩, .int .i64 0, .string ⟨#[104, 49]⟩, .int .i64 1, .string ⟨#[108, 105]⟩, .int .i64 2, .string ⟨#[104, 50]⟩, .int .i64 3]
/-- The variable 'blockNames' of sanitize holds what its initialiser lays. -/
def Bn (w : World) : Prop := ∃ t fr, w.heap[5]? = some (.cells bncells t fr)
theorem Bn.pos {w : World} (h : Bn w) : 5 < w.heap.size := by
  obtain ⟨t, fr, hg⟩ := h
  exact (Array.getElem?_eq_some_iff.1 hg).1
theorem Bn.below {w w' : World} {b : Nat} (h : Bn w) (hb : Below b w w') (h6 : 5 < b) : Bn w' := by
  obtain ⟨t, fr, hg⟩ := h
  exact ⟨t, fr, (hb.block 5 h6).trans hg⟩
theorem bidx0 (w : World) : (Instr.index 142 (.agg bncells) (.int .i64 0)).run Tryz.prog w = .ok (.agg #[.string ⟨#[112]⟩, .int .i64 0]) w := by kernel_rfl
theorem bidx1 (w : World) : (Instr.index 142 (.agg bncells) (.int .i64 1)).run Tryz.prog w = .ok (.agg #[.string ⟨#[100, 105, 118]⟩, .int .i64 0]) w := by kernel_rfl
theorem bidx2 (w : World) : (Instr.index 142 (.agg bncells) (.int .i64 2)).run Tryz.prog w = .ok (.agg #[.string ⟨#[104, 49]⟩, .int .i64 1]) w := by kernel_rfl
theorem bidx3 (w : World) : (Instr.index 142 (.agg bncells) (.int .i64 3)).run Tryz.prog w = .ok (.agg #[.string ⟨#[108, 105]⟩, .int .i64 2]) w := by kernel_rfl
theorem bidx4 (w : World) : (Instr.index 142 (.agg bncells) (.int .i64 4)).run Tryz.prog w = .ok (.agg #[.string ⟨#[104, 50]⟩, .int .i64 3]) w := by kernel_rfl
theorem szBn : (Tryz.prog.info? 142).map (·.size) = some bncells.size := by kernel_rfl
def hncells : Array Value := #[.string ⟨#[115, 99, 114, 105, 112, 116]⟩, .string ⟨#[115, 116, 121, 108, 101]⟩, .string ⟨#[116, 101, 109, 112, 108, 97, 116, 101]⟩, .string ⟨#[115, 118, 103]⟩, .string ⟨#[109, 97, 116, 104]⟩, .string ⟨#[105, 102, 114, 97, 109, 101]⟩, .string ⟨#[116, 105, 116, 108, 101]⟩, .string ⟨#[116, 101, 120, 116, 97, 114, 101, 97]⟩, .string ⟨#[110, 111, 115, 99, 114, 105, 112, 116]⟩]
/-- The variable 'hidingNames' of sanitize holds what its initialiser lays. -/
def Hn (w : World) : Prop := ∃ t fr, w.heap[6]? = some (.cells hncells t fr)
theorem Hn.pos {w : World} (h : Hn w) : 6 < w.heap.size := by
  obtain ⟨t, fr, hg⟩ := h
  exact (Array.getElem?_eq_some_iff.1 hg).1
theorem Hn.below {w w' : World} {b : Nat} (h : Hn w) (hb : Below b w w') (h6 : 6 < b) : Hn w' := by
  obtain ⟨t, fr, hg⟩ := h
  exact ⟨t, fr, (hb.block 6 h6).trans hg⟩
theorem hidx0 (w : World) : (Instr.index 143 (.agg hncells) (.int .i64 0)).run Tryz.prog w = .ok (.string ⟨#[115, 99, 114, 105, 112, 116]⟩) w := by kernel_rfl
theorem hidx1 (w : World) : (Instr.index 143 (.agg hncells) (.int .i64 1)).run Tryz.prog w = .ok (.string ⟨#[115, 116, 121, 108, 101]⟩) w := by kernel_rfl
theorem hidx2 (w : World) : (Instr.index 143 (.agg hncells) (.int .i64 2)).run Tryz.prog w = .ok (.string ⟨#[116, 101, 109, 112, 108, 97, 116, 101]⟩) w := by kernel_rfl
theorem hidx3 (w : World) : (Instr.index 143 (.agg hncells) (.int .i64 3)).run Tryz.prog w = .ok (.string ⟨#[115, 118, 103]⟩) w := by kernel_rfl
theorem hidx4 (w : World) : (Instr.index 143 (.agg hncells) (.int .i64 4)).run Tryz.prog w = .ok (.string ⟨#[109, 97, 116, 104]⟩) w := by kernel_rfl
theorem hidx5 (w : World) : (Instr.index 143 (.agg hncells) (.int .i64 5)).run Tryz.prog w = .ok (.string ⟨#[105, 102, 114, 97, 109, 101]⟩) w := by kernel_rfl
theorem hidx6 (w : World) : (Instr.index 143 (.agg hncells) (.int .i64 6)).run Tryz.prog w = .ok (.string ⟨#[116, 105, 116, 108, 101]⟩) w := by kernel_rfl
theorem hidx7 (w : World) : (Instr.index 143 (.agg hncells) (.int .i64 7)).run Tryz.prog w = .ok (.string ⟨#[116, 101, 120, 116, 97, 114, 101, 97]⟩) w := by kernel_rfl
theorem hidx8 (w : World) : (Instr.index 143 (.agg hncells) (.int .i64 8)).run Tryz.prog w = .ok (.string ⟨#[110, 111, 115, 99, 114, 105, 112, 116]⟩) w := by kernel_rfl
theorem szHn : (Tryz.prog.info? 143).map (·.size) = some hncells.size := by kernel_rfl
theorem zbelow1 {w : World} (o1 : Obj) : Below w.heap.size w (w.alloc o1) := (Below.refl w.heap.size w).alloc (Nat.le_refl _) o1
theorem zbelow2 {w : World} (o1 o2 : Obj) : Below w.heap.size w ((w.alloc o1).alloc o2) := (zbelow1 o1).alloc (zbelow1 o1).size o2
theorem zbelow3 {w : World} (o1 o2 o3 : Obj) : Below w.heap.size w (((w.alloc o1).alloc o2).alloc o3) := (zbelow2 o1 o2).alloc (zbelow2 o1 o2).size o3
theorem zbelow4 {w : World} (o1 o2 o3 o4 : Obj) : Below w.heap.size w ((((w.alloc o1).alloc o2).alloc o3).alloc o4) := (zbelow3 o1 o2 o3).alloc (zbelow3 o1 o2 o3).size o4
theorem zbelow5 {w : World} (o1 o2 o3 o4 o5 : Obj) : Below w.heap.size w (((((w.alloc o1).alloc o2).alloc o3).alloc o4).alloc o5) := (zbelow4 o1 o2 o3 o4).alloc (zbelow4 o1 o2 o3 o4).size o5

set_option maxRecDepth 100000 in
set_option maxHeartbeats 1600000 in
theorem kind_0 (b : ByteArray) (w : World) (hB : Bn w) (q0 : ([112] == b.toList) = true) : Calls Tryz.prog 91 #[.string b] w fun e w' => e = .returned (.tuple #[.int .i64 0, .bool true]) ∧ Below w.heap.size w w' := by
  obtain ⟨t, fr, hg⟩ := hB
  have Hg : Hid (w.heap[5]? = some (.cells bncells t fr)) := hg
  clear hg
  have i0 := bidx0
  go_enter Tryz.func91, Tryz.ntmps91
  go_wp2_with (refine wpList_load_row rfl 142 _ rfl 5 rfl t _ fr _ Hg.out Tryz.underlying142 rfl szBn ?_)
  refine wp_loop_rounds 7 ?_
  rw [rounds_succ]
  go_wp2
  go_ret2
  exact ⟨rfl, zbelow1 _⟩
set_option maxRecDepth 100000 in
set_option maxHeartbeats 1600000 in
theorem kind_1 (b : ByteArray) (w : World) (hB : Bn w) (q0 : ([112] == b.toList) = false) (q1 : ([100, 105, 118] == b.toList) = true) : Calls Tryz.prog 91 #[.string b] w fun e w' => e = .returned (.tuple #[.int .i64 0, .bool true]) ∧ Below w.heap.size w w' := by
  obtain ⟨t, fr, hg⟩ := hB
  have Hg : Hid (w.heap[5]? = some (.cells bncells t fr)) := hg
  clear hg
  have i0 := bidx0
  have i1 := bidx1
  go_enter Tryz.func91, Tryz.ntmps91
  go_wp2_with (refine wpList_load_row rfl 142 _ rfl 5 rfl t _ fr _ Hg.out Tryz.underlying142 rfl szBn ?_)
  refine wp_loop_rounds 7 ?_
  rw [rounds_succ]
  go_wp2
  rw [rounds_succ]
  go_wp2
  go_ret2
  exact ⟨rfl, zbelow2 _ _⟩
set_option maxRecDepth 100000 in
set_option maxHeartbeats 1600000 in
theorem kind_2 (b : ByteArray) (w : World) (hB : Bn w) (q0 : ([112] == b.toList) = false) (q1 : ([100, 105, 118] == b.toList) = false) (q2 : ([104, 49] == b.toList) = true) : Calls Tryz.prog 91 #[.string b] w fun e w' => e = .returned (.tuple #[.int .i64 1, .bool true]) ∧ Below w.heap.size w w' := by
  obtain ⟨t, fr, hg⟩ := hB
  have Hg : Hid (w.heap[5]? = some (.cells bncells t fr)) := hg
  clear hg
  have i0 := bidx0
  have i1 := bidx1
  have i2 := bidx2
  go_enter Tryz.func91, Tryz.ntmps91
  go_wp2_with (refine wpList_load_row rfl 142 _ rfl 5 rfl t _ fr _ Hg.out Tryz.underlying142 rfl szBn ?_)
  refine wp_loop_rounds 7 ?_
  rw [rounds_succ]
  go_wp2
  rw [rounds_succ]
  go_wp2
  rw [rounds_succ]
  go_wp2
  go_ret2
  exact ⟨rfl, zbelow3 _ _ _⟩
set_option maxRecDepth 100000 in
set_option maxHeartbeats 1600000 in
theorem kind_3 (b : ByteArray) (w : World) (hB : Bn w) (q0 : ([112] == b.toList) = false) (q1 : ([100, 105, 118] == b.toList) = false) (q2 : ([104, 49] == b.toList) = false) (q3 : ([108, 105] == b.toList) = true) : Calls Tryz.prog 91 #[.string b] w fun e w' => e = .returned (.tuple #[.int .i64 2, .bool true]) ∧ Below w.heap.size w w' := by
  obtain ⟨t, fr, hg⟩ := hB
  have Hg : Hid (w.heap[5]? = some (.cells bncells t fr)) := hg
  clear hg
  have i0 := bidx0
  have i1 := bidx1
  have i2 := bidx2
  have i3 := bidx3
  go_enter Tryz.func91, Tryz.ntmps91
  go_wp2_with (refine wpList_load_row rfl 142 _ rfl 5 rfl t _ fr _ Hg.out Tryz.underlying142 rfl szBn ?_)
  refine wp_loop_rounds 7 ?_
  rw [rounds_succ]
  go_wp2
  rw [rounds_succ]
  go_wp2
  rw [rounds_succ]
  go_wp2
  rw [rounds_succ]
  go_wp2
  go_ret2
  exact ⟨rfl, zbelow4 _ _ _ _⟩
set_option maxRecDepth 100000 in
set_option maxHeartbeats 1600000 in
theorem kind_4 (b : ByteArray) (w : World) (hB : Bn w) (q0 : ([112] == b.toList) = false) (q1 : ([100, 105, 118] == b.toList) = false) (q2 : ([104, 49] == b.toList) = false) (q3 : ([108, 105] == b.toList) = false) (q4 : ([104, 50] == b.toList) = true) : Calls Tryz.prog 91 #[.string b] w fun e w' => e = .returned (.tuple #[.int .i64 3, .bool true]) ∧ Below w.heap.size w w' := by
  obtain ⟨t, fr, hg⟩ := hB
  have Hg : Hid (w.heap[5]? = some (.cells bncells t fr)) := hg
  clear hg
  have i0 := bidx0
  have i1 := bidx1
  have i2 := bidx2
  have i3 := bidx3
  have i4 := bidx4
  go_enter Tryz.func91, Tryz.ntmps91
  go_wp2_with (refine wpList_load_row rfl 142 _ rfl 5 rfl t _ fr _ Hg.out Tryz.underlying142 rfl szBn ?_)
  refine wp_loop_rounds 7 ?_
  rw [rounds_succ]
  go_wp2
  rw [rounds_succ]
  go_wp2
  rw [rounds_succ]
  go_wp2
  rw [rounds_succ]
  go_wp2
  rw [rounds_succ]
  go_wp2
  go_ret2
  exact ⟨rfl, zbelow5 _ _ _ _ _⟩
set_option maxRecDepth 100000 in
set_option maxHeartbeats 1600000 in
theorem kind_5 (b : ByteArray) (w : World) (hB : Bn w) (q0 : ([112] == b.toList) = false) (q1 : ([100, 105, 118] == b.toList) = false) (q2 : ([104, 49] == b.toList) = false) (q3 : ([108, 105] == b.toList) = false) (q4 : ([104, 50] == b.toList) = false) : Calls Tryz.prog 91 #[.string b] w fun e w' => e = .returned (.tuple #[.int .i64 0, .bool false]) ∧ Below w.heap.size w w' := by
  obtain ⟨t, fr, hg⟩ := hB
  have Hg : Hid (w.heap[5]? = some (.cells bncells t fr)) := hg
  clear hg
  have i0 := bidx0
  have i1 := bidx1
  have i2 := bidx2
  have i3 := bidx3
  have i4 := bidx4
  go_enter Tryz.func91, Tryz.ntmps91
  go_wp2_with (refine wpList_load_row rfl 142 _ rfl 5 rfl t _ fr _ Hg.out Tryz.underlying142 rfl szBn ?_)
  refine wp_loop_rounds 7 ?_
  rw [rounds_succ]
  go_wp2
  rw [rounds_succ]
  go_wp2
  rw [rounds_succ]
  go_wp2
  rw [rounds_succ]
  go_wp2
  rw [rounds_succ]
  go_wp2
  rw [rounds_succ]
  go_wp2
  go_ret2
  exact ⟨rfl, zbelow5 _ _ _ _ _⟩

theorem kindOf_any (x : List UInt8) (w : World) (hB : Bn w) : Calls Tryz.prog 91 #[.string (B x)] w fun e w' => e = .returned (.tuple #[.int .i64 ((Sn.blockOf x).getD 0), .bool (Sn.blockOf x).isSome]) ∧ Below w.heap.size w w' := by
  have q0 := eqB [112] x
  by_cases h0 : [112] = x
  · rw [decide_eq_true h0] at q0
    have hl : Sn.blockOf x = some 0 := by subst h0; rfl
    rw [hl]
    exact kind_0 (B x) w hB q0
  rw [decide_eq_false h0] at q0
  have q1 := eqB [100, 105, 118] x
  by_cases h1 : [100, 105, 118] = x
  · rw [decide_eq_true h1] at q1
    have hl : Sn.blockOf x = some 0 := by subst h1; rfl
    rw [hl]
    exact kind_1 (B x) w hB q0 q1
  rw [decide_eq_false h1] at q1
  have q2 := eqB [104, 49] x
  by_cases h2 : [104, 49] = x
  · rw [decide_eq_true h2] at q2
    have hl : Sn.blockOf x = some 1 := by subst h2; rfl
    rw [hl]
    exact kind_2 (B x) w hB q0 q1 q2
  rw [decide_eq_false h2] at q2
  have q3 := eqB [108, 105] x
  by_cases h3 : [108, 105] = x
  · rw [decide_eq_true h3] at q3
    have hl : Sn.blockOf x = some 2 := by subst h3; rfl
    rw [hl]
    exact kind_3 (B x) w hB q0 q1 q2 q3
  rw [decide_eq_false h3] at q3
  have q4 := eqB [104, 50] x
  by_cases h4 : [104, 50] = x
  · rw [decide_eq_true h4] at q4
    have hl : Sn.blockOf x = some 3 := by subst h4; rfl
    rw [hl]
    exact kind_4 (B x) w hB q0 q1 q2 q3 q4
  rw [decide_eq_false h4] at q4
  have hl : Sn.blockOf x = none := by
    unfold Sn.blockOf
    simp [Ne.symm h0, Ne.symm h1, Ne.symm h2, Ne.symm h3, Ne.symm h4]
  rw [hl]
  exact kind_5 (B x) w hB q0 q1 q2 q3 q4

set_option maxRecDepth 100000 in
set_option maxHeartbeats 1600000 in
theorem hide_0 (b : ByteArray) (w : World) (hB : Hn w) (q0 : ([115, 99, 114, 105, 112, 116] == b.toList) = true) : Calls Tryz.prog 95 #[.string b] w fun e w' => e = .returned (.bool true) ∧ w' = w := by
  obtain ⟨t, fr, hg⟩ := hB
  have Hg : Hid (w.heap[6]? = some (.cells hncells t fr)) := hg
  clear hg
  have i0 := hidx0
  go_enter Tryz.func95, Tryz.ntmps95
  go_wp2_with (refine wpList_load_row rfl 143 _ rfl 6 rfl t _ fr _ Hg.out Tryz.underlying143 rfl szHn ?_)
  refine wp_loop_rounds 11 ?_
  rw [rounds_succ]
  go_wp2
  go_ret
  exact ⟨rfl, rfl⟩
set_option maxRecDepth 100000 in
set_option maxHeartbeats 1600000 in
theorem hide_1 (b : ByteArray) (w : World) (hB : Hn w) (q0 : ([115, 99, 114, 105, 112, 116] == b.toList) = false) (q1 : ([115, 116, 121, 108, 101] == b.toList) = true) : Calls Tryz.prog 95 #[.string b] w fun e w' => e = .returned (.bool true) ∧ w' = w := by
  obtain ⟨t, fr, hg⟩ := hB
  have Hg : Hid (w.heap[6]? = some (.cells hncells t fr)) := hg
  clear hg
  have i0 := hidx0
  have i1 := hidx1
  go_enter Tryz.func95, Tryz.ntmps95
  go_wp2_with (refine wpList_load_row rfl 143 _ rfl 6 rfl t _ fr _ Hg.out Tryz.underlying143 rfl szHn ?_)
  refine wp_loop_rounds 11 ?_
  rw [rounds_succ]
  go_wp2
  rw [rounds_succ]
  go_wp2
  go_ret
  exact ⟨rfl, rfl⟩
set_option maxRecDepth 100000 in
set_option maxHeartbeats 1600000 in
theorem hide_2 (b : ByteArray) (w : World) (hB : Hn w) (q0 : ([115, 99, 114, 105, 112, 116] == b.toList) = false) (q1 : ([115, 116, 121, 108, 101] == b.toList) = false) (q2 : ([116, 101, 109, 112, 108, 97, 116, 101] == b.toList) = true) : Calls Tryz.prog 95 #[.string b] w fun e w' => e = .returned (.bool true) ∧ w' = w := by
  obtain ⟨t, fr, hg⟩ := hB
  have Hg : Hid (w.heap[6]? = some (.cells hncells t fr)) := hg
  clear hg
  have i0 := hidx0
  have i1 := hidx1
  have i2 := hidx2
  go_enter Tryz.func95, Tryz.ntmps95
  go_wp2_with (refine wpList_load_row rfl 143 _ rfl 6 rfl t _ fr _ Hg.out Tryz.underlying143 rfl szHn ?_)
  refine wp_loop_rounds 11 ?_
  rw [rounds_succ]
  go_wp2
  rw [rounds_succ]
  go_wp2
  rw [rounds_succ]
  go_wp2
  go_ret
  exact ⟨rfl, rfl⟩
set_option maxRecDepth 100000 in
set_option maxHeartbeats 1600000 in
theorem hide_3 (b : ByteArray) (w : World) (hB : Hn w) (q0 : ([115, 99, 114, 105, 112, 116] == b.toList) = false) (q1 : ([115, 116, 121, 108, 101] == b.toList) = false) (q2 : ([116, 101, 109, 112, 108, 97, 116, 101] == b.toList) = false) (q3 : ([115, 118, 103] == b.toList) = true) : Calls Tryz.prog 95 #[.string b] w fun e w' => e = .returned (.bool true) ∧ w' = w := by
  obtain ⟨t, fr, hg⟩ := hB
  have Hg : Hid (w.heap[6]? = some (.cells hncells t fr)) := hg
  clear hg
  have i0 := hidx0
  have i1 := hidx1
  have i2 := hidx2
  have i3 := hidx3
  go_enter Tryz.func95, Tryz.ntmps95
  go_wp2_with (refine wpList_load_row rfl 143 _ rfl 6 rfl t _ fr _ Hg.out Tryz.underlying143 rfl szHn ?_)
  refine wp_loop_rounds 11 ?_
  rw [rounds_succ]
  go_wp2
  rw [rounds_succ]
  go_wp2
  rw [rounds_succ]
  go_wp2
  rw [rounds_succ]
  go_wp2
  go_ret
  exact ⟨rfl, rfl⟩
set_option maxRecDepth 100000 in
set_option maxHeartbeats 1600000 in
theorem hide_4 (b : ByteArray) (w : World) (hB : Hn w) (q0 : ([115, 99, 114, 105, 112, 116] == b.toList) = false) (q1 : ([115, 116, 121, 108, 101] == b.toList) = false) (q2 : ([116, 101, 109, 112, 108, 97, 116, 101] == b.toList) = false) (q3 : ([115, 118, 103] == b.toList) = false) (q4 : ([109, 97, 116, 104] == b.toList) = true) : Calls Tryz.prog 95 #[.string b] w fun e w' => e = .returned (.bool true) ∧ w' = w := by
  obtain ⟨t, fr, hg⟩ := hB
  have Hg : Hid (w.heap[6]? = some (.cells hncells t fr)) := hg
  clear hg
  have i0 := hidx0
  have i1 := hidx1
  have i2 := hidx2
  have i3 := hidx3
  have i4 := hidx4
  go_enter Tryz.func95, Tryz.ntmps95
  go_wp2_with (refine wpList_load_row rfl 143 _ rfl 6 rfl t _ fr _ Hg.out Tryz.underlying143 rfl szHn ?_)
  refine wp_loop_rounds 11 ?_
  rw [rounds_succ]
  go_wp2
  rw [rounds_succ]
  go_wp2
  rw [rounds_succ]
  go_wp2
  rw [rounds_succ]
  go_wp2
  rw [rounds_succ]
  go_wp2
  go_ret
  exact ⟨rfl, rfl⟩
set_option maxRecDepth 100000 in
set_option maxHeartbeats 1600000 in
theorem hide_5 (b : ByteArray) (w : World) (hB : Hn w) (q0 : ([115, 99, 114, 105, 112, 116] == b.toList) = false) (q1 : ([115, 116, 121, 108, 101] == b.toList) = false) (q2 : ([116, 101, 109, 112, 108, 97, 116, 101] == b.toList) = false) (q3 : ([115, 118, 103] == b.toList) = false) (q4 : ([109, 97, 116, 104] == b.toList) = false) (q5 : ([105, 102, 114, 97, 109, 101] == b.toList) = true) : Calls Tryz.prog 95 #[.string b] w fun e w' => e = .returned (.bool true) ∧ w' = w := by
  obtain ⟨t, fr, hg⟩ := hB
  have Hg : Hid (w.heap[6]? = some (.cells hncells t fr)) := hg
  clear hg
  have i0 := hidx0
  have i1 := hidx1
  have i2 := hidx2
  have i3 := hidx3
  have i4 := hidx4
  have i5 := hidx5
  go_enter Tryz.func95, Tryz.ntmps95
  go_wp2_with (refine wpList_load_row rfl 143 _ rfl 6 rfl t _ fr _ Hg.out Tryz.underlying143 rfl szHn ?_)
  refine wp_loop_rounds 11 ?_
  rw [rounds_succ]
  go_wp2
  rw [rounds_succ]
  go_wp2
  rw [rounds_succ]
  go_wp2
  rw [rounds_succ]
  go_wp2
  rw [rounds_succ]
  go_wp2
  rw [rounds_succ]
  go_wp2
  go_ret
  exact ⟨rfl, rfl⟩
set_option maxRecDepth 100000 in
set_option maxHeartbeats 1600000 in
theorem hide_6 (b : ByteArray) (w : World) (hB : Hn w) (q0 : ([115, 99, 114, 105, 112, 116] == b.toList) = false) (q1 : ([115, 116, 121, 108, 101] == b.toList) = false) (q2 : ([116, 101, 109, 112, 108, 97, 116, 101] == b.toList) = false) (q3 : ([115, 118, 103] == b.toList) = false) (q4 : ([109, 97, 116, 104] == b.toList) = false) (q5 : ([105, 102, 114, 97, 109, 101] == b.toList) = false) (q6 : ([116, 105, 116, 108, 101] == b.toList) = true) : Calls Tryz.prog 95 #[.string b] w fun e w' => e = .returned (.bool true) ∧ w' = w := by
  obtain ⟨t, fr, hg⟩ := hB
  have Hg : Hid (w.heap[6]? = some (.cells hncells t fr)) := hg
  clear hg
  have i0 := hidx0
  have i1 := hidx1
  have i2 := hidx2
  have i3 := hidx3
  have i4 := hidx4
  have i5 := hidx5
  have i6 := hidx6
  go_enter Tryz.func95, Tryz.ntmps95
  go_wp2_with (refine wpList_load_row rfl 143 _ rfl 6 rfl t _ fr _ Hg.out Tryz.underlying143 rfl szHn ?_)
  refine wp_loop_rounds 11 ?_
  rw [rounds_succ]
  go_wp2
  rw [rounds_succ]
  go_wp2
  rw [rounds_succ]
  go_wp2
  rw [rounds_succ]
  go_wp2
  rw [rounds_succ]
  go_wp2
  rw [rounds_succ]
  go_wp2
  rw [rounds_succ]
  go_wp2
  go_ret
  exact ⟨rfl, rfl⟩
set_option maxRecDepth 100000 in
set_option maxHeartbeats 1600000 in
theorem hide_7 (b : ByteArray) (w : World) (hB : Hn w) (q0 : ([115, 99, 114, 105, 112, 116] == b.toList) = false) (q1 : ([115, 116, 121, 108, 101] == b.toList) = false) (q2 : ([116, 101, 109, 112, 108, 97, 116, 101] == b.toList) = false) (q3 : ([115, 118, 103] == b.toList) = false) (q4 : ([109, 97, 116, 104] == b.toList) = false) (q5 : ([105, 102, 114, 97, 109, 101] == b.toList) = false) (q6 : ([116, 105, 116, 108, 101] == b.toList) = false) (q7 : ([116, 101, 120, 116, 97, 114, 101, 97] == b.toList) = true) : Calls Tryz.prog 95 #[.string b] w fun e w' => e = .returned (.bool true) ∧ w' = w := by
  obtain ⟨t, fr, hg⟩ := hB
  have Hg : Hid (w.heap[6]? = some (.cells hncells t fr)) := hg
  clear hg
  have i0 := hidx0
  have i1 := hidx1
  have i2 := hidx2
  have i3 := hidx3
  have i4 := hidx4
  have i5 := hidx5
  have i6 := hidx6
  have i7 := hidx7
  go_enter Tryz.func95, Tryz.ntmps95
  go_wp2_with (refine wpList_load_row rfl 143 _ rfl 6 rfl t _ fr _ Hg.out Tryz.underlying143 rfl szHn ?_)
  refine wp_loop_rounds 11 ?_
  rw [rounds_succ]
  go_wp2
  rw [rounds_succ]
  go_wp2
  rw [rounds_succ]
  go_wp2
  rw [rounds_succ]
  go_wp2
  rw [rounds_succ]
  go_wp2
  rw [rounds_succ]
  go_wp2
  rw [rounds_succ]
  go_wp2
  rw [rounds_succ]
  go_wp2
  go_ret
  exact ⟨rfl, rfl⟩
set_option maxRecDepth 100000 in
set_option maxHeartbeats 1600000 in
theorem hide_8 (b : ByteArray) (w : World) (hB : Hn w) (q0 : ([115, 99, 114, 105, 112, 116] == b.toList) = false) (q1 : ([115, 116, 121, 108, 101] == b.toList) = false) (q2 : ([116, 101, 109, 112, 108, 97, 116, 101] == b.toList) = false) (q3 : ([115, 118, 103] == b.toList) = false) (q4 : ([109, 97, 116, 104] == b.toList) = false) (q5 : ([105, 102, 114, 97, 109, 101] == b.toList) = false) (q6 : ([116, 105, 116, 108, 101] == b.toList) = false) (q7 : ([116, 101, 120, 116, 97, 114, 101, 97] == b.toList) = false) (q8 : ([110, 111, 115, 99, 114, 105, 112, 116] == b.toList) = true) : Calls Tryz.prog 95 #[.string b] w fun e w' => e = .returned (.bool true) ∧ w' = w := by
  obtain ⟨t, fr, hg⟩ := hB
  have Hg : Hid (w.heap[6]? = some (.cells hncells t fr)) := hg
  clear hg
  have i0 := hidx0
  have i1 := hidx1
  have i2 := hidx2
  have i3 := hidx3
  have i4 := hidx4
  have i5 := hidx5
  have i6 := hidx6
  have i7 := hidx7
  have i8 := hidx8
  go_enter Tryz.func95, Tryz.ntmps95
  go_wp2_with (refine wpList_load_row rfl 143 _ rfl 6 rfl t _ fr _ Hg.out Tryz.underlying143 rfl szHn ?_)
  refine wp_loop_rounds 11 ?_
  rw [rounds_succ]
  go_wp2
  rw [rounds_succ]
  go_wp2
  rw [rounds_succ]
  go_wp2
  rw [rounds_succ]
  go_wp2
  rw [rounds_succ]
  go_wp2
  rw [rounds_succ]
  go_wp2
  rw [rounds_succ]
  go_wp2
  rw [rounds_succ]
  go_wp2
  rw [rounds_succ]
  go_wp2
  go_ret
  exact ⟨rfl, rfl⟩
set_option maxRecDepth 100000 in
set_option maxHeartbeats 1600000 in
theorem hide_9 (b : ByteArray) (w : World) (hB : Hn w) (q0 : ([115, 99, 114, 105, 112, 116] == b.toList) = false) (q1 : ([115, 116, 121, 108, 101] == b.toList) = false) (q2 : ([116, 101, 109, 112, 108, 97, 116, 101] == b.toList) = false) (q3 : ([115, 118, 103] == b.toList) = false) (q4 : ([109, 97, 116, 104] == b.toList) = false) (q5 : ([105, 102, 114, 97, 109, 101] == b.toList) = false) (q6 : ([116, 105, 116, 108, 101] == b.toList) = false) (q7 : ([116, 101, 120, 116, 97, 114, 101, 97] == b.toList) = false) (q8 : ([110, 111, 115, 99, 114, 105, 112, 116] == b.toList) = false) : Calls Tryz.prog 95 #[.string b] w fun e w' => e = .returned (.bool false) ∧ w' = w := by
  obtain ⟨t, fr, hg⟩ := hB
  have Hg : Hid (w.heap[6]? = some (.cells hncells t fr)) := hg
  clear hg
  have i0 := hidx0
  have i1 := hidx1
  have i2 := hidx2
  have i3 := hidx3
  have i4 := hidx4
  have i5 := hidx5
  have i6 := hidx6
  have i7 := hidx7
  have i8 := hidx8
  go_enter Tryz.func95, Tryz.ntmps95
  go_wp2_with (refine wpList_load_row rfl 143 _ rfl 6 rfl t _ fr _ Hg.out Tryz.underlying143 rfl szHn ?_)
  refine wp_loop_rounds 11 ?_
  rw [rounds_succ]
  go_wp2
  rw [rounds_succ]
  go_wp2
  rw [rounds_succ]
  go_wp2
  rw [rounds_succ]
  go_wp2
  rw [rounds_succ]
  go_wp2
  rw [rounds_succ]
  go_wp2
  rw [rounds_succ]
  go_wp2
  rw [rounds_succ]
  go_wp2
  rw [rounds_succ]
  go_wp2
  rw [rounds_succ]
  go_wp2
  go_ret
  exact ⟨rfl, rfl⟩

theorem hides_any (x : List UInt8) (w : World) (hB : Hn w) : Calls Tryz.prog 95 #[.string (B x)] w fun e w' => e = .returned (.bool (Sn.hiddenL.contains x)) ∧ w' = w := by
  have q0 := eqB [115, 99, 114, 105, 112, 116] x
  by_cases h0 : [115, 99, 114, 105, 112, 116] = x
  · rw [decide_eq_true h0] at q0
    have hl : Sn.hiddenL.contains x = true := by subst h0; rfl
    rw [hl]
    exact hide_0 (B x) w hB q0
  rw [decide_eq_false h0] at q0
  have q1 := eqB [115, 116, 121, 108, 101] x
  by_cases h1 : [115, 116, 121, 108, 101] = x
  · rw [decide_eq_true h1] at q1
    have hl : Sn.hiddenL.contains x = true := by subst h1; rfl
    rw [hl]
    exact hide_1 (B x) w hB q0 q1
  rw [decide_eq_false h1] at q1
  have q2 := eqB [116, 101, 109, 112, 108, 97, 116, 101] x
  by_cases h2 : [116, 101, 109, 112, 108, 97, 116, 101] = x
  · rw [decide_eq_true h2] at q2
    have hl : Sn.hiddenL.contains x = true := by subst h2; rfl
    rw [hl]
    exact hide_2 (B x) w hB q0 q1 q2
  rw [decide_eq_false h2] at q2
  have q3 := eqB [115, 118, 103] x
  by_cases h3 : [115, 118, 103] = x
  · rw [decide_eq_true h3] at q3
    have hl : Sn.hiddenL.contains x = true := by subst h3; rfl
    rw [hl]
    exact hide_3 (B x) w hB q0 q1 q2 q3
  rw [decide_eq_false h3] at q3
  have q4 := eqB [109, 97, 116, 104] x
  by_cases h4 : [109, 97, 116, 104] = x
  · rw [decide_eq_true h4] at q4
    have hl : Sn.hiddenL.contains x = true := by subst h4; rfl
    rw [hl]
    exact hide_4 (B x) w hB q0 q1 q2 q3 q4
  rw [decide_eq_false h4] at q4
  have q5 := eqB [105, 102, 114, 97, 109, 101] x
  by_cases h5 : [105, 102, 114, 97, 109, 101] = x
  · rw [decide_eq_true h5] at q5
    have hl : Sn.hiddenL.contains x = true := by subst h5; rfl
    rw [hl]
    exact hide_5 (B x) w hB q0 q1 q2 q3 q4 q5
  rw [decide_eq_false h5] at q5
  have q6 := eqB [116, 105, 116, 108, 101] x
  by_cases h6 : [116, 105, 116, 108, 101] = x
  · rw [decide_eq_true h6] at q6
    have hl : Sn.hiddenL.contains x = true := by subst h6; rfl
    rw [hl]
    exact hide_6 (B x) w hB q0 q1 q2 q3 q4 q5 q6
  rw [decide_eq_false h6] at q6
  have q7 := eqB [116, 101, 120, 116, 97, 114, 101, 97] x
  by_cases h7 : [116, 101, 120, 116, 97, 114, 101, 97] = x
  · rw [decide_eq_true h7] at q7
    have hl : Sn.hiddenL.contains x = true := by subst h7; rfl
    rw [hl]
    exact hide_7 (B x) w hB q0 q1 q2 q3 q4 q5 q6 q7
  rw [decide_eq_false h7] at q7
  have q8 := eqB [110, 111, 115, 99, 114, 105, 112, 116] x
  by_cases h8 : [110, 111, 115, 99, 114, 105, 112, 116] = x
  · rw [decide_eq_true h8] at q8
    have hl : Sn.hiddenL.contains x = true := by subst h8; rfl
    rw [hl]
    exact hide_8 (B x) w hB q0 q1 q2 q3 q4 q5 q6 q7 q8
  rw [decide_eq_false h8] at q8
  have hl : Sn.hiddenL.contains x = false := by
    unfold Sn.hiddenL
    simp [Ne.symm h0, Ne.symm h1, Ne.symm h2, Ne.symm h3, Ne.symm h4, Ne.symm h5, Ne.symm h6, Ne.symm h7, Ne.symm h8]
  rw [hl]
  exact hide_9 (B x) w hB q0 q1 q2 q3 q4 q5 q6 q7 q8

theorem chr_blank {c : UInt8} (h : c = 9 ∨ c = 10 ∨ c = 13 ∨ c = 12) : Sn.chr c = 32 := by
  rcases h with rfl | rfl | rfl | rfl <;> rfl
theorem chr_rest {c : UInt8} (h9 : c ≠ 9) (h10 : c ≠ 10) (h13 : c ≠ 13) (h12 : c ≠ 12) : Sn.chr c = if c < 32 || 126 < c then 63 else c := by
  unfold Sn.chr
  have : (c == 9 || c == 10 || c == 13 || c == 12) = false := by simp [h9, h10, h13, h12]
  rw [this, if_neg Bool.false_ne_true]
theorem eq_byte (c : UInt8) (k : Nat) (hk : k < 256) : ((c.toNat : Int) == (k : Int)) = decide (c = UInt8.ofNat k) := by
  by_cases h : c = UInt8.ofNat k
  · rw [decide_eq_true h, h, beq_iff_eq, UInt8.toNat_ofNat', Nat.mod_eq_of_lt hk]
  · rw [decide_eq_false h, beq_eq_false_iff_ne]
    intro e
    exact h (UInt8.toNat_inj.1 (by rw [UInt8.toNat_ofNat', Nat.mod_eq_of_lt hk]; omega))

set_option maxHeartbeats 1600000 in
theorem character_any (c : UInt8) (w : World) : Calls Tryz.prog 89 #[.int .u8 c.toNat] w fun e w' => e = .returned (.int .u8 (Sn.chr c).toNat) ∧ w' = w := by
  have e9 : ((c.toNat : Int) == 9) = decide (c = 9) := eq_byte c 9 (by decide)
  by_cases h9 : c = 9
  · rw [decide_eq_true h9] at e9
    rw [chr_blank (by simp [h9])]
    clear h9
    show Calls Tryz.prog 89 #[.int .u8 c.toNat] w fun e w' => e = .returned (.int .u8 32) ∧ w' = w
    go_enter Tryz.func89, Tryz.ntmps89
    go_wp2
    go_ret
    exact ⟨rfl, rfl⟩
  rw [decide_eq_false h9] at e9
  have e10 : ((c.toNat : Int) == 10) = decide (c = 10) := eq_byte c 10 (by decide)
  by_cases h10 : c = 10
  · rw [decide_eq_true h10] at e10
    rw [chr_blank (by simp [h10])]
    clear h9 h10
    show Calls Tryz.prog 89 #[.int .u8 c.toNat] w fun e w' => e = .returned (.int .u8 32) ∧ w' = w
    go_enter Tryz.func89, Tryz.ntmps89
    go_wp2
    go_ret
    exact ⟨rfl, rfl⟩
  rw [decide_eq_false h10] at e10
  have e13 : ((c.toNat : Int) == 13) = decide (c = 13) := eq_byte c 13 (by decide)
  by_cases h13 : c = 13
  · rw [decide_eq_true h13] at e13
    rw [chr_blank (by simp [h13])]
    clear h9 h10 h13
    show Calls Tryz.prog 89 #[.int .u8 c.toNat] w fun e w' => e = .returned (.int .u8 32) ∧ w' = w
    go_enter Tryz.func89, Tryz.ntmps89
    go_wp2
    go_ret
    exact ⟨rfl, rfl⟩
  rw [decide_eq_false h13] at e13
  have e12 : ((c.toNat : Int) == 12) = decide (c = 12) := eq_byte c 12 (by decide)
  by_cases h12 : c = 12
  · rw [decide_eq_true h12] at e12
    rw [chr_blank (by simp [h12])]
    clear h9 h10 h13 h12
    show Calls Tryz.prog 89 #[.int .u8 c.toNat] w fun e w' => e = .returned (.int .u8 32) ∧ w' = w
    go_enter Tryz.func89, Tryz.ntmps89
    go_wp2
    go_ret
    exact ⟨rfl, rfl⟩
  rw [decide_eq_false h12] at e12
  rw [chr_rest h9 h10 h13 h12]
  clear h9 h10 h13 h12
  by_cases h1 : c.toNat < 32
  · have hc : c < 32 := by rw [UInt8.lt_iff_toNat_lt]; exact h1
    rw [if_pos (by simp [hc])]
    clear hc
    show Calls Tryz.prog 89 #[.int .u8 c.toNat] w fun e w' => e = .returned (.int .u8 63) ∧ w' = w
    go_enter Tryz.func89, Tryz.ntmps89
    go_wp2
    go_ret
    exact ⟨rfl, rfl⟩
  have hc : ¬ c < 32 := by rw [UInt8.lt_iff_toNat_lt]; exact h1
  by_cases h2 : 126 < c.toNat
  · have hd : 126 < c := by rw [UInt8.lt_iff_toNat_lt]; exact h2
    rw [if_pos (by simp [hd])]
    clear hc hd
    show Calls Tryz.prog 89 #[.int .u8 c.toNat] w fun e w' => e = .returned (.int .u8 63) ∧ w' = w
    go_enter Tryz.func89, Tryz.ntmps89
    go_wp2
    go_ret
    exact ⟨rfl, rfl⟩
  have hd : ¬ 126 < c := by rw [UInt8.lt_iff_toNat_lt]; exact h2
  rw [if_neg (by simp [hc, hd])]
  clear hc hd
  go_enter Tryz.func89, Tryz.ntmps89
  go_wp2
  go_ret
  exact ⟨rfl, rfl⟩

/-- Where it is kept how deep what a name stands for is opened. -/
def dp (b : Nat) (x : List UInt8) : Option Addr := if Sn.boldL.contains x then some ⟨b, 1, none⟩ else if Sn.slantL.contains x then some ⟨b, 2, none⟩ else none
set_option maxHeartbeats 800000 in
theorem deep_0 (b : Nat) (x : ByteArray) (w : World) (q0 : (x.toList == [98]) = true) : Calls Tryz.prog 92 #[.pointer (some ⟨b, 0, none⟩), .string x] w fun e w' => e = .returned (.pointer (some ⟨b, 1, none⟩)) ∧ w' = w := by
  go_enter Tryz.func92, Tryz.ntmps92
  go_wp2
  go_ret
  exact ⟨rfl, rfl⟩
set_option maxHeartbeats 800000 in
theorem deep_1 (b : Nat) (x : ByteArray) (w : World) (q0 : (x.toList == [98]) = false) (q1 : (x.toList == [115, 116, 114, 111, 110, 103]) = true) : Calls Tryz.prog 92 #[.pointer (some ⟨b, 0, none⟩), .string x] w fun e w' => e = .returned (.pointer (some ⟨b, 1, none⟩)) ∧ w' = w := by
  go_enter Tryz.func92, Tryz.ntmps92
  go_wp2
  go_ret
  exact ⟨rfl, rfl⟩
set_option maxHeartbeats 800000 in
theorem deep_2 (b : Nat) (x : ByteArray) (w : World) (q0 : (x.toList == [98]) = false) (q1 : (x.toList == [115, 116, 114, 111, 110, 103]) = false) (q2 : (x.toList == [105]) = true) : Calls Tryz.prog 92 #[.pointer (some ⟨b, 0, none⟩), .string x] w fun e w' => e = .returned (.pointer (some ⟨b, 2, none⟩)) ∧ w' = w := by
  go_enter Tryz.func92, Tryz.ntmps92
  go_wp2
  go_ret
  exact ⟨rfl, rfl⟩
set_option maxHeartbeats 800000 in
theorem deep_3 (b : Nat) (x : ByteArray) (w : World) (q0 : (x.toList == [98]) = false) (q1 : (x.toList == [115, 116, 114, 111, 110, 103]) = false) (q2 : (x.toList == [105]) = false) (q3 : (x.toList == [101, 109]) = true) : Calls Tryz.prog 92 #[.pointer (some ⟨b, 0, none⟩), .string x] w fun e w' => e = .returned (.pointer (some ⟨b, 2, none⟩)) ∧ w' = w := by
  go_enter Tryz.func92, Tryz.ntmps92
  go_wp2
  go_ret
  exact ⟨rfl, rfl⟩
set_option maxHeartbeats 800000 in
theorem deep_4 (b : Nat) (x : ByteArray) (w : World) (q0 : (x.toList == [98]) = false) (q1 : (x.toList == [115, 116, 114, 111, 110, 103]) = false) (q2 : (x.toList == [105]) = false) (q3 : (x.toList == [101, 109]) = false) : Calls Tryz.prog 92 #[.pointer (some ⟨b, 0, none⟩), .string x] w fun e w' => e = .returned (.pointer none) ∧ w' = w := by
  go_enter Tryz.func92, Tryz.ntmps92
  go_wp2
  go_ret
  exact ⟨rfl, rfl⟩
theorem deep_any (b : Nat) (x : List UInt8) (w : World) : Calls Tryz.prog 92 #[.pointer (some ⟨b, 0, none⟩), .string (B x)] w fun e w' => e = .returned (.pointer (dp b x)) ∧ w' = w := by
  have q0 := Beq [98] x
  by_cases h0 : [98] = x
  · rw [decide_eq_true h0] at q0
    have hl : dp b x = some ⟨b, 1, none⟩ := by subst h0; rfl
    rw [hl]
    exact deep_0 b (B x) w q0
  rw [decide_eq_false h0] at q0
  have q1 := Beq [115, 116, 114, 111, 110, 103] x
  by_cases h1 : [115, 116, 114, 111, 110, 103] = x
  · rw [decide_eq_true h1] at q1
    have hl : dp b x = some ⟨b, 1, none⟩ := by subst h1; rfl
    rw [hl]
    exact deep_1 b (B x) w q0 q1
  rw [decide_eq_false h1] at q1
  have q2 := Beq [105] x
  by_cases h2 : [105] = x
  · rw [decide_eq_true h2] at q2
    have hl : dp b x = some ⟨b, 2, none⟩ := by subst h2; rfl
    rw [hl]
    exact deep_2 b (B x) w q0 q1 q2
  rw [decide_eq_false h2] at q2
  have q3 := Beq [101, 109] x
  by_cases h3 : [101, 109] = x
  · rw [decide_eq_true h3] at q3
    have hl : dp b x = some ⟨b, 2, none⟩ := by subst h3; rfl
    rw [hl]
    exact deep_3 b (B x) w q0 q1 q2 q3
  rw [decide_eq_false h3] at q3
  have hl : dp b x = none := by
    unfold dp Sn.boldL Sn.slantL
    simp [Ne.symm h0, Ne.symm h1, Ne.symm h2, Ne.symm h3]
  rw [hl]
  exact deep_4 b (B x) w q0 q1 q2 q3

/-- A page at work, as cells. -/
def zcells (v : Value) (s : Sn.S) : List Value := [v, .int .i64 s.bold, .int .i64 s.slant, .string (B s.link), .int .i64 s.kind, .bool s.opened, .string (B s.hides)]
/-- The marks that hold. -/
def zmarks (s : Sn.S) : Int := (if 0 < s.bold then 1 else 0) + (if 0 < s.slant then 2 else 0)
set_option maxHeartbeats 800000 in
theorem marks_any (b : Nat) (v : Value) (s : Sn.S) (w : World) (hB : Blk w b (zcells v s) 58) : Calls Tryz.prog 90 #[.pointer (some ⟨b, 0, none⟩)] w fun e w' => e = .returned (.int .i64 (zmarks s)) ∧ w' = w := by
  have c1 : w.cell? ⟨b, 1, none⟩ = some (.int .i64 s.bold) := hB.cell 1
  have c2 : w.cell? ⟨b, 2, none⟩ = some (.int .i64 s.slant) := hB.cell 2
  unfold zmarks
  clear hB
  generalize s.bold = x at *
  generalize s.slant = y at *
  by_cases h1 : 0 < x
  · rw [if_pos h1]
    by_cases h2 : 0 < y
    · rw [if_pos h2]
      go_enter Tryz.func90, Tryz.ntmps90
      go_wp2
      go_ret
      exact ⟨rfl, rfl⟩
    · rw [if_neg h2]
      go_enter Tryz.func90, Tryz.ntmps90
      go_wp2
      go_ret
      exact ⟨rfl, rfl⟩
  · rw [if_neg h1]
    by_cases h2 : 0 < y
    · rw [if_pos h2]
      go_enter Tryz.func90, Tryz.ntmps90
      go_wp2
      go_ret
      exact ⟨rfl, rfl⟩
    · rw [if_neg h2]
      go_enter Tryz.func90, Tryz.ntmps90
      go_wp2
      go_ret
      exact ⟨rfl, rfl⟩

theorem zclean_any (l : List UInt8) (w : World) (hl : l.length ≤ 20000) (hS : Sch w) : Calls Tryz.prog 93 #[.string (B l)] w fun e w' => e = .returned (.string (B (Lk.clean l))) ∧ Below w.heap.size w w' := by
  have hC := clean_any (B l) w (by rw [B_size]; exact hl) hS
  rw [B_data] at hC
  have HC : Hid (Calls Tryz.prog 111 #[.string (B l)] w fun e w' => e = .returned (.tuple #[.string (B (Lk.clean l)), .int .i64 0]) ∧ Below w.heap.size w w') := hC
  clear hC hS hl
  generalize B (Lk.clean l) = r at *
  go_enter Tryz.func93, Tryz.ntmps93
  go_wp2_with fail
  refine HC.out.mono ?_
  rintro e w1 ⟨rfl, hb⟩
  go_wp2
  go_ret
  exact ⟨rfl, hb⟩

set_option maxHeartbeats 800000 in
theorem tooMany_any (b n cap : Nat) (ao : Option Addr) (w : World) (h0 : w.cell? ⟨b, 0, none⟩ = some (.slice ao n cap)) : Calls Tryz.prog 32 #[.pointer (some ⟨b, 0, none⟩)] w fun e w' => e = .returned (.bool (decide (80 < n))) ∧ w' = w := by
  go_enter Tryz.func32, Tryz.ntmps32
  go_wp2
  go_ret
  refine ⟨?_, rfl⟩
  first | rfl | (simp; omega)
end Go.Proofs.YtpcaiechaakhnabGreatDoor

/-
  slices.Grow of nothing, and slices.Concat of two lists of items.
-/
namespace Go.Proofs.YtpcaiechaakhnabGreatDoor
open Go.RowKit

theorem Tryz.info39 : (Tryz.prog.info? 39).map (fun i => (i.zero, i.size, i.bytes)) = some (some (.agg #[.int .u8 0, .int .i64 0, .string ⟨#[]⟩]), 3, 32) := by kernel_rfl

/-- An append whose run is known, in a region's list. -/
theorem wpList_of_append {P : Program} {w : World} {ops : Array Oper} {rest : List Oper} {o : Oper} {a : Act} {Q : Exit → Act → World → Prop} (hgd : o.guard = none) (s x : Operand) (ts : Array TypeId)
    (ho : o.op = .call { callee := .builtin .append, args := #[s, x], argTypes := ts }) (v u r : Value) (w' : World) (hs : a.eval s = v) (hx : a.eval x = u)
    (hr : (Builtin.append_ ts o.type #[v, u]).run P w = .ok r w') (h : wpList P ops Q rest (a.put o.dst r) w') : wpList P ops Q (o :: rest) a w :=
  wpList_plain hgd fun _ hK => by
    unfold Oper.wp execOp
    simp only [ho, resolve, invoke, builtin, Sem.run_bind, Sem.run_pure, Result.andThen_ok, List.map_toArray, List.map_cons, List.map_nil, hs, hx, hr]
    exact hK _ _ h
/-- What a new block of zero values is: a row of none. -/
theorem own_zeros (w : World) (zc : Array Value) (s cap : Nat) (hz : zc.size = 3) (h1 : s ≤ cap) (h2 : cap ≤ maxLen) :
    (w.drew.alloc (.cells (Builtin.zeroCells zc s ++ Builtin.zeroCells zc (cap - s)) 39)).ownsRow w.heap.size 39 3 (.slice (some ⟨w.heap.size, 0, none⟩) 0 cap) 0 [] := by
  refine ⟨rfl, .inr ⟨w.heap.size, cap, _, rfl, Nat.le_refl _, heap_alloc_new w.drew _, Nat.zero_le _, h2, ?_, by simp⟩⟩
  rw [Array.size_append, size_zeroCells, size_zeroCells, hz, ← Nat.add_mul]
  congr 1
  omega

theorem itCells_len : ∀ l : List It, (itCells l).length = l.length * 3
  | [] => rfl
  | x :: t => by
    show (itCells t).length + 1 + 1 + 1 = _
    rw [itCells_len t, List.length_cons, Nat.add_mul]
theorem itCells_app : ∀ l l' : List It, itCells (l ++ l') = itCells l ++ itCells l'
  | [], _ => rfl
  | x :: t, l' => by
    show _ :: _ :: _ :: itCells (t ++ l') = _
    rw [itCells_app t l']
    rfl
theorem itCells_one : ∀ l : List It, ∀ u ∈ itCells l, u.oneCell' = true
  | [], u, hu => by simp [itCells] at hu
  | x :: t, u, hu => by
    simp only [itCells, List.mem_cons] at hu
    rcases hu with rfl | rfl | rfl | hu
    · rfl
    · rfl
    · rfl
    · exact itCells_one t u hu
theorem at_cells {w : World} {b off : Nat} {l : List It} (h : At w b off l) (j : Nat) (u : Value) (hu : (itCells l)[j]? = some u) : w.cell? ((⟨b, off, none⟩ : Addr).add j) = some u := by
  have hadd : (⟨b, off, none⟩ : Addr).add j = ⟨b, off + j, none⟩ := by unfold Addr.add; split <;> simp_all
  rw [hadd]
  have hlt : j < l.length * 3 := by rw [← itCells_len]; exact (List.getElem?_eq_some_iff.1 hu).1
  have hi : j / 3 < l.length := by omega
  obtain ⟨h1, h2, h3⟩ := itCells_at l (j / 3) hi
  have hr : j = j / 3 * 3 ∨ j = j / 3 * 3 + 1 ∨ j = j / 3 * 3 + 2 := by omega
  rcases hr with e | e | e
  · rw [e, h1] at hu
    rw [e]
    exact (h.c _ hi).trans hu
  · rw [e, h2] at hu
    rw [e, ← Nat.add_assoc]
    exact (h.m _ hi).trans hu
  · rw [e, h3] at hu
    rw [e, ← Nat.add_assoc]
    exact (h.l _ hi).trans hu
/-- A row that is owned is a list of items. -/
theorem own_at {w : World} {B0 g cap n : Nat} {l : List It} (h : w.ownsRow B0 39 3 (.slice (some ⟨g, 0, none⟩) n cap) n (itCells l)) : At w g 0 l := by
  have hc : ∀ j u, (itCells l)[j]? = some u → w.cell? ⟨g, 0 + j, none⟩ = some u := fun j u hu => by
    have := h.cells (g := g) rfl j u hu
    have e : (⟨g, 0, none⟩ : Addr).add j = ⟨g, 0 + j, none⟩ := by unfold Addr.add; split <;> simp_all
    rw [e] at this
    exact this
  refine ⟨fun i hi => hc _ _ (itCells_at l i hi).1, fun i hi => ?_, fun i hi => ?_⟩
  · rw [Nat.add_assoc]; exact hc _ _ (itCells_at l i hi).2.1
  · rw [Nat.add_assoc]; exact hc _ _ (itCells_at l i hi).2.2

end Go.Proofs.YtpcaiechaakhnabGreatDoor

/-
  Package sanitize, a page at work: how items are put behind each other, how a block is ended.
-/
namespace Go.Proofs.YtpcaiechaakhnabGreatDoor
open Go.RowKit

/-- A page at work lies in block b, what is made of it so far in a row of its own. -/
structure Wk (w : World) (b : Nat) (s : Sn.S) (v : Value) : Prop where
  blk : Blk w b (zcells v s) 58
  own : w.ownsRow (b + 1) 39 3 v s.d.length (itCells s.d)
/-- The block that a row lies in. -/
def ob (v : Value) : List Nat := v.ownBlock.toList
theorem ob_mem {v : Value} {x : Nat} (h : x ∈ ob v) : v.ownBlock = some x := by
  unfold ob at h
  simpa using h
theorem Wk.blw {w w' : World} {b : Nat} {s : Sn.S} {v : Value} (h : Wk w b s v) (hk : Kept w w' (b :: ob v)) : Below b w w' :=
  hk.below (Nat.le_of_lt h.blk.lt) (fun x hx => by
    rcases List.mem_cons.1 hx with rfl | hx
    · exact Nat.le_refl _
    · have := ownBlk_ge h.own x (ob_mem hx); omega)
theorem Wk.under {w w' : World} {b : Nat} {s : Sn.S} {v : Value} (h : Wk w b s v) (hb : Below w.heap.size w w') : Wk w' b s v :=
  ⟨(hb.block b h.blk.lt).trans h.blk, own_under h.own hb⟩
/-- Behind stores into its own block. -/
theorem Wk.over {w w' : World} {b : Nat} {s s' : Sn.S} {v : Value} (h : Wk w b s v) (hB : Blk w' b (zcells v s') 58) (hk : Kept w w' [b]) (hd : s'.d = s.d) : Wk w' b s' v :=
  ⟨hB, by rw [hd]; exact own_kept h.own hk (Nat.lt_succ_self _)⟩
theorem kept_set (w : World) (b j : Nat) (v : Value) (S : List Nat) (h : b ∈ S) : Kept w (w.setCell ⟨b, j, none⟩ v) S := (Kept.refl w S).setCell _ _ (.inl h)
theorem Wk.big {w : World} {b : Nat} {s : Sn.S} {v : Value} (h : Wk w b s v) : b < w.heap.size := h.blk.lt

theorem whole_nil : Sn.whole [] = true := rfl
theorem whole_last (k : List It) (x : It) : Sn.whole (k ++ [x]) = Dc.ends x := by
  unfold Sn.whole
  rw [List.getLast?_concat]

set_option maxRecDepth 100000 in
set_option maxHeartbeats 800000 in
theorem behind_any (b : Nat) (s : Sn.S) (v : Value) (w : World) (hW : Wk w b s v) : Calls Tryz.prog 63 #[.pointer (some ⟨b, 0, none⟩)] w fun e w' => e = .returned (.bool (!Sn.whole s.d)) ∧ w' = w := by
  obtain ⟨ao, cap, rfl, hR⟩ := own_row hW.own
  have c0 : w.cell? ⟨b, 0, none⟩ = some (.slice ao s.d.length cap) := hW.blk.cell 0
  have hroom := hR.room
  have hbig := hR.big
  clear hW
  rcases List.eq_nil_or_concat s.d with h | ⟨k, x, h⟩
  · rw [h] at c0 ⊢
    rw [whole_nil]
    clear h hR hroom
    change w.cell? ⟨b, 0, none⟩ = some (.slice ao 0 cap) at c0
    go_enter Tryz.func63, Tryz.ntmps63
    go_wp2
    go_ret
    exact ⟨rfl, rfl⟩
  · rw [List.concat_eq_append] at h
    rw [h] at c0 hR hroom ⊢
    rw [whole_last]
    obtain ⟨g, off, rfl, hc⟩ := hR.lies (by simp)
    have hx := hc (k.length * 3) (.int .u8 x.c.toNat) (by
      have := (itCells_at (k ++ [x]) k.length (by simp)).1
      rw [this]
      simp)
    have e : (!Dc.ends x) = ((x.c.toNat : Int) != 10) := rfl
    rw [e]
    simp only [List.length_append, List.length_cons, List.length_nil, Nat.zero_add] at c0 hroom
    clear h hR hc e
    obtain ⟨m, hm⟩ : ∃ m, k.length = m := ⟨_, rfl⟩
    rw [hm] at c0 hroom hx
    clear hm
    go_enter Tryz.func63, Tryz.ntmps63
    go_wp2
    go_ret
    exact ⟨rfl, rfl⟩

/-- A page with an item more. -/
def Sn.S.plus (s : Sn.S) (x : It) : Sn.S := { s with d := s.d ++ [x] }
theorem itC_one (x : It) : itCells [x] = [.int .u8 x.c.toNat, .int .i64 x.m, .string x.l] := rfl

/-- What is known behind something that was put. -/
structure PutTo (w : World) (b : Nat) (v : Value) (w' : World) (s' : Sn.S) : Prop where
  at_ : ∃ v', Wk w' b s' v' ∧ (v'.ownBlock = v.ownBlock ∨ ∀ k, v'.ownBlock = some k → w.heap.size ≤ k)
  kept : Kept w w' (b :: ob v)

set_option maxRecDepth 100000 in
set_option maxHeartbeats 1600000 in
theorem put_any (b : Nat) (s : Sn.S) (v : Value) (x : It) (w : World) (hW : Wk w b s v) (hn : s.d.length ≤ 1000000) : Calls Tryz.prog 34 #[.pointer (some ⟨b, 0, none⟩), .int .u8 x.c.toNat, .int .i64 x.m, .string x.l] w fun e w' => e = .returned (.tuple #[]) ∧ PutTo w b v w' (s.plus x) := by
  have HW : Hid (Wk w b s v) := hW
  have c0 : w.cell? ⟨b, 0, none⟩ = some v := hW.blk.cell 0
  have f0 := hW.blk.frozen 0
  obtain ⟨ao, cap, hv, -⟩ := own_row hW.own
  have hbs := hW.big
  obtain ⟨n, hnn⟩ : ∃ n, s.d.length = n := ⟨_, rfl⟩
  have HN : Hid (s.d.length = n) := hnn
  rw [hnn] at hv hn
  obtain ⟨i0, hi, hz0, hz1, hz2⟩ := info_parts Tryz.info39
  have HO : Hid (w.ownsRow (b + 1) 39 3 v n (itCells s.d)) := by have := hW.own; rw [hnn] at this; exact this
  clear hW hnn
  have HV : Hid (v = .slice ao n cap) := hv
  subst hv
  go_enter Tryz.func34, Tryz.ntmps34
  go_wp2_with (at_builtin; refine wpList_append_lies _ rfl (.tmp 12) (.tmp 17) 34 rfl (b + 1) 39 i0 (.agg #[.int .u8 0, .int .i64 0, .string ⟨#[]⟩]) 3 32 Tryz.underlying34 hi hz0 hz1 hz2 rfl (by decide) _ n (itCells s.d) rfl ?c1 ⟨w.heap.size, 0, none⟩ 1 1 (itCells [x]) rfl rfl ?c2 (itCells_one [x]) (by decide) ?c4 ?c5 ?c6 _ rfl ?c7)
  case c1 => exact HO.out.alloc _
  case c2 => exact fun _ _ h => h
  case c4 => unfold maxLen; omega
  case c5 => omega
  case c6 => first | omega | (simp; omega)
  case c7 =>
    intro g cap2 w3 hown hgrow hg hlt
    have hal : Kept w (w.alloc (.cells #[.int .u8 x.c.toNat, .int .i64 x.m, .string x.l] 39)) (b :: ob (.slice ao n cap)) := (Kept.refl w _).alloc _
    have hgr : Kept (w.alloc (.cells #[.int .u8 x.c.toNat, .int .i64 x.m, .string x.l] 39)) w3 (ob (.slice ao n cap)) :=
      ⟨hgrow.os, hgrow.tape, hgrow.output, hgrow.size, fun k hk hn => hgrow.block k hk (fun e => hn (by unfold ob; rw [← e]; simp))⟩
    have hbo : b ∉ ob (.slice ao n cap) := fun hm => by have := ownBlk_ge HO.out b (ob_mem hm); omega
    have hB3 : Blk w3 b (zcells (.slice ao n cap) s) 58 := hgr.blk (HW.out.blk.alloc _) hbo
    have HB3 : Hid (Blk w3 b (zcells (.slice ao n cap) s) 58) := hB3
    have f3 := hB3.frozen 0
    have c3 : w3.cell? ⟨b, 0, none⟩ = some (.slice ao n cap) := hB3.cell 0
    have HOW : Hid (w3.ownsRow (b + 1) 39 3 (.slice (some ⟨g, 0, none⟩) (n + 1) cap2) (n + 1) (itCells s.d ++ itCells [x])) := hown
    have HK : Hid (Kept w w3 (b :: ob (.slice ao n cap))) := hal.trans (hgr.mono fun y hy => List.mem_cons_of_mem _ hy)
    have HG : Hid ((Value.slice ao n cap).ownBlock = some g ∨ g = w.heap.size + 1) := by
      rcases hg with h | h
      · exact .inl h
      · exact .inr (by rw [h])
    clear hal hgr hbo hB3 hown hgrow hg hlt HO
    go_wp2
    go_end0
    refine ⟨rfl, ⟨_, ⟨HB3.out.set 0 _, ?_⟩, ?_⟩, HK.out.setCell _ _ (.inl (List.mem_cons_self ..))⟩
    · show World.ownsRow _ (b + 1) 39 3 _ (s.d ++ [x]).length (itCells (s.d ++ [x]))
      rw [List.length_append, HN.out, itCells_app]
      exact own_kept HOW.out (kept_set w3 b 0 _ [b] (List.mem_singleton.2 rfl)) (Nat.lt_succ_self _)
    · rcases HG.out with h | h
      · exact .inl (by rw [h]; rfl)
      · exact .inr (fun k hk => by simp [Value.ownBlock] at hk; omega)
end Go.Proofs.YtpcaiechaakhnabGreatDoor
