/-
  Texts of this proof, one behind the other.
-/
import Derived.Test.YtbhcklkbckacpaaGreatDoorG4
import Derived.WalkSpells
import Derived.Deep.RegionLaw
import Derived.Deep.AppendLies
import Derived.Laws.IdiomStrings
import Derived.Laws.BytesArg
import Derived.Deep.RegionHeld3
import Derived.Laws.StructEq
import Derived.Test.YtbhcklkbckacpaaGreatDoorG0
import Derived.Lib.AppendZeros

/-
  Chapter 3's items: what an item is in memory, and what package doc tells of one.
-/
namespace Go.Proofs.YtbhcklkbckacpaaGreatDoor
open Go.RowKit
structure It where
  c : UInt8
  m : Int
  l : ByteArray
namespace Dc
def ends (x : It) : Bool := (x.c.toNat : Int) == 10
def isChar (x : It) : Bool := decide (32 ≤ (x.c.toNat : Int)) && decide ((x.c.toNat : Int) ≤ 126)
def marks (x : It) : Bool := decide (0 ≤ x.m) && decide (x.m ≤ 3)
def link (x : It) : Bool := x.l.toList.isEmpty || (!ends x && Lk.may x.l.data.toList)
def err (x : It) : Int := if !ends x && !isChar x then 1 else if !marks x then 3 else if !link x then 4 else 0
end Dc

theorem ends_any (x : It) (w : World) : Calls Tryz.prog 149 #[.agg #[.int .u8 x.c.toNat, .int .i64 x.m, .string x.l]] w fun e w' => e = .returned (.bool (Dc.ends x)) ∧ Below w.heap.size w w' := by
  go_enter Tryz.func149, Tryz.ntmps149
  go_wp2
  go_ret
  exact ⟨rfl, (Below.refl _ _).alloc (Nat.le_refl _) _⟩
theorem isch_any (x : It) (w : World) : Calls Tryz.prog 255 #[.agg #[.int .u8 x.c.toNat, .int .i64 x.m, .string x.l]] w fun e w' => e = .returned (.bool (Dc.isChar x)) ∧ Below w.heap.size w w' := by
  by_cases h : 32 ≤ (x.c.toNat : Int)
  · have hr : Dc.isChar x = decide ((x.c.toNat : Int) ≤ 126) := by unfold Dc.isChar; rw [decide_eq_true h]; rfl
    rw [hr]
    clear hr
    go_enter Tryz.func255, Tryz.ntmps255
    go_wp2
    go_ret
    exact ⟨rfl, (Below.refl _ _).alloc (Nat.le_refl _) _⟩
  · have hr : Dc.isChar x = false := by unfold Dc.isChar; rw [decide_eq_false h]; rfl
    rw [hr]
    clear hr
    go_enter Tryz.func255, Tryz.ntmps255
    go_wp2
    go_ret
    exact ⟨rfl, (Below.refl _ _).alloc (Nat.le_refl _) _⟩

def boxed (x : It) (w : World) : World := w.alloc (.cells #[.int .u8 x.c.toNat, .int .i64 x.m, .string x.l] 39)
theorem boxed_below (x : It) (w : World) : Below w.heap.size w (boxed x w) := (Below.refl _ _).alloc (Nat.le_refl _) _
structure Boxed (b : Nat) (x : It) (w : World) : Prop where
  c : w.cell? ⟨b, 0, none⟩ = some (.int .u8 x.c.toNat)
  m : w.cell? ⟨b, 1, none⟩ = some (.int .i64 x.m)
  l : w.cell? ⟨b, 2, none⟩ = some (.string x.l)
theorem cell_lt {w : World} {a : Addr} {v : Value} (h : w.cell? a = some v) : a.block < w.heap.size := by
  unfold World.cell? at h
  split at h
  · rename_i hh; exact (Array.getElem?_eq_some_iff.1 hh).1
  · cases h
theorem cell_below {w w' : World} {a : Addr} {v : Value} (h : w.cell? a = some v) (hb : Below w.heap.size w w') : w'.cell? a = some v :=
  (hb.cell (cell_lt h)).trans h
theorem Boxed.below {b : Nat} {x : It} {w w' : World} (h : Boxed b x w) (hb : Below w.heap.size w w') : Boxed b x w' :=
  ⟨cell_below h.c hb, cell_below h.m hb, cell_below h.l hb⟩
theorem boxed_at (x : It) (w : World) : Boxed w.heap.size x (boxed x w) := by
  have h : (boxed x w).heap[w.heap.size]? = some (.cells #[.int .u8 x.c.toNat, .int .i64 x.m, .string x.l] 39) := heap_alloc_new w _
  refine ⟨?_, ?_, ?_⟩ <;> (unfold World.cell?; rw [h]; rfl)

set_option maxHeartbeats 800000 in
theorem mayl_any (x : It) (w : World) (hS : Sch w) (hl : x.l.size ≤ 9223372036854775807) : Calls Tryz.prog 256 #[.agg #[.int .u8 x.c.toNat, .int .i64 x.m, .string x.l]] w fun e w' => e = .returned (.bool (Dc.link x)) ∧ Below w.heap.size w w' := by
  have HS : Hid (Sch (boxed x w)) := hS.below (boxed_below x w)
  clear hS
  have H1 : Hid (Below w.heap.size w (boxed x w)) := boxed_below x w
  have HB : Hid (Boxed w.heap.size x (boxed x w)) := boxed_at x w
  cases h0 : x.l.toList.isEmpty
  · have hr : Dc.link x = (!Dc.ends x && Lk.may x.l.data.toList) := by unfold Dc.link; rw [h0]; rfl
    rw [hr]
    clear hr
    cases he : Dc.ends x
    · go_enter Tryz.func256, Tryz.ntmps256
      go_wp2_with fail
      change Calls Tryz.prog 149 _ (boxed x w) _
      refine (ends_any x _).mono ?_
      rintro e w1 ⟨rfl, hb⟩
      rw [he]
      have hc := (HB.out.below hb).l
      have HS1 : Hid (Sch w1) := HS.out.below hb
      have H2 : Hid (Below w.heap.size w w1) := H1.out.trans (hb.mono H1.out.size)
      clear hb
      go_wp2_with fail
      refine (may_any x.l _ hl HS1.out).mono ?_
      rintro e w2 ⟨rfl, hb⟩
      have H3 : Hid (Below w.heap.size w w2) := H2.out.trans (hb.mono H2.out.size)
      clear hb
      go_wp2
      go_ret
      exact ⟨rfl, H3.out⟩
    · go_enter Tryz.func256, Tryz.ntmps256
      go_wp2_with fail
      change Calls Tryz.prog 149 _ (boxed x w) _
      refine (ends_any x _).mono ?_
      rintro e w1 ⟨rfl, hb⟩
      rw [he]
      have H2 : Hid (Below w.heap.size w w1) := H1.out.trans (hb.mono H1.out.size)
      clear hb
      go_wp2
      go_ret
      exact ⟨rfl, H2.out⟩
  · have hr : Dc.link x = true := by unfold Dc.link; rw [h0]; rfl
    rw [hr]
    clear hr
    go_enter Tryz.func256, Tryz.ntmps256
    go_wp2
    go_ret
    exact ⟨rfl, H1.out⟩

theorem err_text {x : It} (h : Dc.ends x = false) (h2 : Dc.isChar x = false) : Dc.err x = 1 := by unfold Dc.err; rw [h, h2]; rfl
theorem err_rest {x : It} (h : Dc.ends x = true ∨ Dc.isChar x = true) : Dc.err x = if !Dc.marks x then 3 else if !Dc.link x then 4 else 0 := by
  unfold Dc.err
  rcases h with h | h <;> rw [h] <;> simp
theorem err_marks {x : It} (h : Dc.ends x = true ∨ Dc.isChar x = true) (hm : x.m < 0 ∨ 3 < x.m) : Dc.err x = 3 := by
  rw [err_rest h]
  have : Dc.marks x = false := by unfold Dc.marks; simp; omega
  rw [this]; rfl
theorem err_link {x : It} (h : Dc.ends x = true ∨ Dc.isChar x = true) (h0 : 0 ≤ x.m) (h3 : x.m ≤ 3) : Dc.err x = if Dc.link x then 0 else 4 := by
  rw [err_rest h]
  have : Dc.marks x = true := by unfold Dc.marks; simp; omega
  rw [this]
  cases Dc.link x <;> rfl

set_option maxHeartbeats 3200000 in
theorem item_any (x : It) (w : World) (hS : Sch w) (hl : x.l.size ≤ 9223372036854775807) : Calls Tryz.prog 218 #[.agg #[.int .u8 x.c.toNat, .int .i64 x.m, .string x.l]] w fun e w' => e = .returned (.int .i64 (Dc.err x)) ∧ Below w.heap.size w w' := by
  have HS : Hid (Sch (boxed x w)) := hS.below (boxed_below x w)
  clear hS
  have H1 : Hid (Below w.heap.size w (boxed x w)) := boxed_below x w
  have HB : Hid (Boxed w.heap.size x (boxed x w)) := boxed_at x w
  obtain ⟨r, hr⟩ : ∃ r, Dc.err x = r := ⟨_, rfl⟩
  have HR : Hid (Dc.err x = r) := hr
  rw [hr]
  clear hr
  cases he : Dc.ends x
  · cases hc : Dc.isChar x
    · have : r = 1 := HR.out.symm.trans (err_text he hc)
      subst this
      go_enter Tryz.func218, Tryz.ntmps218
      go_wp2_with fail
      change Calls Tryz.prog 149 _ (boxed x w) _
      refine (ends_any x _).mono ?_
      rintro e w1 ⟨rfl, hb⟩
      rw [he]
      have B2 := HB.out.below hb
      have hc0 := B2.c
      have hc1 := B2.m
      have hc2 := B2.l
      have HB2 : Hid (Boxed w.heap.size x w1) := B2
      clear B2
      have HS2 : Hid (Sch w1) := HS.out.below hb
      have H2 : Hid (Below w.heap.size w w1) := H1.out.trans (hb.mono H1.out.size)
      clear hb
      go_wp2_with fail
      refine (isch_any x _).mono ?_
      rintro e w2 ⟨rfl, hb⟩
      rw [hc]
      have B3 := HB2.out.below hb
      have hd0 := B3.c
      have hd1 := B3.m
      have hd2 := B3.l
      clear B3
      have HS3 : Hid (Sch w2) := HS2.out.below hb
      have H3 : Hid (Below w.heap.size w w2) := H2.out.trans (hb.mono H2.out.size)
      clear hb
      go_wp2
      go_ret
      exact ⟨rfl, H3.out⟩
    · have ok : Dc.ends x = true ∨ Dc.isChar x = true := .inr hc
      by_cases hm : x.m < 0
      · have : r = 3 := HR.out.symm.trans (err_marks ok (.inl hm))
        subst this
        clear ok
        go_enter Tryz.func218, Tryz.ntmps218
        go_wp2_with fail
        change Calls Tryz.prog 149 _ (boxed x w) _
        refine (ends_any x _).mono ?_
        rintro e w1 ⟨rfl, hb⟩
        rw [he]
        have B2 := HB.out.below hb
        have hc0 := B2.c
        have hc1 := B2.m
        have hc2 := B2.l
        have HB2 : Hid (Boxed w.heap.size x w1) := B2
        clear B2
        have HS2 : Hid (Sch w1) := HS.out.below hb
        have H2 : Hid (Below w.heap.size w w1) := H1.out.trans (hb.mono H1.out.size)
        clear hb
        go_wp2_with fail
        refine (isch_any x _).mono ?_
        rintro e w2 ⟨rfl, hb⟩
        rw [hc]
        have B3 := HB2.out.below hb
        have hd0 := B3.c
        have hd1 := B3.m
        have hd2 := B3.l
        clear B3
        have HS3 : Hid (Sch w2) := HS2.out.below hb
        have H3 : Hid (Below w.heap.size w w2) := H2.out.trans (hb.mono H2.out.size)
        clear hb
        go_wp2
        go_ret
        exact ⟨rfl, H3.out⟩
      · by_cases hm3 : 3 < x.m
        · have : r = 3 := HR.out.symm.trans (err_marks ok (.inr hm3))
          subst this
          clear ok
          go_enter Tryz.func218, Tryz.ntmps218
          go_wp2_with fail
          change Calls Tryz.prog 149 _ (boxed x w) _
          refine (ends_any x _).mono ?_
          rintro e w1 ⟨rfl, hb⟩
          rw [he]
          have B2 := HB.out.below hb
          have hc0 := B2.c
          have hc1 := B2.m
          have hc2 := B2.l
          have HB2 : Hid (Boxed w.heap.size x w1) := B2
          clear B2
          have HS2 : Hid (Sch w1) := HS.out.below hb
          have H2 : Hid (Below w.heap.size w w1) := H1.out.trans (hb.mono H1.out.size)
          clear hb
          go_wp2_with fail
          refine (isch_any x _).mono ?_
          rintro e w2 ⟨rfl, hb⟩
          rw [hc]
          have B3 := HB2.out.below hb
          have hd0 := B3.c
          have hd1 := B3.m
          have hd2 := B3.l
          clear B3
          have HS3 : Hid (Sch w2) := HS2.out.below hb
          have H3 : Hid (Below w.heap.size w w2) := H2.out.trans (hb.mono H2.out.size)
          clear hb
          go_wp2
          go_ret
          exact ⟨rfl, H3.out⟩
        · have hrl := HR.out.symm.trans (err_link ok (by omega) (by omega))
          clear ok
          cases hk : Dc.link x
          · rw [hk] at hrl
            have : r = 4 := hrl
            subst this
            clear hrl
            go_enter Tryz.func218, Tryz.ntmps218
            go_wp2_with fail
            change Calls Tryz.prog 149 _ (boxed x w) _
            refine (ends_any x _).mono ?_
            rintro e w1 ⟨rfl, hb⟩
            rw [he]
            have B2 := HB.out.below hb
            have hc0 := B2.c
            have hc1 := B2.m
            have hc2 := B2.l
            have HB2 : Hid (Boxed w.heap.size x w1) := B2
            clear B2
            have HS2 : Hid (Sch w1) := HS.out.below hb
            have H2 : Hid (Below w.heap.size w w1) := H1.out.trans (hb.mono H1.out.size)
            clear hb
            go_wp2_with fail
            refine (isch_any x _).mono ?_
            rintro e w2 ⟨rfl, hb⟩
            rw [hc]
            have B3 := HB2.out.below hb
            have hd0 := B3.c
            have hd1 := B3.m
            have hd2 := B3.l
            clear B3
            have HS3 : Hid (Sch w2) := HS2.out.below hb
            have H3 : Hid (Below w.heap.size w w2) := H2.out.trans (hb.mono H2.out.size)
            clear hb
            go_wp2_with fail
            refine (mayl_any x _ HS3.out hl).mono ?_
            rintro e w4 ⟨rfl, hb⟩
            rw [hk]
            have H4 : Hid (Below w.heap.size w w4) := H3.out.trans (hb.mono H3.out.size)
            clear hb
            go_wp2
            go_ret
            exact ⟨rfl, H4.out⟩
          · rw [hk] at hrl
            have : r = 0 := hrl
            subst this
            clear hrl
            go_enter Tryz.func218, Tryz.ntmps218
            go_wp2_with fail
            change Calls Tryz.prog 149 _ (boxed x w) _
            refine (ends_any x _).mono ?_
            rintro e w1 ⟨rfl, hb⟩
            rw [he]
            have B2 := HB.out.below hb
            have hc0 := B2.c
            have hc1 := B2.m
            have hc2 := B2.l
            have HB2 : Hid (Boxed w.heap.size x w1) := B2
            clear B2
            have HS2 : Hid (Sch w1) := HS.out.below hb
            have H2 : Hid (Below w.heap.size w w1) := H1.out.trans (hb.mono H1.out.size)
            clear hb
            go_wp2_with fail
            refine (isch_any x _).mono ?_
            rintro e w2 ⟨rfl, hb⟩
            rw [hc]
            have B3 := HB2.out.below hb
            have hd0 := B3.c
            have hd1 := B3.m
            have hd2 := B3.l
            clear B3
            have HS3 : Hid (Sch w2) := HS2.out.below hb
            have H3 : Hid (Below w.heap.size w w2) := H2.out.trans (hb.mono H2.out.size)
            clear hb
            go_wp2_with fail
            refine (mayl_any x _ HS3.out hl).mono ?_
            rintro e w4 ⟨rfl, hb⟩
            rw [hk]
            have H4 : Hid (Below w.heap.size w w4) := H3.out.trans (hb.mono H3.out.size)
            clear hb
            go_wp2
            go_ret
            exact ⟨rfl, H4.out⟩
  · have ok : Dc.ends x = true ∨ Dc.isChar x = true := .inl he
    by_cases hm : x.m < 0
    · have : r = 3 := HR.out.symm.trans (err_marks ok (.inl hm))
      subst this
      clear ok
      go_enter Tryz.func218, Tryz.ntmps218
      go_wp2_with fail
      change Calls Tryz.prog 149 _ (boxed x w) _
      refine (ends_any x _).mono ?_
      rintro e w1 ⟨rfl, hb⟩
      rw [he]
      have B2 := HB.out.below hb
      have hc0 := B2.c
      have hc1 := B2.m
      have hc2 := B2.l
      have HB2 : Hid (Boxed w.heap.size x w1) := B2
      clear B2
      have HS2 : Hid (Sch w1) := HS.out.below hb
      have H2 : Hid (Below w.heap.size w w1) := H1.out.trans (hb.mono H1.out.size)
      clear hb
      go_wp2
      go_ret
      exact ⟨rfl, H2.out⟩
    · by_cases hm3 : 3 < x.m
      · have : r = 3 := HR.out.symm.trans (err_marks ok (.inr hm3))
        subst this
        clear ok
        go_enter Tryz.func218, Tryz.ntmps218
        go_wp2_with fail
        change Calls Tryz.prog 149 _ (boxed x w) _
        refine (ends_any x _).mono ?_
        rintro e w1 ⟨rfl, hb⟩
        rw [he]
        have B2 := HB.out.below hb
        have hc0 := B2.c
        have hc1 := B2.m
        have hc2 := B2.l
        have HB2 : Hid (Boxed w.heap.size x w1) := B2
        clear B2
        have HS2 : Hid (Sch w1) := HS.out.below hb
        have H2 : Hid (Below w.heap.size w w1) := H1.out.trans (hb.mono H1.out.size)
        clear hb
        go_wp2
        go_ret
        exact ⟨rfl, H2.out⟩
      · have hrl := HR.out.symm.trans (err_link ok (by omega) (by omega))
        clear ok
        cases hk : Dc.link x
        · rw [hk] at hrl
          have : r = 4 := hrl
          subst this
          clear hrl
          go_enter Tryz.func218, Tryz.ntmps218
          go_wp2_with fail
          change Calls Tryz.prog 149 _ (boxed x w) _
          refine (ends_any x _).mono ?_
          rintro e w1 ⟨rfl, hb⟩
          rw [he]
          have B2 := HB.out.below hb
          have hc0 := B2.c
          have hc1 := B2.m
          have hc2 := B2.l
          have HB2 : Hid (Boxed w.heap.size x w1) := B2
          clear B2
          have HS2 : Hid (Sch w1) := HS.out.below hb
          have H2 : Hid (Below w.heap.size w w1) := H1.out.trans (hb.mono H1.out.size)
          clear hb
          go_wp2_with fail
          refine (mayl_any x _ HS2.out hl).mono ?_
          rintro e w4 ⟨rfl, hb⟩
          rw [hk]
          have H4 : Hid (Below w.heap.size w w4) := H2.out.trans (hb.mono H2.out.size)
          clear hb
          go_wp2
          go_ret
          exact ⟨rfl, H4.out⟩
        · rw [hk] at hrl
          have : r = 0 := hrl
          subst this
          clear hrl
          go_enter Tryz.func218, Tryz.ntmps218
          go_wp2_with fail
          change Calls Tryz.prog 149 _ (boxed x w) _
          refine (ends_any x _).mono ?_
          rintro e w1 ⟨rfl, hb⟩
          rw [he]
          have B2 := HB.out.below hb
          have hc0 := B2.c
          have hc1 := B2.m
          have hc2 := B2.l
          have HB2 : Hid (Boxed w.heap.size x w1) := B2
          clear B2
          have HS2 : Hid (Sch w1) := HS.out.below hb
          have H2 : Hid (Below w.heap.size w w1) := H1.out.trans (hb.mono H1.out.size)
          clear hb
          go_wp2_with fail
          refine (mayl_any x _ HS2.out hl).mono ?_
          rintro e w4 ⟨rfl, hb⟩
          rw [hk]
          have H4 : Hid (Below w.heap.size w w4) := H2.out.trans (hb.mono H2.out.size)
          clear hb
          go_wp2
          go_ret
          exact ⟨rfl, H4.out⟩
end Go.Proofs.YtbhcklkbckacpaaGreatDoor

/-
  Lists of items in memory, and doc.Items of any list.
-/
namespace Go.Proofs.YtbhcklkbckacpaaGreatDoor
open Go.RowKit
namespace Dc
def errs : List It → Int
  | [] => 0
  | x :: t => if err x = 0 then errs t else err x
theorem errs_step (l : List It) (k : Nat) (h : k < l.length) : errs (l.drop k) = if err l[k] = 0 then errs (l.drop (k + 1)) else err l[k] := by
  rw [List.drop_eq_getElem_cons h, errs]
end Dc
structure At (w : World) (b off : Nat) (l : List It) : Prop where
  c : ∀ i (h : i < l.length), w.cell? ⟨b, off + i * 3, none⟩ = some (.int .u8 l[i].c.toNat)
  m : ∀ i (h : i < l.length), w.cell? ⟨b, off + i * 3 + 1, none⟩ = some (.int .i64 l[i].m)
  l : ∀ i (h : i < l.length), w.cell? ⟨b, off + i * 3 + 2, none⟩ = some (.string l[i].l)
theorem At.below {w w' : World} {b off : Nat} {l : List It} (h : At w b off l) (hb : Below w.heap.size w w') : At w' b off l :=
  ⟨fun i hi => cell_below (h.c i hi) hb, fun i hi => cell_below (h.m i hi) hb, fun i hi => cell_below (h.l i hi) hb⟩
def Fit (l : List It) : Prop := ∀ x ∈ l, x.l.size ≤ 9223372036854775807
structure Doc (w : World) (ao : Option Addr) (n cap : Nat) (l : List It) : Prop where
  fit : Fit l
  len : l.length = n
  room : n ≤ cap
  big : cap ≤ 9223372036854775807
  lies : n ≠ 0 → ∃ b off, ao = some ⟨b, off, none⟩ ∧ At w b off l
theorem Doc.below {w w' : World} {ao : Option Addr} {n cap : Nat} {l : List It} (h : Doc w ao n cap l) (hb : Below w.heap.size w w') : Doc w' ao n cap l :=
  ⟨h.fit, h.len, h.room, h.big, fun hn => by obtain ⟨b, off, e, hA⟩ := h.lies hn; exact ⟨b, off, e, hA.below hb⟩⟩

set_option maxHeartbeats 1600000 in
theorem items_any (ao : Option Addr) (n cap : Nat) (l : List It) (w : World) (hD : Doc w ao n cap l) (hS : Sch w) :
    Calls Tryz.prog 148 #[.slice ao n cap] w fun e w' => e = .returned (.int .i64 (Dc.errs l)) ∧ Below w.heap.size w w' := by
  have HD : Hid (Doc w ao n cap l) := hD
  have hn := hD.len
  subst hn
  have hcap := hD.room
  have hbig := hD.big
  clear hD
  have HS : Hid (Sch w) := hS
  clear hS
  obtain ⟨r, hr⟩ : ∃ r, Dc.errs l = r := ⟨_, rfl⟩
  have HR : Hid (Dc.errs l = r) := hr
  rw [hr]
  clear hr
  go_enter Tryz.func148, Tryz.ntmps148
  go_wp2
  go_loopw [8] (fun i wr => ∃ k : Nat, k ≤ l.length ∧ i = .int .i64 k ∧ Below w.heap.size w wr ∧ Dc.errs (l.drop k) = r) (fun i _ => l.length - (intOf i).toNat)
  case atStart => exact ⟨0, Nat.zero_le _, rfl, Below.refl _ _, HR.out⟩
  case round =>
    obtain ⟨k, hk, rfl, hbr, her⟩ := hrel
    have HE : Hid (Dc.errs (l.drop k) = r) := her
    have HBR : Hid (Below w.heap.size w wr) := hbr
    clear her hbr
    by_cases hlt : k < l.length
    · obtain ⟨b, off, rfl, A0⟩ := HD.out.lies (by omega)
      have A1 := A0.below HBR.out
      have hc0 := A1.c k hlt
      have hc1 := A1.m k hlt
      have hc2 := A1.l k hlt
      have hfx := HD.out.fit _ (List.getElem_mem hlt)
      have HX : Hid (Dc.errs (l.drop k) = if Dc.err l[k] = 0 then Dc.errs (l.drop (k + 1)) else Dc.err l[k]) := Dc.errs_step l k hlt
      clear A1 A0
      generalize hx : l[k] = x at *
      have HS2 : Hid (Sch (boxed x wr)) := HS.out.below (HBR.out.trans ((boxed_below x wr).mono HBR.out.size))
      have H1 : Hid (Below w.heap.size w (boxed x wr)) := HBR.out.trans ((boxed_below x wr).mono HBR.out.size)
      clear hx
      go_wp2_with fail
      change Calls Tryz.prog 218 _ (boxed x wr) _
      refine (item_any x _ HS2.out hfx).mono ?_
      rintro e w1 ⟨rfl, hb⟩
      have H2 : Hid (Below w.heap.size w w1) := H1.out.trans (hb.mono H1.out.size)
      clear hb
      by_cases h0 : Dc.err x = 0
      · have HN : Hid (Dc.errs (l.drop (k + 1)) = r) := by show _ = _; rw [← HE.out, HX.out, if_pos h0]
        rw [h0]
        clear h0
        go_wp2
        go_roundw
        case rel => exact ⟨k + 1, by omega, by go_num, H2.out, HN.out⟩
        case measure => simp [intOf]; omega
      · have hrr : Dc.err x = r := by rw [← HE.out, HX.out, if_neg h0]
        rw [hrr] at h0 ⊢
        clear hrr
        go_wp2
        go_ret
        exact ⟨rfl, H2.out⟩
    · have : r = 0 := by rw [← HE.out, List.drop_eq_nil_of_le (by omega)]; rfl
      subst this
      go_wp2
      go_ret
      exact ⟨rfl, HBR.out⟩
end Go.Proofs.YtbhcklkbckacpaaGreatDoor

/-
  doc.Check of any list of items, and the reference's CheckDoc: what is wrong with it as a document.
-/
namespace Go.Proofs.YtbhcklkbckacpaaGreatDoor
open Go.RowKit
namespace Dc
def check (l : List It) : Int := if 80 < l.length then 2 else if errs l ≠ 0 then errs l else if h : l.length - 1 < l.length then (if ends l[l.length - 1] then 0 else 4) else 4
theorem check_many {l : List It} (h : 80 < l.length) : check l = 2 := by unfold check; rw [if_pos h]
theorem check_errs {l : List It} (h : ¬ 80 < l.length) (h0 : ¬ errs l = 0) : check l = errs l := by unfold check; rw [if_neg h, if_pos h0]
theorem check_none {l : List It} (h0 : errs l = 0) (hn : l.length = 0) : check l = 4 := by
  unfold check
  rw [if_neg (by omega), if_neg (by simpa using h0), dif_neg (by omega)]
theorem check_last {l : List It} {k : Nat} (h : ¬ 80 < l.length) (h0 : errs l = 0) (hk : k < l.length) (hl : l.length = k + 1) : check l = if ends l[k] then 0 else 4 := by
  unfold check
  rw [if_neg h, if_neg (by simpa using h0), dif_pos (by omega)]
  obtain rfl : k = l.length - 1 := by omega
  rfl
end Dc
theorem At.get {w : World} {b off : Nat} {l : List It} (h : At w b off l) {k : Nat} {x : It} (hx : l[k]? = some x) :
    w.cell? ⟨b, off + k * 3, none⟩ = some (.int .u8 x.c.toNat) ∧ w.cell? ⟨b, off + k * 3 + 1, none⟩ = some (.int .i64 x.m) ∧ w.cell? ⟨b, off + k * 3 + 2, none⟩ = some (.string x.l) := by
  obtain ⟨hk, rfl⟩ := List.getElem?_eq_some_iff.1 hx
  exact ⟨h.c k hk, h.m k hk, h.l k hk⟩

set_option maxHeartbeats 1600000 in
theorem check_any (ao : Option Addr) (n cap : Nat) (l : List It) (w : World) (hD : Doc w ao n cap l) (hS : Sch w) :
    Calls Tryz.prog 74 #[.slice ao n cap] w fun e w' => e = .returned (.int .i64 (Dc.check l)) ∧ Below w.heap.size w w' := by
  have HD : Hid (Doc w ao n cap l) := hD
  have HN : Hid (l.length = n) := hD.len
  have hcap := hD.room
  have hbig := hD.big
  have CI : Hid (Calls Tryz.prog 148 #[.slice ao n cap] w fun e w' => e = .returned (.int .i64 (Dc.errs l)) ∧ Below w.heap.size w w') := items_any ao _ cap l w hD hS
  clear hD hS
  obtain ⟨r, hr⟩ : ∃ r, Dc.check l = r := ⟨_, rfl⟩
  have HR : Hid (Dc.check l = r) := hr
  rw [hr]
  clear hr
  by_cases h80 : 80 < n
  · have : r = 2 := HR.out.symm.trans (Dc.check_many (by rw [HN.out]; exact h80))
    subst this
    clear HR CI
    go_enter Tryz.func74, Tryz.ntmps74
    go_wp2
    go_ret
    exact ⟨rfl, Below.refl _ _⟩
  · by_cases h0 : Dc.errs l = 0
    · rw [h0] at CI
      by_cases hn0 : n = 0
      · have : r = 4 := HR.out.symm.trans (Dc.check_none h0 (HN.out.trans hn0))
        subst this
        subst hn0
        clear HR h0
        go_enter Tryz.func74, Tryz.ntmps74
        go_wp2_with fail
        refine CI.out.mono ?_
        rintro e w1 ⟨rfl, hb⟩
        have H1 : Hid (Below w.heap.size w w1) := hb
        clear hb
        go_wp2
        go_ret
        exact ⟨rfl, H1.out⟩
      · obtain ⟨k, rfl⟩ : ∃ k, n = k + 1 := ⟨n - 1, by omega⟩
        obtain ⟨b, off, rfl, A0⟩ := HD.out.lies hn0
        have HA : Hid (At w b off l) := A0
        obtain ⟨x, hx, hrl⟩ : ∃ x, l[k]? = some x ∧ r = if Dc.ends x then 0 else 4 := by
          have hl := HN.out
          have hk : k < l.length := by omega
          exact ⟨l[k], List.getElem?_eq_getElem hk, HR.out.symm.trans (Dc.check_last (by omega) h0 hk hl)⟩
        have HX : Hid (l[k]? = some x) := hx
        clear HR h0 A0 hx
        cases he : Dc.ends x
        all_goals
          rw [he] at hrl
          first | (have : r = 0 := hrl; subst this) | (have : r = 4 := hrl; subst this)
          clear hrl
          go_enter Tryz.func74, Tryz.ntmps74
          go_wp2_with fail
          refine CI.out.mono ?_
          rintro e w1 ⟨rfl, hb⟩
          have H1 : Hid (Below w.heap.size w w1) := hb
          obtain ⟨hc0, hc1, hc2⟩ := (HA.out.below hb).get HX.out
          clear hb
          go_wp2_with fail
          refine (ends_any x _).mono ?_
          rintro e w2 ⟨rfl, hb⟩
          rw [he]
          have H2 : Hid (Below w.heap.size w w2) := H1.out.trans (hb.mono H1.out.size)
          clear hb
          go_wp2
          go_ret
          exact ⟨rfl, H2.out⟩
    · have hrr : Dc.errs l = r := (Dc.check_errs (by rw [HN.out]; exact h80) h0).symm.trans HR.out
      rw [hrr] at CI h0
      clear HR hrr
      go_enter Tryz.func74, Tryz.ntmps74
      go_wp2_with fail
      refine CI.out.mono ?_
      rintro e w1 ⟨rfl, hb⟩
      have H1 : Hid (Below w.heap.size w w1) := hb
      clear hb
      go_wp2
      go_ret
      exact ⟨rfl, H1.out⟩

end Go.Proofs.YtbhcklkbckacpaaGreatDoor

/-
  doc.walk, with whatever is called at each place.
-/
namespace Go.Proofs.YtbhcklkbckacpaaGreatDoor
open Go.RowKit

set_option maxRecDepth 100000 in
set_option maxHeartbeats 1600000 in
theorem walk_any (ao : Option Addr) (n cap : Nat) (l : List It) (F : FuncId) (c1 c2 : Value) (Inv : Nat → World → Prop) (w : World) (hF : F = 210 ∨ F = 210) (hD : Doc w ao n cap l) (hS : Sch w)
    (h0 : Dc.check l = 0 → ∀ w', Below w.heap.size w w' → Inv 0 w')
    (hstep : ∀ k wr, k < n → Inv k wr → Calls Tryz.prog F #[.int .i64 k, c1, c2] wr fun e w' => e = .returned (.tuple #[]) ∧ Inv (k + 1) w') :
    Calls Tryz.prog 209 #[.slice ao n cap, .func (.func F) #[] #[c1, c2]] w fun e w' => e = .returned (.int .i64 (Dc.check l)) ∧ (Dc.check l = 0 → Inv n w') ∧ (Dc.check l ≠ 0 → Below w.heap.size w w') := by
  have CK : Hid (Calls Tryz.prog 74 #[.slice ao n cap] w fun e w' => e = .returned (.int .i64 (Dc.check l)) ∧ Below w.heap.size w w') := check_any ao n cap l w hD hS
  have hcap := hD.room
  have hbig := hD.big
  clear hD hS
  have H0 : Hid (Dc.check l = 0 → ∀ w', Below w.heap.size w w' → Inv 0 w') := h0
  have HS : Hid (∀ k wr, k < n → Inv k wr → Calls Tryz.prog F #[.int .i64 k, c1, c2] wr fun e w' => e = .returned (.tuple #[]) ∧ Inv (k + 1) w') := hstep
  have HF : Hid (F = 210 ∨ F = 210) := hF
  clear h0 hstep hF
  obtain ⟨r, hr⟩ : ∃ r, Dc.check l = r := ⟨_, rfl⟩
  rw [hr] at CK H0 ⊢
  clear hr
  by_cases hz : r = 0
  · subst hz
    have H0z : Hid (∀ w', Below w.heap.size w w' → Inv 0 w') := H0.out rfl
    clear H0
    go_enter Tryz.func209, Tryz.ntmps209
    go_wp2_with fail
    refine CK.out.mono ?_
    rintro e w1 ⟨rfl, hb⟩
    have HI : Hid (Inv 0 w1) := H0z.out w1 hb
    clear hb
    go_wp2
    go_loopw [14] (fun i wr => ∃ k : Nat, k ≤ n ∧ i = .int .i64 k ∧ Inv k wr) (fun i _ => n - (intOf i).toNat)
    case atStart => exact ⟨0, Nat.zero_le _, rfl, HI.out⟩
    case round =>
      obtain ⟨k, hk, rfl, hinv⟩ := hrel
      have HK : Hid (Inv k wr) := hinv
      clear hinv
      by_cases hlt : k < n
      · rcases HF.out with rfl | rfl
        all_goals
          go_wp2_with fail
          refine (HS.out k wr hlt HK.out).mono ?_
          rintro e w2 ⟨rfl, hi⟩
          have HK2 : Hid (Inv (k + 1) w2) := hi
          clear hi
          go_wp2
          go_roundw
          case rel => exact ⟨k + 1, by omega, by go_num, HK2.out⟩
          case measure => simp [intOf]; omega
      · obtain rfl : k = n := by omega
        go_wp2
        go_ret
        exact ⟨rfl, fun _ => HK.out, fun h => absurd rfl h⟩
  · go_enter Tryz.func209, Tryz.ntmps209
    go_wp2_with fail
    refine CK.out.mono ?_
    rintro e w1 ⟨rfl, hb⟩
    have HB : Hid (Below w.heap.size w w1) := hb
    clear hb
    go_wp2
    go_ret
    exact ⟨rfl, fun h => absurd h hz, fun _ => HB.out⟩
end Go.Proofs.YtbhcklkbckacpaaGreatDoor

/-
  doc.Plain of any list of items: its characters.
-/
namespace Go.Proofs.YtbhcklkbckacpaaGreatDoor
open Go.RowKit

structure Txt (w0 : World) (d : Value) (T E : TypeId) (v : Value) (xs : List Value) (w : World) : Prop where
  below : Below w0.heap.size w0 w
  box : w.heap[w0.heap.size]? = some (.cells #[d] 34 (0, 0))
  var : w.heap[w0.heap.size + 1]? = some (.cells #[v] T (0, 0))
  own : w.ownsRow (w0.heap.size + 2) E 1 v xs.length xs
theorem ownBlock_ge {w : World} {base : Nat} {e : TypeId} {size : Nat} {v : Value} {n : Nat} {xs : List Value} (h : w.ownsRow base e size v n xs) : ∀ k, v.ownBlock = some k → base ≤ k := by
  intro k hk
  rcases h.2 with ⟨rfl, _⟩ | ⟨g, cap, cur, rfl, hg, _⟩
  · cases hk
  · simp [Value.ownBlock] at hk; omega
theorem Txt.size {w0 : World} {d : Value} {T E : TypeId} {v : Value} {xs : List Value} {w : World} (h : Txt w0 d T E v xs w) : w0.heap.size + 2 ≤ w.heap.size := lt_of_block h.var
theorem Txt.beneath {w0 : World} {d : Value} {T E : TypeId} {v : Value} {xs : List Value} {w w' : World} (h : Txt w0 d T E v xs w) (hb : Below w.heap.size w w') : Txt w0 d T E v xs w' := by
  have hs := h.size
  refine ⟨h.below.trans (hb.mono (by omega)), (hb.block _ (by omega)).trans h.box, (hb.block _ (by omega)).trans h.var, ?_⟩
  refine ⟨h.own.1, ?_⟩
  rcases h.own.2 with h2 | ⟨g, cap, cur, hv, hg, hh, r⟩
  · exact .inl h2
  · exact .inr ⟨g, cap, cur, hv, hg, (hb.block g (lt_of_block hh)).trans hh, r⟩
theorem Txt.keeps {w0 : World} {d : Value} {T E : TypeId} {v : Value} {xs : List Value} {w w1 w2 : World} (h : Txt w0 d T E v xs w) (hb : Below w.heap.size w w1) (hg : w1.grownBy w2 v.ownBlock) :
    w2.heap[w0.heap.size]? = some (.cells #[d] 34 (0, 0)) ∧ w2.heap[w0.heap.size + 1]? = some (.cells #[v] T (0, 0)) ∧ Below w0.heap.size w0 w2 := by
  have h1 := h.beneath hb
  have hs := h1.size
  have hne : ∀ k, k < w0.heap.size + 2 → some k ≠ v.ownBlock := fun k hk e => by have := ownBlock_ge h.own k e.symm; omega
  exact ⟨(hg.block _ (by omega) (hne _ (by omega))).trans h1.box, (hg.block _ (by omega) (hne _ (by omega))).trans h1.var, h1.below.trans ⟨hg.os, hg.tape, hg.output, hg.size, fun k hk => hg.block k (by omega) (hne k (by omega))⟩⟩
theorem Txt.push {w0 : World} {d : Value} {T E : TypeId} {v v' : Value} {xs ys : List Value} {w w1 w2 : World} (h : Txt w0 d T E v xs w) (hb : Below w.heap.size w w1)
    (hown : w2.ownsRow (w0.heap.size + 2) E 1 v' ys.length ys) (hg : w1.grownBy w2 v.ownBlock) : Txt w0 d T E v' ys (w2.setCell ⟨w0.heap.size + 1, 0, none⟩ v') := by
  have h1 := h.beneath hb
  have hs := h1.size
  have hne : ∀ k, k < w0.heap.size + 2 → some k ≠ v.ownBlock := fun k hk e => by have := ownBlock_ge h.own k e.symm; omega
  have hx : w2.heap[w0.heap.size + 1]? = some (.cells #[v] T (0, 0)) := (hg.block _ (by omega) (hne _ (by omega))).trans h1.var
  refine ⟨?_, ?_, one_setCell hx, ?_⟩
  · refine (h1.below.trans ⟨hg.os, hg.tape, hg.output, hg.size, fun k hk => hg.block k (by omega) (hne k (by omega))⟩).setCell (by simp) _
  · rw [Below.heap_setCell _ _ _ _ (by simp)]
    exact (hg.block _ (by omega) (hne _ (by omega))).trans h1.box
  · exact ownsRow_setCell_below hown (by simp) _

theorem Tryz.info5 : (Tryz.prog.info? 5).map (fun i => (i.zero, i.size, i.bytes)) = some (some (.int .u8 0), 1, 1) := by kernel_rfl

namespace Dc
def plain (l : List It) : List UInt8 := if check l = 0 then l.map It.c else []
theorem check_ok {l : List It} (h : check l = 0) : l.length ≤ 80 := by
  by_cases h80 : 80 < l.length
  · rw [check_many h80] at h; cases h
  · omega
end Dc
def begun (w : World) (d : Value) (T : TypeId) : World := (w.alloc (.cells #[d] 34)).alloc (.cells #[.slice none 0 0] T)
theorem begun_txt (w : World) (d : Value) (T E : TypeId) : Txt w d T E (.slice none 0 0) [] (begun w d T) := by
  have h1 : (w.alloc (.cells #[d] 34)).heap[w.heap.size]? = some (.cells #[d] 34) := heap_alloc_new w _
  have h2 := heap_alloc_new (w.alloc (.cells #[d] 34)) (.cells #[.slice none 0 0] T)
  rw [World.size_alloc] at h2
  exact ⟨((Below.refl _ _).alloc (Nat.le_refl _) _).alloc (by simp) _, (Below.heap_alloc _ _ _ (by simp)).trans h1, h2, World.ownsRow_nil _ _ _ _⟩

end Go.Proofs.YtbhcklkbckacpaaGreatDoor

/-
  doc.turns: whether an item is of another run than the one ahead of it.
-/
namespace Go.Proofs.YtbhcklkbckacpaaGreatDoor
open Go.RowKit

def It.zero : It := ⟨0, 0, ⟨#[]⟩⟩
namespace Dc
def turns (a x : It) : Bool := ends a || ends x || (x.m != a.m) || !(x.l.toList == a.l.toList)
end Dc

set_option maxRecDepth 100000 in
set_option maxHeartbeats 1600000 in
theorem turns_any (a x : It) (w : World) : Calls Tryz.prog 211 #[.agg #[.int .u8 a.c.toNat, .int .i64 a.m, .string a.l], .agg #[.int .u8 x.c.toNat, .int .i64 x.m, .string x.l]] w fun e w' => e = .returned (.bool (Dc.turns a x)) ∧ Below w.heap.size w w' := by
  have H1 : Hid (Below w.heap.size w (boxed x (boxed a w))) := (boxed_below a w).trans ((boxed_below x _).mono (boxed_below a w).size)
  have HA : Hid (Boxed w.heap.size a (boxed x (boxed a w))) := (boxed_at a w).below (boxed_below x _)
  have HX : Hid (Boxed (w.heap.size + 1) x (boxed x (boxed a w))) := by
    have := boxed_at x (boxed a w)
    have e : (boxed a w).heap.size = w.heap.size + 1 := World.size_alloc ..
    rw [e] at this
    exact this
  cases ha : Dc.ends a
  · cases hx : Dc.ends x
    · cases hm : (x.m != a.m)
      · cases hl : (x.l.toList == a.l.toList)
        all_goals
          have hr : Dc.turns a x = (!(x.l.toList == a.l.toList)) := by unfold Dc.turns; rw [ha, hx, hm]; rfl
          rw [hl] at hr
          rw [hr]
          clear hr
          go_enter Tryz.func211, Tryz.ntmps211
          go_wp2_with fail
          change Calls Tryz.prog 149 _ (boxed x (boxed a w)) _
          refine (ends_any a _).mono ?_
          rintro e w1 ⟨rfl, hb⟩
          rw [ha]
          have A2 : Hid (Boxed w.heap.size a w1) := HA.out.below hb
          have X2 : Hid (Boxed (w.heap.size + 1) x w1) := HX.out.below hb
          have c1 := X2.out.c
          have c2 := X2.out.m
          have c3 := X2.out.l
          have H2 : Hid (Below w.heap.size w w1) := H1.out.trans (hb.mono H1.out.size)
          clear hb
          go_wp2_with fail
          refine (ends_any x _).mono ?_
          rintro e w2 ⟨rfl, hb⟩
          rw [hx]
          have d1 := (A2.out.below hb).m
          have d2 := (A2.out.below hb).l
          have d3 := (X2.out.below hb).m
          have d4 := (X2.out.below hb).l
          have H3 : Hid (Below w.heap.size w w2) := H2.out.trans (hb.mono H2.out.size)
          clear hb
          go_wp2
          go_ret
          exact ⟨rfl, H3.out⟩
      · have hr : Dc.turns a x = true := by unfold Dc.turns; rw [hm]; simp
        rw [hr]
        clear hr
        go_enter Tryz.func211, Tryz.ntmps211
        go_wp2_with fail
        change Calls Tryz.prog 149 _ (boxed x (boxed a w)) _
        refine (ends_any a _).mono ?_
        rintro e w1 ⟨rfl, hb⟩
        rw [ha]
        have A2 : Hid (Boxed w.heap.size a w1) := HA.out.below hb
        have X2 : Hid (Boxed (w.heap.size + 1) x w1) := HX.out.below hb
        have c1 := X2.out.c
        have c2 := X2.out.m
        have c3 := X2.out.l
        have H2 : Hid (Below w.heap.size w w1) := H1.out.trans (hb.mono H1.out.size)
        clear hb
        go_wp2_with fail
        refine (ends_any x _).mono ?_
        rintro e w2 ⟨rfl, hb⟩
        rw [hx]
        have d1 := (A2.out.below hb).m
        have d3 := (X2.out.below hb).m
        have H3 : Hid (Below w.heap.size w w2) := H2.out.trans (hb.mono H2.out.size)
        clear hb
        go_wp2
        go_ret
        exact ⟨rfl, H3.out⟩
    · have hr : Dc.turns a x = true := by unfold Dc.turns; rw [hx]; simp
      rw [hr]
      clear hr
      go_enter Tryz.func211, Tryz.ntmps211
      go_wp2_with fail
      change Calls Tryz.prog 149 _ (boxed x (boxed a w)) _
      refine (ends_any a _).mono ?_
      rintro e w1 ⟨rfl, hb⟩
      rw [ha]
      have X2 : Hid (Boxed (w.heap.size + 1) x w1) := HX.out.below hb
      have c1 := X2.out.c
      have c2 := X2.out.m
      have c3 := X2.out.l
      have H2 : Hid (Below w.heap.size w w1) := H1.out.trans (hb.mono H1.out.size)
      clear hb
      go_wp2_with fail
      refine (ends_any x _).mono ?_
      rintro e w2 ⟨rfl, hb⟩
      rw [hx]
      have H3 : Hid (Below w.heap.size w w2) := H2.out.trans (hb.mono H2.out.size)
      clear hb
      go_wp2
      go_ret
      exact ⟨rfl, H3.out⟩
  · have hr : Dc.turns a x = true := by unfold Dc.turns; rw [ha]; simp
    rw [hr]
    clear hr
    go_enter Tryz.func211, Tryz.ntmps211
    go_wp2_with fail
    change Calls Tryz.prog 149 _ (boxed x (boxed a w)) _
    refine (ends_any a _).mono ?_
    rintro e w1 ⟨rfl, hb⟩
    rw [ha]
    have H2 : Hid (Below w.heap.size w w1) := H1.out.trans (hb.mono H1.out.size)
    clear hb
    go_wp2
    go_ret
    exact ⟨rfl, H2.out⟩
end Go.Proofs.YtbhcklkbckacpaaGreatDoor

/-
  doc.Runs of any list of items: the places where its runs begin.
-/
namespace Go.Proofs.YtbhcklkbckacpaaGreatDoor
open Go.RowKit

theorem Tryz.info3 : (Tryz.prog.info? 3).map (fun i => (i.zero, i.size, i.bytes)) = some (some (.int .i64 0), 1, 8) := by kernel_rfl
namespace Dc
def runB (l : List It) : Nat → Bool
  | 0 => true
  | j + 1 => turns (l[j]?.getD It.zero) (l[j + 1]?.getD It.zero)
theorem runB_succ {l : List It} {j : Nat} (hj : j + 1 < l.length) : runB l (j + 1) = turns l[j] l[j + 1] := by
  show turns (l[j]?.getD It.zero) (l[j + 1]?.getD It.zero) = _
  rw [List.getElem?_eq_getElem (by omega), List.getElem?_eq_getElem hj]
  rfl
end Dc

set_option maxRecDepth 100000 in
set_option maxHeartbeats 1600000 in
theorem runs1_zero (w0 : World) (d : Value) (xs : List Value) (v : Value) (w : World) (hT : Txt w0 d 174 3 v xs w) (hlen : xs.length ≤ 80) :
    Calls Tryz.prog 210 #[.int .i64 0, .pointer (some ⟨w0.heap.size, 0, none⟩), .pointer (some ⟨w0.heap.size + 1, 0, none⟩)] w fun e w' => e = .returned (.tuple #[]) ∧ ∃ v', Txt w0 d 174 3 v' (xs ++ [.int .i64 0]) w' := by
  obtain ⟨i0, hi, hz0, hz1, hz2⟩ := info_parts Tryz.info3
  have HT : Hid (Txt w0 d 174 3 v xs w) := hT
  have hvar := cell_of_one hT.var
  have hfr := free_of_one hT.var
  have HO : Hid (w.ownsRow (w0.heap.size + 2) 3 1 v xs.length xs) := hT.own
  have hsz := hT.size
  have hb1 : w0.heap.size < w.heap.size := by omega
  have hb2 : w0.heap.size + 1 < w.heap.size := by omega
  clear hT
  go_enter Tryz.func210, Tryz.ntmps210
  go_wp2
  go_quiet (fail)
  go_wp2_with (at_builtin; refine wpList_append_lies _ rfl (.tmp 18) (.tmp 20) 174 rfl (w0.heap.size + 2) 3 i0 (.int .i64 0) 1 8 Tryz.underlying174 hi hz0 hz1 hz2 rfl (by decide) v xs.length xs rfl ?c1 ⟨w.heap.size, 0, none⟩ 1 1 [.int .i64 0] rfl rfl ?c2 ?c3 (by decide) ?c4 ?c5 ?c6 _ rfl ?c7)
  case c1 => exact World.ownsRow.alloc (w := w.drewN nq) HO.out _
  case c2 => exact World.news_of_block (cs := #[.int .i64 0]) (heap_alloc_new (w.drewN nq) _)
  case c3 => intro u hu; simp at hu; subst hu; rfl
  case c4 => unfold maxLen; omega
  case c5 => omega
  case c6 => simp; omega
  case c7 =>
    intro g cap2 w1 hown hgrow _ _
    have hb : Below w.heap.size w ((w.drewN nq).alloc (.cells #[.int .i64 0] 3)) := Below.alloc (a := w) (w := w.drewN nq) ⟨rfl, rfl, rfl, Nat.le_refl _, fun _ _ => rfl⟩ (Nat.le_refl _) _
    have hK := HT.out.keeps hb hgrow
    have r2 := cell_of_one hK.2.1
    have r3 := free_of_one hK.2.1
    have HG : Hid (∃ v', Txt w0 d 174 3 v' (xs ++ [Value.int .i64 0]) (w1.setCell ⟨w0.heap.size + 1, 0, none⟩ (.slice (some ⟨g, 0, none⟩) (xs.length + 1) cap2))) := ⟨_, HT.out.push hb (by rw [List.length_append]; exact hown) hgrow⟩
    clear hK hown hgrow hb
    go_wp2
    go_end0
    exact ⟨rfl, HG.out⟩

set_option maxRecDepth 100000 in
set_option maxHeartbeats 1600000 in
theorem runs1_succ (w0 : World) (b off n cap j k : Nat) (l : List It) (xs : List Value) (v : Value) (w : World) (a x : It) (hj : j = k + 1) (ha : l[k]? = some a) (hx : l[j]? = some x) (hn : l.length = n) (hbig : n ≤ 80) (hA : At w0 b off l)
    (hT : Txt w0 (.slice (some ⟨b, off, none⟩) n cap) 174 3 v xs w) (hlen : xs.length ≤ 80) :
    Calls Tryz.prog 210 #[.int .i64 j, .pointer (some ⟨w0.heap.size, 0, none⟩), .pointer (some ⟨w0.heap.size + 1, 0, none⟩)] w fun e w' => e = .returned (.tuple #[]) ∧ ∃ v', Txt w0 (.slice (some ⟨b, off, none⟩) n cap) 174 3 v' (if Dc.turns a x then xs ++ [.int .i64 j] else xs) w' := by
  obtain ⟨i0, hi, hz0, hz1, hz2⟩ := info_parts Tryz.info3
  have HT : Hid (Txt w0 (.slice (some ⟨b, off, none⟩) n cap) 174 3 v xs w) := hT
  have hkn : j < n := by rw [← hn]; exact (List.getElem?_eq_some_iff.1 hx).1
  obtain ⟨ha0, ha1, ha2⟩ := (hA.below hT.below).get ha
  obtain ⟨hx0, hx1, hx2⟩ := (hA.below hT.below).get hx
  have hbox := cell_of_one hT.box
  clear hT
  have hw : IntKind.i64.wrap ((j : Int) - 1) = (k : Int) := by rw [show (j : Int) - 1 = (k : Int) by omega]; exact IntWalk.i64_in _ ⟨by omega, by omega⟩
  have q1 : (0 : Int) ≤ (k : Int) := by omega
  have q2 : (k : Int) < (n : Int) := by omega
  have q3 : (0 : Int) ≤ (j : Int) := by omega
  have q4 : (j : Int) < (n : Int) := by omega
  have q5 : ((j : Int) == 0) = false := by simp; omega
  have HJ : Hid (j = k + 1) := hj
  have HA : Hid (l[k]? = some a) := ha
  have HX : Hid (l[j]? = some x) := hx
  clear hj ha hx hn
  clear hA HJ HA HX
  cases ht : Dc.turns a x
  · go_enter Tryz.func210, Tryz.ntmps210
    go_wp2
    go_region_held3 (fun w' => w'.cell? ⟨w0.heap.size, 0, none⟩ = some (.slice (some ⟨b, off, none⟩) n cap) ∧ w'.cell? ⟨b, off + k * 3, none⟩ = some (.int .u8 a.c.toNat) ∧ w'.cell? ⟨b, off + k * 3 + 1, none⟩ = some (.int .i64 a.m) ∧ w'.cell? ⟨b, off + k * 3 + 2, none⟩ = some (.string a.l) ∧ w'.cell? ⟨b, off + j * 3, none⟩ = some (.int .u8 x.c.toNat) ∧ w'.cell? ⟨b, off + j * 3 + 1, none⟩ = some (.int .i64 x.m) ∧ w'.cell? ⟨b, off + j * 3 + 2, none⟩ = some (.string x.l)) (go_keep) (first | (go_at_call 211; refine (turns_any a x _).mono ?_; rintro e w1 ⟨rfl, hb⟩; have HB : Hid (Below w.heap.size w w1) := (Below.refl _ _).drew.trans hb; have e1 := cell_below hbox HB.out; have e2 := cell_below ha0 HB.out; have e3 := cell_below ha1 HB.out; have e4 := cell_below ha2 HB.out; have e5 := cell_below hx0 HB.out; have e6 := cell_below hx1 HB.out; have e7 := cell_below hx2 HB.out; clear hb; rw [ht]))
    have HP : Hid (Txt w0 (.slice (some ⟨b, off, none⟩) n cap) 174 3 v xs w1) := HT.out.beneath HB.out
    clear e1 e2 e3 e4 e5 e6 e7
    go_wp2
    go_end0
    exact ⟨rfl, v, HP.out⟩
  · go_enter Tryz.func210, Tryz.ntmps210
    go_wp2
    go_region_held3 (fun w' => w'.cell? ⟨w0.heap.size, 0, none⟩ = some (.slice (some ⟨b, off, none⟩) n cap) ∧ w'.cell? ⟨b, off + k * 3, none⟩ = some (.int .u8 a.c.toNat) ∧ w'.cell? ⟨b, off + k * 3 + 1, none⟩ = some (.int .i64 a.m) ∧ w'.cell? ⟨b, off + k * 3 + 2, none⟩ = some (.string a.l) ∧ w'.cell? ⟨b, off + j * 3, none⟩ = some (.int .u8 x.c.toNat) ∧ w'.cell? ⟨b, off + j * 3 + 1, none⟩ = some (.int .i64 x.m) ∧ w'.cell? ⟨b, off + j * 3 + 2, none⟩ = some (.string x.l)) (go_keep) (first | (go_at_call 211; refine (turns_any a x _).mono ?_; rintro e w1 ⟨rfl, hb⟩; have HB : Hid (Below w.heap.size w w1) := (Below.refl _ _).drew.trans hb; have e1 := cell_below hbox HB.out; have e2 := cell_below ha0 HB.out; have e3 := cell_below ha1 HB.out; have e4 := cell_below ha2 HB.out; have e5 := cell_below hx0 HB.out; have e6 := cell_below hx1 HB.out; have e7 := cell_below hx2 HB.out; clear hb; rw [ht]))
    have hT1 := HT.out.beneath HB.out
    have HT1 : Hid (Txt w0 (.slice (some ⟨b, off, none⟩) n cap) 174 3 v xs w1) := hT1
    have hvar := cell_of_one hT1.var
    have HO : Hid (w1.ownsRow (w0.heap.size + 2) 3 1 v xs.length xs) := hT1.own
    have hsz := hT1.size
    clear e1 e2 e3 e4 e5 e6 e7 hT1
    go_wp2_with (at_builtin; refine wpList_append_lies _ rfl (.tmp 18) (.tmp 20) 174 rfl (w0.heap.size + 2) 3 i0 (.int .i64 0) 1 8 Tryz.underlying174 hi hz0 hz1 hz2 rfl (by decide) v xs.length xs rfl ?c1 ⟨w1.heap.size, 0, none⟩ 1 1 [.int .i64 j] rfl rfl ?c2 ?c3 (by decide) ?c4 ?c5 ?c6 _ rfl ?c7)
    case c1 => exact HO.out.alloc _
    case c2 => exact World.news_of_block (cs := #[.int .i64 j]) (heap_alloc_new w1 _)
    case c3 => intro u hu; simp at hu; subst hu; rfl
    case c4 => unfold maxLen; omega
    case c5 => omega
    case c6 => simp; omega
    case c7 =>
      intro g cap2 w2 hown hgrow _ _
      have hb : Below w1.heap.size w1 (w1.alloc (.cells #[.int .i64 j] 3)) := (Below.refl _ _).alloc (Nat.le_refl _) _
      have hK := HT1.out.keeps hb hgrow
      have r2 := cell_of_one hK.2.1
      have r3 := free_of_one hK.2.1
      have HG : Hid (∃ v', Txt w0 (.slice (some ⟨b, off, none⟩) n cap) 174 3 v' (xs ++ [Value.int .i64 j]) (w2.setCell ⟨w0.heap.size + 1, 0, none⟩ (.slice (some ⟨g, 0, none⟩) (xs.length + 1) cap2))) := ⟨_, HT1.out.push hb (by rw [List.length_append]; exact hown) hgrow⟩
      clear hK hown hgrow hb
      go_wp2
      go_end0
      exact ⟨rfl, HG.out⟩

namespace Dc
def runsTo (l : List It) (k : Nat) : List Nat := (List.range k).filter (runB l)
def runs (l : List It) : List Nat := if check l = 0 then runsTo l l.length else []
theorem runsTo_succ (l : List It) (k : Nat) : runsTo l (k + 1) = if runB l k then runsTo l k ++ [k] else runsTo l k := by
  unfold runsTo
  rw [List.range_succ, List.filter_append]
  by_cases h : runB l k = true
  · rw [if_pos h]; simp [h]
  · rw [if_neg h]; simp [h]
theorem runsTo_len (l : List It) (k : Nat) : (runsTo l k).length ≤ k := by
  have := List.length_filter_le (runB l) (List.range k)
  simpa [runsTo] using this
end Dc
def ci (k : Nat) : Value := .int .i64 k

set_option maxRecDepth 100000 in
set_option maxHeartbeats 1600000 in
theorem runs_any (ao : Option Addr) (n cap : Nat) (l : List It) (w : World) (hD : Doc w ao n cap l) (hS : Sch w) :
    Calls Tryz.prog 138 #[.slice ao n cap] w fun e w' => (∃ v, e = .returned (.tuple #[v, .int .i64 (Dc.check l)]) ∧ w'.ownsRow w.heap.size 3 1 v (Dc.runs l).length ((Dc.runs l).map ci)) ∧ Below w.heap.size w w' := by
  have T0 := begun_txt w (.slice ao n cap) 174 3
  have HW : Hid (Calls Tryz.prog 209 #[.slice ao n cap, .func (.func 210) #[] #[.pointer (some ⟨w.heap.size, 0, none⟩), .pointer (some ⟨w.heap.size + 1, 0, none⟩)]] (begun w (.slice ao n cap) 174) fun e w' => e = .returned (.int .i64 (Dc.check l)) ∧ ∃ v, Txt w (.slice ao n cap) 174 3 v ((Dc.runs l).map ci) w') := by
    refine (walk_any ao n cap l 210 _ _ (fun k w' => Dc.check l = 0 ∧ ∃ v, Txt w (.slice ao n cap) 174 3 v ((Dc.runsTo l k).map ci) w') _ (.inr rfl) (hD.below T0.below) (hS.below T0.below) ?_ ?_).mono ?_
    · exact fun hz w' hb => ⟨hz, _, T0.beneath hb⟩
    · rintro k wr hk ⟨hz, v, hT⟩
      have h80 := Dc.check_ok hz
      obtain ⟨b, off, rfl, hA⟩ := hD.lies (by omega)
      have hkl : k < l.length := by rw [hD.len]; exact hk
      have hlen : ((Dc.runsTo l k).map ci).length ≤ 80 := by rw [List.length_map]; have := Dc.runsTo_len l k; omega
      rw [Dc.runsTo_succ]
      match k, hkl, hT, hlen with
      | 0, hkl, hT, hlen =>
        refine (runs1_zero w _ _ v wr hT hlen).mono ?_
        rintro e w' ⟨rfl, v', hT'⟩
        exact ⟨rfl, hz, v', hT'⟩
      | j + 1, hkl, hT, hlen =>
        have hj : j < l.length := by omega
        refine (runs1_succ w b off n cap (j + 1) j l _ v wr l[j] l[j + 1] rfl (List.getElem?_eq_getElem hj) (List.getElem?_eq_getElem hkl) hD.len (by rw [← hD.len]; exact h80) hA hT hlen).mono ?_
        rintro e w' ⟨rfl, v', hT'⟩
        refine ⟨rfl, hz, v', ?_⟩
        rw [Dc.runB_succ hkl]
        cases ht : Dc.turns l[j] l[j + 1]
        · rw [ht] at hT'; exact hT'
        · rw [ht] at hT'
          rw [if_pos rfl, List.map_append]
          exact hT'
    · rintro e w' ⟨rfl, h1, h2⟩
      refine ⟨rfl, ?_⟩
      by_cases hz : Dc.check l = 0
      · obtain ⟨_, v, hT⟩ := h1 hz
        refine ⟨v, ?_⟩
        unfold Dc.runs
        rw [if_pos hz, hD.len]
        exact hT
      · refine ⟨.slice none 0 0, ?_⟩
        unfold Dc.runs
        rw [if_neg hz]
        exact T0.beneath (h2 hz)
  clear T0 hD hS
  generalize Dc.check l = c at *
  generalize Dc.runs l = p at *
  go_enter Tryz.func138, Tryz.ntmps138
  go_wp2_with fail
  change Calls Tryz.prog 209 _ (begun w (.slice ao n cap) 174) _
  refine HW.out.mono ?_
  rintro e w2 ⟨rfl, v, hT⟩
  have hvar := cell_of_one hT.var
  have HO : Hid (w2.ownsRow w.heap.size 3 1 v p.length (p.map ci)) := by
    have h := hT.own
    rw [List.length_map] at h
    refine ⟨h.1, ?_⟩
    rcases h.2 with h2 | ⟨g, cap, cur, hv, hg, r⟩
    · exact .inl h2
    · exact .inr ⟨g, cap, cur, hv, by omega, r⟩
  have HB : Hid (Below w.heap.size w w2) := hT.below
  clear hT
  go_wp2
  go_ret2
  exact ⟨⟨v, rfl, HO.out⟩, HB.out⟩
end Go.Proofs.YtbhcklkbckacpaaGreatDoor

/-
  slices.Equal at two lists of items, and doc.Same.
-/
namespace Go.Proofs.YtbhcklkbckacpaaGreatDoor
open Go.RowKit

namespace Dc
def alike (x y : It) : Bool := ((x.c.toNat : Int) == (y.c.toNat : Int)) && ((x.m == y.m) && (x.l.toList == y.l.toList))
def same : List It → List It → Bool
  | [], [] => true
  | x :: s, y :: t => alike x y && same s t
  | _, _ => false
theorem same_len : ∀ (s t : List It), ¬ s.length = t.length → same s t = false
  | [], [], h => absurd rfl h
  | [], _ :: _, _ => rfl
  | _ :: _, [], _ => rfl
  | x :: s, y :: t, h => by
    rw [same, same_len s t (by simpa using h), Bool.and_false]
theorem same_step (s t : List It) (k : Nat) (h : k < s.length) (h' : k < t.length) : same (s.drop k) (t.drop k) = (alike s[k] t[k] && same (s.drop (k + 1)) (t.drop (k + 1))) := by
  rw [List.drop_eq_getElem_cons h, List.drop_eq_getElem_cons h', same]
end Dc
theorem guard36 : Tryz.prog.eqGuardType Tryz.prog.depth 39 = false := by kernel_rfl
theorem held36 : Tryz.prog.stoodInHeld 39 = false := by kernel_rfl
theorem under36 : Tryz.prog.underlying 39 = some (.struct (Tryz.prog.fieldsOf 39)) := by kernel_rfl
theorem neq_items (x y : It) (w : World) : (binOp .neq 39 (.agg #[.int .u8 x.c.toNat, .int .i64 x.m, .string x.l]) (.agg #[.int .u8 y.c.toNat, .int .i64 y.m, .string y.l])).run Tryz.prog w = .ok (.bool (!Dc.alike x y)) w := by
  rw [run_neq_struct, run_equalIn_agg w 9999 39 _ _ under36 held36]
  have hu := Tryz.underlying39
  simp [go_sem, hu, Program.fieldsOf]
  unfold Dc.alike
  by_cases h1 : (x.c.toNat : Int) = (y.c.toNat : Int)
  · by_cases h2 : x.m = y.m
    · by_cases h3 : x.l.toList = y.l.toList
      · simp [h1, h2, h3]
      · simp [h1, h2, h3]
    · simp [h1, h2]
  · simp [h1]

set_option maxRecDepth 100000 in
set_option maxHeartbeats 1600000 in
theorem equal_any (ao ao' : Option Addr) (n cap n' cap' : Nat) (l l' : List It) (w : World) (hD : Doc w ao n cap l) (hD' : Doc w ao' n' cap' l') :
    Calls Tryz.prog 16 #[.slice ao n cap, .slice ao' n' cap'] w fun e w' => e = .returned (.bool (Dc.same l l')) ∧ ∃ m, w' = w.drewN m := by
  have HD : Hid (Doc w ao n cap l) := hD
  have HD' : Hid (Doc w ao' n' cap' l') := hD'
  have hcap := hD.room
  have hbig := hD.big
  clear hD hD'
  obtain ⟨r, hr⟩ : ∃ r, Dc.same l l' = r := ⟨_, rfl⟩
  have HR : Hid (Dc.same l l' = r) := hr
  rw [hr]
  clear hr
  by_cases hnn : n = n'
  · subst hnn
    have hg := guard36
    go_enter Tryz.func16, Tryz.ntmps16
    go_wp2
    go_loopw [13] (fun i wr => ∃ k : Nat, k ≤ n ∧ i = .int .i64 k ∧ (∃ m, wr = w.drewN m) ∧ Dc.same (l.drop k) (l'.drop k) = r) (fun i _ => n - (intOf i).toNat)
    case atStart => exact ⟨0, Nat.zero_le _, rfl, ⟨0, rfl⟩, HR.out⟩
    case round =>
      obtain ⟨k, hk, rfl, ⟨m, rfl⟩, hsm⟩ := hrel
      have HM : Hid (Dc.same (l.drop k) (l'.drop k) = r) := hsm
      clear hsm
      by_cases hlt : k < n
      · obtain ⟨b, off, rfl, A0⟩ := HD.out.lies (by omega)
        obtain ⟨b', off', rfl, A0'⟩ := HD'.out.lies (by omega)
        have h1 : k < l.length := by rw [HD.out.len]; exact hlt
        have h2 : k < l'.length := by rw [HD'.out.len]; exact hlt
        obtain ⟨ha0, ha1, ha2⟩ := A0.get (List.getElem?_eq_getElem h1)
        obtain ⟨hx0, hx1, hx2⟩ := A0'.get (List.getElem?_eq_getElem h2)
        have HX : Hid (Dc.same (l.drop k) (l'.drop k) = (Dc.alike l[k] l'[k] && Dc.same (l.drop (k + 1)) (l'.drop (k + 1)))) := Dc.same_step l l' k h1 h2
        clear A0 A0'
        generalize l[k] = x at *
        generalize l'[k] = y at *
        clear h1 h2
        have hq := neq_items x y
        cases hal : Dc.alike x y
        · have hrr : r = false := by rw [← HM.out, HX.out, hal]; rfl
          subst hrr
          rw [hal] at hq
          clear hal
          go_wp2
          go_quiet (fail)
          go_wp2
          go_ret
          exact ⟨rfl, _, (World.drewN_drewN _ _ _)⟩
        · have HM2 : Hid (Dc.same (l.drop (k + 1)) (l'.drop (k + 1)) = r) := by show _ = _; rw [← HM.out, HX.out, hal, Bool.true_and]
          rw [hal] at hq
          clear hal
          go_wp2
          go_quiet (fail)
          go_wp2
          go_roundw
          case rel => exact ⟨k + 1, by omega, by go_num, ⟨_, rfl⟩, HM2.out⟩
          case measure => simp [intOf]; omega
      · have hrr : r = true := by
          rw [← HM.out, List.drop_eq_nil_of_le (by rw [HD.out.len]; omega), List.drop_eq_nil_of_le (by rw [HD'.out.len]; omega)]
          rfl
        subst hrr
        go_wp2
        go_ret
        exact ⟨rfl, m, rfl⟩
  · have hrr : r = false := HR.out.symm.trans (Dc.same_len _ _ (by rw [HD.out.len, HD'.out.len]; exact hnn))
    subst hrr
    go_enter Tryz.func16, Tryz.ntmps16
    go_wp2
    go_ret
    exact ⟨rfl, 0, rfl⟩

theorem same_any (ao ao' : Option Addr) (n cap n' cap' : Nat) (l l' : List It) (w : World) (hD : Doc w ao n cap l) (hD' : Doc w ao' n' cap' l') :
    Calls Tryz.prog 68 #[.slice ao n cap, .slice ao' n' cap'] w fun e w' => e = .returned (.bool (Dc.same l l')) ∧ ∃ m, w' = w.drewN m := by
  have HE := equal_any ao ao' n cap n' cap' l l' w hD hD'
  clear hD hD'
  generalize Dc.same l l' = r at *
  have H : Hid (Calls Tryz.prog 16 #[.slice ao n cap, .slice ao' n' cap'] w fun e w' => e = .returned (.bool r) ∧ ∃ m, w' = w.drewN m) := HE
  clear HE
  go_enter Tryz.func68, Tryz.ntmps68
  go_wp2_with fail
  refine H.out.mono ?_
  rintro e w1 ⟨rfl, m, rfl⟩
  go_wp2
  go_ret
  exact ⟨rfl, m, rfl⟩
end Go.Proofs.YtbhcklkbckacpaaGreatDoor

/-
  The document that the laws' closed facts ask about, in memory.
-/
namespace Go.Proofs.YtbhcklkbckacpaaGreatDoor
open Go.RowKit

def smallDoc : List It := [⟨97, 0, ⟨#[]⟩⟩, ⟨98, 1, ⟨#[]⟩⟩, ⟨10, 1, ⟨#[]⟩⟩, ⟨60, 0, ⟨#[104, 116, 116, 112, 58, 38]⟩⟩, ⟨10, 2, ⟨#[]⟩⟩]
theorem small_check : Dc.check smallDoc = 0 := by decide +kernel
def itCells : List It → List Value
  | [] => []
  | x :: t => .int .u8 x.c.toNat :: .int .i64 x.m :: .string x.l :: itCells t
theorem itCells_at : ∀ (l : List It) (i : Nat) (h : i < l.length), (itCells l)[i * 3]? = some (.int .u8 l[i].c.toNat) ∧ (itCells l)[i * 3 + 1]? = some (.int .i64 l[i].m) ∧ (itCells l)[i * 3 + 2]? = some (.string l[i].l)
  | [], _, h => by simp at h
  | x :: t, 0, _ => ⟨rfl, rfl, rfl⟩
  | x :: t, i + 1, h => by
    obtain ⟨h1, h2, h3⟩ := itCells_at t i (by simpa using h)
    have e : (i + 1) * 3 = i * 3 + 1 + 1 + 1 := by omega
    rw [e]
    exact ⟨h1, h2, h3⟩
theorem at_block {w : World} {b : Nat} {l : List It} {T : TypeId} {fr : Nat × Nat} (h : w.heap[b]? = some (.cells (itCells l).toArray T fr)) : At w b 0 l := by
  have hc : ∀ j, w.cell? ⟨b, j, none⟩ = (itCells l)[j]? := fun j => by
    unfold World.cell?
    rw [h]
    simp
  refine ⟨fun i hi => ?_, fun i hi => ?_, fun i hi => ?_⟩
  · rw [Nat.zero_add, hc]; exact (itCells_at l i hi).1
  · rw [Nat.zero_add, hc]; exact (itCells_at l i hi).2.1
  · rw [Nat.zero_add, hc]; exact (itCells_at l i hi).2.2
theorem At.take {w : World} {b off : Nat} {l : List It} (h : At w b off l) (k : Nat) : At w b off (l.take k) := by
  refine ⟨fun i hi => ?_, fun i hi => ?_, fun i hi => ?_⟩
  all_goals
    have h2 : i < l.length := by simp at hi; omega
    rw [List.getElem_take]
  · exact h.c i h2
  · exact h.m i h2
  · exact h.l i h2

set_option maxRecDepth 100000 in
theorem smalld_any (w : World) : Calls Tryz.prog 67 #[] w fun e w' => e = .returned (.slice (some ⟨w.heap.size, 0, none⟩) 5 5) ∧ w' = w.alloc (.cells (itCells smallDoc).toArray 39) := by
  go_enter Tryz.func67, Tryz.ntmps67
  go_wp2
  go_ret
  exact ⟨rfl, rfl⟩
theorem small_fit : Fit smallDoc := by unfold Fit; decide +kernel
theorem small_at (w : World) : Doc (w.alloc (.cells (itCells smallDoc).toArray 39)) (some ⟨w.heap.size, 0, none⟩) 5 5 smallDoc :=
  ⟨small_fit, rfl, Nat.le_refl _, by decide, fun _ => ⟨_, _, rfl, at_block (heap_alloc_new w _)⟩⟩
theorem smallD (w : World) : Calls Tryz.prog 67 #[] w fun e w' => e = .returned (.slice (some ⟨w.heap.size, 0, none⟩) 5 5) ∧ Doc w' (some ⟨w.heap.size, 0, none⟩) 5 5 smallDoc ∧ Below w.heap.size w w' :=
  (smalld_any w).mono fun _ _ ⟨he, hw⟩ => ⟨he, by rw [hw]; exact small_at w, by rw [hw]; exact (Below.refl _ _).alloc (Nat.le_refl _) _⟩
end Go.Proofs.YtbhcklkbckacpaaGreatDoor

/-
  slices.Grow of nothing, and slices.Concat of two lists of items.
-/
namespace Go.Proofs.YtbhcklkbckacpaaGreatDoor
open Go.RowKit

theorem Tryz.info39 : (Tryz.prog.info? 39).map (fun i => (i.zero, i.size, i.bytes)) = some (some (.agg #[.int .u8 0, .int .i64 0, .string ⟨#[]⟩]), 3, 32) := by kernel_rfl

theorem itCells_app : ∀ l l' : List It, itCells (l ++ l') = itCells l ++ itCells l'
  | [], _ => rfl
  | x :: t, l' => by
    show _ :: _ :: _ :: itCells (t ++ l') = _
    rw [itCells_app t l']
    rfl
theorem itCells_one : ∀ l : List It, ∀ u ∈ itCells l, u.oneCell' = true
  | [], u, hu => by simp [itCells] at hu
  | x :: t, u, hu => by
    simp only [itCells, List.mem_cons] at hu
    rcases hu with rfl | rfl | rfl | hu
    · rfl
    · rfl
    · rfl
    · exact itCells_one t u hu
theorem own_at {w : World} {B0 g cap n : Nat} {l : List It} (h : w.ownsRow B0 39 3 (.slice (some ⟨g, 0, none⟩) n cap) n (itCells l)) : At w g 0 l := by
  have hc : ∀ j u, (itCells l)[j]? = some u → w.cell? ⟨g, 0 + j, none⟩ = some u := fun j u hu => by
    have := h.cells (g := g) rfl j u hu
    have e : (⟨g, 0, none⟩ : Addr).add j = ⟨g, 0 + j, none⟩ := by unfold Addr.add; split <;> simp_all
    rw [e] at this
    exact this
  refine ⟨fun i hi => hc _ _ (itCells_at l i hi).1, fun i hi => ?_, fun i hi => ?_⟩
  · rw [Nat.add_assoc]; exact hc _ _ (itCells_at l i hi).2.1
  · rw [Nat.add_assoc]; exact hc _ _ (itCells_at l i hi).2.2

end Go.Proofs.YtbhcklkbckacpaaGreatDoor
