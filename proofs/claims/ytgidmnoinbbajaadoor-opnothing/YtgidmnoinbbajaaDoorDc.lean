/-
  Chapter 3's items: what an item is in memory, and what package doc tells of one.
-/
import Derived.Test.YtgidmnoinbbajaaDoorMayb
import Derived.WalkSpells
namespace Go.Proofs.YtgidmnoinbbajaaDoor
open Go.RowKit
structure It where
  c : UInt8
  m : Int
  l : ByteArray
namespace Dc
def ends (x : It) : Bool := (x.c.toNat : Int) == 10
def isChar (x : It) : Bool := decide (32 ≤ (x.c.toNat : Int)) && decide ((x.c.toNat : Int) ≤ 126)
def marks (x : It) : Bool := decide (0 ≤ x.m) && decide (x.m ≤ 3)
def link (x : It) : Bool := x.l.toList.isEmpty || (!ends x && Lk.may x.l.data.toList)
def err (x : It) : Int := if !ends x && !isChar x then 1 else if !marks x then 3 else if !link x then 4 else 0
end Dc

theorem ends_any (x : It) (w : World) : Calls Tryd.prog 45 #[.agg #[.int .u8 x.c.toNat, .int .i64 x.m, .string x.l]] w fun e w' => e = .returned (.bool (Dc.ends x)) ∧ Below w.heap.size w w' := by
  go_enter Tryd.func45, Tryd.ntmps45
  go_wp2
  go_ret
  exact ⟨rfl, (Below.refl _ _).alloc (Nat.le_refl _) _⟩
theorem isch_any (x : It) (w : World) : Calls Tryd.prog 78 #[.agg #[.int .u8 x.c.toNat, .int .i64 x.m, .string x.l]] w fun e w' => e = .returned (.bool (Dc.isChar x)) ∧ Below w.heap.size w w' := by
  by_cases h : 32 ≤ (x.c.toNat : Int)
  · have hr : Dc.isChar x = decide ((x.c.toNat : Int) ≤ 126) := by unfold Dc.isChar; rw [decide_eq_true h]; rfl
    rw [hr]
    clear hr
    go_enter Tryd.func78, Tryd.ntmps78
    go_wp2
    go_ret
    exact ⟨rfl, (Below.refl _ _).alloc (Nat.le_refl _) _⟩
  · have hr : Dc.isChar x = false := by unfold Dc.isChar; rw [decide_eq_false h]; rfl
    rw [hr]
    clear hr
    go_enter Tryd.func78, Tryd.ntmps78
    go_wp2
    go_ret
    exact ⟨rfl, (Below.refl _ _).alloc (Nat.le_refl _) _⟩

/-- A call that is handed an item lays it in a block of its own. -/
def boxed (x : It) (w : World) : World := w.alloc (.cells #[.int .u8 x.c.toNat, .int .i64 x.m, .string x.l] 38)
theorem boxed_below (x : It) (w : World) : Below w.heap.size w (boxed x w) := (Below.refl _ _).alloc (Nat.le_refl _) _
structure Boxed (b : Nat) (x : It) (w : World) : Prop where
  c : w.cell? ⟨b, 0, none⟩ = some (.int .u8 x.c.toNat)
  m : w.cell? ⟨b, 1, none⟩ = some (.int .i64 x.m)
  l : w.cell? ⟨b, 2, none⟩ = some (.string x.l)
theorem cell_lt {w : World} {a : Addr} {v : Value} (h : w.cell? a = some v) : a.block < w.heap.size := by
  unfold World.cell? at h
  split at h
  · rename_i hh; exact (Array.getElem?_eq_some_iff.1 hh).1
  · cases h
theorem cell_below {w w' : World} {a : Addr} {v : Value} (h : w.cell? a = some v) (hb : Below w.heap.size w w') : w'.cell? a = some v :=
  (hb.cell (cell_lt h)).trans h
theorem Boxed.below {b : Nat} {x : It} {w w' : World} (h : Boxed b x w) (hb : Below w.heap.size w w') : Boxed b x w' :=
  ⟨cell_below h.c hb, cell_below h.m hb, cell_below h.l hb⟩
theorem boxed_at (x : It) (w : World) : Boxed w.heap.size x (boxed x w) := by
  have h : (boxed x w).heap[w.heap.size]? = some (.cells #[.int .u8 x.c.toNat, .int .i64 x.m, .string x.l] 38) := heap_alloc_new w _
  refine ⟨?_, ?_, ?_⟩ <;> (unfold World.cell?; rw [h]; rfl)

set_option maxHeartbeats 800000 in
theorem mayl_any (x : It) (w : World) (hS : Sch w) (hl : x.l.size ≤ 9223372036854775807) : Calls Tryd.prog 79 #[.agg #[.int .u8 x.c.toNat, .int .i64 x.m, .string x.l]] w fun e w' => e = .returned (.bool (Dc.link x)) ∧ Below w.heap.size w w' := by
  have HS : Hid (Sch (boxed x w)) := hS.below (boxed_below x w)
  clear hS
  have H1 : Hid (Below w.heap.size w (boxed x w)) := boxed_below x w
  have HB : Hid (Boxed w.heap.size x (boxed x w)) := boxed_at x w
  cases h0 : x.l.toList.isEmpty
  · have hr : Dc.link x = (!Dc.ends x && Lk.may x.l.data.toList) := by unfold Dc.link; rw [h0]; rfl
    rw [hr]
    clear hr
    cases he : Dc.ends x
    · go_enter Tryd.func79, Tryd.ntmps79
      go_wp2_with fail
      change Calls Tryd.prog 45 _ (boxed x w) _
      refine (ends_any x _).mono ?_
      rintro e w1 ⟨rfl, hb⟩
      rw [he]
      have hc := (HB.out.below hb).l
      have HS1 : Hid (Sch w1) := HS.out.below hb
      have H2 : Hid (Below w.heap.size w w1) := H1.out.trans (hb.mono H1.out.size)
      clear hb
      go_wp2_with fail
      refine (may_any x.l _ hl HS1.out).mono ?_
      rintro e w2 ⟨rfl, hb⟩
      have H3 : Hid (Below w.heap.size w w2) := H2.out.trans (hb.mono H2.out.size)
      clear hb
      go_wp2
      go_ret
      exact ⟨rfl, H3.out⟩
    · go_enter Tryd.func79, Tryd.ntmps79
      go_wp2_with fail
      change Calls Tryd.prog 45 _ (boxed x w) _
      refine (ends_any x _).mono ?_
      rintro e w1 ⟨rfl, hb⟩
      rw [he]
      have H2 : Hid (Below w.heap.size w w1) := H1.out.trans (hb.mono H1.out.size)
      clear hb
      go_wp2
      go_ret
      exact ⟨rfl, H2.out⟩
  · have hr : Dc.link x = true := by unfold Dc.link; rw [h0]; rfl
    rw [hr]
    clear hr
    go_enter Tryd.func79, Tryd.ntmps79
    go_wp2
    go_ret
    exact ⟨rfl, H1.out⟩

theorem err_text {x : It} (h : Dc.ends x = false) (h2 : Dc.isChar x = false) : Dc.err x = 1 := by unfold Dc.err; rw [h, h2]; rfl
theorem err_rest {x : It} (h : Dc.ends x = true ∨ Dc.isChar x = true) : Dc.err x = if !Dc.marks x then 3 else if !Dc.link x then 4 else 0 := by
  unfold Dc.err
  rcases h with h | h <;> rw [h] <;> simp
theorem err_marks {x : It} (h : Dc.ends x = true ∨ Dc.isChar x = true) (hm : x.m < 0 ∨ 3 < x.m) : Dc.err x = 3 := by
  rw [err_rest h]
  have : Dc.marks x = false := by unfold Dc.marks; simp; omega
  rw [this]; rfl
theorem err_link {x : It} (h : Dc.ends x = true ∨ Dc.isChar x = true) (h0 : 0 ≤ x.m) (h3 : x.m ≤ 3) : Dc.err x = if Dc.link x then 0 else 4 := by
  rw [err_rest h]
  have : Dc.marks x = true := by unfold Dc.marks; simp; omega
  rw [this]
  cases Dc.link x <;> rfl

set_option maxHeartbeats 3200000 in
theorem item_any (x : It) (w : World) (hS : Sch w) (hl : x.l.size ≤ 9223372036854775807) : Calls Tryd.prog 63 #[.agg #[.int .u8 x.c.toNat, .int .i64 x.m, .string x.l]] w fun e w' => e = .returned (.int .i64 (Dc.err x)) ∧ Below w.heap.size w w' := by
  have HS : Hid (Sch (boxed x w)) := hS.below (boxed_below x w)
  clear hS
  have H1 : Hid (Below w.heap.size w (boxed x w)) := boxed_below x w
  have HB : Hid (Boxed w.heap.size x (boxed x w)) := boxed_at x w
  obtain ⟨r, hr⟩ : ∃ r, Dc.err x = r := ⟨_, rfl⟩
  have HR : Hid (Dc.err x = r) := hr
  rw [hr]
  clear hr
  cases he : Dc.ends x
  · cases hc : Dc.isChar x
    · have : r = 1 := HR.out.symm.trans (err_text he hc)
      subst this
      go_enter Tryd.func63, Tryd.ntmps63
      go_wp2_with fail
      change Calls Tryd.prog 45 _ (boxed x w) _
      refine (ends_any x _).mono ?_
      rintro e w1 ⟨rfl, hb⟩
      rw [he]
      have B2 := HB.out.below hb
      have hc0 := B2.c
      have hc1 := B2.m
      have hc2 := B2.l
      have HB2 : Hid (Boxed w.heap.size x w1) := B2
      clear B2
      have HS2 : Hid (Sch w1) := HS.out.below hb
      have H2 : Hid (Below w.heap.size w w1) := H1.out.trans (hb.mono H1.out.size)
      clear hb
      go_wp2_with fail
      refine (isch_any x _).mono ?_
      rintro e w2 ⟨rfl, hb⟩
      rw [hc]
      have B3 := HB2.out.below hb
      have hd0 := B3.c
      have hd1 := B3.m
      have hd2 := B3.l
      clear B3
      have HS3 : Hid (Sch w2) := HS2.out.below hb
      have H3 : Hid (Below w.heap.size w w2) := H2.out.trans (hb.mono H2.out.size)
      clear hb
      go_wp2
      go_ret
      exact ⟨rfl, H3.out⟩
    · have ok : Dc.ends x = true ∨ Dc.isChar x = true := .inr hc
      by_cases hm : x.m < 0
      · have : r = 3 := HR.out.symm.trans (err_marks ok (.inl hm))
        subst this
        clear ok
        go_enter Tryd.func63, Tryd.ntmps63
        go_wp2_with fail
        change Calls Tryd.prog 45 _ (boxed x w) _
        refine (ends_any x _).mono ?_
        rintro e w1 ⟨rfl, hb⟩
        rw [he]
        have B2 := HB.out.below hb
        have hc0 := B2.c
        have hc1 := B2.m
        have hc2 := B2.l
        have HB2 : Hid (Boxed w.heap.size x w1) := B2
        clear B2
        have HS2 : Hid (Sch w1) := HS.out.below hb
        have H2 : Hid (Below w.heap.size w w1) := H1.out.trans (hb.mono H1.out.size)
        clear hb
        go_wp2_with fail
        refine (isch_any x _).mono ?_
        rintro e w2 ⟨rfl, hb⟩
        rw [hc]
        have B3 := HB2.out.below hb
        have hd0 := B3.c
        have hd1 := B3.m
        have hd2 := B3.l
        clear B3
        have HS3 : Hid (Sch w2) := HS2.out.below hb
        have H3 : Hid (Below w.heap.size w w2) := H2.out.trans (hb.mono H2.out.size)
        clear hb
        go_wp2
        go_ret
        exact ⟨rfl, H3.out⟩
      · by_cases hm3 : 3 < x.m
        · have : r = 3 := HR.out.symm.trans (err_marks ok (.inr hm3))
          subst this
          clear ok
          go_enter Tryd.func63, Tryd.ntmps63
          go_wp2_with fail
          change Calls Tryd.prog 45 _ (boxed x w) _
          refine (ends_any x _).mono ?_
          rintro e w1 ⟨rfl, hb⟩
          rw [he]
          have B2 := HB.out.below hb
          have hc0 := B2.c
          have hc1 := B2.m
          have hc2 := B2.l
          have HB2 : Hid (Boxed w.heap.size x w1) := B2
          clear B2
          have HS2 : Hid (Sch w1) := HS.out.below hb
          have H2 : Hid (Below w.heap.size w w1) := H1.out.trans (hb.mono H1.out.size)
          clear hb
          go_wp2_with fail
          refine (isch_any x _).mono ?_
          rintro e w2 ⟨rfl, hb⟩
          rw [hc]
          have B3 := HB2.out.below hb
          have hd0 := B3.c
          have hd1 := B3.m
          have hd2 := B3.l
          clear B3
          have HS3 : Hid (Sch w2) := HS2.out.below hb
          have H3 : Hid (Below w.heap.size w w2) := H2.out.trans (hb.mono H2.out.size)
          clear hb
          go_wp2
          go_ret
          exact ⟨rfl, H3.out⟩
        · have hrl := HR.out.symm.trans (err_link ok (by omega) (by omega))
          clear ok
          cases hk : Dc.link x
          · rw [hk] at hrl
            have : r = 4 := hrl
            subst this
            clear hrl
            go_enter Tryd.func63, Tryd.ntmps63
            go_wp2_with fail
            change Calls Tryd.prog 45 _ (boxed x w) _
            refine (ends_any x _).mono ?_
            rintro e w1 ⟨rfl, hb⟩
            rw [he]
            have B2 := HB.out.below hb
            have hc0 := B2.c
            have hc1 := B2.m
            have hc2 := B2.l
            have HB2 : Hid (Boxed w.heap.size x w1) := B2
            clear B2
            have HS2 : Hid (Sch w1) := HS.out.below hb
            have H2 : Hid (Below w.heap.size w w1) := H1.out.trans (hb.mono H1.out.size)
            clear hb
            go_wp2_with fail
            refine (isch_any x _).mono ?_
            rintro e w2 ⟨rfl, hb⟩
            rw [hc]
            have B3 := HB2.out.below hb
            have hd0 := B3.c
            have hd1 := B3.m
            have hd2 := B3.l
            clear B3
            have HS3 : Hid (Sch w2) := HS2.out.below hb
            have H3 : Hid (Below w.heap.size w w2) := H2.out.trans (hb.mono H2.out.size)
            clear hb
            go_wp2_with fail
            refine (mayl_any x _ HS3.out hl).mono ?_
            rintro e w4 ⟨rfl, hb⟩
            rw [hk]
            have H4 : Hid (Below w.heap.size w w4) := H3.out.trans (hb.mono H3.out.size)
            clear hb
            go_wp2
            go_ret
            exact ⟨rfl, H4.out⟩
          · rw [hk] at hrl
            have : r = 0 := hrl
            subst this
            clear hrl
            go_enter Tryd.func63, Tryd.ntmps63
            go_wp2_with fail
            change Calls Tryd.prog 45 _ (boxed x w) _
            refine (ends_any x _).mono ?_
            rintro e w1 ⟨rfl, hb⟩
            rw [he]
            have B2 := HB.out.below hb
            have hc0 := B2.c
            have hc1 := B2.m
            have hc2 := B2.l
            have HB2 : Hid (Boxed w.heap.size x w1) := B2
            clear B2
            have HS2 : Hid (Sch w1) := HS.out.below hb
            have H2 : Hid (Below w.heap.size w w1) := H1.out.trans (hb.mono H1.out.size)
            clear hb
            go_wp2_with fail
            refine (isch_any x _).mono ?_
            rintro e w2 ⟨rfl, hb⟩
            rw [hc]
            have B3 := HB2.out.below hb
            have hd0 := B3.c
            have hd1 := B3.m
            have hd2 := B3.l
            clear B3
            have HS3 : Hid (Sch w2) := HS2.out.below hb
            have H3 : Hid (Below w.heap.size w w2) := H2.out.trans (hb.mono H2.out.size)
            clear hb
            go_wp2_with fail
            refine (mayl_any x _ HS3.out hl).mono ?_
            rintro e w4 ⟨rfl, hb⟩
            rw [hk]
            have H4 : Hid (Below w.heap.size w w4) := H3.out.trans (hb.mono H3.out.size)
            clear hb
            go_wp2
            go_ret
            exact ⟨rfl, H4.out⟩
  · have ok : Dc.ends x = true ∨ Dc.isChar x = true := .inl he
    by_cases hm : x.m < 0
    · have : r = 3 := HR.out.symm.trans (err_marks ok (.inl hm))
      subst this
      clear ok
      go_enter Tryd.func63, Tryd.ntmps63
      go_wp2_with fail
      change Calls Tryd.prog 45 _ (boxed x w) _
      refine (ends_any x _).mono ?_
      rintro e w1 ⟨rfl, hb⟩
      rw [he]
      have B2 := HB.out.below hb
      have hc0 := B2.c
      have hc1 := B2.m
      have hc2 := B2.l
      have HB2 : Hid (Boxed w.heap.size x w1) := B2
      clear B2
      have HS2 : Hid (Sch w1) := HS.out.below hb
      have H2 : Hid (Below w.heap.size w w1) := H1.out.trans (hb.mono H1.out.size)
      clear hb
      go_wp2
      go_ret
      exact ⟨rfl, H2.out⟩
    · by_cases hm3 : 3 < x.m
      · have : r = 3 := HR.out.symm.trans (err_marks ok (.inr hm3))
        subst this
        clear ok
        go_enter Tryd.func63, Tryd.ntmps63
        go_wp2_with fail
        change Calls Tryd.prog 45 _ (boxed x w) _
        refine (ends_any x _).mono ?_
        rintro e w1 ⟨rfl, hb⟩
        rw [he]
        have B2 := HB.out.below hb
        have hc0 := B2.c
        have hc1 := B2.m
        have hc2 := B2.l
        have HB2 : Hid (Boxed w.heap.size x w1) := B2
        clear B2
        have HS2 : Hid (Sch w1) := HS.out.below hb
        have H2 : Hid (Below w.heap.size w w1) := H1.out.trans (hb.mono H1.out.size)
        clear hb
        go_wp2
        go_ret
        exact ⟨rfl, H2.out⟩
      · have hrl := HR.out.symm.trans (err_link ok (by omega) (by omega))
        clear ok
        cases hk : Dc.link x
        · rw [hk] at hrl
          have : r = 4 := hrl
          subst this
          clear hrl
          go_enter Tryd.func63, Tryd.ntmps63
          go_wp2_with fail
          change Calls Tryd.prog 45 _ (boxed x w) _
          refine (ends_any x _).mono ?_
          rintro e w1 ⟨rfl, hb⟩
          rw [he]
          have B2 := HB.out.below hb
          have hc0 := B2.c
          have hc1 := B2.m
          have hc2 := B2.l
          have HB2 : Hid (Boxed w.heap.size x w1) := B2
          clear B2
          have HS2 : Hid (Sch w1) := HS.out.below hb
          have H2 : Hid (Below w.heap.size w w1) := H1.out.trans (hb.mono H1.out.size)
          clear hb
          go_wp2_with fail
          refine (mayl_any x _ HS2.out hl).mono ?_
          rintro e w4 ⟨rfl, hb⟩
          rw [hk]
          have H4 : Hid (Below w.heap.size w w4) := H2.out.trans (hb.mono H2.out.size)
          clear hb
          go_wp2
          go_ret
          exact ⟨rfl, H4.out⟩
        · rw [hk] at hrl
          have : r = 0 := hrl
          subst this
          clear hrl
          go_enter Tryd.func63, Tryd.ntmps63
          go_wp2_with fail
          change Calls Tryd.prog 45 _ (boxed x w) _
          refine (ends_any x _).mono ?_
          rintro e w1 ⟨rfl, hb⟩
          rw [he]
          have B2 := HB.out.below hb
          have hc0 := B2.c
          have hc1 := B2.m
          have hc2 := B2.l
          have HB2 : Hid (Boxed w.heap.size x w1) := B2
          clear B2
          have HS2 : Hid (Sch w1) := HS.out.below hb
          have H2 : Hid (Below w.heap.size w w1) := H1.out.trans (hb.mono H1.out.size)
          clear hb
          go_wp2_with fail
          refine (mayl_any x _ HS2.out hl).mono ?_
          rintro e w4 ⟨rfl, hb⟩
          rw [hk]
          have H4 : Hid (Below w.heap.size w w4) := H2.out.trans (hb.mono H2.out.size)
          clear hb
          go_wp2
          go_ret
          exact ⟨rfl, H4.out⟩
end Go.Proofs.YtgidmnoinbbajaaDoor
