/-
  doc.turns: whether an item is of another run than the one ahead of it.
-/
import Derived.Test.YtdlacdoakkklaabDoorDt
import Derived.Deep.RegionHeld3
namespace Go.Proofs.YtdlacdoakkklaabDoor
open Go.RowKit

def It.zero : It := ⟨0, 0, ⟨#[]⟩⟩
namespace Dc
def turns (a x : It) : Bool := ends a || ends x || (x.m != a.m) || !(x.l.toList == a.l.toList)
end Dc

set_option maxRecDepth 100000 in
set_option maxHeartbeats 1600000 in
theorem turns_any (a x : It) (w : World) : Calls Tryd.prog 30 #[.agg #[.int .u8 a.c.toNat, .int .i64 a.m, .string a.l], .agg #[.int .u8 x.c.toNat, .int .i64 x.m, .string x.l]] w fun e w' => e = .returned (.bool (Dc.turns a x)) ∧ Below w.heap.size w w' := by
  have H1 : Hid (Below w.heap.size w (boxed x (boxed a w))) := (boxed_below a w).trans ((boxed_below x _).mono (boxed_below a w).size)
  have HA : Hid (Boxed w.heap.size a (boxed x (boxed a w))) := (boxed_at a w).below (boxed_below x _)
  have HX : Hid (Boxed (w.heap.size + 1) x (boxed x (boxed a w))) := by
    have := boxed_at x (boxed a w)
    have e : (boxed a w).heap.size = w.heap.size + 1 := World.size_alloc ..
    rw [e] at this
    exact this
  cases ha : Dc.ends a
  · cases hx : Dc.ends x
    · cases hm : (x.m != a.m)
      · cases hl : (x.l.toList == a.l.toList)
        all_goals
          have hr : Dc.turns a x = (!(x.l.toList == a.l.toList)) := by unfold Dc.turns; rw [ha, hx, hm]; rfl
          rw [hl] at hr
          rw [hr]
          clear hr
          go_enter Tryd.func30, Tryd.ntmps30
          go_wp2_with fail
          change Calls Tryd.prog 53 _ (boxed x (boxed a w)) _
          refine (ends_any a _).mono ?_
          rintro e w1 ⟨rfl, hb⟩
          rw [ha]
          have A2 : Hid (Boxed w.heap.size a w1) := HA.out.below hb
          have X2 : Hid (Boxed (w.heap.size + 1) x w1) := HX.out.below hb
          have c1 := X2.out.c
          have c2 := X2.out.m
          have c3 := X2.out.l
          have H2 : Hid (Below w.heap.size w w1) := H1.out.trans (hb.mono H1.out.size)
          clear hb
          go_wp2_with fail
          refine (ends_any x _).mono ?_
          rintro e w2 ⟨rfl, hb⟩
          rw [hx]
          have d1 := (A2.out.below hb).m
          have d2 := (A2.out.below hb).l
          have d3 := (X2.out.below hb).m
          have d4 := (X2.out.below hb).l
          have H3 : Hid (Below w.heap.size w w2) := H2.out.trans (hb.mono H2.out.size)
          clear hb
          go_wp2
          go_ret
          exact ⟨rfl, H3.out⟩
      · have hr : Dc.turns a x = true := by unfold Dc.turns; rw [hm]; simp
        rw [hr]
        clear hr
        go_enter Tryd.func30, Tryd.ntmps30
        go_wp2_with fail
        change Calls Tryd.prog 53 _ (boxed x (boxed a w)) _
        refine (ends_any a _).mono ?_
        rintro e w1 ⟨rfl, hb⟩
        rw [ha]
        have A2 : Hid (Boxed w.heap.size a w1) := HA.out.below hb
        have X2 : Hid (Boxed (w.heap.size + 1) x w1) := HX.out.below hb
        have c1 := X2.out.c
        have c2 := X2.out.m
        have c3 := X2.out.l
        have H2 : Hid (Below w.heap.size w w1) := H1.out.trans (hb.mono H1.out.size)
        clear hb
        go_wp2_with fail
        refine (ends_any x _).mono ?_
        rintro e w2 ⟨rfl, hb⟩
        rw [hx]
        have d1 := (A2.out.below hb).m
        have d3 := (X2.out.below hb).m
        have H3 : Hid (Below w.heap.size w w2) := H2.out.trans (hb.mono H2.out.size)
        clear hb
        go_wp2
        go_ret
        exact ⟨rfl, H3.out⟩
    · have hr : Dc.turns a x = true := by unfold Dc.turns; rw [hx]; simp
      rw [hr]
      clear hr
      go_enter Tryd.func30, Tryd.ntmps30
      go_wp2_with fail
      change Calls Tryd.prog 53 _ (boxed x (boxed a w)) _
      refine (ends_any a _).mono ?_
      rintro e w1 ⟨rfl, hb⟩
      rw [ha]
      have X2 : Hid (Boxed (w.heap.size + 1) x w1) := HX.out.below hb
      have c1 := X2.out.c
      have c2 := X2.out.m
      have c3 := X2.out.l
      have H2 : Hid (Below w.heap.size w w1) := H1.out.trans (hb.mono H1.out.size)
      clear hb
      go_wp2_with fail
      refine (ends_any x _).mono ?_
      rintro e w2 ⟨rfl, hb⟩
      rw [hx]
      have H3 : Hid (Below w.heap.size w w2) := H2.out.trans (hb.mono H2.out.size)
      clear hb
      go_wp2
      go_ret
      exact ⟨rfl, H3.out⟩
  · have hr : Dc.turns a x = true := by unfold Dc.turns; rw [ha]; simp
    rw [hr]
    clear hr
    go_enter Tryd.func30, Tryd.ntmps30
    go_wp2_with fail
    change Calls Tryd.prog 53 _ (boxed x (boxed a w)) _
    refine (ends_any a _).mono ?_
    rintro e w1 ⟨rfl, hb⟩
    rw [ha]
    have H2 : Hid (Below w.heap.size w w1) := H1.out.trans (hb.mono H1.out.size)
    clear hb
    go_wp2
    go_ret
    exact ⟨rfl, H2.out⟩
end Go.Proofs.YtdlacdoakkklaabDoor
