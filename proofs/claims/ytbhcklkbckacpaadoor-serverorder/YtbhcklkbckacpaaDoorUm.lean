/-
  The laws' closed fact of two operations that put at one place.
-/
import Derived.Test.YtbhcklkbckacpaaDoorG9
import Derived.Test.YtbhcklkbckacpaaDoorOs
namespace Go.Proofs.YtbhcklkbckacpaaDoor
open Go.RowKit
def o3V (g : Nat) (c : UInt8) : List PV := [⟨1, 1, none, 0, 0, [], 0, 0, false, ⟨#[]⟩⟩, ⟨2, 0, some ⟨g, 0, none⟩, 1, 1, [⟨c, 0, ⟨#[]⟩⟩], 0, 0, false, ⟨#[]⟩⟩, ⟨1, 4, none, 0, 0, [], 0, 0, false, ⟨#[]⟩⟩]
def o3P (c : UInt8) : List Ac.Pt := [⟨1, 1, [], 0, 0, false, ⟨#[]⟩⟩, ⟨2, 0, [⟨c, 0, ⟨#[]⟩⟩], 0, 0, false, ⟨#[]⟩⟩, ⟨1, 4, [], 0, 0, false, ⟨#[]⟩⟩]
theorem o3_pt (g : Nat) (c : UInt8) : (o3V g c).map PV.pt = o3P c := rfl
def o3W (c : UInt8) (w : World) : World := (w.alloc (.cells #[.int .u8 c.toNat, .int .i64 0, .string ⟨#[]⟩] 79)).alloc (.cells #[.int .i64 1, .int .i64 1, .slice none 0 0, .int .i64 0, .int .i64 0, .bool false, .string ⟨#[]⟩, .int .i64 2, .int .i64 0, .slice (some ⟨w.heap.size, 0, none⟩) 1 1, .int .i64 0, .int .i64 0, .bool false, .string ⟨#[]⟩, .int .i64 1, .int .i64 4, .slice none 0 0, .int .i64 0, .int .i64 0, .bool false, .string ⟨#[]⟩] 77)
theorem o3_below (c : UInt8) (w : World) : Below w.heap.size w (o3W c w) := ((Below.refl _ _).alloc (Nat.le_refl _) _).alloc (by simp) _
theorem o3_ops (c : UInt8) (w : World) : Ops (o3W c w) (some ⟨w.heap.size + 1, 0, none⟩) 3 3 (o3V w.heap.size c) := by
  have h1 : Blk (w.alloc (.cells #[.int .u8 c.toNat, .int .i64 0, .string ⟨#[]⟩] 79)) w.heap.size (itCells [⟨c, 0, ⟨#[]⟩⟩]) 79 := Blk.new w _ _
  have hP : Blk (o3W c w) (w.heap.size + 1) (pvCells (o3V w.heap.size c)) 77 := Blk.newAt _ _ _ _ (World.size_alloc ..)
  have hI : Blk (o3W c w) w.heap.size (itCells [⟨c, 0, ⟨#[]⟩⟩]) 79 := h1.alloc _
  have hA : At (o3W c w) w.heap.size 0 [⟨c, 0, ⟨#[]⟩⟩] := at_block hI
  refine ⟨⟨rfl, Nat.le_refl _, by decide, fun _ => ⟨_, 0, rfl, fun j u hu => ?_⟩⟩, fun v hv => ?_⟩
  · rw [Nat.zero_add]
    exact (hP.cell j).trans hu
  · simp only [o3V, List.mem_cons, List.not_mem_nil, or_false] at hv
    rcases hv with rfl | rfl | rfl
    · exact ⟨doc_none _, by decide⟩
    · exact ⟨⟨fun x hx => by rw [List.mem_singleton.1 hx]; exact Nat.zero_le _, rfl, Nat.le_refl _, (by decide : 1 ≤ 9223372036854775807), fun _ => ⟨_, 0, rfl, hA⟩⟩, Nat.zero_le _⟩
    · exact ⟨doc_none _, by decide⟩
set_option maxRecDepth 100000 in
set_option maxHeartbeats 1600000 in
theorem putc_any (c : UInt8) (w : World) : Calls Tryd.prog 43 #[.int .u8 c.toNat] w fun e w' => e = .returned (.slice (some ⟨w.heap.size + 1, 0, none⟩) 3 3) ∧ Ops w' (some ⟨w.heap.size + 1, 0, none⟩) 3 3 (o3V w.heap.size c) ∧ Below w.heap.size w w' := by
  have HO : Hid (Ops (o3W c w) (some ⟨w.heap.size + 1, 0, none⟩) 3 3 (o3V w.heap.size c)) := o3_ops c w
  have HB : Hid (Below w.heap.size w (o3W c w)) := o3_below c w
  go_enter Tryd.func43, Tryd.ntmps43
  go_wp2
  go_ret
  exact ⟨rfl, HO.out, HB.out⟩
def tX : List Ac.Pt := Ac.trnX (o3P 120) (o3P 121)
def tY : List Ac.Pt := Ac.trnY (o3P 120) (o3P 121)
def tJ : List Ac.Pt := Ac.jonX (o3P 120) tY
theorem t_E : Ac.trnE (o3P 120) (o3P 121) = 0 := by decide +kernel
theorem t_x : tX.map (fun p => p.n) = [1, 0, 5] := by decide +kernel
theorem t_y : tY.map (fun p => p.n) = [2, 0, 4] := by decide +kernel
theorem t_j : Ac.jonE (o3P 120) tY = 0 := by decide +kernel
theorem t_f : Ac.fitE smallDoc tJ = 0 := by decide +kernel
theorem t_1 : (Ac.done smallDoc tJ)[1]?.map (fun x => x.c) = some 120 := by decide +kernel
theorem t_2 : (Ac.done smallDoc tJ)[2]?.map (fun x => x.c) = some 121 := by decide +kernel

set_option maxRecDepth 100000 in
set_option maxHeartbeats 3200000 in
theorem turnedL_any (w : World) (hS : Sch w) : Calls Tryd.prog 13 #[] w fun e w' => e = .returned (.bool true) ∧ Below w.heap.size w w' := by
  have HS : Hid (∀ w', Below w.heap.size w w' → Sch w') := fun w' h => hS.below h
  have H0 : Hid (Below w.heap.size w w) := Below.refl _ _
  clear hS
  go_enter Tryd.func13, Tryd.ntmps13
  go_wp2_with fail
  refine (putc_any 120 w).mono ?_
  rintro e w1 ⟨rfl, hO1, hb⟩
  have H1 : Hid (Below w.heap.size w w1) := hb
  have HO1 : Hid (Ops w1 (some ⟨w.heap.size + 1, 0, none⟩) 3 3 (o3V w.heap.size 120)) := hO1
  clear hb hO1
  go_wp2_with fail
  refine (putc_any 121 w1).mono ?_
  rintro e w2 ⟨rfl, hO2, hb⟩
  have H2 : Hid (Below w.heap.size w w2) := H1.out.trans (hb.mono H1.out.size)
  have CT : Hid (Calls Tryd.prog 9 #[.slice (some ⟨w.heap.size + 1, 0, none⟩) 3 3, .slice (some ⟨w1.heap.size + 1, 0, none⟩) 3 3] w2 fun e w' => TurnP tX tY 0 e w' ∧ Below w2.heap.size w2 w') := by
    have := turn_any _ _ 3 3 3 3 _ _ w2 (HO1.out.below hb) hO2 (HS.out _ H2.out)
    rw [o3_pt, o3_pt, t_E] at this
    exact this
  clear hb hO2
  go_wp2_with fail
  refine CT.out.mono ?_
  rintro e w3 ⟨⟨xa, xn, xc, xs, ya, yn, yc, ys, rfl, oX, oY, pX, pY⟩, hb⟩
  have H3 : Hid (Below w.heap.size w w3) := H2.out.trans (hb.mono H2.out.size)
  have HX3 : Hid (Ops w3 xa xn xc xs) := oX
  have HY3 : Hid (Ops w3 ya yn yc ys) := oY
  have HPX : Hid (xs.map PV.pt = tX) := pX
  have HPY : Hid (ys.map PV.pt = tY) := pY
  clear hb oX oY pX pY CT
  go_wp2_with fail
  refine (putc_any 120 w3).mono ?_
  rintro e w4 ⟨rfl, hO4, hb⟩
  have H4 : Hid (Below w.heap.size w w4) := H3.out.trans (hb.mono H3.out.size)
  have HX4 : Hid (Ops w4 xa xn xc xs) := HX3.out.below hb
  have HY4 : Hid (Ops w4 ya yn yc ys) := HY3.out.below hb
  have CJ : Hid (Calls Tryd.prog 10 #[.slice (some ⟨w3.heap.size + 1, 0, none⟩) 3 3, .slice ya yn yc] w4 fun e w' => JoinP tJ 0 e w' ∧ Below w4.heap.size w4 w') := by
    have := join_any _ ya 3 3 yn yc _ ys w4 hO4 HY4.out (HS.out _ H4.out)
    rw [o3_pt, HPY.out, t_j] at this
    exact this
  clear hb hO4 HX3 HY3
  go_wp2_with fail
  refine CJ.out.mono ?_
  rintro e w5 ⟨⟨ja, jn, jc, js, rfl, oJ, pJ⟩, hb⟩
  have H5 : Hid (Below w.heap.size w w5) := H4.out.trans (hb.mono H4.out.size)
  have HX5 : Hid (Ops w5 xa xn xc xs) := HX4.out.below hb
  have HY5 : Hid (Ops w5 ya yn yc ys) := HY4.out.below hb
  have HJ5 : Hid (Ops w5 ja jn jc js) := oJ
  have HPJ : Hid (js.map PV.pt = tJ) := pJ
  clear hb oJ pJ CJ HX4 HY4
  go_wp2_with fail
  refine (smallD w5).mono ?_
  rintro e w6 ⟨rfl, hD, hb⟩
  have H6 : Hid (Below w.heap.size w w6) := H5.out.trans (hb.mono H5.out.size)
  have HX6 : Hid (Ops w6 xa xn xc xs) := HX5.out.below hb
  have HY6 : Hid (Ops w6 ya yn yc ys) := HY5.out.below hb
  have CA : Hid (Calls Tryd.prog 24 #[.slice (some ⟨w5.heap.size, 0, none⟩) 5 5, .slice ja jn jc] w6 fun e w' => (∃ a c, e = .returned (.tuple #[.slice a (Ac.done smallDoc tJ).length c, .int .i64 0]) ∧ Doc w' a (Ac.done smallDoc tJ).length c (Ac.done smallDoc tJ)) ∧ Below w6.heap.size w6 w') := by
    have := apply_any (some ⟨w5.heap.size, 0, none⟩) ja 5 5 jn jc smallDoc js w6 hD (HJ5.out.below hb) (HS.out _ H6.out)
    rw [HPJ.out, t_f] at this
    exact this
  clear hb hD HX5 HY5 HJ5
  go_wp2_with fail
  refine CA.out.mono ?_
  rintro e w7 ⟨⟨da, dc, rfl, hD⟩, hb⟩
  have H7 : Hid (Below w.heap.size w w7) := H6.out.trans (hb.mono H6.out.size)
  have hX7 := HX6.out.below hb
  have hY7 := HY6.out.below hb
  have kx : xs.map (fun v => v.n) = [1, 0, 5] := by
    have := congrArg (List.map fun p : Ac.Pt => p.n) HPX.out
    rw [t_x, List.map_map] at this
    exact this
  have ky : ys.map (fun v => v.n) = [2, 0, 4] := by
    have := congrArg (List.map fun p : Ac.Pt => p.n) HPY.out
    rw [t_y, List.map_map] at this
    exact this
  have lx : xs.length = 3 := by have := congrArg List.length kx; rw [List.length_map] at this; exact this
  have ly : ys.length = 3 := by have := congrArg List.length ky; rw [List.length_map] at this; exact this
  obtain rfl : xn = 3 := hX7.len.symm.trans lx
  obtain rfl : yn = 3 := hY7.len.symm.trans ly
  obtain ⟨xb, xo, rfl, gX⟩ := hX7.get (by decide)
  obtain ⟨yb, yo, rfl, gY⟩ := hY7.get (by decide)
  have x2 : w7.cell? ⟨xb, xo + 14 + 1, none⟩ = some (.int .i64 5) := by
    have h := (gX 2 (by omega)).c1
    have h1 : (xs.map (fun v => v.n))[2]? = some 5 := by rw [kx]; rfl
    rw [List.getElem?_map, List.getElem?_eq_getElem (by omega)] at h1
    rw [show xs[2].n = 5 from Option.some.inj h1] at h
    exact h
  have y0 : w7.cell? ⟨yb, yo + 1, none⟩ = some (.int .i64 2) := by
    have h := (gY 0 (by omega)).c1
    have h1 : (ys.map (fun v => v.n))[0]? = some 2 := by rw [ky]; rfl
    rw [List.getElem?_map, List.getElem?_eq_getElem (by omega)] at h1
    rw [show ys[0].n = 2 from Option.some.inj h1, Nat.zero_mul, Nat.add_zero] at h
    exact h
  have xr := hX7.row.room
  have xg := hX7.row.big
  have yr := hY7.row.room
  have yg := hY7.row.big
  have d1 : ∃ h : 1 < (Ac.done smallDoc tJ).length, ((Ac.done smallDoc tJ)[1]).c = 120 := by
    have h := t_1
    cases hh : (Ac.done smallDoc tJ)[1]? with
    | none => rw [hh] at h; cases h
    | some z => rw [hh] at h; obtain ⟨h1, h2⟩ := List.getElem?_eq_some_iff.1 hh; exact ⟨h1, by rw [h2]; exact Option.some.inj h⟩
  have d2 : ∃ h : 2 < (Ac.done smallDoc tJ).length, ((Ac.done smallDoc tJ)[2]).c = 121 := by
    have h := t_2
    cases hh : (Ac.done smallDoc tJ)[2]? with
    | none => rw [hh] at h; cases h
    | some z => rw [hh] at h; obtain ⟨h1, h2⟩ := List.getElem?_eq_some_iff.1 hh; exact ⟨h1, by rw [h2]; exact Option.some.inj h⟩
  obtain ⟨l1, d1⟩ := d1
  obtain ⟨l2, d2⟩ := d2
  obtain ⟨db, dof, rfl, hA⟩ := hD.lies (by omega)
  have i1 := hA.c 1 l1
  have i2 := hA.c 2 l2
  rw [d1] at i1
  rw [d2] at i2
  have dr := hD.room
  have dg := hD.big
  obtain ⟨dn, hdn⟩ : ∃ dn, (Ac.done smallDoc tJ).length = dn := ⟨_, rfl⟩
  rw [hdn] at l2 dr ⊢
  have i1 : w7.cell? ⟨db, dof + 3, none⟩ = some (.int .u8 120) := i1
  have i2 : w7.cell? ⟨db, dof + 6, none⟩ = some (.int .u8 121) := i2
  have l2i : (2 : Int) < (dn : Int) := by omega
  have l1i : (1 : Int) < (dn : Int) := by omega
  have l1n : 1 < dn := by omega
  clear hb hD hA d1 d2 l1 hdn hX7 hY7 gX gY kx ky lx ly CA HX6 HY6
  go_wp2
  go_ret
  exact ⟨rfl, H7.out⟩
end Go.Proofs.YtbhcklkbckacpaaDoor
