/-
  Package op: whether an operation can be done to a document; items that are kept, changed.
-/
import Derived.Test.YtlhkomiiockaoaaDoorM4
import Derived.RegionTactic
import Derived.Lib.SliceRun
namespace Go.Proofs.YtlhkomiiockaoaaDoor
open Go.RowKit
namespace Ac
def fitE (d : List It) (o : List Pt) : Int := if Dc.check d = 0 then (if chk o = 0 then (if lf o = d.length then (if 80 < lt o then 2 else 0) else 6) else chk o) else Dc.check d
end Ac

set_option maxRecDepth 100000 in
set_option maxHeartbeats 1600000 in
theorem fit_any (ao ao' : Option Addr) (n cap n' cap' : Nat) (l : List It) (vs : List PV) (w : World) (hD : Doc w ao n cap l) (hO : Ops w ao' n' cap' vs) (hS : Sch w) :
    Calls Tryd.prog 54 #[.slice ao n cap, .slice ao' n' cap'] w fun e w' => e = .returned (.int .i64 (Ac.fitE l (vs.map PV.pt))) ∧ Below w.heap.size w w' := by
  have CD : Hid (Calls Tryd.prog 50 #[.slice ao n cap] w fun e w' => e = .returned (.int .i64 (Dc.check l)) ∧ Below w.heap.size w w') := check_any ao n cap l w hD hS
  have CC : Hid (∀ w', Below w.heap.size w w' → Calls Tryd.prog 28 #[.slice ao' n' cap'] w' fun e w'' => e = .returned (.int .i64 (Ac.chk (vs.map PV.pt))) ∧ Below w'.heap.size w' w'') := fun w' hw => chk_any ao' n' cap' vs w' (hO.below hw) (hS.below hw)
  have CL : Hid (∀ w', Below w.heap.size w w' → Calls Tryd.prog 24 #[.slice ao' n' cap'] w' fun e w'' => e = .returned (.tuple #[.int .i64 (Ac.lf (vs.map PV.pt)), .int .i64 (Ac.lt (vs.map PV.pt))]) ∧ Below w'.heap.size w' w'') := fun w' hw => long_any ao' n' cap' vs w' (hO.below hw)
  obtain ⟨r, hr⟩ : ∃ r, Ac.fitE l (vs.map PV.pt) = r := ⟨_, rfl⟩
  rw [hr]
  unfold Ac.fitE at hr
  rw [hD.len] at hr
  clear hD hO hS
  generalize Dc.check l = c1 at *
  generalize Ac.chk (vs.map PV.pt) = c2 at *
  generalize Ac.lf (vs.map PV.pt) = f at *
  generalize Ac.lt (vs.map PV.pt) = t at *
  have HR : Hid ((if c1 = 0 then (if c2 = 0 then (if f = (n : Int) then (if 80 < t then 2 else 0) else 6) else c2) else c1) = r) := hr
  clear hr
  by_cases h1 : c1 = 0
  · by_cases h2 : c2 = 0
    · subst h1 h2
      by_cases h3 : f = (n : Int)
      · by_cases h4 : 80 < t
        · obtain rfl : r = 2 := by rw [← HR.out, if_pos rfl, if_pos rfl, if_pos h3, if_pos h4]
          subst h3
          clear HR
          go_enter Tryd.func54, Tryd.ntmps54
          go_wp2_with fail
          refine CD.out.mono ?_
          rintro e w1 ⟨rfl, hb⟩
          have H1 : Hid (Below w.heap.size w w1) := hb
          clear hb
          go_wp2_with fail
          refine (CC.out _ H1.out).mono ?_
          rintro e w2 ⟨rfl, hb⟩
          have H2 : Hid (Below w.heap.size w w2) := H1.out.trans (hb.mono H1.out.size)
          clear hb
          go_wp2_with fail
          refine (CL.out _ H2.out).mono ?_
          rintro e w3 ⟨rfl, hb⟩
          have H3 : Hid (Below w.heap.size w w3) := H2.out.trans (hb.mono H2.out.size)
          clear hb
          go_wp2
          go_ret
          exact ⟨rfl, H3.out⟩
        · obtain rfl : r = 0 := by rw [← HR.out, if_pos rfl, if_pos rfl, if_pos h3, if_neg h4]
          subst h3
          clear HR
          go_enter Tryd.func54, Tryd.ntmps54
          go_wp2_with fail
          refine CD.out.mono ?_
          rintro e w1 ⟨rfl, hb⟩
          have H1 : Hid (Below w.heap.size w w1) := hb
          clear hb
          go_wp2_with fail
          refine (CC.out _ H1.out).mono ?_
          rintro e w2 ⟨rfl, hb⟩
          have H2 : Hid (Below w.heap.size w w2) := H1.out.trans (hb.mono H1.out.size)
          clear hb
          go_wp2_with fail
          refine (CL.out _ H2.out).mono ?_
          rintro e w3 ⟨rfl, hb⟩
          have H3 : Hid (Below w.heap.size w w3) := H2.out.trans (hb.mono H2.out.size)
          clear hb
          go_wp2
          go_ret
          exact ⟨rfl, H3.out⟩
      · obtain rfl : r = 6 := by rw [← HR.out, if_pos rfl, if_pos rfl, if_neg h3]
        have h3' : (f != (n : Int)) = true := by simp [h3]
        clear HR
        go_enter Tryd.func54, Tryd.ntmps54
        go_wp2_with fail
        refine CD.out.mono ?_
        rintro e w1 ⟨rfl, hb⟩
        have H1 : Hid (Below w.heap.size w w1) := hb
        clear hb
        go_wp2_with fail
        refine (CC.out _ H1.out).mono ?_
        rintro e w2 ⟨rfl, hb⟩
        have H2 : Hid (Below w.heap.size w w2) := H1.out.trans (hb.mono H1.out.size)
        clear hb
        go_wp2_with fail
        refine (CL.out _ H2.out).mono ?_
        rintro e w3 ⟨rfl, hb⟩
        have H3 : Hid (Below w.heap.size w w3) := H2.out.trans (hb.mono H2.out.size)
        clear hb
        go_wp2
        go_ret
        exact ⟨rfl, H3.out⟩
    · obtain rfl : r = c2 := by rw [← HR.out, if_pos h1, if_neg h2]
      subst h1
      have h2' : (r != 0) = true := by simp [h2]
      go_enter Tryd.func54, Tryd.ntmps54
      go_wp2_with fail
      refine CD.out.mono ?_
      rintro e w1 ⟨rfl, hb⟩
      have H1 : Hid (Below w.heap.size w w1) := hb
      clear hb
      go_wp2_with fail
      refine (CC.out _ H1.out).mono ?_
      rintro e w2 ⟨rfl, hb⟩
      have H2 : Hid (Below w.heap.size w w2) := H1.out.trans (hb.mono H1.out.size)
      clear hb
      go_wp2
      go_ret
      exact ⟨rfl, H2.out⟩
  · obtain rfl : r = c1 := by rw [← HR.out, if_neg h1]
    have h1' : (r != 0) = true := by simp [h1]
    go_enter Tryd.func54, Tryd.ntmps54
    go_wp2_with fail
    refine CD.out.mono ?_
    rintro e w1 ⟨rfl, hb⟩
    have H1 : Hid (Below w.heap.size w w1) := hb
    clear hb
    go_wp2
    go_ret
    exact ⟨rfl, H1.out⟩

theorem Tryd.infI : (Tryd.prog.info? 68).map (fun i => (i.zero, i.size, i.bytes)) = some (some (.agg #[.int .u8 0, .int .i64 0, .string ⟨#[]⟩]), 3, 32) := by kernel_rfl
set_option maxRecDepth 100000 in
set_option maxHeartbeats 1600000 in
theorem clone_any (b off n cap : Nat) (l : List It) (w : World) (hA : At w b off l) (hl : l.length = n) (h0 : 0 < n) (h80 : n ≤ 80) :
    Calls Tryd.prog 77 #[.slice (some ⟨b, off, none⟩) n cap] w fun e w' => (∃ g cap', e = .returned (.slice (some ⟨g, 0, none⟩) n cap') ∧ w'.ownsRow w.heap.size 68 3 (.slice (some ⟨g, 0, none⟩) n cap') n (itCells l)) ∧ Below w.heap.size w w' := by
  obtain ⟨i0, hi, hz0, hz1, hz2⟩ := info_parts Tryd.infI
  have HA : Hid (At w b off l) := hA
  have HL : Hid (l.length = n) := hl
  have hnil : ∀ w, (binOp .eql 31 (.slice (some ⟨b, off, none⟩) n cap) (.slice none 0 0)).run Tryd.prog w = .ok (.bool false) w := fun w => Lib.run_eql_slice_nil (P := Tryd.prog) w 31 68 _ _ _ _ _ Tryd.underlying31
  clear hA hl
  go_enter Tryd.func77, Tryd.ntmps77
  go_wp2_with (at_builtin; refine wpList_append_lies _ rfl (.tmp 5) (.tmp 6) 31 rfl w.heap.size 68 i0 (.agg #[.int .u8 0, .int .i64 0, .string ⟨#[]⟩]) 3 32 Tryd.underlying31 hi hz0 hz1 hz2 rfl (by decide) _ 0 [] rfl ?c1 ⟨b, off, none⟩ n cap (itCells l) rfl ?c2 ?c3 (itCells_one l) h0 ?c4 ?c5 ?c6 _ rfl ?c7)
  case c1 => exact World.ownsRow_lit w #[] 0 (Nat.le_refl _) (by decide) rfl
  case c2 => rw [itCells_len, HL.out]
  case c3 => exact at_cells (HA.out.below ((Below.refl _ _).alloc (Nat.le_refl _) _))
  case c4 => unfold maxLen; omega
  case c5 => omega
  case c6 => simp
  case c7 =>
    intro g cap2 w1 hown hgrow _ _
    have H1 : Hid (Below w.heap.size w w1) := ((Below.refl w.heap.size w).alloc (Nat.le_refl _) (.cells #[] 68)).grown hgrow (by simp) (fun k hk => by simp [Value.ownBlock] at hk; omega)
    have HO : Hid (w1.ownsRow w.heap.size 68 3 (.slice (some ⟨g, 0, none⟩) n cap2) n (itCells l)) := hown
    clear hown hgrow
    go_wp2
    go_ret
    exact ⟨⟨g, cap2, rfl, HO.out⟩, H1.out⟩

theorem Seven.same {w w' : World} {b off : Nat} {v : PV} (h : Seven w b off v) (e : w'.heap[b]? = w.heap[b]?) : Seven w' b off v :=
  ⟨(World.cell?_of_block (w := w) e).trans h.c0, (World.cell?_of_block (w := w) e).trans h.c1, (World.cell?_of_block (w := w) e).trans h.c2, (World.cell?_of_block (w := w) e).trans h.c3, (World.cell?_of_block (w := w) e).trans h.c4, (World.cell?_of_block (w := w) e).trans h.c5, (World.cell?_of_block (w := w) e).trans h.c6⟩
theorem itCells_setm : ∀ (l : List It) (k : Nat) (h : k < l.length) (y : Int), (itCells l).set (k * 3 + 1) (.int .i64 y) = itCells (l.set k { l[k] with m := y })
  | [], _, h, _ => by simp at h
  | x :: l, 0, _, y => rfl
  | x :: l, k + 1, h, y => by
    have := itCells_setm l k (by simpa using h) y
    rw [show (k + 1) * 3 + 1 = k * 3 + 1 + 1 + 1 + 1 by omega]
    simp only [itCells, List.set_cons_succ, List.getElem_cons_succ]
    rw [this]
theorem itCells_setl : ∀ (l : List It) (k : Nat) (h : k < l.length) (y : ByteArray), (itCells l).set (k * 3 + 2) (.string y) = itCells (l.set k { l[k] with l := y })
  | [], _, h, _ => by simp at h
  | x :: l, 0, _, y => rfl
  | x :: l, k + 1, h, y => by
    have := itCells_setl l k (by simpa using h) y
    rw [show (k + 1) * 3 + 2 = k * 3 + 2 + 1 + 1 + 1 by omega]
    simp only [itCells, List.set_cons_succ, List.getElem_cons_succ]
    rw [this]
/-- The first k are turned. -/
def mid (l : List It) (f : It → It) (k : Nat) : List It := (l.take k).map f ++ l.drop k
theorem mid_len (l : List It) (f : It → It) (k : Nat) : (mid l f k).length = l.length := by
  unfold mid
  rw [List.length_append, List.length_map, List.length_take, List.length_drop]
  omega
theorem mid_zero (l : List It) (f : It → It) : mid l f 0 = l := by simp [mid]
theorem mid_all (l : List It) (f : It → It) (k : Nat) (h : l.length ≤ k) : mid l f k = l.map f := by
  unfold mid
  rw [List.take_of_length_le h, List.drop_eq_nil_of_le h, List.append_nil]
theorem mid_get (l : List It) (f : It → It) (k : Nat) (h : k < l.length) : (mid l f k)[k]? = some l[k] := by
  unfold mid
  rw [List.getElem?_append_right (by simp; omega), List.length_map, List.length_take, Nat.min_eq_left (by omega), Nat.sub_self, List.getElem?_drop, Nat.add_zero]
  exact List.getElem?_eq_getElem h
theorem mid_set (l : List It) (f : It → It) (k : Nat) (h : k < l.length) : (mid l f k).set k (f l[k]) = mid l f (k + 1) := by
  unfold mid
  rw [List.set_append_right _ _ (by simp; omega), List.length_map, List.length_take, Nat.min_eq_left (by omega), Nat.sub_self, List.drop_eq_getElem_cons h, List.set_cons_zero, List.take_succ_eq_append_getElem h, List.map_append, List.append_assoc]
  rfl
theorem bits_anot {a b : Int} (ha : Ac.m4 a) (hb : Ac.m4 b) : bits .andNot .i64 a b = Ac.less a b := by
  obtain ⟨x, hx, rfl⟩ := Ac.m4_nat ha
  obtain ⟨y, hy, rfl⟩ := Ac.m4_nat hb
  have : ∀ x : Fin 4, ∀ y : Fin 4, bits .andNot .i64 ((x.val : Nat) : Int) ((y.val : Nat) : Int) = Ac.less ((x.val : Nat) : Int) ((y.val : Nat) : Int) := by decide +kernel
  exact this ⟨x, hx⟩ ⟨y, hy⟩
theorem bits_or {a b : Int} (ha : Ac.m4 a) (hb : Ac.m4 b) : bits .or .i64 a b = Ac.both a b := by
  obtain ⟨x, hx, rfl⟩ := Ac.m4_nat ha
  obtain ⟨y, hy, rfl⟩ := Ac.m4_nat hb
  have : ∀ x : Fin 4, ∀ y : Fin 4, bits .or .i64 ((x.val : Nat) : Int) ((y.val : Nat) : Int) = Ac.both ((x.val : Nat) : Int) ((y.val : Nat) : Int) := by decide +kernel
  exact this ⟨x, hx⟩ ⟨y, hy⟩
theorem mark_both {m c s : Int} : Ac.both (Ac.less m c) s = Ac.mark m c s := by
  unfold Ac.both Ac.less Ac.mark
  rw [Int.toNat_natCast]
set_option maxRecDepth 100000 in
set_option maxHeartbeats 3200000 in
theorem changed_any (b off n cap : Nat) (l : List It) (kind q : Int) (vo : Option Addr) (m vcap : Nat) (items : List It) (st cl : Int) (gs : Bool) (lk : ByteArray) (w : World) (hA : At w b off l) (hl : l.length = n) (h0 : 0 < n) (h80 : n ≤ 80)
    (hm : Ac.M4 l) (hs : Ac.m4 st) (hc : Ac.m4 cl) :
    Calls Tryd.prog 56 #[.slice (some ⟨b, off, none⟩) n cap, .agg #[.int .i64 kind, .int .i64 q, .slice vo m vcap, .int .i64 st, .int .i64 cl, .bool gs, .string lk]] w fun e w' => (∃ g cap', e = .returned (.slice (some ⟨g, 0, none⟩) n cap') ∧ w'.ownsRow w.heap.size 68 3 (.slice (some ⟨g, 0, none⟩) n cap') n (itCells (l.map fun x => Ac.change x ⟨st, cl, gs, lk⟩))) ∧ Below w.heap.size w w' := by
  have H1 : Hid (Below w.heap.size w (boxp ⟨kind, q, vo, m, vcap, items, st, cl, gs, lk⟩ w)) := boxp_below _ w
  have HSV : Hid (Seven (boxp ⟨kind, q, vo, m, vcap, items, st, cl, gs, lk⟩ w) w.heap.size 0 ⟨kind, q, vo, m, vcap, items, st, cl, gs, lk⟩) := boxp_at _ w
  have HZ : Hid ((boxp ⟨kind, q, vo, m, vcap, items, st, cl, gs, lk⟩ w).heap.size = w.heap.size + 1) := boxp_size _ w
  have CC : Hid (Calls Tryd.prog 77 #[.slice (some ⟨b, off, none⟩) n cap] (boxp ⟨kind, q, vo, m, vcap, items, st, cl, gs, lk⟩ w) fun e w' => (∃ g cap', e = .returned (.slice (some ⟨g, 0, none⟩) n cap') ∧ w'.ownsRow (boxp ⟨kind, q, vo, m, vcap, items, st, cl, gs, lk⟩ w).heap.size 68 3 (.slice (some ⟨g, 0, none⟩) n cap') n (itCells l)) ∧ Below (boxp ⟨kind, q, vo, m, vcap, items, st, cl, gs, lk⟩ w).heap.size (boxp ⟨kind, q, vo, m, vcap, items, st, cl, gs, lk⟩ w) w') := clone_any b off n cap l _ (hA.below H1.out) hl h0 h80
  have HL : Hid (l.length = n) := hl
  have HM : Hid (Ac.M4 l) := hm
  clear hA hl hm
  obtain ⟨f, hf⟩ : ∃ f, (fun x => Ac.change x ⟨st, cl, gs, lk⟩) = f := ⟨_, rfl⟩
  have HF : Hid ((fun x => Ac.change x ⟨st, cl, gs, lk⟩) = f) := hf
  rw [hf]
  clear hf
  go_enter Tryd.func56, Tryd.ntmps56
  go_wp2_with fail
  change Calls Tryd.prog _ _ (boxp ⟨kind, q, vo, m, vcap, items, st, cl, gs, lk⟩ w) _
  refine CC.out.mono ?_
  rintro e w1 ⟨⟨g, cap', rfl, ho⟩, hb⟩
  rw [HZ.out] at ho
  have H2 : Hid (Below w.heap.size w w1) := H1.out.trans (hb.mono H1.out.size)
  have HS1 : Hid (Seven w1 w.heap.size 0 ⟨kind, q, vo, m, vcap, items, st, cl, gs, lk⟩) := HSV.out.below hb
  have HO1 : Hid (w1.ownsRow (w.heap.size + 1) 68 3 (.slice (some ⟨g, 0, none⟩) n cap') n (itCells l)) := ho
  have hgb : w.heap.size + 1 ≤ g := ownBlk_ge ho g rfl
  have hroom : n ≤ cap' := (own_row ho).elim fun a h => h.elim fun c h => by obtain ⟨e, hr⟩ := h; simp only [Value.slice.injEq] at e; obtain ⟨_, _, rfl⟩ := e; exact hr.room
  clear ho hb CC HSV
  go_wp2
  go_loopw [10] (fun i wr => ∃ k : Nat, k ≤ n ∧ i = .int .i64 k ∧ wr.ownsRow (w.heap.size + 1) 68 3 (.slice (some ⟨g, 0, none⟩) n cap') n (itCells (mid l f k)) ∧ Seven wr w.heap.size 0 ⟨kind, q, vo, m, vcap, items, st, cl, gs, lk⟩ ∧ Below w.heap.size w wr) (fun i _ => n - (intOf i).toNat)
  case atStart => exact ⟨0, Nat.zero_le _, rfl, by rw [mid_zero]; exact HO1.out, HS1.out, H2.out⟩
  case round =>
    obtain ⟨k, hk, rfl, ho, hsv, hbr⟩ := hrel
    have HBR : Hid (Below w.heap.size w wr) := hbr
    have HO : Hid (wr.ownsRow (w.heap.size + 1) 68 3 (.slice (some ⟨g, 0, none⟩) n cap') n (itCells (mid l f k))) := ho
    have HSV : Hid (Seven wr w.heap.size 0 ⟨kind, q, vo, m, vcap, items, st, cl, gs, lk⟩) := hsv
    clear ho hsv hbr
    by_cases hlt : k < n
    · have hkl : k < l.length := by rw [HL.out]; exact hlt
      have hkm : k < (mid l f k).length := by rw [mid_len]; exact hkl
      have hget : (mid l f k)[k] = l[k] := by have := mid_get l f k hkl; rw [List.getElem?_eq_getElem hkm] at this; exact Option.some.inj this
      obtain ⟨x, hx⟩ : ∃ x, l[k] = x := ⟨_, rfl⟩
      have hxm : Ac.m4 x.m := by rw [← hx]; exact HM.out _ (List.getElem_mem hkl)
      obtain ⟨i0, i1, i2⟩ := itCells_at (mid l f k) k hkm
      rw [hget, hx] at i0 i1 i2
      have c0 := (HO.out.cellAt (k * 3) (by omega)).trans i0
      have c1 := (HO.out.cellAt (k * 3 + 1) (by omega)).trans i1
      have c2 := (HO.out.cellAt (k * 3 + 2) (by omega)).trans i2
      have z1 := HO.out.frozenAt (k * 3 + 1)
      have b1 := bits_anot hxm hc
      have b2 : bits .or .i64 (Ac.less x.m cl) st = Ac.mark x.m cl st := (bits_or (Ac.less_m4 hxm hc) hs).trans mark_both
      have HST := HO.out.drew.stored (k * 3 + 1) (.int .i64 (Ac.mark x.m cl st))
      rw [itCells_setm _ _ hkm, hget, hx] at HST
      have HO2 : Hid ((wr.drew.setCell ⟨g, k * 3 + 1, none⟩ (.int .i64 (Ac.mark x.m cl st))).ownsRow (w.heap.size + 1) 68 3 (.slice (some ⟨g, 0, none⟩) n cap') n (itCells ((mid l f k).set k { x with m := Ac.mark x.m cl st }))) := HST.1
      have HSV2 : Hid (Seven (wr.drew.setCell ⟨g, k * 3 + 1, none⟩ (.int .i64 (Ac.mark x.m cl st))) w.heap.size 0 ⟨kind, q, vo, m, vcap, items, st, cl, gs, lk⟩) := HSV.out.same (Below.heap_setCell wr.drew _ _ _ (by simp; omega))
      have HB2 : Hid (Below w.heap.size w (wr.drew.setCell ⟨g, k * 3 + 1, none⟩ (.int .i64 (Ac.mark x.m cl st)))) := HBR.out.drew.setCell (by simp; omega) _
      have HMS : Hid (mid l f (k + 1) = (mid l f k).set k (Ac.change x ⟨st, cl, gs, lk⟩)) := by show _ = _; rw [← mid_set l f k hkl, hx, ← HF.out]
      have HKM : Hid (k < (mid l f k).length) := hkm
      obtain ⟨p0, p1, p2, p3, p4, p5, p6⟩ := HSV.out
      simp only [Nat.zero_add] at p0 p1 p2 p3 p4 p5 p6
      have q1 : (0 : Int) ≤ (k : Int) := by omega
      have q2 : (k : Int) < (n : Int) := by omega
      clear HST hget hx i0 i1 i2 hkl hkm
      go_upto_region 5 with fail
      go_region
      change Exit.then _ _ Exit.normal _ (wr.drew.setCell ⟨g, k * 3 + 1, none⟩ (.int .i64 (Ac.mark x.m cl st)))
      clear p0 p1 p2 p3 p4 p5 p6 c0 c1 c2 z1 b1 b2
      generalize wr.drew.setCell ⟨g, k * 3 + 1, none⟩ (.int .i64 (Ac.mark x.m cl st)) = W at *
      obtain ⟨p0, p1, p2, p3, p4, p5, p6⟩ := HSV2.out
      simp only [Nat.zero_add] at p0 p1 p2 p3 p4 p5 p6
      have hks : k < ((mid l f k).set k { x with m := Ac.mark x.m cl st }).length := by rw [List.length_set]; exact HKM.out
      have hgs : ((mid l f k).set k { x with m := Ac.mark x.m cl st })[k] = { x with m := Ac.mark x.m cl st } := List.getElem_set_self ..
      obtain ⟨i0, i1, i2⟩ := itCells_at _ k hks
      rw [hgs] at i0 i1 i2
      have c0 := (HO2.out.cellAt (k * 3) (by omega)).trans i0
      have c2 := (HO2.out.cellAt (k * 3 + 2) (by omega)).trans i2
      have z2 := HO2.out.frozenAt (k * 3 + 2)
      have HST := HO2.out.stored (k * 3 + 2) (.string lk)
      rw [itCells_setl _ _ hks, hgs, List.set_set] at HST
      have HO3 : Hid ((W.setCell ⟨g, k * 3 + 2, none⟩ (.string lk)).ownsRow (w.heap.size + 1) 68 3 (.slice (some ⟨g, 0, none⟩) n cap') n (itCells ((mid l f k).set k { x with m := Ac.mark x.m cl st, l := lk }))) := HST.1
      have HSV3 : Hid (Seven (W.setCell ⟨g, k * 3 + 2, none⟩ (.string lk)) w.heap.size 0 ⟨kind, q, vo, m, vcap, items, st, cl, gs, lk⟩) := HSV2.out.same (Below.heap_setCell W _ _ _ (by simp; omega))
      have HB3 : Hid (Below w.heap.size w (W.setCell ⟨g, k * 3 + 2, none⟩ (.string lk))) := HB2.out.setCell (by simp; omega) _
      clear HST hks hgs i0 i1 i2
      simp only at c0 c2
      cases gs
      · have HC : Hid (Ac.change x ⟨st, cl, false, lk⟩ = { x with m := Ac.mark x.m cl st }) := rfl
        go_wp2
        go_roundw
        case rel => exact ⟨k + 1, by omega, by go_num, by rw [HMS.out, HC.out]; exact HO2.out, HSV2.out, HB2.out⟩
        case measure => simp [intOf]; omega
      · cases he : Dc.ends x
        · have HC : Hid (Ac.change x ⟨st, cl, true, lk⟩ = { x with m := Ac.mark x.m cl st, l := lk }) := by show _ = _; unfold Ac.change; rw [he]; rfl
          have hne : ((x.c.toNat : Int) != 10) = true := by have : ((x.c.toNat : Int) == 10) = false := he; simp at this ⊢; exact this
          go_wp2
          go_roundw
          case rel => exact ⟨k + 1, by omega, by go_num, by rw [HMS.out, HC.out]; exact HO3.out, HSV3.out, HB3.out⟩
          case measure => simp [intOf]; omega
        · have HC : Hid (Ac.change x ⟨st, cl, true, lk⟩ = { x with m := Ac.mark x.m cl st }) := by show _ = _; unfold Ac.change; rw [he]; rfl
          have hne : ((x.c.toNat : Int) != 10) = false := by have : ((x.c.toNat : Int) == 10) = true := he; simp at this ⊢; exact this
          go_wp2
          go_roundw
          case rel => exact ⟨k + 1, by omega, by go_num, by rw [HMS.out, HC.out]; exact HO2.out, HSV2.out, HB2.out⟩
          case measure => simp [intOf]; omega
    · have hkn : k = n := by omega
      have HO4 : Hid (wr.ownsRow w.heap.size 68 3 (.slice (some ⟨g, 0, none⟩) n cap') n (itCells (l.map f))) := by
        have := HO.out.mono (Nat.le_succ _)
        rw [mid_all l f k (by rw [HL.out]; omega)] at this
        exact this
      clear HO
      subst hkn
      go_wp2
      go_ret
      exact ⟨⟨g, cap', rfl, HO4.out⟩, HBR.out⟩
end Go.Proofs.YtlhkomiiockaoaaDoor
