/-
  Texts of this proof, one behind the other.
-/
import Derived.Test.YtbhcklkbckacpaaGreatDoorM3
import Derived.RegionTactic
import Derived.Lib.SliceRun
import Derived.Deep.RegionHeld3

/-
  Package op: whether an operation can be done to a document; items that are kept, changed.
-/
namespace Go.Proofs.YtbhcklkbckacpaaGreatDoor
open Go.RowKit
namespace Ac
def fitE (d : List It) (o : List Pt) : Int := if Dc.check d = 0 then (if chk o = 0 then (if lf o = d.length then (if 80 < lt o then 2 else 0) else 6) else chk o) else Dc.check d
end Ac

set_option maxRecDepth 100000 in
set_option maxHeartbeats 1600000 in
theorem fit_any (ao ao' : Option Addr) (n cap n' cap' : Nat) (l : List It) (vs : List PV) (w : World) (hD : Doc w ao n cap l) (hO : Ops w ao' n' cap' vs) (hS : Sch w) :
    Calls Tryz.prog 154 #[.slice ao n cap, .slice ao' n' cap'] w fun e w' => e = .returned (.int .i64 (Ac.fitE l (vs.map PV.pt))) ∧ Below w.heap.size w w' := by
  have CD : Hid (Calls Tryz.prog 74 #[.slice ao n cap] w fun e w' => e = .returned (.int .i64 (Dc.check l)) ∧ Below w.heap.size w w') := check_any ao n cap l w hD hS
  have CC : Hid (∀ w', Below w.heap.size w w' → Calls Tryz.prog 160 #[.slice ao' n' cap'] w' fun e w'' => e = .returned (.int .i64 (Ac.chk (vs.map PV.pt))) ∧ Below w'.heap.size w' w'') := fun w' hw => chk_any ao' n' cap' vs w' (hO.below hw) (hS.below hw)
  have CL : Hid (∀ w', Below w.heap.size w w' → Calls Tryz.prog 222 #[.slice ao' n' cap'] w' fun e w'' => e = .returned (.tuple #[.int .i64 (Ac.lf (vs.map PV.pt)), .int .i64 (Ac.lt (vs.map PV.pt))]) ∧ Below w'.heap.size w' w'') := fun w' hw => long_any ao' n' cap' vs w' (hO.below hw)
  obtain ⟨r, hr⟩ : ∃ r, Ac.fitE l (vs.map PV.pt) = r := ⟨_, rfl⟩
  rw [hr]
  unfold Ac.fitE at hr
  rw [hD.len] at hr
  clear hD hO hS
  generalize Dc.check l = c1 at *
  generalize Ac.chk (vs.map PV.pt) = c2 at *
  generalize Ac.lf (vs.map PV.pt) = f at *
  generalize Ac.lt (vs.map PV.pt) = t at *
  have HR : Hid ((if c1 = 0 then (if c2 = 0 then (if f = (n : Int) then (if 80 < t then 2 else 0) else 6) else c2) else c1) = r) := hr
  clear hr
  by_cases h1 : c1 = 0
  · by_cases h2 : c2 = 0
    · subst h1 h2
      by_cases h3 : f = (n : Int)
      · by_cases h4 : 80 < t
        · obtain rfl : r = 2 := by rw [← HR.out, if_pos rfl, if_pos rfl, if_pos h3, if_pos h4]
          subst h3
          clear HR
          go_enter Tryz.func154, Tryz.ntmps154
          go_wp2_with fail
          refine CD.out.mono ?_
          rintro e w1 ⟨rfl, hb⟩
          have H1 : Hid (Below w.heap.size w w1) := hb
          clear hb
          go_wp2_with fail
          refine (CC.out _ H1.out).mono ?_
          rintro e w2 ⟨rfl, hb⟩
          have H2 : Hid (Below w.heap.size w w2) := H1.out.trans (hb.mono H1.out.size)
          clear hb
          go_wp2_with fail
          refine (CL.out _ H2.out).mono ?_
          rintro e w3 ⟨rfl, hb⟩
          have H3 : Hid (Below w.heap.size w w3) := H2.out.trans (hb.mono H2.out.size)
          clear hb
          go_wp2
          go_ret
          exact ⟨rfl, H3.out⟩
        · obtain rfl : r = 0 := by rw [← HR.out, if_pos rfl, if_pos rfl, if_pos h3, if_neg h4]
          subst h3
          clear HR
          go_enter Tryz.func154, Tryz.ntmps154
          go_wp2_with fail
          refine CD.out.mono ?_
          rintro e w1 ⟨rfl, hb⟩
          have H1 : Hid (Below w.heap.size w w1) := hb
          clear hb
          go_wp2_with fail
          refine (CC.out _ H1.out).mono ?_
          rintro e w2 ⟨rfl, hb⟩
          have H2 : Hid (Below w.heap.size w w2) := H1.out.trans (hb.mono H1.out.size)
          clear hb
          go_wp2_with fail
          refine (CL.out _ H2.out).mono ?_
          rintro e w3 ⟨rfl, hb⟩
          have H3 : Hid (Below w.heap.size w w3) := H2.out.trans (hb.mono H2.out.size)
          clear hb
          go_wp2
          go_ret
          exact ⟨rfl, H3.out⟩
      · obtain rfl : r = 6 := by rw [← HR.out, if_pos rfl, if_pos rfl, if_neg h3]
        have h3' : (f != (n : Int)) = true := by simp [h3]
        clear HR
        go_enter Tryz.func154, Tryz.ntmps154
        go_wp2_with fail
        refine CD.out.mono ?_
        rintro e w1 ⟨rfl, hb⟩
        have H1 : Hid (Below w.heap.size w w1) := hb
        clear hb
        go_wp2_with fail
        refine (CC.out _ H1.out).mono ?_
        rintro e w2 ⟨rfl, hb⟩
        have H2 : Hid (Below w.heap.size w w2) := H1.out.trans (hb.mono H1.out.size)
        clear hb
        go_wp2_with fail
        refine (CL.out _ H2.out).mono ?_
        rintro e w3 ⟨rfl, hb⟩
        have H3 : Hid (Below w.heap.size w w3) := H2.out.trans (hb.mono H2.out.size)
        clear hb
        go_wp2
        go_ret
        exact ⟨rfl, H3.out⟩
    · obtain rfl : r = c2 := by rw [← HR.out, if_pos h1, if_neg h2]
      subst h1
      have h2' : (r != 0) = true := by simp [h2]
      go_enter Tryz.func154, Tryz.ntmps154
      go_wp2_with fail
      refine CD.out.mono ?_
      rintro e w1 ⟨rfl, hb⟩
      have H1 : Hid (Below w.heap.size w w1) := hb
      clear hb
      go_wp2_with fail
      refine (CC.out _ H1.out).mono ?_
      rintro e w2 ⟨rfl, hb⟩
      have H2 : Hid (Below w.heap.size w w2) := H1.out.trans (hb.mono H1.out.size)
      clear hb
      go_wp2
      go_ret
      exact ⟨rfl, H2.out⟩
  · obtain rfl : r = c1 := by rw [← HR.out, if_neg h1]
    have h1' : (r != 0) = true := by simp [h1]
    go_enter Tryz.func154, Tryz.ntmps154
    go_wp2_with fail
    refine CD.out.mono ?_
    rintro e w1 ⟨rfl, hb⟩
    have H1 : Hid (Below w.heap.size w w1) := hb
    clear hb
    go_wp2
    go_ret
    exact ⟨rfl, H1.out⟩

theorem Tryz.infI : (Tryz.prog.info? 39).map (fun i => (i.zero, i.size, i.bytes)) = some (some (.agg #[.int .u8 0, .int .i64 0, .string ⟨#[]⟩]), 3, 32) := by kernel_rfl
set_option maxRecDepth 100000 in
set_option maxHeartbeats 1600000 in
theorem clone_any (b off n cap : Nat) (l : List It) (w : World) (hA : At w b off l) (hl : l.length = n) (h0 : 0 < n) (h80 : n ≤ 80) :
    Calls Tryz.prog 220 #[.slice (some ⟨b, off, none⟩) n cap] w fun e w' => (∃ g cap', e = .returned (.slice (some ⟨g, 0, none⟩) n cap') ∧ w'.ownsRow w.heap.size 39 3 (.slice (some ⟨g, 0, none⟩) n cap') n (itCells l)) ∧ Below w.heap.size w w' := by
  obtain ⟨i0, hi, hz0, hz1, hz2⟩ := info_parts Tryz.infI
  have HA : Hid (At w b off l) := hA
  have HL : Hid (l.length = n) := hl
  have hnil : ∀ w, (binOp .eql 33 (.slice (some ⟨b, off, none⟩) n cap) (.slice none 0 0)).run Tryz.prog w = .ok (.bool false) w := fun w => Lib.run_eql_slice_nil (P := Tryz.prog) w 33 39 _ _ _ _ _ Tryz.underlying33
  clear hA hl
  go_enter Tryz.func220, Tryz.ntmps220
  go_wp2_with (at_builtin; refine wpList_append_lies _ rfl (.tmp 5) (.tmp 6) 33 rfl w.heap.size 39 i0 (.agg #[.int .u8 0, .int .i64 0, .string ⟨#[]⟩]) 3 32 Tryz.underlying33 hi hz0 hz1 hz2 rfl (by decide) _ 0 [] rfl ?c1 ⟨b, off, none⟩ n cap (itCells l) rfl ?c2 ?c3 (itCells_one l) h0 ?c4 ?c5 ?c6 _ rfl ?c7)
  case c1 => exact World.ownsRow_lit w #[] 0 (Nat.le_refl _) (by decide) rfl
  case c2 => rw [itCells_len, HL.out]
  case c3 => exact at_cells (HA.out.below ((Below.refl _ _).alloc (Nat.le_refl _) _))
  case c4 => unfold maxLen; omega
  case c5 => omega
  case c6 => simp
  case c7 =>
    intro g cap2 w1 hown hgrow _ _
    have H1 : Hid (Below w.heap.size w w1) := ((Below.refl w.heap.size w).alloc (Nat.le_refl _) (.cells #[] 39)).grown hgrow (by simp) (fun k hk => by simp [Value.ownBlock] at hk; omega)
    have HO : Hid (w1.ownsRow w.heap.size 39 3 (.slice (some ⟨g, 0, none⟩) n cap2) n (itCells l)) := hown
    clear hown hgrow
    go_wp2
    go_ret
    exact ⟨⟨g, cap2, rfl, HO.out⟩, H1.out⟩

theorem Seven.same {w w' : World} {b off : Nat} {v : PV} (h : Seven w b off v) (e : w'.heap[b]? = w.heap[b]?) : Seven w' b off v :=
  ⟨(World.cell?_of_block (w := w) e).trans h.c0, (World.cell?_of_block (w := w) e).trans h.c1, (World.cell?_of_block (w := w) e).trans h.c2, (World.cell?_of_block (w := w) e).trans h.c3, (World.cell?_of_block (w := w) e).trans h.c4, (World.cell?_of_block (w := w) e).trans h.c5, (World.cell?_of_block (w := w) e).trans h.c6⟩
theorem itCells_setm : ∀ (l : List It) (k : Nat) (h : k < l.length) (y : Int), (itCells l).set (k * 3 + 1) (.int .i64 y) = itCells (l.set k { l[k] with m := y })
  | [], _, h, _ => by simp at h
  | x :: l, 0, _, y => rfl
  | x :: l, k + 1, h, y => by
    have := itCells_setm l k (by simpa using h) y
    rw [show (k + 1) * 3 + 1 = k * 3 + 1 + 1 + 1 + 1 by omega]
    simp only [itCells, List.set_cons_succ, List.getElem_cons_succ]
    rw [this]
theorem itCells_setl : ∀ (l : List It) (k : Nat) (h : k < l.length) (y : ByteArray), (itCells l).set (k * 3 + 2) (.string y) = itCells (l.set k { l[k] with l := y })
  | [], _, h, _ => by simp at h
  | x :: l, 0, _, y => rfl
  | x :: l, k + 1, h, y => by
    have := itCells_setl l k (by simpa using h) y
    rw [show (k + 1) * 3 + 2 = k * 3 + 2 + 1 + 1 + 1 by omega]
    simp only [itCells, List.set_cons_succ, List.getElem_cons_succ]
    rw [this]
def mid (l : List It) (f : It → It) (k : Nat) : List It := (l.take k).map f ++ l.drop k
theorem mid_len (l : List It) (f : It → It) (k : Nat) : (mid l f k).length = l.length := by
  unfold mid
  rw [List.length_append, List.length_map, List.length_take, List.length_drop]
  omega
theorem mid_zero (l : List It) (f : It → It) : mid l f 0 = l := by simp [mid]
theorem mid_all (l : List It) (f : It → It) (k : Nat) (h : l.length ≤ k) : mid l f k = l.map f := by
  unfold mid
  rw [List.take_of_length_le h, List.drop_eq_nil_of_le h, List.append_nil]
theorem mid_get (l : List It) (f : It → It) (k : Nat) (h : k < l.length) : (mid l f k)[k]? = some l[k] := by
  unfold mid
  rw [List.getElem?_append_right (by simp; omega), List.length_map, List.length_take, Nat.min_eq_left (by omega), Nat.sub_self, List.getElem?_drop, Nat.add_zero]
  exact List.getElem?_eq_getElem h
theorem mid_set (l : List It) (f : It → It) (k : Nat) (h : k < l.length) : (mid l f k).set k (f l[k]) = mid l f (k + 1) := by
  unfold mid
  rw [List.set_append_right _ _ (by simp; omega), List.length_map, List.length_take, Nat.min_eq_left (by omega), Nat.sub_self, List.drop_eq_getElem_cons h, List.set_cons_zero, List.take_succ_eq_append_getElem h, List.map_append, List.append_assoc]
  rfl
theorem bits_anot {a b : Int} (ha : Ac.m4 a) (hb : Ac.m4 b) : bits .andNot .i64 a b = Ac.less a b := by
  obtain ⟨x, hx, rfl⟩ := Ac.m4_nat ha
  obtain ⟨y, hy, rfl⟩ := Ac.m4_nat hb
  have : ∀ x : Fin 4, ∀ y : Fin 4, bits .andNot .i64 ((x.val : Nat) : Int) ((y.val : Nat) : Int) = Ac.less ((x.val : Nat) : Int) ((y.val : Nat) : Int) := by decide +kernel
  exact this ⟨x, hx⟩ ⟨y, hy⟩
theorem bits_or {a b : Int} (ha : Ac.m4 a) (hb : Ac.m4 b) : bits .or .i64 a b = Ac.both a b := by
  obtain ⟨x, hx, rfl⟩ := Ac.m4_nat ha
  obtain ⟨y, hy, rfl⟩ := Ac.m4_nat hb
  have : ∀ x : Fin 4, ∀ y : Fin 4, bits .or .i64 ((x.val : Nat) : Int) ((y.val : Nat) : Int) = Ac.both ((x.val : Nat) : Int) ((y.val : Nat) : Int) := by decide +kernel
  exact this ⟨x, hx⟩ ⟨y, hy⟩
theorem mark_both {m c s : Int} : Ac.both (Ac.less m c) s = Ac.mark m c s := by
  unfold Ac.both Ac.less Ac.mark
  rw [Int.toNat_natCast]
set_option maxRecDepth 100000 in
set_option maxHeartbeats 3200000 in
theorem changed_any (b off n cap : Nat) (l : List It) (kind q : Int) (vo : Option Addr) (m vcap : Nat) (items : List It) (st cl : Int) (gs : Bool) (lk : ByteArray) (w : World) (hA : At w b off l) (hl : l.length = n) (h0 : 0 < n) (h80 : n ≤ 80)
    (hm : Ac.M4 l) (hs : Ac.m4 st) (hc : Ac.m4 cl) :
    Calls Tryz.prog 156 #[.slice (some ⟨b, off, none⟩) n cap, .agg #[.int .i64 kind, .int .i64 q, .slice vo m vcap, .int .i64 st, .int .i64 cl, .bool gs, .string lk]] w fun e w' => (∃ g cap', e = .returned (.slice (some ⟨g, 0, none⟩) n cap') ∧ w'.ownsRow w.heap.size 39 3 (.slice (some ⟨g, 0, none⟩) n cap') n (itCells (l.map fun x => Ac.change x ⟨st, cl, gs, lk⟩))) ∧ Below w.heap.size w w' := by
  have H1 : Hid (Below w.heap.size w (boxp ⟨kind, q, vo, m, vcap, items, st, cl, gs, lk⟩ w)) := boxp_below _ w
  have HSV : Hid (Seven (boxp ⟨kind, q, vo, m, vcap, items, st, cl, gs, lk⟩ w) w.heap.size 0 ⟨kind, q, vo, m, vcap, items, st, cl, gs, lk⟩) := boxp_at _ w
  have HZ : Hid ((boxp ⟨kind, q, vo, m, vcap, items, st, cl, gs, lk⟩ w).heap.size = w.heap.size + 1) := boxp_size _ w
  have CC : Hid (Calls Tryz.prog 220 #[.slice (some ⟨b, off, none⟩) n cap] (boxp ⟨kind, q, vo, m, vcap, items, st, cl, gs, lk⟩ w) fun e w' => (∃ g cap', e = .returned (.slice (some ⟨g, 0, none⟩) n cap') ∧ w'.ownsRow (boxp ⟨kind, q, vo, m, vcap, items, st, cl, gs, lk⟩ w).heap.size 39 3 (.slice (some ⟨g, 0, none⟩) n cap') n (itCells l)) ∧ Below (boxp ⟨kind, q, vo, m, vcap, items, st, cl, gs, lk⟩ w).heap.size (boxp ⟨kind, q, vo, m, vcap, items, st, cl, gs, lk⟩ w) w') := clone_any b off n cap l _ (hA.below H1.out) hl h0 h80
  have HL : Hid (l.length = n) := hl
  have HM : Hid (Ac.M4 l) := hm
  clear hA hl hm
  obtain ⟨f, hf⟩ : ∃ f, (fun x => Ac.change x ⟨st, cl, gs, lk⟩) = f := ⟨_, rfl⟩
  have HF : Hid ((fun x => Ac.change x ⟨st, cl, gs, lk⟩) = f) := hf
  rw [hf]
  clear hf
  go_enter Tryz.func156, Tryz.ntmps156
  go_wp2_with fail
  change Calls Tryz.prog _ _ (boxp ⟨kind, q, vo, m, vcap, items, st, cl, gs, lk⟩ w) _
  refine CC.out.mono ?_
  rintro e w1 ⟨⟨g, cap', rfl, ho⟩, hb⟩
  rw [HZ.out] at ho
  have H2 : Hid (Below w.heap.size w w1) := H1.out.trans (hb.mono H1.out.size)
  have HS1 : Hid (Seven w1 w.heap.size 0 ⟨kind, q, vo, m, vcap, items, st, cl, gs, lk⟩) := HSV.out.below hb
  have HO1 : Hid (w1.ownsRow (w.heap.size + 1) 39 3 (.slice (some ⟨g, 0, none⟩) n cap') n (itCells l)) := ho
  have hgb : w.heap.size + 1 ≤ g := ownBlk_ge ho g rfl
  have hroom : n ≤ cap' := (own_row ho).elim fun a h => h.elim fun c h => by obtain ⟨e, hr⟩ := h; simp only [Value.slice.injEq] at e; obtain ⟨_, _, rfl⟩ := e; exact hr.room
  clear ho hb CC HSV
  go_wp2
  go_loopw [10] (fun i wr => ∃ k : Nat, k ≤ n ∧ i = .int .i64 k ∧ wr.ownsRow (w.heap.size + 1) 39 3 (.slice (some ⟨g, 0, none⟩) n cap') n (itCells (mid l f k)) ∧ Seven wr w.heap.size 0 ⟨kind, q, vo, m, vcap, items, st, cl, gs, lk⟩ ∧ Below w.heap.size w wr) (fun i _ => n - (intOf i).toNat)
  case atStart => exact ⟨0, Nat.zero_le _, rfl, by rw [mid_zero]; exact HO1.out, HS1.out, H2.out⟩
  case round =>
    obtain ⟨k, hk, rfl, ho, hsv, hbr⟩ := hrel
    have HBR : Hid (Below w.heap.size w wr) := hbr
    have HO : Hid (wr.ownsRow (w.heap.size + 1) 39 3 (.slice (some ⟨g, 0, none⟩) n cap') n (itCells (mid l f k))) := ho
    have HSV : Hid (Seven wr w.heap.size 0 ⟨kind, q, vo, m, vcap, items, st, cl, gs, lk⟩) := hsv
    clear ho hsv hbr
    by_cases hlt : k < n
    · have hkl : k < l.length := by rw [HL.out]; exact hlt
      have hkm : k < (mid l f k).length := by rw [mid_len]; exact hkl
      have hget : (mid l f k)[k] = l[k] := by have := mid_get l f k hkl; rw [List.getElem?_eq_getElem hkm] at this; exact Option.some.inj this
      obtain ⟨x, hx⟩ : ∃ x, l[k] = x := ⟨_, rfl⟩
      have hxm : Ac.m4 x.m := by rw [← hx]; exact HM.out _ (List.getElem_mem hkl)
      obtain ⟨i0, i1, i2⟩ := itCells_at (mid l f k) k hkm
      rw [hget, hx] at i0 i1 i2
      have c0 := (HO.out.cellAt (k * 3) (by omega)).trans i0
      have c1 := (HO.out.cellAt (k * 3 + 1) (by omega)).trans i1
      have c2 := (HO.out.cellAt (k * 3 + 2) (by omega)).trans i2
      have z1 := HO.out.frozenAt (k * 3 + 1)
      have b1 := bits_anot hxm hc
      have b2 : bits .or .i64 (Ac.less x.m cl) st = Ac.mark x.m cl st := (bits_or (Ac.less_m4 hxm hc) hs).trans mark_both
      have HST := HO.out.drew.stored (k * 3 + 1) (.int .i64 (Ac.mark x.m cl st))
      rw [itCells_setm _ _ hkm, hget, hx] at HST
      have HO2 : Hid ((wr.drew.setCell ⟨g, k * 3 + 1, none⟩ (.int .i64 (Ac.mark x.m cl st))).ownsRow (w.heap.size + 1) 39 3 (.slice (some ⟨g, 0, none⟩) n cap') n (itCells ((mid l f k).set k { x with m := Ac.mark x.m cl st }))) := HST.1
      have HSV2 : Hid (Seven (wr.drew.setCell ⟨g, k * 3 + 1, none⟩ (.int .i64 (Ac.mark x.m cl st))) w.heap.size 0 ⟨kind, q, vo, m, vcap, items, st, cl, gs, lk⟩) := HSV.out.same (Below.heap_setCell wr.drew _ _ _ (by simp; omega))
      have HB2 : Hid (Below w.heap.size w (wr.drew.setCell ⟨g, k * 3 + 1, none⟩ (.int .i64 (Ac.mark x.m cl st)))) := HBR.out.drew.setCell (by simp; omega) _
      have HMS : Hid (mid l f (k + 1) = (mid l f k).set k (Ac.change x ⟨st, cl, gs, lk⟩)) := by show _ = _; rw [← mid_set l f k hkl, hx, ← HF.out]
      have HKM : Hid (k < (mid l f k).length) := hkm
      obtain ⟨p0, p1, p2, p3, p4, p5, p6⟩ := HSV.out
      simp only [Nat.zero_add] at p0 p1 p2 p3 p4 p5 p6
      have q1 : (0 : Int) ≤ (k : Int) := by omega
      have q2 : (k : Int) < (n : Int) := by omega
      clear HST hget hx i0 i1 i2 hkl hkm
      go_upto_region 5 with fail
      go_region
      change Exit.then _ _ Exit.normal _ (wr.drew.setCell ⟨g, k * 3 + 1, none⟩ (.int .i64 (Ac.mark x.m cl st)))
      clear p0 p1 p2 p3 p4 p5 p6 c0 c1 c2 z1 b1 b2
      generalize wr.drew.setCell ⟨g, k * 3 + 1, none⟩ (.int .i64 (Ac.mark x.m cl st)) = W at *
      obtain ⟨p0, p1, p2, p3, p4, p5, p6⟩ := HSV2.out
      simp only [Nat.zero_add] at p0 p1 p2 p3 p4 p5 p6
      have hks : k < ((mid l f k).set k { x with m := Ac.mark x.m cl st }).length := by rw [List.length_set]; exact HKM.out
      have hgs : ((mid l f k).set k { x with m := Ac.mark x.m cl st })[k] = { x with m := Ac.mark x.m cl st } := List.getElem_set_self ..
      obtain ⟨i0, i1, i2⟩ := itCells_at _ k hks
      rw [hgs] at i0 i1 i2
      have c0 := (HO2.out.cellAt (k * 3) (by omega)).trans i0
      have c2 := (HO2.out.cellAt (k * 3 + 2) (by omega)).trans i2
      have z2 := HO2.out.frozenAt (k * 3 + 2)
      have HST := HO2.out.stored (k * 3 + 2) (.string lk)
      rw [itCells_setl _ _ hks, hgs, List.set_set] at HST
      have HO3 : Hid ((W.setCell ⟨g, k * 3 + 2, none⟩ (.string lk)).ownsRow (w.heap.size + 1) 39 3 (.slice (some ⟨g, 0, none⟩) n cap') n (itCells ((mid l f k).set k { x with m := Ac.mark x.m cl st, l := lk }))) := HST.1
      have HSV3 : Hid (Seven (W.setCell ⟨g, k * 3 + 2, none⟩ (.string lk)) w.heap.size 0 ⟨kind, q, vo, m, vcap, items, st, cl, gs, lk⟩) := HSV2.out.same (Below.heap_setCell W _ _ _ (by simp; omega))
      have HB3 : Hid (Below w.heap.size w (W.setCell ⟨g, k * 3 + 2, none⟩ (.string lk))) := HB2.out.setCell (by simp; omega) _
      clear HST hks hgs i0 i1 i2
      simp only at c0 c2
      cases gs
      · have HC : Hid (Ac.change x ⟨st, cl, false, lk⟩ = { x with m := Ac.mark x.m cl st }) := rfl
        go_wp2
        go_roundw
        case rel => exact ⟨k + 1, by omega, by go_num, by rw [HMS.out, HC.out]; exact HO2.out, HSV2.out, HB2.out⟩
        case measure => simp [intOf]; omega
      · cases he : Dc.ends x
        · have HC : Hid (Ac.change x ⟨st, cl, true, lk⟩ = { x with m := Ac.mark x.m cl st, l := lk }) := by show _ = _; unfold Ac.change; rw [he]; rfl
          have hne : ((x.c.toNat : Int) != 10) = true := by have : ((x.c.toNat : Int) == 10) = false := he; simp at this ⊢; exact this
          go_wp2
          go_roundw
          case rel => exact ⟨k + 1, by omega, by go_num, by rw [HMS.out, HC.out]; exact HO3.out, HSV3.out, HB3.out⟩
          case measure => simp [intOf]; omega
        · have HC : Hid (Ac.change x ⟨st, cl, true, lk⟩ = { x with m := Ac.mark x.m cl st }) := by show _ = _; unfold Ac.change; rw [he]; rfl
          have hne : ((x.c.toNat : Int) != 10) = false := by have : ((x.c.toNat : Int) == 10) = true := he; simp at this ⊢; exact this
          go_wp2
          go_roundw
          case rel => exact ⟨k + 1, by omega, by go_num, by rw [HMS.out, HC.out]; exact HO2.out, HSV2.out, HB2.out⟩
          case measure => simp [intOf]; omega
    · have hkn : k = n := by omega
      have HO4 : Hid (wr.ownsRow w.heap.size 39 3 (.slice (some ⟨g, 0, none⟩) n cap') n (itCells (l.map f))) := by
        have := HO.out.mono (Nat.le_succ _)
        rw [mid_all l f k (by rw [HL.out]; omega)] at this
        exact this
      clear HO
      subst hkn
      go_wp2
      go_ret
      exact ⟨⟨g, cap', rfl, HO4.out⟩, HBR.out⟩
end Go.Proofs.YtbhcklkbckacpaaGreatDoor

/-
  Chapter 7 on parts: what an operation makes of items, part by part; how many it is for, and leaves; what a right one is.
-/
namespace Go.Proofs.YtbhcklkbckacpaaGreatDoor
open Go.RowKit
namespace Ac
def nd1 (p : Pt) : Nat := if p.kind = 2 then 0 else p.n.toNat
def lv1 (p : Pt) : Nat := if p.kind = 1 then p.n.toNat else if p.kind = 2 then p.items.length else 0
def nd (o : List Pt) : Nat := (o.map nd1).sum
def lv (o : List Pt) : Nat := (o.map lv1).sum
theorem nd_cons (p : Pt) (o : List Pt) : nd (p :: o) = nd1 p + nd o := by simp [nd]
theorem lv_cons (p : Pt) (o : List Pt) : lv (p :: o) = lv1 p + lv o := by simp [lv]
theorem nd_app (o o' : List Pt) : nd (o ++ o') = nd o + nd o' := by simp [nd]
theorem lv_app (o o' : List Pt) : lv (o ++ o') = lv o + lv o' := by simp [lv]
theorem nd_take (o : List Pt) (k : Nat) : nd (o.take k) ≤ nd o := by
  have : nd o = nd (o.take k) + nd (o.drop k) := by rw [← nd_app, List.take_append_drop]
  omega
theorem lv_take (o : List Pt) (k : Nat) : lv (o.take k) ≤ lv o := by
  have : lv o = lv (o.take k) + lv (o.drop k) := by rw [← lv_app, List.take_append_drop]
  omega
def mkS (d : List It) (s : List It × Nat) (p : Pt) : List It × Nat :=
  if p.kind = 1 then (s.1 ++ ((d.drop s.2).take p.n.toNat).map (fun x => change x (chOf p)), s.2 + p.n.toNat) else if p.kind = 2 then (s.1 ++ p.items, s.2) else (s.1, s.2 + p.n.toNat)
def mk (d : List It) (o : List Pt) : List It × Nat := o.foldl (mkS d) ([], 0)
theorem mkS_two (d : List It) (s : List It × Nat) (p : Pt) : (mkS d s p).2 = s.2 + nd1 p := by
  unfold mkS nd1
  by_cases h1 : p.kind = 1
  · rw [if_pos h1, if_neg (by omega)]
  · rw [if_neg h1]
    by_cases h2 : p.kind = 2
    · rw [if_pos h2, if_pos h2]; rfl
    · rw [if_neg h2, if_neg h2]
theorem mk_two (d : List It) : ∀ (o : List Pt) (s : List It × Nat), (o.foldl (mkS d) s).2 = s.2 + nd o
  | [], s => by simp [nd]
  | p :: o, s => by rw [List.foldl_cons, mk_two d o, mkS_two, nd_cons]; omega
theorem mkS_len (d : List It) (s : List It × Nat) (p : Pt) (h : s.2 + nd1 p ≤ d.length) : (mkS d s p).1.length = s.1.length + lv1 p := by
  unfold mkS lv1
  unfold nd1 at h
  by_cases h1 : p.kind = 1
  · rw [if_neg (by omega)] at h
    rw [if_pos h1, if_pos h1]
    simp
    omega
  · rw [if_neg h1, if_neg h1]
    by_cases h2 : p.kind = 2
    · rw [if_pos h2, if_pos h2]; simp
    · rw [if_neg h2, if_neg h2]; rfl
theorem mk_len (d : List It) : ∀ (o : List Pt) (s : List It × Nat), s.2 + nd o ≤ d.length → (o.foldl (mkS d) s).1.length = s.1.length + lv o
  | [], s, _ => by simp [lv]
  | p :: o, s, h => by
    rw [nd_cons] at h
    rw [List.foldl_cons, mk_len d o _ (by rw [mkS_two]; omega), mkS_len d s p (by omega), lv_cons]
    omega
theorem mk_step (d : List It) (o : List Pt) (k : Nat) (h : k < o.length) : mk d (o.take (k + 1)) = mkS d (mk d (o.take k)) o[k] := by
  unfold mk
  rw [List.take_succ_eq_append_getElem h, List.foldl_append]
  rfl
theorem mk_take (d : List It) (o : List Pt) (h : nd o = d.length) (k : Nat) : (mk d (o.take k)).2 ≤ d.length ∧ (mk d (o.take k)).1.length ≤ lv o := by
  have h1 := nd_take o k
  have h2 := lv_take o k
  unfold mk
  rw [mk_two, mk_len d _ _ (by simp; omega)]
  exact ⟨by simp; omega, by simp; omega⟩
theorem ap_keeps (c : Ch) : ∀ (n : Nat) (l : List A) (d : List It), ap (List.replicate n (A.keep c) ++ l) d = if n ≤ d.length then (ap l (d.drop n)).map ((d.take n).map (fun x => change x c) ++ ·) else none
  | 0, l, d => by simp
  | n + 1, l, [] => by simp [List.replicate_succ, ap]
  | n + 1, l, x :: d => by
    rw [List.replicate_succ, List.cons_append, ap_keep, ap_keeps c n l d]
    by_cases h : n ≤ d.length
    · rw [if_pos h, if_pos (by simpa using h)]
      simp [Option.map_map, Function.comp_def]
    · rw [if_neg h, if_neg (by simpa using h)]
      rfl
theorem mk_ap (d : List It) : ∀ (o : List Pt) (s : List It × Nat), s.2 + nd o = d.length → (∀ p ∈ o, p.kind = 1 ∨ p.kind = 2 ∨ p.kind = 3) → (ap (acts o) (d.drop s.2)).map (s.1 ++ ·) = some (o.foldl (mkS d) s).1
  | [], s, h, _ => by
    have : d.drop s.2 = [] := List.drop_eq_nil_of_le (by simp [nd] at h; omega)
    rw [this, acts_nil]
    simp [ap]
  | p :: o, s, h, hk => by
    rw [nd_cons] at h
    have ih := mk_ap d o (mkS d s p) (by rw [mkS_two]; omega) (fun q hq => hk q (List.mem_cons_of_mem _ hq))
    rw [List.foldl_cons, ← ih, acts_cons]
    rcases hk p (List.mem_cons_self ..) with h1 | h1 | h1
    · have hn : nd1 p = p.n.toNat := if_neg (by omega)
      have ha : acts1 p = List.replicate p.n.toNat (A.keep (chOf p)) := by unfold acts1; rw [if_neg (by omega), if_pos h1]
      have hm : mkS d s p = (s.1 ++ ((d.drop s.2).take p.n.toNat).map (fun x => change x (chOf p)), s.2 + p.n.toNat) := if_pos h1
      rw [ha, hm, ap_keeps, if_pos (by simp; omega), List.drop_drop]
      simp [Option.map_map, Function.comp_def]
    · have ha : acts1 p = p.items.map A.put := by unfold acts1; rw [if_pos h1]
      have hm : mkS d s p = (s.1 ++ p.items, s.2) := (if_neg (by omega)).trans (if_pos h1)
      rw [ha, hm, ap_puts]
      simp [Option.map_map, Function.comp_def]
    · have hn : nd1 p = p.n.toNat := if_neg (by omega)
      have ha : acts1 p = List.replicate p.n.toNat A.cut := by unfold acts1; rw [if_neg (by omega), if_neg (by omega)]
      have hm : mkS d s p = (s.1, s.2 + p.n.toNat) := (if_neg (by omega)).trans (if_neg (by omega))
      rw [ha, hm, ap_cuts, if_pos (by simp; omega), List.drop_drop]
structure Right (o : List Pt) : Prop where
  ne : 1 ≤ o.length
  few : o.length ≤ 40
  ok : ∀ p ∈ o, err1 p = 0
  sum : nd o ≤ 80
  last : ∃ o' p, o = o' ++ [p] ∧ p.kind = 1
theorem err1_nd {p : Pt} (h : err1 p = 0) : (nd1 p : Int) = p.n := by
  have hb := err1_n h
  unfold nd1
  by_cases h2 : p.kind = 2
  · obtain ⟨_, hs⟩ := err1_0 h
    have hn := says_nil hs
    unfold usedP at hn
    rw [if_neg (by omega), if_pos h2] at hn
    rw [if_pos h2]
    simp only at hn
    omega
  · rw [if_neg h2]; omega
theorem chks_0 : ∀ (o : List Pt) (z : Int), 0 ≤ z → z ≤ 80 → (chks z o = 0 ↔ (∀ p ∈ o, err1 p = 0) ∧ z + nd o ≤ 80)
  | [], z, h0, h1 => by simp [chks, nd]; omega
  | p :: o, z, h0, h1 => by
    rw [chks, nd_cons]
    by_cases he : err1 p = 0
    · have hn := err1_nd he
      have hb := err1_n he
      rw [if_pos he]
      by_cases h80 : 80 < z + p.n
      · rw [if_pos h80]
        constructor
        · intro h; cases h
        · intro ⟨_, h⟩; omega
      · rw [if_neg h80, chks_0 o (z + p.n) (by omega) (by omega)]
        constructor
        · rintro ⟨h, h'⟩
          refine ⟨fun q hq => ?_, by omega⟩
          rcases List.mem_cons.1 hq with rfl | hq
          · exact he
          · exact h q hq
        · rintro ⟨h, h'⟩
          exact ⟨fun q hq => h q (List.mem_cons_of_mem _ hq), by omega⟩
    · rw [if_neg he]
      constructor
      · intro h; exact absurd h he
      · rintro ⟨h, _⟩; exact absurd (h p (List.mem_cons_self ..)) he
theorem chk_right {o : List Pt} : chk o = 0 ↔ Right o := by
  unfold chk
  by_cases h : o.length < 1 ∨ 40 < o.length
  · rw [if_pos h]
    constructor
    · intro h; cases h
    · intro r; have := r.ne; have := r.few; omega
  · rw [if_neg h]
    have hc := chks_0 o 0 (by decide) (by decide)
    by_cases h0 : chks 0 o = 0
    · rw [if_pos h0]
      obtain ⟨h1, h2⟩ := hc.1 h0
      rcases List.eq_nil_or_concat o with e | ⟨o', p, e⟩
      · subst e; simp at h
      · rw [List.concat_eq_append] at e
        rw [e, List.getLast?_concat]
        simp only
        constructor
        · intro hk
          refine ⟨by rw [← e]; omega, by rw [← e]; omega, by rw [← e]; exact h1, by rw [← e]; omega, o', p, rfl, ?_⟩
          by_cases hp : p.kind = 1
          · exact hp
          · rw [if_neg hp] at hk; cases hk
        · rintro ⟨_, _, _, _, o2, q, e2, hq⟩
          have := List.append_inj' e2 rfl
          simp at this
          rw [if_pos (by rw [this.2]; exact hq)]
    · rw [if_neg h0]
      constructor
      · intro h; exact absurd h h0
      · intro r; exact absurd (hc.2 ⟨r.ok, by have := r.sum; omega⟩) h0
theorem wrap_small {x : Int} (h0 : 0 ≤ x) (h1 : x ≤ 1000000) : wrap64 x = x := by
  unfold wrap64
  omega
theorem kind_of {p : Pt} (h : err1 p = 0) : p.kind = 1 ∨ p.kind = 2 ∨ p.kind = 3 := by
  rcases err0_kind (err1_0 h).1 with h | h | h
  · exact .inl h.1
  · exact .inr (.inl h.1)
  · exact .inr (.inr h.1)
theorem lf_nd : ∀ (o : List Pt) (s : Int), (∀ p ∈ o, err1 p = 0) → 0 ≤ s → s + nd o ≤ 1000000 → o.foldl lfS s = s + nd o
  | [], s, _, _, _ => by simp [nd]
  | p :: o, s, h, h0, h1 => by
    rw [nd_cons] at h1 ⊢
    have hp := h p (List.mem_cons_self ..)
    have hn := err1_nd hp
    have e : lfS s p = s + nd1 p := by
      unfold lfS
      rcases kind_of hp with k | k | k
      · rw [if_pos (.inl k), wrap_small (by omega) (by omega), hn]
      · rw [if_neg (by omega)]; unfold nd1; rw [if_pos k]; simp
      · rw [if_pos (.inr k), wrap_small (by omega) (by omega), hn]
    rw [List.foldl_cons, lf_nd o _ (fun q hq => h q (List.mem_cons_of_mem _ hq)) (by omega) (by omega), e]
    omega
theorem lt_lv : ∀ (o : List Pt) (s : Int), (∀ p ∈ o, err1 p = 0) → 0 ≤ s → s + lv o ≤ 1000000 → o.foldl ltS s = s + lv o
  | [], s, _, _, _ => by simp [lv]
  | p :: o, s, h, h0, h1 => by
    rw [lv_cons] at h1 ⊢
    have hp := h p (List.mem_cons_self ..)
    have hn := err1_n hp
    have e : ltS s p = s + lv1 p := by
      unfold ltS lv1
      unfold lv1 at h1
      rcases kind_of hp with k | k | k
      · rw [if_pos k] at h1
        rw [if_pos k, if_pos k, wrap_small (by omega) (by omega)]
        omega
      · rw [if_neg (by omega), if_pos k] at h1
        rw [if_neg (by omega), if_pos k, if_neg (by omega), if_pos k, wrap_small (by omega) (by omega)]
      · rw [if_neg (by omega), if_neg (by omega), if_neg (by omega), if_neg (by omega)]
        simp
    rw [List.foldl_cons, lt_lv o _ (fun q hq => h q (List.mem_cons_of_mem _ hq)) (by omega) (by omega), e]
    omega
theorem err1_lv {p : Pt} (h : err1 p = 0) : lv1 p ≤ 80 := by
  have hb := err1_n h
  unfold lv1
  rcases err0_kind (err1_0 h).1 with ⟨k, _⟩ | ⟨k, he⟩ | ⟨k, _⟩
  · rw [if_pos k]; omega
  · rw [if_neg (by omega), if_pos k]
    unfold errPut at he
    by_cases hh : p.items.length < 1 ∨ 80 < p.items.length
    · rw [if_pos hh] at he; cases he
    · omega
  · rw [if_neg (by omega), if_neg (by omega)]; omega
theorem lv_le : ∀ (o : List Pt), (∀ p ∈ o, err1 p = 0) → lv o ≤ o.length * 80
  | [], _ => by simp [lv]
  | p :: o, h => by
    rw [lv_cons, List.length_cons]
    have := err1_lv (h p (List.mem_cons_self ..))
    have := lv_le o (fun q hq => h q (List.mem_cons_of_mem _ hq))
    omega
theorem Right.lf {o : List Pt} (h : Right o) : Ac.lf o = nd o := by
  have := lf_nd o 0 h.ok (by decide) (by have := h.sum; omega)
  unfold Ac.lf
  omega
theorem Right.lt {o : List Pt} (h : Right o) : Ac.lt o = lv o := by
  have hl := lv_le o h.ok
  have hf := h.few
  have := lt_lv o 0 h.ok (by decide) (by omega)
  unfold Ac.lt
  omega
end Ac
end Go.Proofs.YtbhcklkbckacpaaGreatDoor

/-
  Package op: Apply, of whatever document and operation.
-/
namespace Go.Proofs.YtbhcklkbckacpaaGreatDoor
open Go.RowKit

theorem elemD : Tryz.prog.elem 34 = 39 := by kernel_rfl
theorem under_doc : Tryz.prog.underlying 34 = some (.slice (Tryz.prog.elem 34)) := by kernel_rfl
theorem slice_d (b off n cap i k : Nat) (hi : i < k) (hk : k ≤ n) (hc : n ≤ cap) (w : World) : (Instr.slice 34 (.slice (some ⟨b, off, none⟩) n cap) (some (.int .i64 i)) (some (.int .i64 k)) none).run Tryz.prog w = .ok (.slice (some ⟨b, off + i * 3, none⟩) (k - i) (cap - i)) w := by
  rw [run_slice_lh (P := Tryz.prog) (w := w) 34 _ n cap under_doc .i64 .i64 (i : Int) (k : Int) (by omega) (by omega) (by omega), elemD, Tryz.sizeOf39 w]
  simp only [Result.andThen, Int.toNat_natCast]
  congr 1
  unfold sliced
  have e : (⟨b, off, none⟩ : Addr).add (i * 3) = ⟨b, off + i * 3, none⟩ := by unfold Addr.add; split <;> simp_all
  rw [if_neg (by omega)]
  simp only [Option.map_some, e]
theorem At.part {w : World} {b off : Nat} {l : List It} (h : At w b off l) (a q : Nat) : At w b (off + a * 3) ((l.drop a).take q) := by
  have hx : ∀ i (hi : i < ((l.drop a).take q).length), ∃ hj : a + i < l.length, ((l.drop a).take q)[i] = l[a + i] := fun i hi => by
    have h1 : i < (l.drop a).length := by have := List.length_take_le q (l.drop a); simp at hi; simp; omega
    refine ⟨by simp at h1; omega, ?_⟩
    rw [List.getElem_take, List.getElem_drop]
  refine ⟨fun i hi => ?_, fun i hi => ?_, fun i hi => ?_⟩
  · obtain ⟨hj, e⟩ := hx i hi
    rw [e, show off + a * 3 + i * 3 = off + (a + i) * 3 by omega]
    exact h.c _ hj
  · obtain ⟨hj, e⟩ := hx i hi
    rw [e, show off + a * 3 + i * 3 = off + (a + i) * 3 by omega]
    exact h.m _ hj
  · obtain ⟨hj, e⟩ := hx i hi
    rw [e, show off + a * 3 + i * 3 = off + (a + i) * 3 by omega]
    exact h.l _ hj

set_option maxRecDepth 100000 in
set_option maxHeartbeats 1600000 in
theorem next_any (A D b off n cap a q k : Nat) (w : World) (hA : Blk w A [.int .i64 a] 3) (hD : Blk w D [.slice (some ⟨b, off, none⟩) n cap] 34) (hne : D ≠ A) (hk : a + q = k) (hq : 0 < q) (hkn : k ≤ n) (h80 : n ≤ 80) (hcap : n ≤ cap) :
    Calls Tryz.prog 155 #[.int .i64 q, .pointer (some ⟨A, 0, none⟩), .pointer (some ⟨D, 0, none⟩)] w fun e w' => e = .returned (.slice (some ⟨b, off + a * 3, none⟩) q (cap - a)) ∧ w' = w.setCell ⟨A, 0, none⟩ (.int .i64 k) := by
  have a0 : w.cell? ⟨A, 0, none⟩ = some (.int .i64 a) := hA.cell 0
  have f0 := hA.frozen 0
  have HB2 : Hid (Blk (w.setCell ⟨A, 0, none⟩ (.int .i64 k)) A [.int .i64 k] 3) := hA.set 0 _
  have HD2 : Hid (Blk (w.setCell ⟨A, 0, none⟩ (.int .i64 k)) D [.slice (some ⟨b, off, none⟩) n cap] 34) := hD.other _ _ hne
  have hw1 : wrap64 ((a : Int) + (q : Int)) = (k : Int) := by unfold wrap64; omega
  have hw2 : wrap64 ((k : Int) - (q : Int)) = (a : Int) := by unfold wrap64; omega
  have hsl := slice_d b off n cap a k (by omega) hkn hcap
  have hqq : k - a = q := by omega
  rw [hqq] at hsl
  have HR : Hid (k ≤ 80) := by show _ ≤ _; omega
  clear hA hD hqq hk
  go_enter Tryz.func155, Tryz.ntmps155
  go_upto_region 2 with fail
  change Code.wp Tryz.prog _ _ _ (w.setCell ⟨A, 0, none⟩ (.int .i64 k))
  obtain ⟨W, hW⟩ : ∃ W, w.setCell ⟨A, 0, none⟩ (.int .i64 k) = W := ⟨_, rfl⟩
  rw [hW] at HB2 HD2 ⊢
  have a1 : W.cell? ⟨A, 0, none⟩ = some (.int .i64 k) := HB2.out.cell 0
  have d1 : W.cell? ⟨D, 0, none⟩ = some (.slice (some ⟨b, off, none⟩) n cap) := HD2.out.cell 0
  have HW : Hid (w.setCell ⟨A, 0, none⟩ (.int .i64 k) = W) := hW
  clear hW a0 f0
  go_wp2
  go_ret
  exact ⟨rfl, HW.out.symm⟩

structure ApI (w2 : World) (mv : Value) (s : List It × Nat) (wr : World) : Prop where
  own : wr.ownsRow (w2.heap.size + 1) 39 3 mv s.1.length (itCells s.1)
  atv : Blk wr w2.heap.size [.int .i64 s.2] 3
  blw : Below w2.heap.size w2 wr
  fit : Fit s.1
theorem ApI.lt {w2 : World} {mv : Value} {s : List It × Nat} {wr : World} (h : ApI w2 mv s wr) : w2.heap.size < wr.heap.size := h.atv.lt
theorem ApI.push {w2 : World} {mv : Value} {s s' : List It × Nat} {wr w7 w8 : World} {mv' : Value} (h : ApI w2 mv s wr) (hat : Blk w7 w2.heap.size [.int .i64 s'.2] 3) (hb : Below w2.heap.size w2 w7)
    (hown : w8.ownsRow (w2.heap.size + 1) 39 3 mv' s'.1.length (itCells s'.1)) (hg : w7.grownBy w8 mv.ownBlock) (hf : Fit s'.1) : ApI w2 mv' s' w8 := by
  have hne : ∀ k, k < w2.heap.size + 1 → some k ≠ mv.ownBlock := fun k hk e => by have := ownBlk_ge h.own k e.symm; omega
  refine ⟨hown, (hg.block _ hat.lt (hne _ (Nat.lt_succ_self _))).trans hat, hb.trans ⟨hg.os, hg.tape, hg.output, hg.size, fun k hk => hg.block k (by have := hat.lt; omega) (hne k (by omega))⟩, hf⟩
theorem fit_app {l l' : List It} (h : Fit l) (h' : Fit l') : Fit (l ++ l') := fun x hx => by
  rcases List.mem_append.1 hx with hx | hx
  · exact h x hx
  · exact h' x hx
theorem fit_change {l : List It} (h : Fit l) (c : Ac.Ch) (hc : c.link.size ≤ 9223372036854775807) : Fit (l.map fun x => Ac.change x c) := fun x hx => by
  obtain ⟨y, hy, rfl⟩ := List.mem_map.1 hx
  unfold Ac.change
  simp only
  split
  · exact hc
  · exact h y hy
theorem fit_part {l : List It} (h : Fit l) (a q : Nat) : Fit ((l.drop a).take q) := fun x hx => h x (List.mem_of_mem_drop (List.mem_of_mem_take hx))
theorem m4_part {l : List It} (h : Ac.M4 l) (a q : Nat) : Ac.M4 ((l.drop a).take q) := fun x hx => h x (List.mem_of_mem_drop (List.mem_of_mem_take hx))

end Go.Proofs.YtbhcklkbckacpaaGreatDoor

/-
  Package op: Apply, of whatever document and operation.
-/
namespace Go.Proofs.YtbhcklkbckacpaaGreatDoor
open Go.RowKit
namespace Ac
theorem errs_all : ∀ {l : List It}, Dc.errs l = 0 → ∀ x ∈ l, Dc.err x = 0
  | [], _, x, hx => by cases hx
  | y :: l, h, x, hx => by
    rw [Dc.errs] at h
    by_cases hy : Dc.err y = 0
    · rw [if_pos hy] at h
      rcases List.mem_cons.1 hx with rfl | hx
      · exact hy
      · exact errs_all h x hx
    · rw [if_neg hy] at h; exact absurd h hy
theorem errs_of : ∀ {l : List It}, (∀ x ∈ l, Dc.err x = 0) → Dc.errs l = 0
  | [], _ => rfl
  | y :: l, h => by rw [Dc.errs, if_pos (h y (List.mem_cons_self ..))]; exact errs_of (fun x hx => h x (List.mem_cons_of_mem _ hx))
theorem err_parts {x : It} (h : Dc.err x = 0) : (Dc.ends x = true ∨ Dc.isChar x = true) ∧ m4 x.m ∧ Dc.link x = true := by
  unfold Dc.err at h
  cases h1 : Dc.ends x
  · cases h2 : Dc.isChar x
    · rw [h1, h2] at h; cases h
    · rw [h1, h2] at h
      cases h3 : Dc.marks x
      · rw [h3] at h; cases h
      · rw [h3] at h
        cases h4 : Dc.link x
        · rw [h4] at h; cases h
        · refine ⟨.inr rfl, ?_, rfl⟩
          unfold Dc.marks at h3
          simp only [Bool.and_eq_true, decide_eq_true_eq] at h3
          exact h3
  · rw [h1] at h
    cases h3 : Dc.marks x
    · rw [h3] at h; cases h
    · rw [h3] at h
      cases h4 : Dc.link x
      · rw [h4] at h; cases h
      · refine ⟨.inl rfl, ?_, rfl⟩
        unfold Dc.marks at h3
        simp only [Bool.and_eq_true, decide_eq_true_eq] at h3
        exact h3
theorem check_0 {l : List It} (h : Dc.check l = 0) : l.length ≤ 80 ∧ Dc.errs l = 0 ∧ ∃ l' x, l = l' ++ [x] ∧ Dc.ends x = true := by
  have h80 : ¬ 80 < l.length := fun h' => by rw [Dc.check_many h'] at h; cases h
  have h0 : Dc.errs l = 0 := by
    by_cases h0 : Dc.errs l = 0
    · exact h0
    · rw [Dc.check_errs h80 h0] at h; exact h
  refine ⟨by omega, h0, ?_⟩
  rcases List.eq_nil_or_concat l with e | ⟨l', x, e⟩
  · rw [Dc.check_none h0 (by rw [e]; rfl)] at h; cases h
  · rw [List.concat_eq_append] at e
    have hl : l'.length < l.length := by rw [e]; simp
    rw [Dc.check_last h80 h0 hl (by rw [e]; simp)] at h
    have e2 : l[l'.length] = x := by simp [e]
    rw [e2] at h
    refine ⟨l', x, e, ?_⟩
    cases hx : Dc.ends x
    · rw [hx] at h; cases h
    · rfl
theorem check_m4 {l : List It} (h : Dc.check l = 0) : M4 l := fun x hx => (err_parts (errs_all (check_0 h).2.1 x hx)).2.1
theorem fit_0 {d : List It} {o : List Pt} (h : fitE d o = 0) : Dc.check d = 0 ∧ Right o ∧ nd o = d.length ∧ lv o ≤ 80 := by
  unfold fitE at h
  by_cases h1 : Dc.check d = 0
  · rw [if_pos h1] at h
    by_cases h2 : chk o = 0
    · rw [if_pos h2] at h
      have hr := chk_right.1 h2
      rw [hr.lf, hr.lt] at h
      by_cases h3 : (nd o : Int) = d.length
      · rw [if_pos h3] at h
        by_cases h4 : 80 < (lv o : Int)
        · rw [if_pos h4] at h; cases h
        · exact ⟨h1, hr, by omega, by omega⟩
      · rw [if_neg h3] at h; cases h
    · rw [if_neg h2] at h; exact absurd h h2
  · rw [if_neg h1] at h; exact absurd h h1
theorem areM_m4 {a : Int} (h : areM a = true) : m4 a := by
  unfold areM at h
  simp only [Bool.and_eq_true, decide_eq_true_eq] at h
  exact h
theorem keep_m4 {p : Pt} (h : err1 p = 0) (hk : p.kind = 1) : m4 p.set ∧ m4 p.clr ∧ 1 ≤ p.n ∧ p.n ≤ 80 := by
  rcases err0_kind (err1_0 h).1 with ⟨_, he⟩ | ⟨h2, _⟩ | ⟨h3, _⟩
  · obtain ⟨hm, _, hn⟩ := errK_0 he
    unfold marksBad at hm
    simp only [Bool.or_eq_false_iff, Bool.not_eq_false'] at hm
    exact ⟨areM_m4 hm.1, areM_m4 hm.2.1, errN_0 hn⟩
  · omega
  · omega
theorem put_len {p : Pt} (h : err1 p = 0) (hk : p.kind = 2) : 1 ≤ p.items.length ∧ p.items.length ≤ 80 ∧ Dc.errs p.items = 0 := by
  rcases err0_kind (err1_0 h).1 with ⟨_, he⟩ | ⟨_, he⟩ | ⟨h3, _⟩
  · omega
  · unfold errPut at he
    by_cases hh : p.items.length < 1 ∨ 80 < p.items.length
    · rw [if_pos hh] at he; cases he
    · rw [if_neg hh] at he; exact ⟨by omega, by omega, he⟩
  · omega
theorem cut_n {p : Pt} (h : err1 p = 0) (hk : p.kind = 3) : 1 ≤ p.n ∧ p.n ≤ 80 := by
  rcases err0_kind (err1_0 h).1 with ⟨h1, _⟩ | ⟨h2, _⟩ | ⟨_, he⟩
  · omega
  · omega
  · exact errN_0 he
def done (d : List It) (o : List Pt) : List It := if fitE d o = 0 then (mk d o).1 else []
end Ac

theorem own_doc {w : World} {B0 n : Nat} {v : Value} {l : List It} (h : w.ownsRow B0 39 3 v n (itCells l)) (hf : Fit l) (hl : l.length = n) : ∃ a c, v = .slice a n c ∧ Doc w a n c l := by
  rcases h.2 with ⟨rfl, rfl⟩ | ⟨g, cap, cur, rfl, hg, hh, h1, h2, h3, h4⟩
  · exact ⟨none, 0, rfl, hf, hl, Nat.le_refl _, by decide, fun h => absurd rfl h⟩
  · exact ⟨_, cap, rfl, hf, hl, h1, by unfold maxLen at h2; exact h2, fun _ => ⟨g, 0, rfl, own_at h⟩⟩

set_option maxRecDepth 100000 in
set_option maxHeartbeats 1600000 in
theorem apply_bad (ao ao' : Option Addr) (n cap n' cap' : Nat) (l : List It) (vs : List PV) (w : World) (hD : Doc w ao n cap l) (hO : Ops w ao' n' cap' vs) (hS : Sch w) (hE : ¬ Ac.fitE l (vs.map PV.pt) = 0) :
    Calls Tryz.prog 78 #[.slice ao n cap, .slice ao' n' cap'] w fun e w' => e = .returned (.tuple #[.slice none 0 0, .int .i64 (Ac.fitE l (vs.map PV.pt))]) ∧ Below w.heap.size w w' := by
  have H1 : Hid (Below w.heap.size w (w.alloc (.cells #[.slice ao n cap] 34))) := (Below.refl _ _).alloc (Nat.le_refl _) _
  have CF : Hid (Calls Tryz.prog 154 #[.slice ao n cap, .slice ao' n' cap'] (w.alloc (.cells #[.slice ao n cap] 34)) fun e w' => e = .returned (.int .i64 (Ac.fitE l (vs.map PV.pt))) ∧ Below (w.alloc (.cells #[.slice ao n cap] 34)).heap.size (w.alloc (.cells #[.slice ao n cap] 34)) w') := fit_any ao ao' n cap n' cap' l vs _ (hD.below H1.out) (hO.below H1.out) (hS.below H1.out)
  clear hD hO hS
  generalize Ac.fitE l (vs.map PV.pt) = r at *
  have hE' : (r != 0) = true := by simp [hE]
  go_enter Tryz.func78, Tryz.ntmps78
  go_wp2_with fail
  refine CF.out.mono ?_
  rintro e w1 ⟨rfl, hb⟩
  have H2 : Hid (Below w.heap.size w w1) := H1.out.trans (hb.mono H1.out.size)
  clear hb
  go_wp2
  go_ret2
  exact ⟨rfl, H2.out⟩

set_option maxRecDepth 100000 in
set_option maxHeartbeats 12800000 in
theorem apply_ok (ao ao' : Option Addr) (n cap n' cap' : Nat) (l : List It) (vs : List PV) (w : World) (hD : Doc w ao n cap l) (hO : Ops w ao' n' cap' vs) (hS : Sch w) (hE : Ac.fitE l (vs.map PV.pt) = 0) :
    Calls Tryz.prog 78 #[.slice ao n cap, .slice ao' n' cap'] w fun e w' => (∃ a c, e = .returned (.tuple #[.slice a (Ac.mk l (vs.map PV.pt)).1.length c, .int .i64 0]) ∧ Doc w' a (Ac.mk l (vs.map PV.pt)).1.length c (Ac.mk l (vs.map PV.pt)).1) ∧ Below w.heap.size w w' := by
  obtain ⟨hck, hri, hnd, hlv⟩ := Ac.fit_0 hE
  have hN80 := (Ac.check_0 hck).1
  obtain ⟨i0, hi, hz0, hz1, hz2⟩ := info_parts Tryz.infI
  have hpos : n ≠ 0 := by
    obtain ⟨_, _, l', x, e, _⟩ := Ac.check_0 hck
    have := hD.len
    rw [e] at this
    simp at this
    omega
  obtain ⟨b, off, rfl, hA⟩ := hD.lies hpos
  have H1 : Hid (Below w.heap.size w (w.alloc (.cells #[.slice (some ⟨b, off, none⟩) n cap] 34))) := (Below.refl _ _).alloc (Nat.le_refl _) _
  have CF : Hid (Calls Tryz.prog 154 #[.slice (some ⟨b, off, none⟩) n cap, .slice ao' n' cap'] (w.alloc (.cells #[.slice (some ⟨b, off, none⟩) n cap] 34)) fun e w' => e = .returned (.int .i64 (Ac.fitE l (vs.map PV.pt))) ∧ Below (w.alloc (.cells #[.slice (some ⟨b, off, none⟩) n cap] 34)).heap.size (w.alloc (.cells #[.slice (some ⟨b, off, none⟩) n cap] 34)) w') := fit_any _ ao' n cap n' cap' l vs _ (hD.below H1.out) (hO.below H1.out) (hS.below H1.out)
  rw [hE] at CF
  have HDX : Hid (Blk (w.alloc (.cells #[.slice (some ⟨b, off, none⟩) n cap] 34)) w.heap.size [.slice (some ⟨b, off, none⟩) n cap] 34) := Blk.new w _ _
  have HDS : Hid (w.heap.size < (w.alloc (.cells #[.slice (some ⟨b, off, none⟩) n cap] 34)).heap.size) := by show _ < _; simp
  have HA0 : Hid (At w b off l) := hA
  have HO0 : Hid (Ops w ao' n' cap' vs) := hO
  have HN : Hid (vs.length = n') := hO.len
  have HLL : Hid (l.length = n) := hD.len
  have HFIT : Hid (Fit l) := hD.fit
  have HM4 : Hid (Ac.M4 l) := Ac.check_m4 hck
  have HOK : Hid (∀ v ∈ vs, Ac.err1 v.pt = 0) := fun v hv => hri.ok _ (List.mem_map.2 ⟨v, hv, rfl⟩)
  have HTK : Hid (∀ k, (Ac.mk l ((vs.map PV.pt).take k)).2 ≤ n ∧ (Ac.mk l ((vs.map PV.pt).take k)).1.length ≤ 80) := fun k => by
    have := Ac.mk_take l (vs.map PV.pt) hnd k
    rw [hD.len] at this
    exact ⟨this.1, by omega⟩
  have hcap := hD.room
  have hbig := hD.big
  have hcap' := hO.row.room
  have hbig' := hO.row.big
  rw [hD.len] at hN80
  clear hD hO hS hE hck hri hnd hlv hA hpos
  obtain ⟨R, hR⟩ : ∃ R, (Ac.mk l (vs.map PV.pt)).1 = R := ⟨_, rfl⟩
  have HR : Hid ((Ac.mk l (vs.map PV.pt)).1 = R) := hR
  rw [hR]
  clear hR
  go_enter Tryz.func78, Tryz.ntmps78
  go_wp2_with fail
  refine CF.out.mono ?_
  rintro e w2 ⟨rfl, hb⟩
  have H2 : Hid (Below w.heap.size w w2) := H1.out.trans (hb.mono H1.out.size)
  have HD2 : Hid (Blk w2 w.heap.size [.slice (some ⟨b, off, none⟩) n cap] 34) := (hb.block _ HDS.out).trans HDX.out
  have HDL : Hid (w.heap.size < w2.heap.size) := HD2.out.lt
  have HA2 : Hid (At w2 b off l) := HA0.out.below H2.out
  have HO2 : Hid (Ops w2 ao' n' cap' vs) := HO0.out.below H2.out
  have HAT : Hid (Blk (w2.alloc (.cells #[.int .i64 0] 3)) w2.heap.size [.int .i64 0] 3) := Blk.new w2 [.int .i64 0] 3
  have HBA : Hid (Below w2.heap.size w2 (w2.alloc (.cells #[.int .i64 0] 3))) := (Below.refl _ _).alloc (Nat.le_refl _) _
  clear hb CF HDX HDS HA0 HO0
  go_wp2
  go_loopw [9, 21] (fun mv i wr => ∃ k : Nat, k ≤ n' ∧ i = .int .i64 k ∧ ApI w2 mv (Ac.mk l ((vs.map PV.pt).take k)) wr) (fun _ i _ => n' - (intOf i).toNat)
  case atStart => exact ⟨0, Nat.zero_le _, rfl, World.ownsRow_nil _ _ _ _, HAT.out, HBA.out, fun x hx => absurd hx (by simp [Ac.mk])⟩
  case round =>
    obtain ⟨k, hk, rfl, hI⟩ := hrel
    have HI : Hid (ApI w2 u9 (Ac.mk l ((vs.map PV.pt).take k)) wr) := hI
    clear hI
    by_cases hlt : k < n'
    · obtain ⟨pb, po, rfl, hG⟩ := HO2.out.get (by omega)
      have hkv : k < vs.length := by rw [HN.out]; exact hlt
      have HMS : Hid (Ac.mk l ((vs.map PV.pt).take (k + 1)) = Ac.mkS l (Ac.mk l ((vs.map PV.pt).take k)) vs[k].pt) := by
        have := Ac.mk_step l (vs.map PV.pt) k (by rw [List.length_map]; exact hkv)
        rw [List.getElem_map] at this
        exact this
      have hB1 := HTK.out k
      have hB2 := HTK.out (k + 1)
      rw [HMS.out] at hB2
      have hok := HOK.out vs[k] (List.getElem_mem hkv)
      have HPV := HO2.out.pts vs[k] (List.getElem_mem hkv)
      obtain ⟨c0, c1, c2, c3, c4, c5, c6⟩ := (hG k hkv).same (HI.out.blw.block pb (cell_lt (hG k hkv).c0))
      clear hG
      generalize Ac.mk l ((vs.map PV.pt).take k) = s at *
      generalize vs[k] = v at *
      obtain ⟨kind, q, vo, m, vcap, items, st, cl, gs, lk⟩ := v
      simp only at c0 c1 c2 c3 c4 c5 c6
      clear hkv
      obtain ⟨made, at0⟩ := s
      by_cases h1 : kind = 1
      · subst h1
        obtain ⟨hs4, hc4, hq1, hq2⟩ := Ac.keep_m4 hok rfl
        change 1 ≤ q at hq1
        change q ≤ 80 at hq2
        obtain ⟨qn, rfl⟩ : ∃ qn : Nat, q = qn := ⟨q.toNat, by omega⟩
        have hms : Ac.mkS l (made, at0) (PV.pt ⟨1, qn, vo, m, vcap, items, st, cl, gs, lk⟩) = (made ++ ((l.drop at0).take qn).map (fun x => Ac.change x ⟨st, cl, gs, lk⟩), at0 + qn) := rfl
        rw [hms] at HMS hB2
        have hB3 : (made ++ ((l.drop at0).take qn).map (fun x => Ac.change x ⟨st, cl, gs, lk⟩)).length ≤ 80 := hB2.2
        rw [List.length_append, List.length_map] at hB3
        have hb1 : made.length ≤ 80 := hB1.2
        obtain ⟨ml, hml⟩ : ∃ ml, made.length = ml := ⟨_, rfl⟩
        have HML : Hid (made.length = ml) := hml
        have HLT := HI.out.lt
        have HNB : Hid (some wr.heap.size ≠ u9.ownBlock) := fun e => by have := (HI.out.own.lt _ e.symm).2; omega
        have HDL1 := HDL.out
        have HS5 : Hid (Seven (boxp ⟨1, qn, vo, m, vcap, items, st, cl, gs, lk⟩ wr) wr.heap.size 0 ⟨1, qn, vo, m, vcap, items, st, cl, gs, lk⟩) := boxp_at _ wr
        have hw5 : Below wr.heap.size wr (boxp ⟨1, qn, vo, m, vcap, items, st, cl, gs, lk⟩ wr) := boxp_below _ wr
        have HB5 : Hid (Below w2.heap.size w2 (boxp ⟨1, qn, vo, m, vcap, items, st, cl, gs, lk⟩ wr)) := HI.out.blw.trans (hw5.mono (by omega))
        have HO5 : Hid ((boxp ⟨1, qn, vo, m, vcap, items, st, cl, gs, lk⟩ wr).ownsRow (w2.heap.size + 1) 39 3 u9 ml (itCells made)) := by
          have := own_under HI.out.own hw5
          rw [hml] at this
          exact this
        have HAT5 : Hid (Blk (boxp ⟨1, qn, vo, m, vcap, items, st, cl, gs, lk⟩ wr) w2.heap.size [.int .i64 at0] 3) := (hw5.block _ HI.out.atv.lt).trans HI.out.atv
        have HD5 : Hid (Blk (boxp ⟨1, qn, vo, m, vcap, items, st, cl, gs, lk⟩ wr) w.heap.size [.slice (some ⟨b, off, none⟩) n cap] 34) := (HB5.out.block _ HDL1).trans HD2.out
        have HA5 : Hid (At (boxp ⟨1, qn, vo, m, vcap, items, st, cl, gs, lk⟩ wr) b off l) := HA2.out.below HB5.out
        have hq0 : 0 < qn := by omega
        have hqn : at0 + qn ≤ n := hB2.1
        have CN : Hid (Calls Tryz.prog 155 #[.int .i64 qn, .pointer (some ⟨w2.heap.size, 0, none⟩), .pointer (some ⟨w.heap.size, 0, none⟩)] (boxp ⟨1, qn, vo, m, vcap, items, st, cl, gs, lk⟩ wr).drew fun e w' => e = .returned (.slice (some ⟨b, off + at0 * 3, none⟩) qn (cap - at0)) ∧ w' = (boxp ⟨1, qn, vo, m, vcap, items, st, cl, gs, lk⟩ wr).drew.setCell ⟨w2.heap.size, 0, none⟩ (.int .i64 ((at0 + qn : Nat) : Int))) := next_any w2.heap.size w.heap.size b off n cap at0 qn (at0 + qn) _ HAT5.out HD5.out (by omega) rfl hq0 hqn hN80 hcap
        have HW1b : Hid (Below w2.heap.size w2 ((boxp ⟨1, qn, vo, m, vcap, items, st, cl, gs, lk⟩ wr).drew.setCell ⟨w2.heap.size, 0, none⟩ (.int .i64 ((at0 + qn : Nat) : Int)))) := HB5.out.drew.setCell (Nat.le_refl _) _
        have HAT1 : Hid (Blk ((boxp ⟨1, qn, vo, m, vcap, items, st, cl, gs, lk⟩ wr).drew.setCell ⟨w2.heap.size, 0, none⟩ (.int .i64 ((at0 + qn : Nat) : Int))) w2.heap.size [.int .i64 ((at0 + qn : Nat) : Int)] 3) := HAT5.out.set 0 _
        have HS1 : Hid (Seven ((boxp ⟨1, qn, vo, m, vcap, items, st, cl, gs, lk⟩ wr).drew.setCell ⟨w2.heap.size, 0, none⟩ (.int .i64 ((at0 + qn : Nat) : Int))) wr.heap.size 0 ⟨1, qn, vo, m, vcap, items, st, cl, gs, lk⟩) := HS5.out.same (Below.heap_setCell (boxp ⟨1, qn, vo, m, vcap, items, st, cl, gs, lk⟩ wr).drew _ _ _ (by simp; omega))
        have HO1 : Hid (((boxp ⟨1, qn, vo, m, vcap, items, st, cl, gs, lk⟩ wr).drew.setCell ⟨w2.heap.size, 0, none⟩ (.int .i64 ((at0 + qn : Nat) : Int))).ownsRow (w2.heap.size + 1) 39 3 u9 ml (itCells made)) := ownsRow_setCell_below HO5.out (by simp) _
        have HA1 : Hid (At ((boxp ⟨1, qn, vo, m, vcap, items, st, cl, gs, lk⟩ wr).drew.setCell ⟨w2.heap.size, 0, none⟩ (.int .i64 ((at0 + qn : Nat) : Int))) b off l) := HA2.out.below HW1b.out
        generalize (boxp ⟨1, qn, vo, m, vcap, items, st, cl, gs, lk⟩ wr).drew.setCell ⟨w2.heap.size, 0, none⟩ (.int .i64 ((at0 + qn : Nat) : Int)) = W1 at *
        have hpl : ((l.drop at0).take qn).length = qn := by rw [List.length_take, List.length_drop, HLL.out]; omega
        have CHH : Hid (Calls Tryz.prog 156 #[.slice (some ⟨b, off + at0 * 3, none⟩) qn (cap - at0), .agg #[.int .i64 1, .int .i64 qn, .slice vo m vcap, .int .i64 st, .int .i64 cl, .bool gs, .string lk]] W1 fun e w' => (∃ g cap', e = .returned (.slice (some ⟨g, 0, none⟩) qn cap') ∧ w'.ownsRow W1.heap.size 39 3 (.slice (some ⟨g, 0, none⟩) qn cap') qn (itCells (((l.drop at0).take qn).map fun x => Ac.change x ⟨st, cl, gs, lk⟩))) ∧ Below W1.heap.size W1 w') := changed_any b (off + at0 * 3) qn (cap - at0) _ 1 qn vo m vcap items st cl gs lk W1 (HA1.out.part at0 qn) hpl hq0 (by omega) (m4_part HM4.out _ _) hs4 hc4
        have HLC : Hid ((itCells (((l.drop at0).take qn).map fun x => Ac.change x ⟨st, cl, gs, lk⟩)).length = qn * 3) := by show _ = _; rw [itCells_len, List.length_map, hpl]
        have HFN : Hid (Fit (made ++ (((l.drop at0).take qn).map fun x => Ac.change x ⟨st, cl, gs, lk⟩))) := fit_app HI.out.fit (fit_change (fit_part HFIT.out _ _) _ HPV.fit)
        have hmq : ml + qn ≤ 80 := by rw [hpl] at hB3; omega
        have HMQ : Hid ((made ++ (((l.drop at0).take qn).map fun x => Ac.change x ⟨st, cl, gs, lk⟩)).length = ml + qn) := by show _ = _; rw [List.length_append, List.length_map, hpl, hml]
        clear hms hB1 hB2 hB3 hml hpl hw5 hok hs4 hc4 HPV hb1
        generalize (((l.drop at0).take qn).map fun x => Ac.change x ⟨st, cl, gs, lk⟩) = ch at *
        go_upto_region 12 with fail
        change Code.wp Tryz.prog _ _ _ (boxp ⟨1, qn, vo, m, vcap, items, st, cl, gs, lk⟩ wr)
        generalize (boxp ⟨1, qn, vo, m, vcap, items, st, cl, gs, lk⟩ wr) = W5 at *
        clear c0 c1 c2 c3 c4 c5 c6
        obtain ⟨d0, d1, d2, d3, d4, d5, d6⟩ := HS5.out
        obtain ⟨x0, x1, x2, x3, x4, x5, x6⟩ := HS1.out
        simp only [Nat.zero_add] at d0 d1 d2 d3 d4 d5 d6 x0 x1 x2 x3 x4 x5 x6
        go_region_held3 (fun w' => w'.cell? ⟨wr.heap.size, 0, none⟩ = some (.int .i64 1) ∧ w'.cell? ⟨wr.heap.size, 1, none⟩ = some (.int .i64 qn) ∧ w'.cell? ⟨wr.heap.size, 2, none⟩ = some (.slice vo m vcap) ∧ w'.cell? ⟨wr.heap.size, 3, none⟩ = some (.int .i64 st) ∧ w'.cell? ⟨wr.heap.size, 4, none⟩ = some (.int .i64 cl) ∧ w'.cell? ⟨wr.heap.size, 5, none⟩ = some (.bool gs) ∧ w'.cell? ⟨wr.heap.size, 6, none⟩ = some (.string lk)) (first | exact ⟨d0, d1, d2, d3, d4, d5, d6⟩ | exact ⟨x0, x1, x2, x3, x4, x5, x6⟩ | exact ⟨y0, y1, y2, y3, y4, y5, y6⟩ | exact ⟨z0, z1, z2, z3, z4, z5, z6⟩) (first | (go_at_call 155; refine CN.out.mono ?_; rintro e w6 ⟨rfl, rfl⟩) | (go_at_call 156; refine CHH.out.mono ?_; rintro e w7 ⟨⟨g, cg, rfl, ho⟩, hb⟩; have HS7 : Hid (Seven w7 wr.heap.size 0 ⟨1, qn, vo, m, vcap, items, st, cl, gs, lk⟩) := HS1.out.below hb; obtain ⟨y0, y1, y2, y3, y4, y5, y6⟩ := HS7.out; simp only [Nat.zero_add] at y0 y1 y2 y3 y4 y5 y6; have HO7 : Hid (w7.ownsRow (w2.heap.size + 1) 39 3 u9 ml (itCells made)) := own_under HO1.out hb; have HN7 : Hid (∀ j u, (itCells ch)[j]? = some u → w7.cell? ((⟨g, 0, none⟩ : Addr).add j) = some u) := ho.cells rfl; have HAT7 : Hid (Blk w7 w2.heap.size [.int .i64 ((at0 + qn : Nat) : Int)] 3) := (hb.block _ HAT1.out.lt).trans HAT1.out; have HB7 : Hid (Below w2.heap.size w2 w7) := HW1b.out.trans (hb.mono (Nat.le_of_lt HAT1.out.lt)); have hsz7 : w2.heap.size + 1 ≤ w7.heap.size := HAT7.out.lt; clear ho hb) | (refine step_append_lies2 _ rfl (.tmp 29) (.tmp 35) 34 33 39 rfl Tryz.underlying33 (w2.heap.size + 1) 39 i0 (.agg #[.int .u8 0, .int .i64 0, .string ⟨#[]⟩]) 3 32 Tryz.underlying34 hi hz0 hz1 hz2 rfl (by decide) u9 ml (itCells made) rfl HO7.out ⟨g, 0, none⟩ qn cg (itCells ch) rfl HLC.out HN7.out (itCells_one _) hq0 (by unfold maxLen; omega) (by omega) hsz7 _ rfl ?_; intro g2 cap2 w8 hown hgrow hat hlt; obtain ⟨z0, z1, z2, z3, z4, z5, z6⟩ := HS7.out.same (hgrow.block _ (cell_lt HS7.out.c0) HNB.out); simp only [Nat.zero_add] at z0 z1 z2 z3 z4 z5 z6; have HFIN : Hid (ApI w2 (.slice (some ⟨g2, 0, none⟩) (ml + qn) cap2) (made ++ ch, at0 + qn) w8) := HI.out.push HAT7.out HB7.out (by rw [itCells_app, HMQ.out]; exact hown) hgrow HFN.out; clear hown hgrow hat hlt))
        go_wp2
        go_roundw
        case rel => exact ⟨k + 1, by omega, by go_num, by rw [HMS.out]; exact HFIN.out⟩
        case measure => simp [intOf]; omega
      · by_cases h2 : kind = 2
        · subst h2
          obtain ⟨hp1, hp2, -⟩ := Ac.put_len hok rfl
          change 1 ≤ items.length at hp1
          change items.length ≤ 80 at hp2
          have hlm : items.length = m := HPV.doc.len
          have hms : Ac.mkS l (made, at0) (PV.pt ⟨2, q, vo, m, vcap, items, st, cl, gs, lk⟩) = (made ++ items, at0) := rfl
          rw [hms] at HMS hB2
          have hB3 : (made ++ items).length ≤ 80 := hB2.2
          rw [List.length_append, hlm] at hB3
          rw [hlm] at hp1 hp2
          have hb1 : made.length ≤ 80 := hB1.2
          obtain ⟨ml, hml⟩ : ∃ ml, made.length = ml := ⟨_, rfl⟩
          have HML : Hid (made.length = ml) := hml
          have HLT := HI.out.lt
          have HNB : Hid (some wr.heap.size ≠ u9.ownBlock) := fun e => by have := (HI.out.own.lt _ e.symm).2; omega
          have HDL1 := HDL.out
          have HS5 : Hid (Seven (boxp ⟨2, q, vo, m, vcap, items, st, cl, gs, lk⟩ wr) wr.heap.size 0 ⟨2, q, vo, m, vcap, items, st, cl, gs, lk⟩) := boxp_at _ wr
          have hw5 : Below wr.heap.size wr (boxp ⟨2, q, vo, m, vcap, items, st, cl, gs, lk⟩ wr) := boxp_below _ wr
          have HB5 : Hid (Below w2.heap.size w2 (boxp ⟨2, q, vo, m, vcap, items, st, cl, gs, lk⟩ wr)) := HI.out.blw.trans (hw5.mono (by omega))
          have HO5 : Hid ((boxp ⟨2, q, vo, m, vcap, items, st, cl, gs, lk⟩ wr).ownsRow (w2.heap.size + 1) 39 3 u9 ml (itCells made)) := by
            have := own_under HI.out.own hw5
            rw [hml] at this
            exact this
          have HAT5 : Hid (Blk (boxp ⟨2, q, vo, m, vcap, items, st, cl, gs, lk⟩ wr) w2.heap.size [.int .i64 at0] 3) := (hw5.block _ HI.out.atv.lt).trans HI.out.atv
          have HD5 : Hid (Blk (boxp ⟨2, q, vo, m, vcap, items, st, cl, gs, lk⟩ wr) w.heap.size [.slice (some ⟨b, off, none⟩) n cap] 34) := (HB5.out.block _ HDL1).trans HD2.out
          have HA5 : Hid (At (boxp ⟨2, q, vo, m, vcap, items, st, cl, gs, lk⟩ wr) b off l) := HA2.out.below HB5.out
          obtain ⟨ib, io, rfl, hIA⟩ := HPV.doc.lies (by change m ≠ 0; omega)
          have HIA : Hid (∀ j u, (itCells items)[j]? = some u → (boxp ⟨2, q, some ⟨ib, io, none⟩, m, vcap, items, st, cl, gs, lk⟩ wr).cell? ((⟨ib, io, none⟩ : Addr).add j) = some u) := at_cells (hIA.below HB5.out)
          have HLC : Hid ((itCells items).length = m * 3) := by show _ = _; rw [itCells_len, hlm]
          have HFN : Hid (Fit (made ++ items)) := fit_app HI.out.fit HPV.doc.fit
          have hmq : ml + m ≤ 80 := by omega
          have HMQ : Hid ((made ++ items).length = ml + m) := by show _ = _; rw [List.length_append, hlm, hml]
          have hsz5 : w2.heap.size + 1 ≤ (boxp ⟨2, q, some ⟨ib, io, none⟩, m, vcap, items, st, cl, gs, lk⟩ wr).heap.size := HAT5.out.lt
          clear hms hB1 hB2 hB3 hml hw5 hok HPV hb1 hIA hlm
          go_upto_region 13 with fail
          change Code.wp Tryz.prog _ _ _ (boxp ⟨2, q, some ⟨ib, io, none⟩, m, vcap, items, st, cl, gs, lk⟩ wr)
          generalize boxp ⟨2, q, some ⟨ib, io, none⟩, m, vcap, items, st, cl, gs, lk⟩ wr = W5 at *
          clear c0 c1 c2 c3 c4 c5 c6
          obtain ⟨d0, d1, d2, d3, d4, d5, d6⟩ := HS5.out
          simp only [Nat.zero_add] at d0 d1 d2 d3 d4 d5 d6
          go_wp2_with (at_builtin; refine wpList_append_lies2 _ rfl (.tmp 39) (.tmp 41) 34 33 39 rfl Tryz.underlying33 (w2.heap.size + 1) 39 i0 (.agg #[.int .u8 0, .int .i64 0, .string ⟨#[]⟩]) 3 32 Tryz.underlying34 hi hz0 hz1 hz2 rfl (by decide) u9 ml (itCells made) rfl HO5.out ⟨ib, io, none⟩ m vcap (itCells items) rfl HLC.out HIA.out (itCells_one _) (by omega) (by unfold maxLen; omega) (by omega) hsz5 _ rfl ?c7)
          case c7 =>
            intro g2 cap2 w8 hown hgrow hat hlt2
            have HFIN : Hid (ApI w2 (.slice (some ⟨g2, 0, none⟩) (ml + m) cap2) (made ++ items, at0) w8) := HI.out.push HAT5.out HB5.out (by rw [itCells_app, HMQ.out]; exact hown) hgrow HFN.out
            clear hown hgrow hat hlt2
            go_wp2
            go_roundw
            case rel => exact ⟨k + 1, by omega, by go_num, by rw [HMS.out]; exact HFIN.out⟩
            case measure => simp [intOf]; omega
        · by_cases h3 : kind = 3
          · subst h3
            obtain ⟨hq1, hq2⟩ := Ac.cut_n hok rfl
            change 1 ≤ q at hq1
            change q ≤ 80 at hq2
            obtain ⟨qn, rfl⟩ : ∃ qn : Nat, q = qn := ⟨q.toNat, by omega⟩
            have hms : Ac.mkS l (made, at0) (PV.pt ⟨3, qn, vo, m, vcap, items, st, cl, gs, lk⟩) = (made, at0 + qn) := rfl
            rw [hms] at HMS hB2
            have hb1 : made.length ≤ 80 := hB1.2
            obtain ⟨ml, hml⟩ : ∃ ml, made.length = ml := ⟨_, rfl⟩
            have HML : Hid (made.length = ml) := hml
            have HLT := HI.out.lt
            have HNB : Hid (some wr.heap.size ≠ u9.ownBlock) := fun e => by have := (HI.out.own.lt _ e.symm).2; omega
            have HDL1 := HDL.out
            have HS5 : Hid (Seven (boxp ⟨3, qn, vo, m, vcap, items, st, cl, gs, lk⟩ wr) wr.heap.size 0 ⟨3, qn, vo, m, vcap, items, st, cl, gs, lk⟩) := boxp_at _ wr
            have hw5 : Below wr.heap.size wr (boxp ⟨3, qn, vo, m, vcap, items, st, cl, gs, lk⟩ wr) := boxp_below _ wr
            have HB5 : Hid (Below w2.heap.size w2 (boxp ⟨3, qn, vo, m, vcap, items, st, cl, gs, lk⟩ wr)) := HI.out.blw.trans (hw5.mono (by omega))
            have HO5 : Hid ((boxp ⟨3, qn, vo, m, vcap, items, st, cl, gs, lk⟩ wr).ownsRow (w2.heap.size + 1) 39 3 u9 ml (itCells made)) := by
              have := own_under HI.out.own hw5
              rw [hml] at this
              exact this
            have HAT5 : Hid (Blk (boxp ⟨3, qn, vo, m, vcap, items, st, cl, gs, lk⟩ wr) w2.heap.size [.int .i64 at0] 3) := (hw5.block _ HI.out.atv.lt).trans HI.out.atv
            have HD5 : Hid (Blk (boxp ⟨3, qn, vo, m, vcap, items, st, cl, gs, lk⟩ wr) w.heap.size [.slice (some ⟨b, off, none⟩) n cap] 34) := (HB5.out.block _ HDL1).trans HD2.out
            have HA5 : Hid (At (boxp ⟨3, qn, vo, m, vcap, items, st, cl, gs, lk⟩ wr) b off l) := HA2.out.below HB5.out
            have hq0 : 0 < qn := by omega
            have hqn : at0 + qn ≤ n := hB2.1
            have CN : Hid (Calls Tryz.prog 155 #[.int .i64 qn, .pointer (some ⟨w2.heap.size, 0, none⟩), .pointer (some ⟨w.heap.size, 0, none⟩)] (boxp ⟨3, qn, vo, m, vcap, items, st, cl, gs, lk⟩ wr) fun e w' => e = .returned (.slice (some ⟨b, off + at0 * 3, none⟩) qn (cap - at0)) ∧ w' = (boxp ⟨3, qn, vo, m, vcap, items, st, cl, gs, lk⟩ wr).setCell ⟨w2.heap.size, 0, none⟩ (.int .i64 ((at0 + qn : Nat) : Int))) := next_any w2.heap.size w.heap.size b off n cap at0 qn (at0 + qn) _ HAT5.out HD5.out (by omega) rfl hq0 hqn hN80 hcap
            have HW1b : Hid (Below w2.heap.size w2 ((boxp ⟨3, qn, vo, m, vcap, items, st, cl, gs, lk⟩ wr).setCell ⟨w2.heap.size, 0, none⟩ (.int .i64 ((at0 + qn : Nat) : Int)))) := HB5.out.setCell (Nat.le_refl _) _
            have HAT1 : Hid (Blk ((boxp ⟨3, qn, vo, m, vcap, items, st, cl, gs, lk⟩ wr).setCell ⟨w2.heap.size, 0, none⟩ (.int .i64 ((at0 + qn : Nat) : Int))) w2.heap.size [.int .i64 ((at0 + qn : Nat) : Int)] 3) := HAT5.out.set 0 _
            have HS1 : Hid (Seven ((boxp ⟨3, qn, vo, m, vcap, items, st, cl, gs, lk⟩ wr).setCell ⟨w2.heap.size, 0, none⟩ (.int .i64 ((at0 + qn : Nat) : Int))) wr.heap.size 0 ⟨3, qn, vo, m, vcap, items, st, cl, gs, lk⟩) := HS5.out.same (Below.heap_setCell (boxp ⟨3, qn, vo, m, vcap, items, st, cl, gs, lk⟩ wr) _ _ _ (by simp; omega))
            have HO1 : Hid (((boxp ⟨3, qn, vo, m, vcap, items, st, cl, gs, lk⟩ wr).setCell ⟨w2.heap.size, 0, none⟩ (.int .i64 ((at0 + qn : Nat) : Int))).ownsRow (w2.heap.size + 1) 39 3 u9 ml (itCells made)) := ownsRow_setCell_below HO5.out (by simp) _
            have HA1 : Hid (At ((boxp ⟨3, qn, vo, m, vcap, items, st, cl, gs, lk⟩ wr).setCell ⟨w2.heap.size, 0, none⟩ (.int .i64 ((at0 + qn : Nat) : Int))) b off l) := HA2.out.below HW1b.out
            have HFIN : Hid (ApI w2 u9 (made, at0 + qn) ((boxp ⟨3, qn, vo, m, vcap, items, st, cl, gs, lk⟩ wr).setCell ⟨w2.heap.size, 0, none⟩ (.int .i64 ((at0 + qn : Nat) : Int)))) := ⟨by rw [HML.out]; exact HO1.out, HAT1.out, HW1b.out, HI.out.fit⟩
            clear hms hB1 hB2 hml hw5 hok HPV hb1
            go_upto_region 13 with fail
            change Code.wp Tryz.prog _ _ _ (boxp ⟨3, qn, vo, m, vcap, items, st, cl, gs, lk⟩ wr)
            generalize boxp ⟨3, qn, vo, m, vcap, items, st, cl, gs, lk⟩ wr = W5 at *
            clear c0 c1 c2 c3 c4 c5 c6
            obtain ⟨d0, d1, d2, d3, d4, d5, d6⟩ := HS5.out
            simp only [Nat.zero_add] at d0 d1 d2 d3 d4 d5 d6
            go_wp2_with fail
            refine CN.out.mono ?_
            rintro e w6 ⟨rfl, rfl⟩
            go_wp2
            go_roundw
            case rel => exact ⟨k + 1, by omega, by go_num, by rw [HMS.out]; exact HFIN.out⟩
            case measure => simp [intOf]; omega
          · exact absurd (Ac.kind_of hok) (fun h => h.elim h1 (fun h => h.elim h2 h3))
    · have hkn : k = n' := by omega
      have hm : Ac.mk l ((vs.map PV.pt).take k) = Ac.mk l (vs.map PV.pt) := by rw [List.take_of_length_le (by rw [List.length_map, HN.out]; omega)]
      rw [hm] at HI
      obtain ⟨a, c, hv, hd⟩ := own_doc HI.out.own HI.out.fit rfl
      rw [HR.out] at hv hd
      have HB : Hid (Below w.heap.size w wr) := H2.out.trans (HI.out.blw.mono (Nat.le_of_lt HDL.out))
      have HDD : Hid (Doc wr a R.length c R) := hd
      obtain ⟨rl, hrl⟩ : ∃ rl, R.length = rl := ⟨_, rfl⟩
      rw [hrl] at hv HDD
      have HRL : Hid (R.length = rl) := hrl
      subst hv hkn
      clear hm hd hrl
      go_wp2
      go_ret2
      exact ⟨⟨a, c, by rw [HRL.out]; rfl, by rw [HRL.out]; exact HDD.out⟩, HB.out⟩
end Go.Proofs.YtbhcklkbckacpaaGreatDoor
