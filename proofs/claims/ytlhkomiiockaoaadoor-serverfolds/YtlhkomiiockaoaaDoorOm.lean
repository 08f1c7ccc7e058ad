/-
  Package op: a Keep behind what is made.
-/
import Derived.Test.YtlhkomiiockaoaaDoorOl
import Derived.RegionTactic
namespace Go.Proofs.YtlhkomiiockaoaaDoor
open Go.RowKit
namespace Ac
/-- A Keep behind parts. -/
def withK (o : List Pt) (p : Pt) : List Pt := match o.getLast? with
  | some q => if q.kind = 1 ∧ says q p = true then o.dropLast ++ [{ q with n := q.n + p.n }] else o ++ [usedP p]
  | none => o ++ [usedP p]
theorem withK_nil (p : Pt) : withK [] p = [usedP p] := rfl
theorem withK_snoc (o : List Pt) (q p : Pt) : withK (o ++ [q]) p = if q.kind = 1 ∧ says q p = true then o ++ [{ q with n := q.n + p.n }] else o ++ [q] ++ [usedP p] := by
  unfold withK
  rw [List.getLast?_concat, List.dropLast_concat]
end Ac
theorem pvCells_setn : ∀ (l : List PV) (v : PV) (y : Int), (pvCells (l ++ [v])).set (l.length * 7 + 1) (.int .i64 y) = pvCells (l ++ [{ v with n := y }])
  | [], v, y => rfl
  | x :: l, v, y => by
    have := pvCells_setn l v y
    rw [List.cons_append, pvCells_cons, List.length_cons, show (l.length + 1) * 7 + 1 = l.length * 7 + 1 + 1 + 1 + 1 + 1 + 1 + 1 + 1 by omega]
    simp only [List.set_cons_succ]
    rw [this]
    rfl
theorem Seven.drew {w : World} {b off : Nat} {v : PV} (h : Seven w b off v) : Seven w.drew b off v := ⟨h.c0, h.c1, h.c2, h.c3, h.c4, h.c5, h.c6⟩
/-- What a Keep behind what is made leaves. -/
structure WithTo (w : World) (B : Nat) (tv : Value) (out : List PV) (p : PV) (w' : World) (tv' : Value) (out' : List PV) : Prop where
  tide : Tide w' B tv' out'
  pt : out'.map PV.pt = Ac.withK (out.map PV.pt) p.pt
  kept : Kept w w' (ob tv)
  own : tv'.ownBlock = tv.ownBlock ∨ ∀ k, tv'.ownBlock = some k → w.heap.size ≤ k

set_option maxRecDepth 100000 in
set_option maxHeartbeats 3200000 in
theorem withK_add (w wb : World) (B : Nat) (tao : Option Addr) (ol tcap : Nat) (out : List PV) (p : PV) (hT : Tide w B (.slice tao ol tcap) out) (hol : out.length = ol) (hP : Pvt w (usedV p)) (hF : Far (usedV p) (.slice tao ol tcap)) (hH : High B (usedV p)) (hwb : Below w.heap.size w wb) (w2 : World) (hw2 : Below wb.heap.size wb w2) (g cap2 : Nat) (w3 : World)
    (hpt : (out ++ [usedV p]).map PV.pt = Ac.withK (out.map PV.pt) p.pt)
    (hown : w3.ownsRow B 66 7 (.slice (some ⟨g, 0, none⟩) (ol + 1) cap2) (ol + 1) (pvCells out ++ pvC (usedV p))) (hgrow : w2.grownBy w3 (Value.slice tao ol tcap).ownBlock) (hat : (Value.slice tao ol tcap).ownBlock = some g ∨ g = w2.heap.size) :
    WithTo w B (.slice tao ol tcap) out p w3 (.slice (some ⟨g, 0, none⟩) (ol + 1) cap2) (out ++ [usedV p]) := by
  have hal : Below w.heap.size w w2 := hwb.trans (hw2.mono hwb.size)
  obtain ⟨ht3, hk3⟩ := hT.push (v := usedV p) hP hF hH hal (by rw [hol]; exact hown) hgrow hat
  rw [hol] at ht3
  refine ⟨ht3, hpt, hk3, ?_⟩
  rcases hat with h | h
  · exact .inl h.symm
  · refine .inr (fun k hk => ?_)
    have := hal.size
    simp [Value.ownBlock] at hk
    omega
theorem wk_store (w w6 : World) (B g0 tcap j : Nat) (out0 : List PV) (q p : PV) (hT : Tide w B (.slice (some ⟨g0, 0, none⟩) (j + 1) tcap) (out0 ++ [q])) (hj : out0.length = j) (hb : Below w.heap.size w w6)
    (hpt : (out0 ++ [{ q with n := q.n + p.n }]).map PV.pt = Ac.withK ((out0 ++ [q]).map PV.pt) p.pt) :
    WithTo w B (.slice (some ⟨g0, 0, none⟩) (j + 1) tcap) (out0 ++ [q]) p (w6.setCell ⟨g0, j * 7 + 1, none⟩ (.int .i64 (q.n + p.n))).drew (.slice (some ⟨g0, 0, none⟩) (j + 1) tcap) (out0 ++ [{ q with n := q.n + p.n }]) := by
  have hk : Kept w (w6.setCell ⟨g0, j * 7 + 1, none⟩ (.int .i64 (q.n + p.n))).drew (ob (.slice (some ⟨g0, 0, none⟩) (j + 1) tcap)) :=
    (((kept_of_below hb).mono (fun x hx => by cases hx)).setCell _ _ (.inl (by simp [ob, Value.ownBlock]))).drew
  have hl : (out0 ++ [q]).length = j + 1 := by rw [List.length_append, hj]; rfl
  have ho := (hT.under hb).own
  rw [hl] at ho
  have hst := (ho.stored (j * 7 + 1) (.int .i64 (q.n + p.n))).1
  rw [← hj, pvCells_setn, hj] at hst
  have hp : ∀ u : PV, Pvt w u → Far u (.slice (some ⟨g0, 0, none⟩) (j + 1) tcap) → Pvt (w6.setCell ⟨g0, j * 7 + 1, none⟩ (.int .i64 (q.n + p.n))).drew u := fun u hu hf => hu.kept hk (fun a hm ha hx => hf a hm ha (ob_mem hx).symm)
  have hq : q ∈ out0 ++ [q] := by simp
  refine ⟨⟨?_, fun u hu => ?_, fun u hu => ?_, fun u hu => ?_⟩, hpt, hk, .inl rfl⟩
  · rw [List.length_append, hj]; exact hst.drew
  · rcases List.mem_append.1 hu with h | h
    · exact hp u (hT.pts u (List.mem_append_left _ h)) (hT.far u (List.mem_append_left _ h))
    · rw [List.mem_singleton.1 h]
      have := hp q (hT.pts q hq) (hT.far q hq)
      exact ⟨this.doc, this.fit⟩
  · rcases List.mem_append.1 hu with h | h
    · exact hT.far u (List.mem_append_left _ h)
    · rw [List.mem_singleton.1 h]; exact hT.far q hq
  · rcases List.mem_append.1 hu with h | h
    · exact hT.hi u (List.mem_append_left _ h)
    · rw [List.mem_singleton.1 h]; exact hT.hi q hq
set_option maxRecDepth 100000 in
set_option maxHeartbeats 3200000 in
theorem wk_nil (w : World) (B : Nat) (tv : Value)  (p : PV) (hT : Tide w B tv ([] : List PV)) (hB : B ≤ w.heap.size) (ho : ([] : List PV).length ≤ 100000) (hP : Pvt w p) (hF : Far (usedV p) tv) (hH : High B (usedV p)) (hn : ∀ z ∈ ([] : List PV), 0 ≤ z.n ∧ z.n ≤ 100000) (hpn : 0 ≤ p.n ∧ p.n ≤ 100000) :
    Calls Tryd.prog 64 #[tv, .agg #[.int .i64 p.kind, .int .i64 p.n, .slice p.ao p.m p.cap, .int .i64 p.set, .int .i64 p.clr, .bool p.goes, .string p.link]] w fun e w' => ∃ tv' out', e = .returned tv' ∧ WithTo w B tv ([] : List PV) p w' tv' out' := by
  obtain ⟨i0, hi, hz0, hz1, hz2⟩ := info_parts Tryd.infP
  obtain ⟨tao, tcap, htv, hrow⟩ := own_row hT.own
  obtain ⟨ol, hol⟩ : ∃ ol, ([] : List PV).length = ol := ⟨_, rfl⟩
  have HOL : Hid (([] : List PV).length = ol) := hol
  rw [hol] at htv ho
  have hroom := hrow.room
  rw [hol] at hroom
  subst htv
  have HT : Hid (Tide w B (.slice tao ol tcap) []) := hT
  have H1 : Hid (Below w.heap.size w (boxp p w)) := boxp_below _ w
  have HSV : Hid (Seven (boxp p w) w.heap.size 0 p) := boxp_at _ w
  have HPU : Hid (Pvt w (usedV p)) := usedV_pvt hP
  have HFU : Hid (Far (usedV p) (.slice tao ol tcap)) := hF
  have HHU : Hid (High B (usedV p)) := hH
  have HUP : Hid ((usedV p).pt = Ac.usedP p.pt) := usedV_pt p
  have CU : Hid (∀ w', Calls Tryd.prog 82 #[.agg #[.int .i64 p.kind, .int .i64 p.n, .slice p.ao p.m p.cap, .int .i64 p.set, .int .i64 p.clr, .bool p.goes, .string p.link]] w' fun e w2 => e = .returned (.agg #[.int .i64 (usedV p).kind, .int .i64 (usedV p).n, .slice (usedV p).ao (usedV p).m (usedV p).cap, .int .i64 (usedV p).set, .int .i64 (usedV p).clr, .bool (usedV p).goes, .string (usedV p).link]) ∧ Below w'.heap.size w' w2) := fun w' => used_any p w'
  have HNN : Hid (∀ z ∈ ([] : List PV), 0 ≤ z.n ∧ z.n ≤ 100000) := hn
  obtain ⟨hpn0, hpn1⟩ := hpn
  have HOW : Hid (w.ownsRow B 66 7 (.slice tao ol tcap) ol (pvCells [])) := by have := hT.own; rw [hol] at this; exact this
  clear hT hP hF hH hn hol hrow
  obtain rfl : ol = 0 := HOL.out.symm
  have HPT : Hid (([] ++ [usedV p] : List PV).map PV.pt = Ac.withK (([] : List PV).map PV.pt) p.pt) := by show [(usedV p).pt] = _; rw [HUP.out]; rfl
  go_enter Tryd.func64, Tryd.ntmps64
  go_upto_region 2 with fail
  change Code.wp Tryd.prog _ _ _ (boxp p w)
  generalize boxp p w = W5 at *
  obtain ⟨d0, d1, d2, d3, d4, d5, d6⟩ := HSV.out
  simp only [Nat.zero_add] at d0 d1 d2 d3 d4 d5 d6
  go_quiet (fail)
  go_wp2_with fail
  refine (CU.out _).mono ?_
  rintro e w4 ⟨rfl, hb⟩
  have HB4 : Hid (Below w.heap.size w w4) := (H1.out.trans ((drewN_blw _ _).mono H1.out.size)).trans (hb.mono (H1.out.trans ((drewN_blw _ _).mono H1.out.size)).size)
  have HO4 : Hid (w4.ownsRow B 66 7 (.slice tao 0 tcap) 0 (pvCells [])) := own_under HOW.out HB4.out
  have hs4 : B ≤ w4.heap.size := Nat.le_trans hB HB4.out.size
  clear hb
  go_wp2_with (at_builtin; refine wpList_append_lies _ rfl (.tmp 38) (.tmp 41) 23 rfl B 66 i0 (.agg #[.int .i64 0, .int .i64 0, .slice none 0 0, .int .i64 0, .int .i64 0, .bool false, .string ⟨#[]⟩]) 7 80 Tryd.underlying23 hi hz0 hz1 hz2 rfl (by decide) _ 0 (pvCells []) rfl ?c1 ⟨w4.heap.size, 0, none⟩ 1 1 (pvC (usedV p)) rfl rfl ?c2 ?c3 (by decide) ?c4 ?c5 ?c6 _ rfl ?c7)
  case c1 => exact HO4.out.alloc _
  case c2 => exact World.news_of_block (cs := (pvC (usedV p)).toArray) (heap_alloc_new w4 _)
  case c3 => exact fun u hu => pvCells_oneCell [usedV p] u (by rw [pvCells_one]; exact hu)
  case c4 => unfold maxLen; omega
  case c5 => omega
  case c6 => first | omega | (simp; omega)
  case c7 =>
    intro g cap2 w3 hown hgrow hat hlt
    have HW : Hid (WithTo w B (.slice tao 0 tcap) [] p w3 (.slice (some ⟨g, 0, none⟩) (0 + 1) cap2) ([] ++ [usedV p])) := withK_add w w4 B tao 0 tcap [] p HT.out HOL.out HPU.out HFU.out HHU.out HB4.out _ ((Below.refl _ _).alloc (Nat.le_refl _) _) g cap2 w3 HPT.out hown hgrow (by rcases hat with h | h; exact .inl h; exact .inr (h.trans (World.size_alloc ..).symm))
    clear hown hgrow hat hlt
    go_wp2
    go_ret
    exact ⟨_, _, rfl, HW.out⟩
set_option maxRecDepth 100000 in
set_option maxHeartbeats 3200000 in
theorem wk_other (w : World) (B : Nat) (tv : Value) (out0 : List PV) (q : PV) (hk1 : ¬ q.kind = 1) (p : PV) (hT : Tide w B tv (out0 ++ [q])) (hB : B ≤ w.heap.size) (ho : ((out0 ++ [q])).length ≤ 100000) (hP : Pvt w p) (hF : Far (usedV p) tv) (hH : High B (usedV p)) (hn : ∀ z ∈ (out0 ++ [q]), 0 ≤ z.n ∧ z.n ≤ 100000) (hpn : 0 ≤ p.n ∧ p.n ≤ 100000) :
    Calls Tryd.prog 64 #[tv, .agg #[.int .i64 p.kind, .int .i64 p.n, .slice p.ao p.m p.cap, .int .i64 p.set, .int .i64 p.clr, .bool p.goes, .string p.link]] w fun e w' => ∃ tv' out', e = .returned tv' ∧ WithTo w B tv (out0 ++ [q]) p w' tv' out' := by
  obtain ⟨i0, hi, hz0, hz1, hz2⟩ := info_parts Tryd.infP
  obtain ⟨tao, tcap, htv, hrow⟩ := own_row hT.own
  obtain ⟨ol, hol⟩ : ∃ ol, ((out0 ++ [q])).length = ol := ⟨_, rfl⟩
  have HOL : Hid (((out0 ++ [q])).length = ol) := hol
  rw [hol] at htv ho
  have hroom := hrow.room
  rw [hol] at hroom
  subst htv
  have HT : Hid (Tide w B (.slice tao ol tcap) (out0 ++ [q])) := hT
  have H1 : Hid (Below w.heap.size w (boxp p w)) := boxp_below _ w
  have HSV : Hid (Seven (boxp p w) w.heap.size 0 p) := boxp_at _ w
  have HPU : Hid (Pvt w (usedV p)) := usedV_pvt hP
  have HFU : Hid (Far (usedV p) (.slice tao ol tcap)) := hF
  have HHU : Hid (High B (usedV p)) := hH
  have HUP : Hid ((usedV p).pt = Ac.usedP p.pt) := usedV_pt p
  have CU : Hid (∀ w', Calls Tryd.prog 82 #[.agg #[.int .i64 p.kind, .int .i64 p.n, .slice p.ao p.m p.cap, .int .i64 p.set, .int .i64 p.clr, .bool p.goes, .string p.link]] w' fun e w2 => e = .returned (.agg #[.int .i64 (usedV p).kind, .int .i64 (usedV p).n, .slice (usedV p).ao (usedV p).m (usedV p).cap, .int .i64 (usedV p).set, .int .i64 (usedV p).clr, .bool (usedV p).goes, .string (usedV p).link]) ∧ Below w'.heap.size w' w2) := fun w' => used_any p w'
  have HNN : Hid (∀ z ∈ (out0 ++ [q]), 0 ≤ z.n ∧ z.n ≤ 100000) := hn
  obtain ⟨hpn0, hpn1⟩ := hpn
  have HOW : Hid (w.ownsRow B 66 7 (.slice tao ol tcap) ol (pvCells (out0 ++ [q]))) := by have := hT.own; rw [hol] at this; exact this
  clear hT hP hF hH hn hol hrow
  obtain ⟨j, hj⟩ : ∃ j, out0.length = j := ⟨_, rfl⟩
  obtain rfl : ol = j + 1 := by rw [← HOL.out, List.length_append, hj]; rfl
  have HJ : Hid (out0.length = j) := hj
  obtain ⟨g0, tc0, htv, -, hg0⟩ := HOW.out.form (Nat.succ_pos j)
  simp only [Value.slice.injEq, true_and] at htv
  obtain ⟨rfl, -⟩ := htv
  have hjl : j < (out0 ++ [q]).length := by rw [List.length_append, hj]; simp
  obtain ⟨k0, k1, k2, k3, k4, k5, k6⟩ := pvCells_at (out0 ++ [q]) j hjl
  have hgj : (out0 ++ [q])[j] = q := by simp [← hj]
  rw [hgj] at k0 k1 k2 k3 k4 k5 k6
  have hc : ∀ i u, i < 7 → (pvCells (out0 ++ [q]))[j * 7 + i]? = some u → w.cell? ⟨g0, j * 7 + i, none⟩ = some u := fun i u hi h => (HOW.out.cellAt (j * 7 + i) (by omega)).trans h
  have SQ : Seven w g0 (j * 7) q := ⟨hc 0 _ (by omega) k0, hc 1 _ (by omega) k1, hc 2 _ (by omega) k2, hc 3 _ (by omega) k3, hc 4 _ (by omega) k4, hc 5 _ (by omega) k5, hc 6 _ (by omega) k6⟩
  have HSQ : Hid (Seven w g0 (j * 7) q) := SQ
  have HSQ5 : Hid (Seven (boxp p w) g0 (j * 7) q) := SQ.below H1.out
  have hqn := HNN.out q (by simp)
  have CSS : Hid (∀ w', Calls Tryd.prog 78 #[.agg #[.int .i64 q.kind, .int .i64 q.n, .slice q.ao q.m q.cap, .int .i64 q.set, .int .i64 q.clr, .bool q.goes, .string q.link], .agg #[.int .i64 p.kind, .int .i64 p.n, .slice p.ao p.m p.cap, .int .i64 p.set, .int .i64 p.clr, .bool p.goes, .string p.link]] w' fun e w2 => e = .returned (.bool (Ac.says q.pt p.pt)) ∧ Below w'.heap.size w' w2) := fun w' => says_any q p w'
  have q1 : (0 : Int) ≤ (j : Int) := by omega
  have q2 : (j : Int) < (j : Int) + 1 := by omega
  have hmap : (out0 ++ [q]).map PV.pt = out0.map PV.pt ++ [q.pt] := by rw [List.map_append]; rfl
  clear hc k0 k1 k2 k3 k4 k5 k6 hgj hjl hj SQ
  have hk1' : (q.kind == 1) = false := by simp [hk1]
  have HPT : Hid (((out0 ++ [q]) ++ [usedV p]).map PV.pt = Ac.withK ((out0 ++ [q]).map PV.pt) p.pt) := by
    show _ = _
    rw [List.map_append, hmap, Ac.withK_snoc, if_neg (fun h => hk1 h.1)]
    show _ ++ [(usedV p).pt] = _
    rw [HUP.out]
  clear hmap
  go_enter Tryd.func64, Tryd.ntmps64
  go_upto_region 2 with fail
  change Code.wp Tryd.prog _ _ _ (boxp p w)
  generalize boxp p w = W5 at *
  obtain ⟨d0, d1, d2, d3, d4, d5, d6⟩ := HSV.out
  simp only [Nat.zero_add] at d0 d1 d2 d3 d4 d5 d6
  obtain ⟨b0, b1, b2, b3, b4, b5, b6⟩ := HSQ5.out
  go_quiet (fail)
  go_wp2_with fail
  refine (CU.out _).mono ?_
  rintro e w4 ⟨rfl, hb⟩
  have HB4 : Hid (Below w.heap.size w w4) := (H1.out.trans ((drewN_blw _ _).mono H1.out.size)).trans (hb.mono (H1.out.trans ((drewN_blw _ _).mono H1.out.size)).size)
  have HO4 : Hid (w4.ownsRow B 66 7 (.slice (some ⟨g0, 0, none⟩) (j + 1) tcap) (j + 1) (pvCells (out0 ++ [q]))) := own_under HOW.out HB4.out
  have hs4 : B ≤ w4.heap.size := Nat.le_trans hB HB4.out.size
  clear hb
  go_wp2_with (at_builtin; refine wpList_append_lies _ rfl (.tmp 38) (.tmp 41) 23 rfl B 66 i0 (.agg #[.int .i64 0, .int .i64 0, .slice none 0 0, .int .i64 0, .int .i64 0, .bool false, .string ⟨#[]⟩]) 7 80 Tryd.underlying23 hi hz0 hz1 hz2 rfl (by decide) _ (j + 1) (pvCells (out0 ++ [q])) rfl ?c1 ⟨w4.heap.size, 0, none⟩ 1 1 (pvC (usedV p)) rfl rfl ?c2 ?c3 (by decide) ?c4 ?c5 ?c6 _ rfl ?c7)
  case c1 => exact HO4.out.alloc _
  case c2 => exact World.news_of_block (cs := (pvC (usedV p)).toArray) (heap_alloc_new w4 _)
  case c3 => exact fun u hu => pvCells_oneCell [usedV p] u (by rw [pvCells_one]; exact hu)
  case c4 => unfold maxLen; omega
  case c5 => omega
  case c6 => first | omega | (simp; omega)
  case c7 =>
    intro g cap2 w3 hown hgrow hat hlt
    have HW : Hid (WithTo w B (.slice (some ⟨g0, 0, none⟩) (j + 1) tcap) (out0 ++ [q]) p w3 (.slice (some ⟨g, 0, none⟩) ((j + 1) + 1) cap2) ((out0 ++ [q]) ++ [usedV p])) := withK_add w w4 B (some ⟨g0, 0, none⟩) (j + 1) tcap (out0 ++ [q]) p HT.out HOL.out HPU.out HFU.out HHU.out HB4.out _ ((Below.refl _ _).alloc (Nat.le_refl _) _) g cap2 w3 HPT.out hown hgrow (by rcases hat with h | h; exact .inl h; exact .inr (h.trans (World.size_alloc ..).symm))
    clear hown hgrow hat hlt
    go_wp2
    go_ret
    exact ⟨_, _, rfl, HW.out⟩
end Go.Proofs.YtlhkomiiockaoaaDoor
