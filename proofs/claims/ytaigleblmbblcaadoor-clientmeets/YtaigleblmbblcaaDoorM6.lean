/-
  Texts of this proof, one behind the other.
-/
import Derived.Test.YtaigleblmbblcaaDoorM5
import Derived.RegionTactic

/-
  Package op: a Keep behind what is made.
-/
namespace Go.Proofs.YtaigleblmbblcaaDoor
open Go.RowKit
namespace Ac
/-- A Keep behind parts. -/
def withK (o : List Pt) (p : Pt) : List Pt := match o.getLast? with
  | some q => if q.kind = 1 ∧ says q p = true then o.dropLast ++ [{ q with n := q.n + p.n }] else o ++ [usedP p]
  | none => o ++ [usedP p]
theorem withK_nil (p : Pt) : withK [] p = [usedP p] := rfl
theorem withK_snoc (o : List Pt) (q p : Pt) : withK (o ++ [q]) p = if q.kind = 1 ∧ says q p = true then o ++ [{ q with n := q.n + p.n }] else o ++ [q] ++ [usedP p] := by
  unfold withK
  rw [List.getLast?_concat, List.dropLast_concat]
end Ac
theorem pvCells_setn : ∀ (l : List PV) (v : PV) (y : Int), (pvCells (l ++ [v])).set (l.length * 7 + 1) (.int .i64 y) = pvCells (l ++ [{ v with n := y }])
  | [], v, y => rfl
  | x :: l, v, y => by
    have := pvCells_setn l v y
    rw [List.cons_append, pvCells_cons, List.length_cons, show (l.length + 1) * 7 + 1 = l.length * 7 + 1 + 1 + 1 + 1 + 1 + 1 + 1 + 1 by omega]
    simp only [List.set_cons_succ]
    rw [this]
    rfl
theorem Seven.drew {w : World} {b off : Nat} {v : PV} (h : Seven w b off v) : Seven w.drew b off v := ⟨h.c0, h.c1, h.c2, h.c3, h.c4, h.c5, h.c6⟩
/-- What a Keep behind what is made leaves. -/
structure WithTo (w : World) (B : Nat) (tv : Value) (out : List PV) (p : PV) (w' : World) (tv' : Value) (out' : List PV) : Prop where
  tide : Tide w' B tv' out'
  pt : out'.map PV.pt = Ac.withK (out.map PV.pt) p.pt
  kept : Kept w w' (ob tv)
  own : tv'.ownBlock = tv.ownBlock ∨ ∀ k, tv'.ownBlock = some k → w.heap.size ≤ k

set_option maxRecDepth 100000 in
set_option maxHeartbeats 3200000 in
theorem withK_add (w wb : World) (B : Nat) (tao : Option Addr) (ol tcap : Nat) (out : List PV) (p : PV) (hT : Tide w B (.slice tao ol tcap) out) (hol : out.length = ol) (hP : Pvt w (usedV p)) (hF : Far (usedV p) (.slice tao ol tcap)) (hH : High B (usedV p)) (hwb : Below w.heap.size w wb) (w2 : World) (hw2 : Below wb.heap.size wb w2) (g cap2 : Nat) (w3 : World)
    (hpt : (out ++ [usedV p]).map PV.pt = Ac.withK (out.map PV.pt) p.pt)
    (hown : w3.ownsRow B 55 7 (.slice (some ⟨g, 0, none⟩) (ol + 1) cap2) (ol + 1) (pvCells out ++ pvC (usedV p))) (hgrow : w2.grownBy w3 (Value.slice tao ol tcap).ownBlock) (hat : (Value.slice tao ol tcap).ownBlock = some g ∨ g = w2.heap.size) :
    WithTo w B (.slice tao ol tcap) out p w3 (.slice (some ⟨g, 0, none⟩) (ol + 1) cap2) (out ++ [usedV p]) := by
  have hal : Below w.heap.size w w2 := hwb.trans (hw2.mono hwb.size)
  obtain ⟨ht3, hk3⟩ := hT.push (v := usedV p) hP hF hH hal (by rw [hol]; exact hown) hgrow hat
  rw [hol] at ht3
  refine ⟨ht3, hpt, hk3, ?_⟩
  rcases hat with h | h
  · exact .inl h.symm
  · refine .inr (fun k hk => ?_)
    have := hal.size
    simp [Value.ownBlock] at hk
    omega
theorem wk_store (w w6 : World) (B g0 tcap j : Nat) (out0 : List PV) (q p : PV) (hT : Tide w B (.slice (some ⟨g0, 0, none⟩) (j + 1) tcap) (out0 ++ [q])) (hj : out0.length = j) (hb : Below w.heap.size w w6)
    (hpt : (out0 ++ [{ q with n := q.n + p.n }]).map PV.pt = Ac.withK ((out0 ++ [q]).map PV.pt) p.pt) :
    WithTo w B (.slice (some ⟨g0, 0, none⟩) (j + 1) tcap) (out0 ++ [q]) p (w6.setCell ⟨g0, j * 7 + 1, none⟩ (.int .i64 (q.n + p.n))).drew (.slice (some ⟨g0, 0, none⟩) (j + 1) tcap) (out0 ++ [{ q with n := q.n + p.n }]) := by
  have hk : Kept w (w6.setCell ⟨g0, j * 7 + 1, none⟩ (.int .i64 (q.n + p.n))).drew (ob (.slice (some ⟨g0, 0, none⟩) (j + 1) tcap)) :=
    (((kept_of_below hb).mono (fun x hx => by cases hx)).setCell _ _ (.inl (by simp [ob, Value.ownBlock]))).drew
  have hl : (out0 ++ [q]).length = j + 1 := by rw [List.length_append, hj]; rfl
  have ho := (hT.under hb).own
  rw [hl] at ho
  have hst := (ho.stored (j * 7 + 1) (.int .i64 (q.n + p.n))).1
  rw [← hj, pvCells_setn, hj] at hst
  have hp : ∀ u : PV, Pvt w u → Far u (.slice (some ⟨g0, 0, none⟩) (j + 1) tcap) → Pvt (w6.setCell ⟨g0, j * 7 + 1, none⟩ (.int .i64 (q.n + p.n))).drew u := fun u hu hf => hu.kept hk (fun a hm ha hx => hf a hm ha (ob_mem hx).symm)
  have hq : q ∈ out0 ++ [q] := by simp
  refine ⟨⟨?_, fun u hu => ?_, fun u hu => ?_, fun u hu => ?_⟩, hpt, hk, .inl rfl⟩
  · rw [List.length_append, hj]; exact hst.drew
  · rcases List.mem_append.1 hu with h | h
    · exact hp u (hT.pts u (List.mem_append_left _ h)) (hT.far u (List.mem_append_left _ h))
    · rw [List.mem_singleton.1 h]
      have := hp q (hT.pts q hq) (hT.far q hq)
      exact ⟨this.doc, this.fit⟩
  · rcases List.mem_append.1 hu with h | h
    · exact hT.far u (List.mem_append_left _ h)
    · rw [List.mem_singleton.1 h]; exact hT.far q hq
  · rcases List.mem_append.1 hu with h | h
    · exact hT.hi u (List.mem_append_left _ h)
    · rw [List.mem_singleton.1 h]; exact hT.hi q hq
set_option maxRecDepth 100000 in
set_option maxHeartbeats 3200000 in
theorem wk_nil (w : World) (B : Nat) (tv : Value)  (p : PV) (hT : Tide w B tv ([] : List PV)) (hB : B ≤ w.heap.size) (ho : ([] : List PV).length ≤ 100000) (hP : Pvt w p) (hF : Far (usedV p) tv) (hH : High B (usedV p)) (hn : ∀ z ∈ ([] : List PV), 0 ≤ z.n ∧ z.n ≤ 100000) (hpn : 0 ≤ p.n ∧ p.n ≤ 100000) :
    Calls Tryd.prog 50 #[tv, .agg #[.int .i64 p.kind, .int .i64 p.n, .slice p.ao p.m p.cap, .int .i64 p.set, .int .i64 p.clr, .bool p.goes, .string p.link]] w fun e w' => ∃ tv' out', e = .returned tv' ∧ WithTo w B tv ([] : List PV) p w' tv' out' := by
  obtain ⟨i0, hi, hz0, hz1, hz2⟩ := info_parts Tryd.infP
  obtain ⟨tao, tcap, htv, hrow⟩ := own_row hT.own
  obtain ⟨ol, hol⟩ : ∃ ol, ([] : List PV).length = ol := ⟨_, rfl⟩
  have HOL : Hid (([] : List PV).length = ol) := hol
  rw [hol] at htv ho
  have hroom := hrow.room
  rw [hol] at hroom
  subst htv
  have HT : Hid (Tide w B (.slice tao ol tcap) []) := hT
  have H1 : Hid (Below w.heap.size w (boxp p w)) := boxp_below _ w
  have HSV : Hid (Seven (boxp p w) w.heap.size 0 p) := boxp_at _ w
  have HPU : Hid (Pvt w (usedV p)) := usedV_pvt hP
  have HFU : Hid (Far (usedV p) (.slice tao ol tcap)) := hF
  have HHU : Hid (High B (usedV p)) := hH
  have HUP : Hid ((usedV p).pt = Ac.usedP p.pt) := usedV_pt p
  have CU : Hid (∀ w', Calls Tryd.prog 63 #[.agg #[.int .i64 p.kind, .int .i64 p.n, .slice p.ao p.m p.cap, .int .i64 p.set, .int .i64 p.clr, .bool p.goes, .string p.link]] w' fun e w2 => e = .returned (.agg #[.int .i64 (usedV p).kind, .int .i64 (usedV p).n, .slice (usedV p).ao (usedV p).m (usedV p).cap, .int .i64 (usedV p).set, .int .i64 (usedV p).clr, .bool (usedV p).goes, .string (usedV p).link]) ∧ Below w'.heap.size w' w2) := fun w' => used_any p w'
  have HNN : Hid (∀ z ∈ ([] : List PV), 0 ≤ z.n ∧ z.n ≤ 100000) := hn
  obtain ⟨hpn0, hpn1⟩ := hpn
  have HOW : Hid (w.ownsRow B 55 7 (.slice tao ol tcap) ol (pvCells [])) := by have := hT.own; rw [hol] at this; exact this
  clear hT hP hF hH hn hol hrow
  obtain rfl : ol = 0 := HOL.out.symm
  have HPT : Hid (([] ++ [usedV p] : List PV).map PV.pt = Ac.withK (([] : List PV).map PV.pt) p.pt) := by show [(usedV p).pt] = _; rw [HUP.out]; rfl
  go_enter Tryd.func50, Tryd.ntmps50
  go_upto_region 2 with fail
  change Code.wp Tryd.prog _ _ _ (boxp p w)
  generalize boxp p w = W5 at *
  obtain ⟨d0, d1, d2, d3, d4, d5, d6⟩ := HSV.out
  simp only [Nat.zero_add] at d0 d1 d2 d3 d4 d5 d6
  go_quiet (fail)
  go_wp2_with fail
  refine (CU.out _).mono ?_
  rintro e w4 ⟨rfl, hb⟩
  have HB4 : Hid (Below w.heap.size w w4) := (H1.out.trans ((drewN_blw _ _).mono H1.out.size)).trans (hb.mono (H1.out.trans ((drewN_blw _ _).mono H1.out.size)).size)
  have HO4 : Hid (w4.ownsRow B 55 7 (.slice tao 0 tcap) 0 (pvCells [])) := own_under HOW.out HB4.out
  have hs4 : B ≤ w4.heap.size := Nat.le_trans hB HB4.out.size
  clear hb
  go_wp2_with (at_builtin; refine wpList_append_lies _ rfl (.tmp 38) (.tmp 41) 25 rfl B 55 i0 (.agg #[.int .i64 0, .int .i64 0, .slice none 0 0, .int .i64 0, .int .i64 0, .bool false, .string ⟨#[]⟩]) 7 80 Tryd.underlying25 hi hz0 hz1 hz2 rfl (by decide) _ 0 (pvCells []) rfl ?c1 ⟨w4.heap.size, 0, none⟩ 1 1 (pvC (usedV p)) rfl rfl ?c2 ?c3 (by decide) ?c4 ?c5 ?c6 _ rfl ?c7)
  case c1 => exact HO4.out.alloc _
  case c2 => exact World.news_of_block (cs := (pvC (usedV p)).toArray) (heap_alloc_new w4 _)
  case c3 => exact fun u hu => pvCells_oneCell [usedV p] u (by rw [pvCells_one]; exact hu)
  case c4 => unfold maxLen; omega
  case c5 => omega
  case c6 => first | omega | (simp; omega)
  case c7 =>
    intro g cap2 w3 hown hgrow hat hlt
    have HW : Hid (WithTo w B (.slice tao 0 tcap) [] p w3 (.slice (some ⟨g, 0, none⟩) (0 + 1) cap2) ([] ++ [usedV p])) := withK_add w w4 B tao 0 tcap [] p HT.out HOL.out HPU.out HFU.out HHU.out HB4.out _ ((Below.refl _ _).alloc (Nat.le_refl _) _) g cap2 w3 HPT.out hown hgrow (by rcases hat with h | h; exact .inl h; exact .inr (h.trans (World.size_alloc ..).symm))
    clear hown hgrow hat hlt
    go_wp2
    go_ret
    exact ⟨_, _, rfl, HW.out⟩
set_option maxRecDepth 100000 in
set_option maxHeartbeats 3200000 in
theorem wk_other (w : World) (B : Nat) (tv : Value) (out0 : List PV) (q : PV) (hk1 : ¬ q.kind = 1) (p : PV) (hT : Tide w B tv (out0 ++ [q])) (hB : B ≤ w.heap.size) (ho : ((out0 ++ [q])).length ≤ 100000) (hP : Pvt w p) (hF : Far (usedV p) tv) (hH : High B (usedV p)) (hn : ∀ z ∈ (out0 ++ [q]), 0 ≤ z.n ∧ z.n ≤ 100000) (hpn : 0 ≤ p.n ∧ p.n ≤ 100000) :
    Calls Tryd.prog 50 #[tv, .agg #[.int .i64 p.kind, .int .i64 p.n, .slice p.ao p.m p.cap, .int .i64 p.set, .int .i64 p.clr, .bool p.goes, .string p.link]] w fun e w' => ∃ tv' out', e = .returned tv' ∧ WithTo w B tv (out0 ++ [q]) p w' tv' out' := by
  obtain ⟨i0, hi, hz0, hz1, hz2⟩ := info_parts Tryd.infP
  obtain ⟨tao, tcap, htv, hrow⟩ := own_row hT.own
  obtain ⟨ol, hol⟩ : ∃ ol, ((out0 ++ [q])).length = ol := ⟨_, rfl⟩
  have HOL : Hid (((out0 ++ [q])).length = ol) := hol
  rw [hol] at htv ho
  have hroom := hrow.room
  rw [hol] at hroom
  subst htv
  have HT : Hid (Tide w B (.slice tao ol tcap) (out0 ++ [q])) := hT
  have H1 : Hid (Below w.heap.size w (boxp p w)) := boxp_below _ w
  have HSV : Hid (Seven (boxp p w) w.heap.size 0 p) := boxp_at _ w
  have HPU : Hid (Pvt w (usedV p)) := usedV_pvt hP
  have HFU : Hid (Far (usedV p) (.slice tao ol tcap)) := hF
  have HHU : Hid (High B (usedV p)) := hH
  have HUP : Hid ((usedV p).pt = Ac.usedP p.pt) := usedV_pt p
  have CU : Hid (∀ w', Calls Tryd.prog 63 #[.agg #[.int .i64 p.kind, .int .i64 p.n, .slice p.ao p.m p.cap, .int .i64 p.set, .int .i64 p.clr, .bool p.goes, .string p.link]] w' fun e w2 => e = .returned (.agg #[.int .i64 (usedV p).kind, .int .i64 (usedV p).n, .slice (usedV p).ao (usedV p).m (usedV p).cap, .int .i64 (usedV p).set, .int .i64 (usedV p).clr, .bool (usedV p).goes, .string (usedV p).link]) ∧ Below w'.heap.size w' w2) := fun w' => used_any p w'
  have HNN : Hid (∀ z ∈ (out0 ++ [q]), 0 ≤ z.n ∧ z.n ≤ 100000) := hn
  obtain ⟨hpn0, hpn1⟩ := hpn
  have HOW : Hid (w.ownsRow B 55 7 (.slice tao ol tcap) ol (pvCells (out0 ++ [q]))) := by have := hT.own; rw [hol] at this; exact this
  clear hT hP hF hH hn hol hrow
  obtain ⟨j, hj⟩ : ∃ j, out0.length = j := ⟨_, rfl⟩
  obtain rfl : ol = j + 1 := by rw [← HOL.out, List.length_append, hj]; rfl
  have HJ : Hid (out0.length = j) := hj
  obtain ⟨g0, tc0, htv, -, hg0⟩ := HOW.out.form (Nat.succ_pos j)
  simp only [Value.slice.injEq, true_and] at htv
  obtain ⟨rfl, -⟩ := htv
  have hjl : j < (out0 ++ [q]).length := by rw [List.length_append, hj]; simp
  obtain ⟨k0, k1, k2, k3, k4, k5, k6⟩ := pvCells_at (out0 ++ [q]) j hjl
  have hgj : (out0 ++ [q])[j] = q := by simp [← hj]
  rw [hgj] at k0 k1 k2 k3 k4 k5 k6
  have hc : ∀ i u, i < 7 → (pvCells (out0 ++ [q]))[j * 7 + i]? = some u → w.cell? ⟨g0, j * 7 + i, none⟩ = some u := fun i u hi h => (HOW.out.cellAt (j * 7 + i) (by omega)).trans h
  have SQ : Seven w g0 (j * 7) q := ⟨hc 0 _ (by omega) k0, hc 1 _ (by omega) k1, hc 2 _ (by omega) k2, hc 3 _ (by omega) k3, hc 4 _ (by omega) k4, hc 5 _ (by omega) k5, hc 6 _ (by omega) k6⟩
  have HSQ : Hid (Seven w g0 (j * 7) q) := SQ
  have HSQ5 : Hid (Seven (boxp p w) g0 (j * 7) q) := SQ.below H1.out
  have hqn := HNN.out q (by simp)
  have CSS : Hid (∀ w', Calls Tryd.prog 52 #[.agg #[.int .i64 q.kind, .int .i64 q.n, .slice q.ao q.m q.cap, .int .i64 q.set, .int .i64 q.clr, .bool q.goes, .string q.link], .agg #[.int .i64 p.kind, .int .i64 p.n, .slice p.ao p.m p.cap, .int .i64 p.set, .int .i64 p.clr, .bool p.goes, .string p.link]] w' fun e w2 => e = .returned (.bool (Ac.says q.pt p.pt)) ∧ Below w'.heap.size w' w2) := fun w' => says_any q p w'
  have q1 : (0 : Int) ≤ (j : Int) := by omega
  have q2 : (j : Int) < (j : Int) + 1 := by omega
  have hmap : (out0 ++ [q]).map PV.pt = out0.map PV.pt ++ [q.pt] := by rw [List.map_append]; rfl
  clear hc k0 k1 k2 k3 k4 k5 k6 hgj hjl hj SQ
  have hk1' : (q.kind == 1) = false := by simp [hk1]
  have HPT : Hid (((out0 ++ [q]) ++ [usedV p]).map PV.pt = Ac.withK ((out0 ++ [q]).map PV.pt) p.pt) := by
    show _ = _
    rw [List.map_append, hmap, Ac.withK_snoc, if_neg (fun h => hk1 h.1)]
    show _ ++ [(usedV p).pt] = _
    rw [HUP.out]
  clear hmap
  go_enter Tryd.func50, Tryd.ntmps50
  go_upto_region 2 with fail
  change Code.wp Tryd.prog _ _ _ (boxp p w)
  generalize boxp p w = W5 at *
  obtain ⟨d0, d1, d2, d3, d4, d5, d6⟩ := HSV.out
  simp only [Nat.zero_add] at d0 d1 d2 d3 d4 d5 d6
  obtain ⟨b0, b1, b2, b3, b4, b5, b6⟩ := HSQ5.out
  go_quiet (fail)
  go_wp2_with fail
  refine (CU.out _).mono ?_
  rintro e w4 ⟨rfl, hb⟩
  have HB4 : Hid (Below w.heap.size w w4) := (H1.out.trans ((drewN_blw _ _).mono H1.out.size)).trans (hb.mono (H1.out.trans ((drewN_blw _ _).mono H1.out.size)).size)
  have HO4 : Hid (w4.ownsRow B 55 7 (.slice (some ⟨g0, 0, none⟩) (j + 1) tcap) (j + 1) (pvCells (out0 ++ [q]))) := own_under HOW.out HB4.out
  have hs4 : B ≤ w4.heap.size := Nat.le_trans hB HB4.out.size
  clear hb
  go_wp2_with (at_builtin; refine wpList_append_lies _ rfl (.tmp 38) (.tmp 41) 25 rfl B 55 i0 (.agg #[.int .i64 0, .int .i64 0, .slice none 0 0, .int .i64 0, .int .i64 0, .bool false, .string ⟨#[]⟩]) 7 80 Tryd.underlying25 hi hz0 hz1 hz2 rfl (by decide) _ (j + 1) (pvCells (out0 ++ [q])) rfl ?c1 ⟨w4.heap.size, 0, none⟩ 1 1 (pvC (usedV p)) rfl rfl ?c2 ?c3 (by decide) ?c4 ?c5 ?c6 _ rfl ?c7)
  case c1 => exact HO4.out.alloc _
  case c2 => exact World.news_of_block (cs := (pvC (usedV p)).toArray) (heap_alloc_new w4 _)
  case c3 => exact fun u hu => pvCells_oneCell [usedV p] u (by rw [pvCells_one]; exact hu)
  case c4 => unfold maxLen; omega
  case c5 => omega
  case c6 => first | omega | (simp; omega)
  case c7 =>
    intro g cap2 w3 hown hgrow hat hlt
    have HW : Hid (WithTo w B (.slice (some ⟨g0, 0, none⟩) (j + 1) tcap) (out0 ++ [q]) p w3 (.slice (some ⟨g, 0, none⟩) ((j + 1) + 1) cap2) ((out0 ++ [q]) ++ [usedV p])) := withK_add w w4 B (some ⟨g0, 0, none⟩) (j + 1) tcap (out0 ++ [q]) p HT.out HOL.out HPU.out HFU.out HHU.out HB4.out _ ((Below.refl _ _).alloc (Nat.le_refl _) _) g cap2 w3 HPT.out hown hgrow (by rcases hat with h | h; exact .inl h; exact .inr (h.trans (World.size_alloc ..).symm))
    clear hown hgrow hat hlt
    go_wp2
    go_ret
    exact ⟨_, _, rfl, HW.out⟩
end Go.Proofs.YtaigleblmbblcaaDoor

/-
  Package op: a Keep behind a Keep.
-/
namespace Go.Proofs.YtaigleblmbblcaaDoor
open Go.RowKit
set_option maxRecDepth 100000 in
set_option maxHeartbeats 3200000 in
theorem wk_new (w : World) (B : Nat) (tv : Value) (p : PV) (out0 : List PV) (q : PV) (hk1 : q.kind = 1) (hsy : Ac.says q.pt p.pt = false) (hT : Tide w B tv (out0 ++ [q])) (hB : B ≤ w.heap.size) (ho : ((out0 ++ [q])).length ≤ 100000) (hP : Pvt w p) (hF : Far (usedV p) tv) (hH : High B (usedV p)) (hn : ∀ z ∈ (out0 ++ [q]), 0 ≤ z.n ∧ z.n ≤ 100000) (hpn : 0 ≤ p.n ∧ p.n ≤ 100000) :
    Calls Tryd.prog 50 #[tv, .agg #[.int .i64 p.kind, .int .i64 p.n, .slice p.ao p.m p.cap, .int .i64 p.set, .int .i64 p.clr, .bool p.goes, .string p.link]] w fun e w' => ∃ tv' out', e = .returned tv' ∧ WithTo w B tv (out0 ++ [q]) p w' tv' out' := by
  obtain ⟨i0, hi, hz0, hz1, hz2⟩ := info_parts Tryd.infP
  obtain ⟨tao, tcap, htv, hrow⟩ := own_row hT.own
  obtain ⟨ol, hol⟩ : ∃ ol, ((out0 ++ [q])).length = ol := ⟨_, rfl⟩
  have HOL : Hid (((out0 ++ [q])).length = ol) := hol
  rw [hol] at htv ho
  have hroom := hrow.room
  rw [hol] at hroom
  subst htv
  have HT : Hid (Tide w B (.slice tao ol tcap) (out0 ++ [q])) := hT
  have H1 : Hid (Below w.heap.size w (boxp p w)) := boxp_below _ w
  have HSV : Hid (Seven (boxp p w) w.heap.size 0 p) := boxp_at _ w
  have HPU : Hid (Pvt w (usedV p)) := usedV_pvt hP
  have HFU : Hid (Far (usedV p) (.slice tao ol tcap)) := hF
  have HHU : Hid (High B (usedV p)) := hH
  have HUP : Hid ((usedV p).pt = Ac.usedP p.pt) := usedV_pt p
  have CU : Hid (∀ w', Calls Tryd.prog 63 #[.agg #[.int .i64 p.kind, .int .i64 p.n, .slice p.ao p.m p.cap, .int .i64 p.set, .int .i64 p.clr, .bool p.goes, .string p.link]] w' fun e w2 => e = .returned (.agg #[.int .i64 (usedV p).kind, .int .i64 (usedV p).n, .slice (usedV p).ao (usedV p).m (usedV p).cap, .int .i64 (usedV p).set, .int .i64 (usedV p).clr, .bool (usedV p).goes, .string (usedV p).link]) ∧ Below w'.heap.size w' w2) := fun w' => used_any p w'
  have HNN : Hid (∀ z ∈ (out0 ++ [q]), 0 ≤ z.n ∧ z.n ≤ 100000) := hn
  obtain ⟨hpn0, hpn1⟩ := hpn
  have HOW : Hid (w.ownsRow B 55 7 (.slice tao ol tcap) ol (pvCells (out0 ++ [q]))) := by have := hT.own; rw [hol] at this; exact this
  clear hT hP hF hH hn hol hrow
  obtain ⟨j, hj⟩ : ∃ j, out0.length = j := ⟨_, rfl⟩
  obtain rfl : ol = j + 1 := by rw [← HOL.out, List.length_append, hj]; rfl
  have HJ : Hid (out0.length = j) := hj
  obtain ⟨g0, tc0, htv, -, hg0⟩ := HOW.out.form (Nat.succ_pos j)
  simp only [Value.slice.injEq, true_and] at htv
  obtain ⟨rfl, -⟩ := htv
  have hjl : j < (out0 ++ [q]).length := by rw [List.length_append, hj]; simp
  obtain ⟨k0, k1, k2, k3, k4, k5, k6⟩ := pvCells_at (out0 ++ [q]) j hjl
  have hgj : (out0 ++ [q])[j] = q := by simp [← hj]
  rw [hgj] at k0 k1 k2 k3 k4 k5 k6
  have hc : ∀ i u, i < 7 → (pvCells (out0 ++ [q]))[j * 7 + i]? = some u → w.cell? ⟨g0, j * 7 + i, none⟩ = some u := fun i u hi h => (HOW.out.cellAt (j * 7 + i) (by omega)).trans h
  have SQ : Seven w g0 (j * 7) q := ⟨hc 0 _ (by omega) k0, hc 1 _ (by omega) k1, hc 2 _ (by omega) k2, hc 3 _ (by omega) k3, hc 4 _ (by omega) k4, hc 5 _ (by omega) k5, hc 6 _ (by omega) k6⟩
  have HSQ : Hid (Seven w g0 (j * 7) q) := SQ
  have HSQ5 : Hid (Seven (boxp p w) g0 (j * 7) q) := SQ.below H1.out
  have hqn := HNN.out q (by simp)
  have CSS : Hid (∀ w', Calls Tryd.prog 52 #[.agg #[.int .i64 q.kind, .int .i64 q.n, .slice q.ao q.m q.cap, .int .i64 q.set, .int .i64 q.clr, .bool q.goes, .string q.link], .agg #[.int .i64 p.kind, .int .i64 p.n, .slice p.ao p.m p.cap, .int .i64 p.set, .int .i64 p.clr, .bool p.goes, .string p.link]] w' fun e w2 => e = .returned (.bool (Ac.says q.pt p.pt)) ∧ Below w'.heap.size w' w2) := fun w' => says_any q p w'
  have q1 : (0 : Int) ≤ (j : Int) := by omega
  have q2 : (j : Int) < (j : Int) + 1 := by omega
  have hmap : (out0 ++ [q]).map PV.pt = out0.map PV.pt ++ [q.pt] := by rw [List.map_append]; rfl
  clear hc k0 k1 k2 k3 k4 k5 k6 hgj hjl hj SQ
  have hk1' : (q.kind == 1) = true := by simp [hk1]
  have HPT : Hid (((out0 ++ [q]) ++ [usedV p]).map PV.pt = Ac.withK ((out0 ++ [q]).map PV.pt) p.pt) := by
    show _ = _
    rw [List.map_append, hmap, Ac.withK_snoc, if_neg (fun h => by rw [hsy] at h; cases h.2)]
    show _ ++ [(usedV p).pt] = _
    rw [HUP.out]
  have HK1 : Hid (q.kind = 1) := hk1
  clear hmap hk1
  go_enter Tryd.func50, Tryd.ntmps50
  go_upto_region 2 with fail
  change Code.wp Tryd.prog _ _ _ (boxp p w)
  generalize boxp p w = W5 at *
  obtain ⟨d0, d1, d2, d3, d4, d5, d6⟩ := HSV.out
  simp only [Nat.zero_add] at d0 d1 d2 d3 d4 d5 d6
  obtain ⟨b0, b1, b2, b3, b4, b5, b6⟩ := HSQ5.out
  go_region_held3 (fun w' => w'.cell? ⟨g0, j * 7, none⟩ = some (.int .i64 q.kind) ∧ w'.cell? ⟨g0, j * 7 + 1, none⟩ = some (.int .i64 q.n) ∧ w'.cell? ⟨g0, j * 7 + 2, none⟩ = some (.slice q.ao q.m q.cap) ∧ w'.cell? ⟨g0, j * 7 + 3, none⟩ = some (.int .i64 q.set) ∧ w'.cell? ⟨g0, j * 7 + 4, none⟩ = some (.int .i64 q.clr) ∧ w'.cell? ⟨g0, j * 7 + 5, none⟩ = some (.bool q.goes) ∧ w'.cell? ⟨g0, j * 7 + 6, none⟩ = some (.string q.link) ∧ w'.cell? ⟨w.heap.size, 0, none⟩ = some (.int .i64 p.kind) ∧ w'.cell? ⟨w.heap.size, 1, none⟩ = some (.int .i64 p.n) ∧ w'.cell? ⟨w.heap.size, 2, none⟩ = some (.slice p.ao p.m p.cap) ∧ w'.cell? ⟨w.heap.size, 3, none⟩ = some (.int .i64 p.set) ∧ w'.cell? ⟨w.heap.size, 4, none⟩ = some (.int .i64 p.clr) ∧ w'.cell? ⟨w.heap.size, 5, none⟩ = some (.bool p.goes) ∧ w'.cell? ⟨w.heap.size, 6, none⟩ = some (.string p.link)) (first | exact ⟨b0, b1, b2, b3, b4, b5, b6, d0, d1, d2, d3, d4, d5, d6⟩ | exact ⟨x0, x1, x2, x3, x4, x5, x6, y0, y1, y2, y3, y4, y5, y6⟩) (first | (go_at_call 52; refine (CSS.out _).mono ?_; rintro e w6 ⟨rfl, hb⟩; have HB6 : Hid (Below w.heap.size w w6) := H1.out.drew.trans (hb.mono (Below.size H1.out.drew)); have HSP6 : Hid (Seven w6 w.heap.size 0 p) := HSV.out.drew.below hb; have HSQ6 : Hid (Seven w6 g0 (j * 7) q) := HSQ5.out.drew.below hb; obtain ⟨y0, y1, y2, y3, y4, y5, y6⟩ := HSP6.out; obtain ⟨x0, x1, x2, x3, x4, x5, x6⟩ := HSQ6.out; simp only [Nat.zero_add] at y0 y1 y2 y3 y4 y5 y6; clear hb; rw [hsy]))
  go_wp2_with fail
  refine (CU.out _).mono ?_
  rintro e w4 ⟨rfl, hb⟩
  have HB4 : Hid (Below w.heap.size w w4) := (HB6.out).trans (hb.mono (HB6.out).size)
  have HO4 : Hid (w4.ownsRow B 55 7 (.slice (some ⟨g0, 0, none⟩) (j + 1) tcap) (j + 1) (pvCells (out0 ++ [q]))) := own_under HOW.out HB4.out
  have hs4 : B ≤ w4.heap.size := Nat.le_trans hB HB4.out.size
  clear hb
  go_wp2_with (at_builtin; refine wpList_append_lies _ rfl (.tmp 38) (.tmp 41) 25 rfl B 55 i0 (.agg #[.int .i64 0, .int .i64 0, .slice none 0 0, .int .i64 0, .int .i64 0, .bool false, .string ⟨#[]⟩]) 7 80 Tryd.underlying25 hi hz0 hz1 hz2 rfl (by decide) _ (j + 1) (pvCells (out0 ++ [q])) rfl ?c1 ⟨w4.heap.size, 0, none⟩ 1 1 (pvC (usedV p)) rfl rfl ?c2 ?c3 (by decide) ?c4 ?c5 ?c6 _ rfl ?c7)
  case c1 => exact HO4.out.alloc _
  case c2 => exact World.news_of_block (cs := (pvC (usedV p)).toArray) (heap_alloc_new w4 _)
  case c3 => exact fun u hu => pvCells_oneCell [usedV p] u (by rw [pvCells_one]; exact hu)
  case c4 => unfold maxLen; omega
  case c5 => omega
  case c6 => first | omega | (simp; omega)
  case c7 =>
    intro g cap2 w3 hown hgrow hat hlt
    have HW : Hid (WithTo w B (.slice (some ⟨g0, 0, none⟩) (j + 1) tcap) (out0 ++ [q]) p w3 (.slice (some ⟨g, 0, none⟩) ((j + 1) + 1) cap2) ((out0 ++ [q]) ++ [usedV p])) := withK_add w w4 B (some ⟨g0, 0, none⟩) (j + 1) tcap (out0 ++ [q]) p HT.out HOL.out HPU.out HFU.out HHU.out HB4.out _ ((Below.refl _ _).alloc (Nat.le_refl _) _) g cap2 w3 HPT.out hown hgrow (by rcases hat with h | h; exact .inl h; exact .inr (h.trans (World.size_alloc ..).symm))
    clear hown hgrow hat hlt
    go_wp2
    go_ret
    exact ⟨_, _, rfl, HW.out⟩
set_option maxRecDepth 100000 in
set_option maxHeartbeats 3200000 in
theorem wk_same (w : World) (B : Nat) (tv : Value) (p : PV) (out0 : List PV) (q : PV) (hk1 : q.kind = 1) (hsy : Ac.says q.pt p.pt = true) (hT : Tide w B tv (out0 ++ [q])) (_hB : B ≤ w.heap.size) (ho : ((out0 ++ [q])).length ≤ 100000) (hP : Pvt w p) (hF : Far (usedV p) tv) (hH : High B (usedV p)) (hn : ∀ z ∈ (out0 ++ [q]), 0 ≤ z.n ∧ z.n ≤ 100000) (hpn : 0 ≤ p.n ∧ p.n ≤ 100000) :
    Calls Tryd.prog 50 #[tv, .agg #[.int .i64 p.kind, .int .i64 p.n, .slice p.ao p.m p.cap, .int .i64 p.set, .int .i64 p.clr, .bool p.goes, .string p.link]] w fun e w' => ∃ tv' out', e = .returned tv' ∧ WithTo w B tv (out0 ++ [q]) p w' tv' out' := by
  obtain ⟨i0, hi, hz0, hz1, hz2⟩ := info_parts Tryd.infP
  obtain ⟨tao, tcap, htv, hrow⟩ := own_row hT.own
  obtain ⟨ol, hol⟩ : ∃ ol, ((out0 ++ [q])).length = ol := ⟨_, rfl⟩
  have HOL : Hid (((out0 ++ [q])).length = ol) := hol
  rw [hol] at htv ho
  have hroom := hrow.room
  rw [hol] at hroom
  subst htv
  have HT : Hid (Tide w B (.slice tao ol tcap) (out0 ++ [q])) := hT
  have H1 : Hid (Below w.heap.size w (boxp p w)) := boxp_below _ w
  have HSV : Hid (Seven (boxp p w) w.heap.size 0 p) := boxp_at _ w
  have HPU : Hid (Pvt w (usedV p)) := usedV_pvt hP
  have HFU : Hid (Far (usedV p) (.slice tao ol tcap)) := hF
  have HHU : Hid (High B (usedV p)) := hH
  have HUP : Hid ((usedV p).pt = Ac.usedP p.pt) := usedV_pt p
  have CU : Hid (∀ w', Calls Tryd.prog 63 #[.agg #[.int .i64 p.kind, .int .i64 p.n, .slice p.ao p.m p.cap, .int .i64 p.set, .int .i64 p.clr, .bool p.goes, .string p.link]] w' fun e w2 => e = .returned (.agg #[.int .i64 (usedV p).kind, .int .i64 (usedV p).n, .slice (usedV p).ao (usedV p).m (usedV p).cap, .int .i64 (usedV p).set, .int .i64 (usedV p).clr, .bool (usedV p).goes, .string (usedV p).link]) ∧ Below w'.heap.size w' w2) := fun w' => used_any p w'
  have HNN : Hid (∀ z ∈ (out0 ++ [q]), 0 ≤ z.n ∧ z.n ≤ 100000) := hn
  obtain ⟨hpn0, hpn1⟩ := hpn
  have HOW : Hid (w.ownsRow B 55 7 (.slice tao ol tcap) ol (pvCells (out0 ++ [q]))) := by have := hT.own; rw [hol] at this; exact this
  clear hT hP hF hH hn hol hrow
  obtain ⟨j, hj⟩ : ∃ j, out0.length = j := ⟨_, rfl⟩
  obtain rfl : ol = j + 1 := by rw [← HOL.out, List.length_append, hj]; rfl
  have HJ : Hid (out0.length = j) := hj
  obtain ⟨g0, tc0, htv, -, hg0⟩ := HOW.out.form (Nat.succ_pos j)
  simp only [Value.slice.injEq, true_and] at htv
  obtain ⟨rfl, -⟩ := htv
  have hjl : j < (out0 ++ [q]).length := by rw [List.length_append, hj]; simp
  obtain ⟨k0, k1, k2, k3, k4, k5, k6⟩ := pvCells_at (out0 ++ [q]) j hjl
  have hgj : (out0 ++ [q])[j] = q := by simp [← hj]
  rw [hgj] at k0 k1 k2 k3 k4 k5 k6
  have hc : ∀ i u, i < 7 → (pvCells (out0 ++ [q]))[j * 7 + i]? = some u → w.cell? ⟨g0, j * 7 + i, none⟩ = some u := fun i u hi h => (HOW.out.cellAt (j * 7 + i) (by omega)).trans h
  have SQ : Seven w g0 (j * 7) q := ⟨hc 0 _ (by omega) k0, hc 1 _ (by omega) k1, hc 2 _ (by omega) k2, hc 3 _ (by omega) k3, hc 4 _ (by omega) k4, hc 5 _ (by omega) k5, hc 6 _ (by omega) k6⟩
  have HSQ : Hid (Seven w g0 (j * 7) q) := SQ
  have HSQ5 : Hid (Seven (boxp p w) g0 (j * 7) q) := SQ.below H1.out
  have hqn := HNN.out q (by simp)
  have CSS : Hid (∀ w', Calls Tryd.prog 52 #[.agg #[.int .i64 q.kind, .int .i64 q.n, .slice q.ao q.m q.cap, .int .i64 q.set, .int .i64 q.clr, .bool q.goes, .string q.link], .agg #[.int .i64 p.kind, .int .i64 p.n, .slice p.ao p.m p.cap, .int .i64 p.set, .int .i64 p.clr, .bool p.goes, .string p.link]] w' fun e w2 => e = .returned (.bool (Ac.says q.pt p.pt)) ∧ Below w'.heap.size w' w2) := fun w' => says_any q p w'
  have q1 : (0 : Int) ≤ (j : Int) := by omega
  have q2 : (j : Int) < (j : Int) + 1 := by omega
  have hmap : (out0 ++ [q]).map PV.pt = out0.map PV.pt ++ [q.pt] := by rw [List.map_append]; rfl
  clear hc k0 k1 k2 k3 k4 k5 k6 hgj hjl hj SQ
  have hk1' : (q.kind == 1) = true := by simp [hk1]
  have HPT : Hid ((out0 ++ [{ q with n := q.n + p.n }]).map PV.pt = Ac.withK ((out0 ++ [q]).map PV.pt) p.pt) := by
    show _ = _
    rw [hmap, Ac.withK_snoc, if_pos ⟨hk1, hsy⟩, List.map_append]
    rfl
  have HK1 : Hid (q.kind = 1) := hk1
  clear hmap hk1
  go_enter Tryd.func50, Tryd.ntmps50
  go_upto_region 2 with fail
  change Code.wp Tryd.prog _ _ _ (boxp p w)
  generalize boxp p w = W5 at *
  obtain ⟨d0, d1, d2, d3, d4, d5, d6⟩ := HSV.out
  simp only [Nat.zero_add] at d0 d1 d2 d3 d4 d5 d6
  obtain ⟨b0, b1, b2, b3, b4, b5, b6⟩ := HSQ5.out
  go_region_held3 (fun w' => w'.cell? ⟨g0, j * 7, none⟩ = some (.int .i64 q.kind) ∧ w'.cell? ⟨g0, j * 7 + 1, none⟩ = some (.int .i64 q.n) ∧ w'.cell? ⟨g0, j * 7 + 2, none⟩ = some (.slice q.ao q.m q.cap) ∧ w'.cell? ⟨g0, j * 7 + 3, none⟩ = some (.int .i64 q.set) ∧ w'.cell? ⟨g0, j * 7 + 4, none⟩ = some (.int .i64 q.clr) ∧ w'.cell? ⟨g0, j * 7 + 5, none⟩ = some (.bool q.goes) ∧ w'.cell? ⟨g0, j * 7 + 6, none⟩ = some (.string q.link) ∧ w'.cell? ⟨w.heap.size, 0, none⟩ = some (.int .i64 p.kind) ∧ w'.cell? ⟨w.heap.size, 1, none⟩ = some (.int .i64 p.n) ∧ w'.cell? ⟨w.heap.size, 2, none⟩ = some (.slice p.ao p.m p.cap) ∧ w'.cell? ⟨w.heap.size, 3, none⟩ = some (.int .i64 p.set) ∧ w'.cell? ⟨w.heap.size, 4, none⟩ = some (.int .i64 p.clr) ∧ w'.cell? ⟨w.heap.size, 5, none⟩ = some (.bool p.goes) ∧ w'.cell? ⟨w.heap.size, 6, none⟩ = some (.string p.link)) (first | exact ⟨b0, b1, b2, b3, b4, b5, b6, d0, d1, d2, d3, d4, d5, d6⟩ | exact ⟨x0, x1, x2, x3, x4, x5, x6, y0, y1, y2, y3, y4, y5, y6⟩) (first | (go_at_call 52; refine (CSS.out _).mono ?_; rintro e w6 ⟨rfl, hb⟩; have HB6 : Hid (Below w.heap.size w w6) := H1.out.drew.trans (hb.mono (Below.size H1.out.drew)); have HSP6 : Hid (Seven w6 w.heap.size 0 p) := HSV.out.drew.below hb; have HSQ6 : Hid (Seven w6 g0 (j * 7) q) := HSQ5.out.drew.below hb; obtain ⟨y0, y1, y2, y3, y4, y5, y6⟩ := HSP6.out; obtain ⟨x0, x1, x2, x3, x4, x5, x6⟩ := HSQ6.out; simp only [Nat.zero_add] at y0 y1 y2 y3 y4 y5 y6; clear hb; rw [hsy]))
  clear b0 b1 b2 b3 b4 b5 b6 d0 d1 d2 d3 d4 d5 d6
  have HO6 := own_under HOW.out HB6.out
  have z1 := HO6.frozenAt (j * 7 + 1)
  go_wp2_with fail
  go_region
  have HW : Hid (WithTo w B (.slice (some ⟨g0, 0, none⟩) (j + 1) tcap) (out0 ++ [q]) p (w6.setCell ⟨g0, j * 7 + 1, none⟩ (.int .i64 (q.n + p.n))).drew (.slice (some ⟨g0, 0, none⟩) (j + 1) tcap) (out0 ++ [{ q with n := q.n + p.n }])) := wk_store w w6 B g0 tcap j out0 q p HT.out HJ.out HB6.out HPT.out
  clear z1 HO6 x0 x1 x2 x3 x4 x5 x6 y0 y1 y2 y3 y4 y5 y6
  go_wp2
  go_ret
  exact ⟨_, _, rfl, HW.out⟩

theorem withKeep_any (w : World) (B : Nat) (tv : Value) (out : List PV) (p : PV) (hT : Tide w B tv out) (hB : B ≤ w.heap.size) (ho : out.length ≤ 100000) (hP : Pvt w p) (hF : Far (usedV p) tv) (hH : High B (usedV p)) (hn : ∀ z ∈ out, 0 ≤ z.n ∧ z.n ≤ 100000) (hpn : 0 ≤ p.n ∧ p.n ≤ 100000) :
    Calls Tryd.prog 50 #[tv, .agg #[.int .i64 p.kind, .int .i64 p.n, .slice p.ao p.m p.cap, .int .i64 p.set, .int .i64 p.clr, .bool p.goes, .string p.link]] w fun e w' => ∃ tv' out', e = .returned tv' ∧ WithTo w B tv out p w' tv' out' := by
  rcases List.eq_nil_or_concat out with e | ⟨out0, q, e⟩
  · subst e
    exact wk_nil w B tv p hT hB ho hP hF hH hn hpn
  · rw [List.concat_eq_append] at e
    subst e
    by_cases hk : q.kind = 1
    · cases hs : Ac.says q.pt p.pt
      · exact wk_new w B tv p out0 q hk hs hT hB ho hP hF hH hn hpn
      · exact wk_same w B tv p out0 q hk hs hT hB ho hP hF hH hn hpn
    · exact wk_other w B tv out0 q hk p hT hB ho hP hF hH hn hpn
end Go.Proofs.YtaigleblmbblcaaDoor

/-
  Chapter 7 on parts: how an operation is made tidy, part by part.
-/
namespace Go.Proofs.YtaigleblmbblcaaDoor
open Go.RowKit
namespace Ac
/-- What is made so far, and what is put and cut behind it. -/
structure TS where
  out : List Pt
  put : List It
  cut : Nat
def tS (s : TS) (p : Pt) : TS := if p.kind = 1 then ⟨withK (s.out ++ flushP s.put s.cut) p, [], 0⟩ else if p.kind = 2 then ⟨s.out, s.put ++ p.items, s.cut⟩ else ⟨s.out, s.put, s.cut + p.n.toNat⟩
def ts (o : List Pt) : TS := o.foldl tS ⟨[], [], 0⟩
theorem ts_step (o : List Pt) (k : Nat) (h : k < o.length) : ts (o.take (k + 1)) = tS (ts (o.take k)) o[k] := by
  unfold ts
  rw [List.take_succ_eq_append_getElem h, List.foldl_append]
  rfl
def sumN (l : List Pt) : Int := (l.map Pt.n).sum
theorem sumN_app (l l' : List Pt) : sumN (l ++ l') = sumN l + sumN l' := by simp [sumN]
theorem sumN_one (p : Pt) : sumN [p] = p.n := by simp [sumN]
theorem sumN_flush (ps : List It) (n : Nat) : sumN (flushP ps n) = n := by
  unfold flushP
  rw [sumN_app]
  have e1 : sumN (if ps.isEmpty then [] else [putP ps]) = 0 := by split <;> rfl
  have e2 : sumN (if n = 0 then [] else [cutP n]) = n := by
    split
    · rename_i h; subst h; rfl
    · rw [sumN_one]; rfl
  rw [e1, e2]
  omega
theorem flush_n {ps : List It} {n : Nat} {z : Pt} (h : z ∈ flushP ps n) : 0 ≤ z.n := by
  unfold flushP at h
  rcases List.mem_append.1 h with h | h
  · split at h
    · cases h
    · rw [List.mem_singleton.1 h]; exact Int.le_refl _
  · split at h
    · cases h
    · rw [List.mem_singleton.1 h]; exact Int.natCast_nonneg _
theorem sum_le : ∀ {l : List Pt}, (∀ z ∈ l, 0 ≤ z.n) → 0 ≤ sumN l ∧ ∀ z ∈ l, z.n ≤ sumN l
  | [], _ => ⟨by decide, fun z hz => by cases hz⟩
  | p :: l, h => by
    obtain ⟨h0, h1⟩ := sum_le (fun z hz => h z (List.mem_cons_of_mem _ hz))
    have hp := h p (List.mem_cons_self ..)
    have e : sumN (p :: l) = p.n + sumN l := by simp [sumN]
    rw [e]
    refine ⟨by omega, fun z hz => ?_⟩
    rcases List.mem_cons.1 hz with rfl | hz
    · omega
    · have := h1 z hz; omega
theorem usedP_n {p : Pt} (h : p.kind = 1) : (usedP p).n = p.n := by unfold usedP; rw [if_pos h]
theorem withK_sum (o : List Pt) (p : Pt) (hk : p.kind = 1) : sumN (withK o p) = sumN o + p.n ∧ (withK o p).length ≤ o.length + 1 := by
  rcases List.eq_nil_or_concat o with e | ⟨o', q, e⟩
  · rw [e, withK_nil, sumN_one, usedP_n hk]
    simp [sumN]
  · rw [List.concat_eq_append] at e
    rw [e, withK_snoc]
    by_cases h : q.kind = 1 ∧ says q p = true
    · rw [if_pos h, sumN_app, sumN_app, sumN_one, sumN_one]
      refine ⟨by simp only; omega, by simp⟩
    · rw [if_neg h, sumN_app, sumN_app, sumN_one, sumN_one, usedP_n hk]
      exact ⟨rfl, by simp⟩
theorem withK_pos {o : List Pt} {p : Pt} (hk : p.kind = 1) (ho : ∀ z ∈ o, 0 ≤ z.n) (hp : 0 ≤ p.n) : ∀ z ∈ withK o p, 0 ≤ z.n := by
  rcases List.eq_nil_or_concat o with e | ⟨o', q, e⟩
  · rw [e, withK_nil]
    intro z hz
    rw [List.mem_singleton.1 hz, usedP_n hk]
    exact hp
  · rw [List.concat_eq_append] at e
    rw [e] at ho ⊢
    rw [withK_snoc]
    by_cases h : q.kind = 1 ∧ says q p = true
    · rw [if_pos h]
      intro z hz
      rcases List.mem_append.1 hz with hz | hz
      · exact ho z (List.mem_append_left _ hz)
      · rw [List.mem_singleton.1 hz]
        have := ho q (by simp)
        simp only
        omega
    · rw [if_neg h]
      intro z hz
      rcases List.mem_append.1 hz with hz | hz
      · exact ho z hz
      · rw [List.mem_singleton.1 hz, usedP_n hk]; exact hp
/-- What holds on the way. -/
structure TB (s : TS) (o : List Pt) : Prop where
  len : s.out.length + (flushP s.put s.cut).length ≤ o.length
  pos : ∀ z ∈ s.out, 0 ≤ z.n
  sum : sumN s.out + s.cut = nd o
  put : s.put.length ≤ lv o
theorem flush_len (ps : List It) (n : Nat) : (flushP ps n).length = (if ps.isEmpty then 0 else 1) + (if n = 0 then 0 else 1) := by
  unfold flushP
  rw [List.length_append]
  congr 1
  · split <;> rfl
  · split <;> rfl
theorem TB.step {s : TS} {o : List Pt} (h : TB s o) {p : Pt} (hp : err1 p = 0) : TB (tS s p) (o ++ [p]) := by
  have hn := err1_nd hp
  have hb := err1_n hp
  have hl := h.len
  rw [flush_len] at hl
  have e1 : nd (o ++ [p]) = nd o + nd1 p := by rw [nd_app]; simp [nd]
  have e2 : lv (o ++ [p]) = lv o + lv1 p := by rw [lv_app]; simp [lv]
  have hs := h.sum
  have hq := h.put
  unfold tS
  rcases kind_of hp with k | k | k
  · rw [if_pos k]
    have hk := withK_sum (s.out ++ flushP s.put s.cut) p k
    have hfl := h.len
    refine ⟨?_, ?_, ?_, ?_⟩
    · simp only
      have : (flushP ([] : List It) 0).length = 0 := rfl
      rw [this, List.length_append]
      have := hk.2
      rw [List.length_append] at this
      simp
      omega
    · refine withK_pos k (fun z hz => ?_) hb.1
      rcases List.mem_append.1 hz with hz | hz
      · exact h.pos z hz
      · exact flush_n hz
    · simp only
      rw [hk.1, sumN_app, sumN_flush, e1]
      omega
    · simp
  · rw [if_neg (by omega), if_pos k]
    have hn0 : nd1 p = 0 := if_pos k
    have hl1 : lv1 p = p.items.length := (if_neg (by omega)).trans (if_pos k)
    refine ⟨?_, h.pos, by simp only; rw [e1, hn0]; omega, by simp only; rw [List.length_append, e2, hl1]; omega⟩
    simp only
    rw [flush_len, List.length_append, List.length_singleton]
    have ha : (if (s.put ++ p.items).isEmpty = true then 0 else 1) ≤ 1 := by split <;> omega
    generalize (if (s.put ++ p.items).isEmpty = true then 0 else 1) = a at *
    generalize (if s.cut = 0 then 0 else 1) = b at *
    omega
  · rw [if_neg (by omega), if_neg (by omega)]
    have hn0 : nd1 p = p.n.toNat := if_neg (by omega)
    refine ⟨?_, h.pos, by simp only; rw [e1, hn0]; omega, by simp only; omega⟩
    simp only
    rw [flush_len, List.length_append, List.length_singleton]
    have ha : (if s.cut + p.n.toNat = 0 then 0 else 1) ≤ 1 := by split <;> omega
    generalize (if s.cut + p.n.toNat = 0 then 0 else 1) = a at *
    generalize (if s.put.isEmpty = true then 0 else 1) = b at *
    omega
theorem tb_fold : ∀ (o o1 : List Pt) (s : TS), TB s o1 → (∀ p ∈ o, err1 p = 0) → TB (o.foldl tS s) (o1 ++ o)
  | [], o1, s, h, _ => by rw [List.append_nil]; exact h
  | p :: o, o1, s, h, hp => by
    have := tb_fold o (o1 ++ [p]) (tS s p) (h.step (hp p (List.mem_cons_self ..))) (fun q hq => hp q (List.mem_cons_of_mem _ hq))
    rw [List.append_assoc] at this
    exact this
theorem ts_bound {o : List Pt} (h : ∀ p ∈ o, err1 p = 0) : TB (ts o) o := by
  have := tb_fold o [] ⟨[], [], 0⟩ ⟨by simp [flushP], fun z hz => (by cases hz), rfl, by simp⟩ h
  exact this
end Ac
end Go.Proofs.YtaigleblmbblcaaDoor

/-
  Package op: Tidy, of whatever operation.
-/
namespace Go.Proofs.YtaigleblmbblcaaDoor
open Go.RowKit

theorem Ac.err1_nd_le {p : Ac.Pt} (h : Ac.err1 p = 0) : Ac.nd1 p ≤ 80 := by
  have := Ac.err1_nd h
  have := Ac.err1_n h
  omega
theorem Ac.nd_le : ∀ (o : List Ac.Pt), (∀ p ∈ o, Ac.err1 p = 0) → Ac.nd o ≤ o.length * 80
  | [], _ => by simp [Ac.nd]
  | p :: o, h => by
    rw [Ac.nd_cons, List.length_cons]
    have := Ac.err1_nd_le (h p (List.mem_cons_self ..))
    have := Ac.nd_le o (fun q hq => h q (List.mem_cons_of_mem _ hq))
    omega
/-- A Keep is behind what is made. -/
theorem Tdy.keep {w1 w6 w7 : World} {tv tv' : Value} {out out' : List PV} {p : PV} (h : Tdy w1 tv (.slice none 0 0) out [] 0 w6) (hw : WithTo w6 (w1.heap.size + 3) tv out p w7 tv' out') : Tdy w1 tv' (.slice none 0 0) out' [] 0 (w7.setCell ⟨w1.heap.size, 0, none⟩ tv') := by
  have hlo : ∀ x ∈ ob tv, w1.heap.size + 3 ≤ x := fun x hx => ownBlk_ge h.tide.own x (ob_mem hx)
  have hb := hw.kept.blk h.tb (fun hx => by have := hlo _ hx; omega)
  have hp := hw.kept.blk h.pb (fun hx => by have := hlo _ hx; omega)
  have hc := hw.kept.blk h.cb (fun hx => by have := hlo _ hx; omega)
  obtain ⟨ht, -, hb2⟩ := hw.tide.var (kept_cons hw.kept _) hb
  refine ⟨?_, hb2, hp.other _ _ (by simp), hc.other _ _ (by simp), ht, World.ownsRow_nil _ _ _ _, fun x hx => absurd hx (by simp), fun v _ => far_none v rfl, fun k _ e => by cases e⟩
  exact (h.blw.trans (hw.kept.below h.blw.size (fun x hx => by have := hlo x hx; omega))).setCell (Nat.le_refl _) _
/-- Items are put. -/
theorem Tdy.puts {w1 w w3 : World} {tv pv : Value} {out : List PV} {put items : List It} {cut g cap n : Nat} (h : Tdy w1 tv pv out put cut w) (hf : Fit items)
    (hown : w3.ownsRow (w1.heap.size + 3) 62 3 (.slice (some ⟨g, 0, none⟩) n cap) n (itCells (put ++ items))) (hn : (put ++ items).length = n) (hg : w.grownBy w3 pv.ownBlock) (hat : pv.ownBlock = some g ∨ g = w.heap.size) :
    Tdy w1 tv (.slice (some ⟨g, 0, none⟩) n cap) out (put ++ items) cut (w3.setCell ⟨w1.heap.size + 1, 0, none⟩ (.slice (some ⟨g, 0, none⟩) n cap)) := by
  have hk := grown_kept hg
  have hlo : ∀ x ∈ ob pv, w1.heap.size + 3 ≤ x := fun x hx => ownBlk_ge h.pown x (ob_mem hx)
  have hb := hk.blk h.tb (fun hx => by have := hlo _ hx; omega)
  have hp := hk.blk h.pb (fun hx => by have := hlo _ hx; omega)
  have hc := hk.blk h.cb (fun hx => by have := hlo _ hx; omega)
  have ht3 : Tide w3 (w1.heap.size + 3) tv out := h.tide.kept hk (fun x hx e => h.apart x e (ob_mem hx)) (fun v hv a hm ha hx => h.pfar v hv a hm ha (ob_mem hx).symm)
  have hks : Kept w3 (w3.setCell ⟨w1.heap.size + 1, 0, none⟩ (.slice (some ⟨g, 0, none⟩) n cap)) [w1.heap.size + 1] := kept_set _ _ _ _ _ (List.mem_singleton.2 rfl)
  refine ⟨?_, hb.other _ _ (by simp), hp.set 0 _, hc.other _ _ (by simp), ?_, ?_, fit_app h.pfit hf, fun v hv a hm ha e => ?_, fun k hk e => ?_⟩
  · exact (h.blw.trans (hk.below h.blw.size (fun x hx => by have := hlo x hx; omega))).setCell (Nat.le_succ _) _
  · refine ht3.kept hks (fun x hx e => ?_) (fun v hv a hm ha hx => ?_)
    · have := ownBlk_ge ht3.own x e
      rw [List.mem_singleton] at hx
      omega
    · have := ht3.hi v hv a hm ha
      rw [List.mem_singleton] at hx
      omega
  · rw [hn]
    exact ownsRow_setCell_below hown (by simp) _
  · rcases hat with e2 | e2
    · exact h.pfar v hv a hm ha (by rw [e2]; exact e)
    · have h1 := (h.tide.pts v hv).lies hm ha
      have : a.block = g := by simpa [Value.ownBlock] using e
      omega
  · have hkg : g = k := by simpa [Value.ownBlock] using e
    rcases hat with e2 | e2
    · exact h.apart k hk (by rw [e2, hkg])
    · have := (h.tide.own.lt k hk).2
      omega
/-- Items are cut. -/
theorem Tdy.cuts {w1 w : World} {tv pv : Value} {out : List PV} {put : List It} {cut : Nat} (h : Tdy w1 tv pv out put cut w) (c : Nat) : Tdy w1 tv pv out put c (w.setCell ⟨w1.heap.size + 2, 0, none⟩ (.int .i64 c)) := by
  have hks : Kept w (w.setCell ⟨w1.heap.size + 2, 0, none⟩ (.int .i64 c)) [w1.heap.size + 2] := kept_set _ _ _ _ _ (List.mem_singleton.2 rfl)
  refine ⟨h.blw.setCell (by simp) _, h.tb.other _ _ (by simp), h.pb.other _ _ (by simp), h.cb.set 0 _, ?_, ownsRow_setCell_below h.pown (by simp) _, h.pfit, h.pfar, h.apart⟩
  refine h.tide.kept hks (fun x hx e => ?_) (fun v hv a hm ha hx => ?_)
  · have := ownBlk_ge h.tide.own x e
    rw [List.mem_singleton] at hx
    omega
  · have := h.tide.hi v hv a hm ha
    rw [List.mem_singleton] at hx
    omega
/-- The three variables as they are laid. -/
def tide0 (w : World) : World := ((w.alloc (.cells #[(.slice none 0 0)] 25)).alloc (.cells #[(.slice none 0 0)] 22)).alloc (.cells #[.int .i64 0] 3)
theorem tide0_tdy (w : World) : Tdy w (.slice none 0 0) (.slice none 0 0) [] [] 0 (tide0 w) := by
  have h1 := Blk.new w [(.slice none 0 0)] 25
  have h2 := Blk.newAt (w.alloc (.cells #[(.slice none 0 0)] 25)) (w.heap.size + 1) [(.slice none 0 0)] 22 (World.size_alloc ..)
  have h3 := Blk.newAt ((w.alloc (.cells #[(.slice none 0 0)] 25)).alloc (.cells #[(.slice none 0 0)] 22)) (w.heap.size + 2) [.int .i64 0] 3 (by rw [World.size_alloc, World.size_alloc])
  exact ⟨(((Below.refl _ _).alloc (Nat.le_refl _) _).alloc (by simp) _).alloc (by simp; omega) _, (h1.alloc _).alloc _, h2.alloc _, h3, Tide.nil _ _, World.ownsRow_nil _ _ _ _, fun x hx => absurd hx (by simp), fun v hv => absurd hv (by simp), fun k e => by cases e⟩

theorem Tide.mono {w : World} {B B' : Nat} {tv : Value} {out : List PV} (h : Tide w B tv out) (hB : B' ≤ B) : Tide w B' tv out :=
  ⟨h.own.mono hB, h.pts, h.far, fun v hv a hm ha => Nat.le_trans hB (h.hi v hv a hm ha)⟩
theorem Tide.ops {w : World} {B : Nat} {tv : Value} {out : List PV} (h : Tide w B tv out) : ∃ a c, tv = .slice a out.length c ∧ Ops w a out.length c out := by
  obtain ⟨a, c, e, hrow⟩ := own_row h.own
  exact ⟨a, c, e, hrow, h.pts⟩
set_option maxRecDepth 100000 in
set_option maxHeartbeats 12800000 in
theorem tidied0_any (ao : Option Addr) (n cap : Nat) (vs : List PV) (w : World) (hO : Ops w ao n cap vs) (hok : ∀ v ∈ vs, Ac.err1 v.pt = 0) (hfew : vs.length ≤ 100) :
    Calls Tryd.prog 30 #[.slice ao n cap] w fun e w' => (∃ tv us, e = .returned tv ∧ Tide w' w.heap.size tv us ∧ us.map PV.pt = (Ac.ts (vs.map PV.pt)).out ++ Ac.flushP (Ac.ts (vs.map PV.pt)).put (Ac.ts (vs.map PV.pt)).cut) ∧ Below w.heap.size w w' := by
  have hOKL : ∀ p ∈ vs.map PV.pt, Ac.err1 p = 0 := fun p hp => by
    obtain ⟨v, hv, rfl⟩ := List.mem_map.1 hp
    exact hok v hv
  obtain ⟨i0, hi, hz0, hz1, hz2⟩ := info_parts Tryd.infI
  have HO0 : Hid (Ops w ao n cap vs) := hO
  have HN : Hid (vs.length = n) := hO.len
  have hn40 : n ≤ 100 := by have := hO.len; omega
  have HOK : Hid (∀ v ∈ vs, Ac.err1 v.pt = 0) := hok
  have HTB : Hid (∀ k, (Ac.ts ((vs.map PV.pt).take k)).out.length + 2 ≤ 200 ∧ (∀ z ∈ (Ac.ts ((vs.map PV.pt).take k)).out ++ Ac.flushP (Ac.ts ((vs.map PV.pt).take k)).put (Ac.ts ((vs.map PV.pt).take k)).cut, 0 ≤ z.n ∧ z.n ≤ 8000) ∧ (Ac.ts ((vs.map PV.pt).take k)).cut ≤ 8000 ∧ (Ac.ts ((vs.map PV.pt).take k)).put.length ≤ 8000) := fun k => by
    have hb := Ac.ts_bound (o := (vs.map PV.pt).take k) (fun p hp => hOKL p (List.mem_of_mem_take hp))
    have h1 := Ac.nd_take (vs.map PV.pt) k
    have h2 := Ac.lv_take (vs.map PV.pt) k
    have h3 := Ac.lv_le (vs.map PV.pt) hOKL
    have h4 : (vs.map PV.pt).length ≤ 100 := by rw [List.length_map]; exact hfew
    have h5 := Ac.nd_le (vs.map PV.pt) hOKL
    have h6 := hb.len
    have h7 := hb.sum
    have h8 := hb.put
    have h9 : ((vs.map PV.pt).take k).length ≤ 100 := by rw [List.length_take]; omega
    have hpos : ∀ z ∈ (Ac.ts ((vs.map PV.pt).take k)).out ++ Ac.flushP (Ac.ts ((vs.map PV.pt).take k)).put (Ac.ts ((vs.map PV.pt).take k)).cut, 0 ≤ z.n := fun z hz => by
      rcases List.mem_append.1 hz with hz | hz
      · exact hb.pos z hz
      · exact Ac.flush_n hz
    have hsl := Ac.sum_le hpos
    have hse : Ac.sumN ((Ac.ts ((vs.map PV.pt).take k)).out ++ Ac.flushP (Ac.ts ((vs.map PV.pt).take k)).put (Ac.ts ((vs.map PV.pt).take k)).cut) = Ac.nd ((vs.map PV.pt).take k) := by rw [Ac.sumN_app, Ac.sumN_flush]; exact h7
    have hp0 := (Ac.sum_le hb.pos).1
    refine ⟨by omega, fun z hz => ⟨hpos z hz, ?_⟩, by omega, by omega⟩
    have := hsl.2 z hz
    omega
  have hcap := hO.row.room
  have hbig := hO.row.big
  clear hO hok hfew hOKL
  have HO2 : Hid (Ops w ao n cap vs) := HO0.out
  have HT0 : Hid (Tdy w (.slice none 0 0) (.slice none 0 0) [] [] 0 (tide0 w)) := tide0_tdy w
  clear HO0
  go_enter Tryd.func30, Tryd.ntmps30
  go_wp2
  go_loopw [12] (fun i wr => ∃ k : Nat, k ≤ n ∧ i = .int .i64 k ∧ ∃ tv pv out, Tdy w tv pv out (Ac.ts ((vs.map PV.pt).take k)).put (Ac.ts ((vs.map PV.pt).take k)).cut wr ∧ out.map PV.pt = (Ac.ts ((vs.map PV.pt).take k)).out) (fun i _ => n - (intOf i).toNat)
  case atStart => exact ⟨0, Nat.zero_le _, rfl, _, _, [], HT0.out, rfl⟩
  case round =>
    obtain ⟨k, hk, rfl, tv, pv, out, hT, hpt⟩ := hrel
    have HT : Hid (Tdy w tv pv out (Ac.ts ((vs.map PV.pt).take k)).put (Ac.ts ((vs.map PV.pt).take k)).cut wr) := hT
    have HPT : Hid (out.map PV.pt = (Ac.ts ((vs.map PV.pt).take k)).out) := hpt
    clear hT hpt HT0
    by_cases hlt : k < n
    · obtain ⟨pb, po, rfl, hG⟩ := HO2.out.get (by omega)
      have hkv : k < vs.length := by rw [HN.out]; exact hlt
      have HMS : Hid (Ac.ts ((vs.map PV.pt).take (k + 1)) = Ac.tS (Ac.ts ((vs.map PV.pt).take k)) vs[k].pt) := by
        have := Ac.ts_step (vs.map PV.pt) k (by rw [List.length_map]; exact hkv)
        rw [List.getElem_map] at this
        exact this
      have hB1 := HTB.out k
      have hok := HOK.out vs[k] (List.getElem_mem hkv)
      have HPV := HO2.out.pts vs[k] (List.getElem_mem hkv)
      obtain ⟨c0, c1, c2, c3, c4, c5, c6⟩ := (hG k hkv).same (HT.out.blw.block pb (cell_lt (hG k hkv).c0))
      clear hG
      generalize Ac.ts ((vs.map PV.pt).take k) = s at *
      generalize vs[k] = v at *
      obtain ⟨kind, q, vo, m, vcap, items, st, cl, gs, lk⟩ := v
      simp only at c0 c1 c2 c3 c4 c5 c6
      clear hkv
      obtain ⟨so, sp, sc⟩ := s
      simp only at HT HPT hB1
      obtain ⟨hb1, hb2, hb3, hb4⟩ := hB1
      have hol : out.length + 2 ≤ 200 := by have := congrArg List.length HPT.out; rw [List.length_map] at this; omega
      have hsz : w.heap.size + 3 ≤ wr.heap.size := HT.out.cb.lt
      by_cases h1 : kind = 1
      · subst h1
        have hqb : 0 ≤ q ∧ q ≤ 80 := Ac.err1_n hok
        have hms : Ac.tS ⟨so, sp, sc⟩ (PV.pt ⟨1, q, vo, m, vcap, items, st, cl, gs, lk⟩) = ⟨Ac.withK (so ++ Ac.flushP sp sc) (PV.pt ⟨1, q, vo, m, vcap, items, st, cl, gs, lk⟩), [], 0⟩ := rfl
        rw [hms] at HMS
        have HS5 : Hid (Seven (boxp ⟨1, q, vo, m, vcap, items, st, cl, gs, lk⟩ wr) wr.heap.size 0 ⟨1, q, vo, m, vcap, items, st, cl, gs, lk⟩) := boxp_at _ wr
        have hw5 : Below wr.heap.size wr (boxp ⟨1, q, vo, m, vcap, items, st, cl, gs, lk⟩ wr) := boxp_below _ wr
        have HT5 : Hid (Tdy w tv pv out sp sc (boxp ⟨1, q, vo, m, vcap, items, st, cl, gs, lk⟩ wr)) := HT.out.under hw5
        have HNB : Hid (∀ x ∈ w.heap.size :: (w.heap.size + 1) :: (w.heap.size + 2) :: ob tv, x ≠ wr.heap.size) := fun x hx e => by
          simp only [List.mem_cons] at hx
          rcases hx with h | h | h | h
          · omega
          · omega
          · omega
          · have := (HT.out.tide.own.lt x (ob_mem h)).2; omega
        have HL5 : Hid (wr.heap.size < (boxp ⟨1, q, vo, m, vcap, items, st, cl, gs, lk⟩ wr).heap.size) := by show _ < _; rw [boxp_size]; omega
        have HP5 : Hid (Pvt w ⟨1, q, vo, m, vcap, items, st, cl, gs, lk⟩) := HPV
        have HBN : Hid (∀ z ∈ so ++ Ac.flushP sp sc, 0 ≤ z.n ∧ z.n ≤ 8000) := hb2
        clear hw5 hms hok HPV hb2
        go_upto_region 10 with fail
        change Code.wp Tryd.prog _ _ _ (boxp ⟨1, q, vo, m, vcap, items, st, cl, gs, lk⟩ wr)
        generalize boxp ⟨1, q, vo, m, vcap, items, st, cl, gs, lk⟩ wr = W5 at *
        clear c0 c1 c2 c3 c4 c5 c6
        obtain ⟨d0, d1, d2, d3, d4, d5, d6⟩ := HS5.out
        simp only [Nat.zero_add] at d0 d1 d2 d3 d4 d5 d6
        go_wp2_with fail
        refine (settle_any w W5 tv pv out sp sc HT5.out (by omega) (by omega) (by omega)).mono ?_
        rintro e w6 ⟨rfl, tv6, out6, hT6, hp6, hl6, hk6⟩
        have HT6 : Hid (Tdy w tv6 (.slice none 0 0) out6 [] 0 w6) := hT6
        have HS6 : Hid (Seven w6 wr.heap.size 0 ⟨1, q, vo, m, vcap, items, st, cl, gs, lk⟩) := HS5.out.same (hk6.block _ HL5.out (fun hm => HNB.out _ hm rfl))
        have HPT6 : Hid (out6.map PV.pt = so ++ Ac.flushP sp sc) := by show _ = _; rw [hp6, HPT.out]
        have HN6 : Hid (∀ z ∈ out6, 0 ≤ z.n ∧ z.n ≤ 8000) := fun z hz => by
          have : z.pt ∈ so ++ Ac.flushP sp sc := by rw [← HPT6.out]; exact List.mem_map.2 ⟨z, hz, rfl⟩
          exact HBN.out z.pt this
        have t6 : w6.cell? ⟨w.heap.size, 0, none⟩ = some tv6 := hT6.tb.cell 0
        have HP6 : Hid (Pvt w6 ⟨1, q, vo, m, vcap, items, st, cl, gs, lk⟩) := HP5.out.below hT6.blw
        have CW : Hid (Calls Tryd.prog 50 #[tv6, .agg #[.int .i64 1, .int .i64 q, .slice vo m vcap, .int .i64 st, .int .i64 cl, .bool gs, .string lk]] w6 fun e w' => ∃ tv' out', e = .returned tv' ∧ WithTo w6 (w.heap.size + 3) tv6 out6 ⟨1, q, vo, m, vcap, items, st, cl, gs, lk⟩ w' tv' out') := withKeep_any w6 (w.heap.size + 3) tv6 out6 ⟨1, q, vo, m, vcap, items, st, cl, gs, lk⟩ hT6.tide hT6.cb.lt (by omega) HP6.out (far_zero rfl _) (high_zero rfl _) (fun z hz => ⟨(HN6.out z hz).1, by have := (HN6.out z hz).2; omega⟩) ⟨hqb.1, by change q ≤ 100000; omega⟩
        obtain ⟨d0, d1, d2, d3, d4, d5, d6⟩ := HS6.out
        simp only [Nat.zero_add] at d0 d1 d2 d3 d4 d5 d6
        clear hT6 hp6 hk6
        go_wp2_with fail
        refine CW.out.mono ?_
        rintro e w7 ⟨tv7, out7, rfl, hW⟩
        have HT7 : Hid (Tdy w tv7 (.slice none 0 0) out7 [] 0 (w7.setCell ⟨w.heap.size, 0, none⟩ tv7)) := HT6.out.keep hW
        have HPT7 : Hid (out7.map PV.pt = Ac.withK (so ++ Ac.flushP sp sc) (PV.pt ⟨1, q, vo, m, vcap, items, st, cl, gs, lk⟩)) := by show _ = _; rw [hW.pt, HPT6.out]
        have hb7 := hW.kept.blk HT6.out.tb (fun hx => by have := ownBlk_ge HT6.out.tide.own _ (ob_mem hx); omega)
        have t7 : w7.cell? ⟨w.heap.size, 0, none⟩ = some tv6 := hb7.cell 0
        have f7 := hb7.frozen 0
        obtain ⟨ta, tc, htv7, -⟩ := own_row hW.tide.own
        obtain ⟨ol7, hol7⟩ : ∃ ol7, out7.length = ol7 := ⟨_, rfl⟩
        rw [hol7] at htv7
        subst htv7
        clear hW hol7 hb7 d0 d1 d2 d3 d4 d5 d6 t6
        go_wp2
        go_roundw
        case rel => exact ⟨k + 1, by omega, by go_num, _, _, out7, by rw [HMS.out]; exact HT7.out, by rw [HMS.out]; exact HPT7.out⟩
        case measure => simp [intOf]; omega
      · by_cases h2 : kind = 2
        · subst h2
          obtain ⟨hp1, hp2, -⟩ := Ac.put_len hok rfl
          change 1 ≤ items.length at hp1
          change items.length ≤ 80 at hp2
          have hlm : items.length = m := HPV.doc.len
          rw [hlm] at hp1 hp2
          have hms : Ac.tS ⟨so, sp, sc⟩ (PV.pt ⟨2, q, vo, m, vcap, items, st, cl, gs, lk⟩) = ⟨so, sp ++ items, sc⟩ := rfl
          rw [hms] at HMS
          obtain ⟨ib, io, rfl, hIA⟩ := HPV.doc.lies (by change m ≠ 0; omega)
          have HS5 : Hid (Seven (boxp ⟨2, q, some ⟨ib, io, none⟩, m, vcap, items, st, cl, gs, lk⟩ wr) wr.heap.size 0 ⟨2, q, some ⟨ib, io, none⟩, m, vcap, items, st, cl, gs, lk⟩) := boxp_at _ wr
          have hw5 : Below wr.heap.size wr (boxp ⟨2, q, some ⟨ib, io, none⟩, m, vcap, items, st, cl, gs, lk⟩ wr) := boxp_below _ wr
          have HT5 : Hid (Tdy w tv pv out sp sc (boxp ⟨2, q, some ⟨ib, io, none⟩, m, vcap, items, st, cl, gs, lk⟩ wr)) := HT.out.under hw5
          have HIA : Hid (∀ j u, (itCells items)[j]? = some u → (boxp ⟨2, q, some ⟨ib, io, none⟩, m, vcap, items, st, cl, gs, lk⟩ wr).cell? ((⟨ib, io, none⟩ : Addr).add j) = some u) := at_cells (hIA.below HT5.out.blw)
          have HLC : Hid ((itCells items).length = m * 3) := by show _ = _; rw [itCells_len, hlm]
          obtain ⟨ml, hml⟩ : ∃ ml, sp.length = ml := ⟨_, rfl⟩
          rw [hml] at hb4
          have HFI : Hid (Fit items) := HPV.doc.fit
          have HMQ : Hid ((sp ++ items).length = ml + m) := by show _ = _; rw [List.length_append, hlm, hml]
          have HO5 : Hid ((boxp ⟨2, q, some ⟨ib, io, none⟩, m, vcap, items, st, cl, gs, lk⟩ wr).ownsRow (w.heap.size + 3) 62 3 pv ml (itCells sp)) := by have := HT5.out.pown; rw [hml] at this; exact this
          obtain ⟨pa, pc, hpv, -⟩ := own_row HO5.out
          have hsz5 : w.heap.size + 3 ≤ (boxp ⟨2, q, some ⟨ib, io, none⟩, m, vcap, items, st, cl, gs, lk⟩ wr).heap.size := HT5.out.cb.lt
          clear hms hok HPV hlm hIA hw5 hml
          subst hpv
          go_upto_region 12 with fail
          change Code.wp Tryd.prog _ _ _ (boxp ⟨2, q, some ⟨ib, io, none⟩, m, vcap, items, st, cl, gs, lk⟩ wr)
          generalize boxp ⟨2, q, some ⟨ib, io, none⟩, m, vcap, items, st, cl, gs, lk⟩ wr = W5 at *
          clear c0 c1 c2 c3 c4 c5 c6
          obtain ⟨d0, d1, d2, d3, d4, d5, d6⟩ := HS5.out
          simp only [Nat.zero_add] at d0 d1 d2 d3 d4 d5 d6
          have p5 : W5.cell? ⟨w.heap.size + 1, 0, none⟩ = some (.slice pa ml pc) := HT5.out.pb.cell 0
          go_wp2_with (at_builtin; refine wpList_append_lies _ rfl (.tmp 27) (.tmp 29) 22 rfl (w.heap.size + 3) 62 i0 (.agg #[.int .u8 0, .int .i64 0, .string ⟨#[]⟩]) 3 32 Tryd.underlying22 hi hz0 hz1 hz2 rfl (by decide) _ ml (itCells sp) rfl HO5.out ⟨ib, io, none⟩ m vcap (itCells items) rfl HLC.out HIA.out (itCells_one _) (by omega) (by unfold maxLen; omega) (by omega) hsz5 _ rfl ?c7)
          case c7 =>
            intro g2 cap2 w8 hown hgrow hat hlt2
            have hb8 := (grown_kept hgrow).blk HT5.out.pb (fun hx => by have := ownBlk_ge HO5.out _ (ob_mem hx); omega)
            have HFIN : Hid (Tdy w tv (.slice (some ⟨g2, 0, none⟩) (ml + m) cap2) out (sp ++ items) sc (w8.setCell ⟨w.heap.size + 1, 0, none⟩ (.slice (some ⟨g2, 0, none⟩) (ml + m) cap2))) := HT5.out.puts HFI.out (by rw [itCells_app]; exact hown) HMQ.out hgrow hat
            have p8 : w8.cell? ⟨w.heap.size + 1, 0, none⟩ = some (.slice pa ml pc) := hb8.cell 0
            have f8 := hb8.frozen 0
            clear hown hgrow hat hlt2 hb8
            go_wp2
            go_roundw
            case rel => exact ⟨k + 1, by omega, by go_num, _, _, out, by rw [HMS.out]; exact HFIN.out, by rw [HMS.out]; exact HPT.out⟩
            case measure => simp [intOf]; omega
        · by_cases h3 : kind = 3
          · subst h3
            obtain ⟨hq1, hq2⟩ := Ac.cut_n hok rfl
            change 1 ≤ q at hq1
            change q ≤ 80 at hq2
            obtain ⟨qn, rfl⟩ : ∃ qn : Nat, q = qn := ⟨q.toNat, by omega⟩
            have hms : Ac.tS ⟨so, sp, sc⟩ (PV.pt ⟨3, qn, vo, m, vcap, items, st, cl, gs, lk⟩) = ⟨so, sp, sc + qn⟩ := rfl
            rw [hms] at HMS
            have HS5 : Hid (Seven (boxp ⟨3, qn, vo, m, vcap, items, st, cl, gs, lk⟩ wr) wr.heap.size 0 ⟨3, qn, vo, m, vcap, items, st, cl, gs, lk⟩) := boxp_at _ wr
            have hw5 : Below wr.heap.size wr (boxp ⟨3, qn, vo, m, vcap, items, st, cl, gs, lk⟩ wr) := boxp_below _ wr
            have HT5 : Hid (Tdy w tv pv out sp sc (boxp ⟨3, qn, vo, m, vcap, items, st, cl, gs, lk⟩ wr)) := HT.out.under hw5
            have HFIN : Hid (Tdy w tv pv out sp (sc + qn) ((boxp ⟨3, qn, vo, m, vcap, items, st, cl, gs, lk⟩ wr).setCell ⟨w.heap.size + 2, 0, none⟩ (.int .i64 ((sc + qn : Nat) : Int)))) := HT5.out.cuts (sc + qn)
            clear hms hok HPV hw5
            go_upto_region 12 with fail
            change Code.wp Tryd.prog _ _ _ (boxp ⟨3, qn, vo, m, vcap, items, st, cl, gs, lk⟩ wr)
            generalize boxp ⟨3, qn, vo, m, vcap, items, st, cl, gs, lk⟩ wr = W5 at *
            clear c0 c1 c2 c3 c4 c5 c6
            obtain ⟨d0, d1, d2, d3, d4, d5, d6⟩ := HS5.out
            simp only [Nat.zero_add] at d0 d1 d2 d3 d4 d5 d6
            have k5 : W5.cell? ⟨w.heap.size + 2, 0, none⟩ = some (.int .i64 sc) := HT5.out.cb.cell 0
            have f5 := HT5.out.cb.frozen 0
            rw [Int.natCast_add] at HFIN
            go_wp2
            go_roundw
            case rel => exact ⟨k + 1, by omega, by go_num, _, _, out, by rw [HMS.out]; exact HFIN.out, by rw [HMS.out]; exact HPT.out⟩
            case measure => simp [intOf]; omega
          · exact absurd (Ac.kind_of hok) (fun h => h.elim h1 (fun h => h.elim h2 h3))
    · have hkn : k = n := by omega
      have hm : (vs.map PV.pt).take k = vs.map PV.pt := List.take_of_length_le (by rw [List.length_map, HN.out]; omega)
      rw [hm] at HT HPT
      have hB9 := HTB.out n
      rw [List.take_of_length_le (by rw [List.length_map, HN.out]; omega)] at hB9
      obtain ⟨s, hs⟩ : ∃ s, Ac.ts (vs.map PV.pt) = s := ⟨_, rfl⟩
      have HTS : Hid (Ac.ts (vs.map PV.pt) = s) := hs
      rw [hs] at HT HPT hB9
      clear hs
      obtain ⟨so, sp, sc⟩ := s
      simp only at HT HPT hB9
      obtain ⟨hb1, -, hb3, hb4⟩ := hB9
      have hol : out.length + 2 ≤ 200 := by have := congrArg List.length HPT.out; rw [List.length_map] at this; omega
      clear hm
      subst hkn
      go_wp2_with fail
      refine (settle_any w wr tv pv out sp sc HT.out (by omega) (by omega) (by omega)).mono ?_
      rintro e w6 ⟨rfl, tv6, out6, hT6, hp6, hl6, -⟩
      have HTT : Hid (Tide w6 w.heap.size tv6 out6) := hT6.tide.mono (by omega)
      have HPT6 : Hid (out6.map PV.pt = so ++ Ac.flushP sp sc) := by show _ = _; rw [hp6, HPT.out]
      have HB : Hid (Below w.heap.size w w6) := hT6.blw
      have t9 : w6.cell? ⟨w.heap.size, 0, none⟩ = some tv6 := hT6.tb.cell 0
      obtain ⟨a, c, htv, -⟩ := own_row hT6.tide.own
      obtain ⟨rl, hrl⟩ : ∃ rl, out6.length = rl := ⟨_, rfl⟩
      rw [hrl] at htv
      clear hT6 hp6 hrl
      subst htv
      go_wp2
      go_ret
      exact ⟨⟨_, out6, rfl, HTT.out, by rw [HTS.out]; exact HPT6.out⟩, HB.out⟩

end Go.Proofs.YtaigleblmbblcaaDoor

/-
  Chapter 7's promises on parts: what an operation makes of a document is one; made tidy it does the same, and is a right one, and made tidy again the same.
-/
namespace Go.Proofs.YtaigleblmbblcaaDoor
open Go.RowKit
theorem it_alike {x y : It} : Dc.alike x y = true ↔ x = y := by
  constructor
  · intro h
    unfold Dc.alike at h
    simp only [Bool.and_eq_true] at h
    obtain ⟨h1, h2, h3⟩ := h
    have e1 : x.c = y.c := UInt8.toNat_inj.1 (by have : (x.c.toNat : Int) = (y.c.toNat : Int) := by simpa using h1
                                                 omega)
    have e2 : x.m = y.m := by simpa using h2
    have e3 : x.l = y.l := ext_list (by rw [← Lib.toList_data, ← Lib.toList_data]; simpa using h3)
    obtain ⟨a, b, c⟩ := x
    obtain ⟨a', b', c'⟩ := y
    simp only at e1 e2 e3
    rw [e1, e2, e3]
  · rintro rfl
    unfold Dc.alike
    simp
theorem its_same : ∀ (l l' : List It), Dc.same l l' = true ↔ l = l'
  | [], [] => by simp [Dc.same]
  | [], _ :: _ => by simp [Dc.same]
  | _ :: _, [] => by simp [Dc.same]
  | x :: s, y :: t => by
    rw [Dc.same, Bool.and_eq_true, it_alike, its_same s t]
    simp
namespace Ac
theorem says_self (p : Pt) : says p p = true := by unfold says; simp
theorem same1_self (p : Pt) : same1 p p = true := by
  unfold same1
  rw [(its_same _ _).2 rfl, says_self]
  simp
theorem sameO_self : ∀ o : List Pt, sameO o o = true
  | [] => rfl
  | p :: o => by rw [sameO, same1_self, sameO_self o]; rfl
theorem says_eq {p q : Pt} : says p q = true ↔ chOf p = chOf q := by
  unfold says
  simp only [Bool.and_eq_true, beq_iff_eq]
  constructor
  · rintro ⟨h1, h2, h3, h4⟩
    have e : p.link = q.link := ext_list (by rw [← Lib.toList_data, ← Lib.toList_data]; exact h4)
    unfold chOf
    rw [h1, h2, h3, e]
  · intro h
    unfold chOf at h
    simp only [Ch.mk.injEq] at h
    obtain ⟨h1, h2, h3, h4⟩ := h
    exact ⟨h1, h2, h3, by rw [h4]⟩
theorem same1_eq {p q : Pt} : same1 p q = true ↔ p = q := by
  constructor
  · intro h
    unfold same1 at h
    simp only [Bool.and_eq_true, beq_iff_eq] at h
    obtain ⟨h1, h2, h3, h4⟩ := h
    have h3 := (its_same _ _).1 h3
    have h4 := says_eq.1 h4
    unfold chOf at h4
    simp only [Ch.mk.injEq] at h4
    obtain ⟨a1, a2, a3, a4, a5, a6, a7⟩ := p
    obtain ⟨b1, b2, b3, b4, b5, b6, b7⟩ := q
    simp only at h1 h2 h3 h4
    obtain ⟨h5, h6, h7, h8⟩ := h4
    rw [h1, h2, h3, h5, h6, h7, h8]
  · rintro rfl
    exact same1_self p
theorem likeK_eq {p : Pt} {c : Ch} : likeK p c = true ↔ p.kind = 1 ∧ chOf p = c := by
  constructor
  · exact likeK_ch
  · rintro ⟨h1, rfl⟩
    unfold likeK chOf
    simp [h1]
theorem addK_snoc : ∀ (o : List Pt) (q : Pt) (c : Ch), addK (o ++ [q]) c = if likeK q c then o ++ [{ q with n := q.n + 1 }] else o ++ [q] ++ [keepP c 1]
  | [], q, c => by
    show addK [q] c = _
    rw [addK]
    split <;> rfl
  | [p], q, c => by
    show addK (p :: q :: []) c = _
    rw [addK]
    have := addK_snoc [] q c
    rw [List.nil_append] at this
    rw [this]
    split <;> rfl
  | p :: p' :: o, q, c => by
    show addK (p :: p' :: (o ++ [q])) c = _
    rw [addK]
    have := addK_snoc (p' :: o) q c
    rw [List.cons_append] at this
    rw [this]
    split <;> rfl
/-- Many items more are kept. -/
def addKs (o : List Pt) (c : Ch) : Nat → List Pt
  | 0 => o
  | k + 1 => addKs (addK o c) c k
theorem addKs_like : ∀ (k : Nat) (o : List Pt) (q : Pt) (c : Ch), likeK q c = true → addKs (o ++ [q]) c k = o ++ [{ q with n := q.n + k }]
  | 0, o, q, c, _ => by simp [addKs]
  | k + 1, o, q, c, h => by
    have h2 : likeK { q with n := q.n + 1 } c = true := h
    rw [addKs, addK_snoc, if_pos h, addKs_like k o _ c h2]
    congr 2
    simp only
    congr 1
    omega
theorem keepP_like (c : Ch) (n : Int) : likeK (keepP c n) c = true := likeK_eq.2 ⟨rfl, rfl⟩
theorem tdy_keeps (c : Ch) : ∀ (k : Nat) (out : List Pt) (r : List A), tdy out [] 0 (List.replicate k (A.keep c) ++ r) = tdy (addKs out c k) [] 0 r
  | 0, out, r => rfl
  | k + 1, out, r => by
    rw [List.replicate_succ, List.cons_append, tdy, addKs]
    have : flushP ([] : List It) 0 = [] := rfl
    rw [this, List.append_nil, tdy_keeps c k]
theorem keep_items {p : Pt} (h : err1 p = 0) (hk : p.kind = 1) : p.items = [] := by
  have hs := (same1_eq.1 (err1_0 h).2)
  unfold usedP at hs
  rw [if_pos hk] at hs
  exact (congrArg Pt.items hs).trans rfl
theorem keep_is {p : Pt} (h : err1 p = 0) (hk : p.kind = 1) : p = keepP (chOf p) p.n := by
  have hi := keep_items h hk
  obtain ⟨a1, a2, a3, a4, a5, a6, a7⟩ := p
  simp only at hk hi
  subst hk hi
  rfl
theorem withK_adds {o : List Pt} {p : Pt} (h : err1 p = 0) (hk : p.kind = 1) {k : Nat} (hn : p.n = (k : Int) + 1) : addKs o (chOf p) (k + 1) = withK o p := by
  have hu : usedP p = keepP (chOf p) ((k : Int) + 1) := by
    have := keep_is h hk
    unfold usedP
    rw [if_pos hk]
    obtain ⟨a1, a2, a3, a4, a5, a6, a7⟩ := p
    simp only at hk hn
    subst hk hn
    rfl
  rcases List.eq_nil_or_concat o with e | ⟨o', q, e⟩
  · rw [e, withK_nil, hu, addKs]
    have e2 : addK [] (chOf p) = [] ++ [keepP (chOf p) 1] := rfl
    rw [e2, addKs_like k [] _ _ (keepP_like _ _)]
    show [keepP (chOf p) ((1 : Int) + k)] = _
    rw [Int.add_comm]
  · rw [List.concat_eq_append] at e
    rw [e, withK_snoc]
    by_cases hq : q.kind = 1 ∧ says q p = true
    · rw [if_pos hq, addKs_like _ _ _ _ (likeK_eq.2 ⟨hq.1, says_eq.1 hq.2⟩), hn]
      rfl
    · have hl : likeK q (chOf p) = false := by
        cases hc : likeK q (chOf p)
        · rfl
        · have := likeK_eq.1 hc
          exact absurd ⟨this.1, says_eq.2 this.2⟩ hq
      rw [if_neg hq, addKs, addK_snoc, if_neg (by rw [hl]; exact Bool.false_ne_true), addKs_like k _ _ _ (keepP_like _ _), hu]
      show _ ++ [keepP (chOf p) ((1 : Int) + k)] = _
      rw [Int.add_comm]
theorem tdy_part {p : Pt} (h : err1 p = 0) (s : TS) (r : List A) : tdy s.out s.put s.cut (acts1 p ++ r) = tdy (tS s p).out (tS s p).put (tS s p).cut r := by
  unfold tS
  rcases kind_of h with k | k | k
  · rw [if_pos k]
    obtain ⟨_, _, hn1, hn2⟩ := keep_m4 h k
    obtain ⟨m, hm⟩ : ∃ m : Nat, p.n = (m : Int) + 1 := ⟨(p.n - 1).toNat, by omega⟩
    have ha : acts1 p = List.replicate (m + 1) (A.keep (chOf p)) := by
      unfold acts1
      rw [if_neg (by omega), if_pos k]
      congr 1
      omega
    rw [ha, List.replicate_succ, List.cons_append, tdy, tdy_keeps]
    simp only
    rw [← withK_adds h k hm]
    rfl
  · rw [if_neg (by omega), if_pos k]
    have ha : acts1 p = p.items.map A.put := by unfold acts1; rw [if_pos k]
    rw [ha, tdy_puts]
  · rw [if_neg (by omega), if_neg (by omega)]
    have ha : acts1 p = List.replicate p.n.toNat A.cut := by unfold acts1; rw [if_neg (by omega), if_neg (by omega)]
    rw [ha, tdy_cuts]
theorem tdy_fold : ∀ (o : List Pt) (s : TS) (r : List A), (∀ p ∈ o, err1 p = 0) → tdy s.out s.put s.cut (acts o ++ r) = tdy (o.foldl tS s).out (o.foldl tS s).put (o.foldl tS s).cut r
  | [], s, r, _ => rfl
  | p :: o, s, r, h => by
    rw [acts_cons, List.append_assoc, tdy_part (h p (List.mem_cons_self ..)), List.foldl_cons]
    exact tdy_fold o (tS s p) r (fun q hq => h q (List.mem_cons_of_mem _ hq))
theorem ts_last {o : List Pt} (h : Right o) : (ts o).put = [] ∧ (ts o).cut = 0 ∧ ∃ o' p, (ts o).out = withK o' p ∧ p.kind = 1 ∧ err1 p = 0 := by
  obtain ⟨o', p, e, hk⟩ := h.last
  have hp := h.ok p (by rw [e]; simp)
  have : ts o = tS (ts o') p := by unfold ts; rw [e, List.foldl_append]; rfl
  rw [this]
  unfold tS
  rw [if_pos hk]
  exact ⟨rfl, rfl, _, p, rfl, hk, hp⟩
/-- Made tidy part by part it is what its acts are made. -/
theorem ts_tidy {o : List Pt} (h : Right o) : (ts o).out = tidy o := by
  have := tdy_fold o ⟨[], [], 0⟩ [] h.ok
  rw [List.append_nil] at this
  unfold tidy
  rw [show tdy [] [] 0 (acts o) = _ from this]
  obtain ⟨h1, h2, _⟩ := ts_last h
  show _ = tdy (ts o).out (ts o).put (ts o).cut []
  rw [h1, h2, tdy]
  show _ = _ ++ []
  rw [List.append_nil]
theorem need_app : ∀ (a b : List A), need (a ++ b) = need a + need b
  | [], b => by simp [need]
  | some (.inl c) :: a, b => by rw [List.cons_append, need, need, need_app a b]; omega
  | some (.inr x) :: a, b => by rw [List.cons_append, need, need, need_app a b]
  | none :: a, b => by rw [List.cons_append, need, need, need_app a b]; omega
theorem leave_app : ∀ (a b : List A), leave (a ++ b) = leave a + leave b
  | [], b => by simp [leave]
  | some (.inl c) :: a, b => by rw [List.cons_append, leave, leave, leave_app a b]; omega
  | some (.inr x) :: a, b => by rw [List.cons_append, leave, leave, leave_app a b]; omega
  | none :: a, b => by rw [List.cons_append, leave, leave, leave_app a b]
theorem need_keeps (c : Ch) : ∀ n : Nat, need (List.replicate n (A.keep c)) = n ∧ leave (List.replicate n (A.keep c)) = n
  | 0 => ⟨rfl, rfl⟩
  | n + 1 => by rw [List.replicate_succ, need, leave, (need_keeps c n).1, (need_keeps c n).2]; exact ⟨rfl, rfl⟩
theorem need_cuts : ∀ n : Nat, need (List.replicate n A.cut) = n ∧ leave (List.replicate n A.cut) = 0
  | 0 => ⟨rfl, rfl⟩
  | n + 1 => by rw [List.replicate_succ, need, leave, (need_cuts n).1, (need_cuts n).2]; exact ⟨rfl, rfl⟩
theorem need_puts : ∀ l : List It, need (l.map A.put) = 0 ∧ leave (l.map A.put) = l.length
  | [] => ⟨rfl, rfl⟩
  | x :: l => by rw [List.map_cons, need, leave, (need_puts l).1, (need_puts l).2]; exact ⟨rfl, rfl⟩
theorem need_part {p : Pt} (h : p.kind = 1 ∨ p.kind = 2 ∨ p.kind = 3) : need (acts1 p) = nd1 p ∧ leave (acts1 p) = lv1 p := by
  unfold acts1 nd1 lv1
  rcases h with k | k | k
  · rw [if_neg (by omega), if_pos k, if_neg (by omega), if_pos k]; exact need_keeps _ _
  · rw [if_pos k, if_pos k, if_neg (by omega), if_pos k]; exact need_puts _
  · rw [if_neg (by omega), if_neg (by omega), if_neg (by omega), if_neg (by omega), if_neg (by omega)]; exact need_cuts _
theorem need_acts : ∀ {o : List Pt}, (∀ p ∈ o, p.kind = 1 ∨ p.kind = 2 ∨ p.kind = 3) → need (acts o) = nd o ∧ leave (acts o) = lv o
  | [], _ => ⟨rfl, rfl⟩
  | p :: o, h => by
    have h1 := need_part (h p (List.mem_cons_self ..))
    have h2 := need_acts (fun q hq => h q (List.mem_cons_of_mem _ hq))
    rw [acts_cons, need_app, leave_app, nd_cons, lv_cons, h1.1, h1.2, h2.1, h2.2]
    exact ⟨rfl, rfl⟩
theorem kinds_of {o : List Pt} (h : ∀ p ∈ o, err1 p = 0) : ∀ p ∈ o, p.kind = 1 ∨ p.kind = 2 ∨ p.kind = 3 := fun p hp => kind_of (h p hp)
/-- A part that is right but perhaps for its size. -/
def Gd (z : Pt) : Prop := (z.kind = 1 ∧ marksBad z.set z.clr = false ∧ linkBad z.goes z.link = false ∧ z.items = [] ∧ 1 ≤ z.n) ∨ (∃ ps, z = putP ps ∧ ps ≠ [] ∧ ∀ x ∈ ps, Dc.err x = 0) ∨ (∃ n, z = cutP n ∧ 0 < n)
theorem gd_kind {z : Pt} (h : Gd z) : z.kind = 1 ∨ z.kind = 2 ∨ z.kind = 3 := by
  rcases h with h | ⟨ps, rfl, _⟩ | ⟨n, rfl, _⟩
  · exact .inl h.1
  · exact .inr (.inl rfl)
  · exact .inr (.inr rfl)
theorem gd_right {z : Pt} (h : Gd z) (h1 : nd1 z ≤ 80) (h2 : lv1 z ≤ 80) : err1 z = 0 := by
  have key : err0 z = 0 → same1 z (usedP z) = true → err1 z = 0 := fun a b => by unfold err1; rw [if_pos a, if_pos b]
  rcases h with ⟨k, hm, hl, hi, hn⟩ | ⟨ps, rfl, hne, he⟩ | ⟨n, rfl, hn⟩
  · refine key ?_ (same1_eq.2 ?_)
    · unfold nd1 at h1
      rw [if_neg (by omega)] at h1
      unfold err0 errK
      rw [if_pos k, hm, hl]
      show errN z.n = 0
      unfold errN
      rw [if_neg (by omega)]
    · unfold usedP
      rw [if_pos k]
      obtain ⟨a1, a2, a3, a4, a5, a6, a7⟩ := z
      simp only at hi
      subst hi
      rfl
  · refine key ?_ (same1_eq.2 rfl)
    show errPut ps = 0
    have h2 : ps.length ≤ 80 := h2
    have : ps.length ≠ 0 := fun e => hne (List.length_eq_zero_iff.1 e)
    unfold errPut
    rw [if_neg (by omega)]
    exact errs_of he
  · refine key ?_ (same1_eq.2 rfl)
    show errN (n : Int) = 0
    have h1 : ((n : Int)).toNat ≤ 80 := h1
    unfold errN
    rw [if_neg (by omega)]
theorem err1_gd {p : Pt} (h : err1 p = 0) (hk : p.kind = 1) : Gd p := by
  rcases err0_kind (err1_0 h).1 with ⟨_, he⟩ | ⟨h2, _⟩ | ⟨h3, _⟩
  · obtain ⟨h1, h2, h3⟩ := errK_0 he
    exact .inl ⟨hk, h1, h2, keep_items h hk, (errN_0 h3).1⟩
  · omega
  · omega
theorem gd_withK {o : List Pt} {p : Pt} (ho : ∀ z ∈ o, Gd z) (h : err1 p = 0) (hk : p.kind = 1) : ∀ z ∈ withK o p, Gd z := by
  have hp := err1_gd h hk
  have hu : usedP p = p := (same1_eq.1 (err1_0 h).2).symm
  rcases List.eq_nil_or_concat o with e | ⟨o', q, e⟩
  · rw [e, withK_nil, hu]
    intro z hz
    rw [List.mem_singleton.1 hz]
    exact hp
  · rw [List.concat_eq_append] at e
    rw [e] at ho ⊢
    rw [withK_snoc]
    by_cases hq : q.kind = 1 ∧ says q p = true
    · rw [if_pos hq]
      intro z hz
      rcases List.mem_append.1 hz with hz | hz
      · exact ho z (List.mem_append_left _ hz)
      · rw [List.mem_singleton.1 hz]
        have hn := (keep_m4 h hk).2.2.1
        rcases ho q (by simp) with ⟨k, a, b, c, d⟩ | ⟨ps, rfl, _⟩ | ⟨n, rfl, _⟩
        · exact .inl ⟨k, a, b, c, by simp only; omega⟩
        · exact absurd hq.1 (show ¬ (2 : Int) = 1 by decide)
        · exact absurd hq.1 (show ¬ (3 : Int) = 1 by decide)
    · rw [if_neg hq, hu]
      intro z hz
      rcases List.mem_append.1 hz with hz | hz
      · exact ho z hz
      · rw [List.mem_singleton.1 hz]; exact hp
theorem gd_flush {ps : List It} {n : Nat} (h : ∀ x ∈ ps, Dc.err x = 0) : ∀ z ∈ flushP ps n, Gd z := by
  intro z hz
  unfold flushP at hz
  rcases List.mem_append.1 hz with hz | hz
  · split at hz
    · cases hz
    · rename_i hne
      rw [List.mem_singleton.1 hz]
      exact .inr (.inl ⟨ps, rfl, fun e => hne (by rw [e]; rfl), h⟩)
  · split at hz
    · cases hz
    · rename_i hne
      rw [List.mem_singleton.1 hz]
      exact .inr (.inr ⟨n, rfl, Nat.pos_of_ne_zero hne⟩)
theorem gd_fold : ∀ (o : List Pt) (s : TS), (∀ z ∈ s.out, Gd z) → (∀ x ∈ s.put, Dc.err x = 0) → (∀ p ∈ o, err1 p = 0) → (∀ z ∈ (o.foldl tS s).out, Gd z)
  | [], s, h, _, _ => h
  | p :: o, s, h, h2, hp => by
    have he := hp p (List.mem_cons_self ..)
    rw [List.foldl_cons]
    refine gd_fold o (tS s p) ?_ ?_ (fun q hq => hp q (List.mem_cons_of_mem _ hq))
    · unfold tS
      rcases kind_of he with k | k | k
      · rw [if_pos k]
        refine gd_withK (fun z hz => ?_) he k
        rcases List.mem_append.1 hz with hz | hz
        · exact h z hz
        · exact gd_flush h2 z hz
      · rw [if_neg (by omega), if_pos k]; exact h
      · rw [if_neg (by omega), if_neg (by omega)]; exact h
    · unfold tS
      rcases kind_of he with k | k | k
      · rw [if_pos k]; intro x hx; cases hx
      · rw [if_neg (by omega), if_pos k]
        intro x hx
        rcases List.mem_append.1 hx with hx | hx
        · exact h2 x hx
        · exact errs_all (put_len he k).2.2 x hx
      · rw [if_neg (by omega), if_neg (by omega)]; exact h2
theorem withK_last (o : List Pt) (p : Pt) (hk : p.kind = 1) : ∃ o' q, withK o p = o' ++ [q] ∧ q.kind = 1 := by
  have hu : (usedP p).kind = 1 := by unfold usedP; rw [if_pos hk]; exact hk
  rcases List.eq_nil_or_concat o with e | ⟨o', q, e⟩
  · rw [e, withK_nil]; exact ⟨[], _, rfl, hu⟩
  · rw [List.concat_eq_append] at e
    rw [e, withK_snoc]
    by_cases hq : q.kind = 1 ∧ says q p = true
    · rw [if_pos hq]; exact ⟨o', _, rfl, hq.1⟩
    · rw [if_neg hq]; exact ⟨_, _, rfl, hu⟩
theorem nd_mem : ∀ {o : List Pt} {z : Pt}, z ∈ o → nd1 z ≤ nd o ∧ lv1 z ≤ lv o
  | p :: o, z, h => by
    rw [nd_cons, lv_cons]
    rcases List.mem_cons.1 h with rfl | h
    · exact ⟨by omega, by omega⟩
    · have := nd_mem h; exact ⟨by omega, by omega⟩
/-- Made tidy, a right operation that leaves few enough is one. -/
theorem tidy_right {o : List Pt} (h : Right o) (hl : lv o ≤ 80) : Right (tidy o) ∧ nd (tidy o) = nd o ∧ lv (tidy o) = lv o := by
  have hg : ∀ z ∈ tidy o, Gd z := by
    rw [← ts_tidy h]
    exact gd_fold o ⟨[], [], 0⟩ (fun z hz => by cases hz) (fun x hx => by cases hx) h.ok
  have h1 := need_acts (fun z hz => gd_kind (hg z hz))
  have h2 := need_acts (kinds_of h.ok)
  rw [acts_tidy, need_nf, leave_nf] at h1
  have en : nd (tidy o) = nd o := h1.1.symm.trans h2.1
  have el : lv (tidy o) = lv o := h1.2.symm.trans h2.2
  have hb := (ts_bound h.ok).len
  obtain ⟨_, _, o', p, e, hk, _⟩ := ts_last h
  rw [ts_tidy h] at e hb
  obtain ⟨o2, q, e2, hq⟩ := withK_last o' p hk
  rw [e2] at e
  have hs := h.sum
  have hf := h.few
  refine ⟨⟨by rw [e]; simp, by omega, fun z hz => ?_, by omega, o2, q, e, hq⟩, en, el⟩
  have := nd_mem hz
  exact gd_right (hg z hz) (by omega) (by omega)
theorem mk_some {d : List It} {o : List Pt} (h : Right o) (hn : nd o = d.length) : ap (acts o) d = some (mk d o).1 := by
  have := mk_ap d o ([], 0) (by simpa using hn) (kinds_of h.ok)
  simpa [mk] using this
/-- Made tidy it does the same. -/
theorem tidy_mk {d : List It} {o : List Pt} (h : Right o) (hn : nd o = d.length) (hl : lv o ≤ 80) : (mk d (tidy o)).1 = (mk d o).1 := by
  obtain ⟨hr, e1, _⟩ := tidy_right h hl
  have h1 := mk_some hr (e1.trans hn)
  rw [acts_tidy, ap_nf, mk_some h hn] at h1
  exact (Option.some.inj h1).symm
/-- Acts whose items and changes are right. -/
def OkE (a : A) : Prop := match a with
  | some (.inl c) => ChOk c ∧ linkBad c.goes c.link = false ∧ True
  | some (.inr x) => Dc.err x = 0
  | none => True
theorem err_of {x : It} (h1 : Dc.ends x = true ∨ Dc.isChar x = true) (h2 : m4 x.m) (h3 : Dc.link x = true) : Dc.err x = 0 := by
  rw [err_rest h1]
  have : Dc.marks x = true := by unfold Dc.marks; simp only [Bool.and_eq_true, decide_eq_true_eq]; exact h2
  rw [this, h3]
  rfl
theorem link_change {x : It} {c : Ch} (hx : Dc.link x = true) (hc : linkBad c.goes c.link = false) : Dc.link (change x c) = true := by
  unfold Dc.link at hx ⊢
  have e1 : Dc.ends (change x c) = Dc.ends x := rfl
  rw [e1]
  cases he : Dc.ends x
  · cases hg : c.goes
    · have e2 : (change x c).l = x.l := by unfold change; rw [hg]; rfl
      rw [e2]
      rw [he] at hx
      exact hx
    · have e2 : (change x c).l = c.link := by unfold change; rw [hg, he]; rfl
      rw [e2]
      unfold linkBad at hc
      rw [hg] at hc
      cases h1 : c.link.toList.isEmpty
      · rw [h1] at hc
        cases h2 : Lk.may c.link.data.toList
        · rw [h2] at hc; cases hc
        · rfl
      · rfl
  · have e2 : (change x c).l = x.l := by unfold change; rw [he]; simp
    rw [e2]
    rw [he] at hx
    exact hx
theorem ap_err : ∀ (l : List A) (d p : List It), (∀ a ∈ l, OkE a) → (∀ x ∈ d, Dc.err x = 0) → ap l d = some p → ∀ x ∈ p, Dc.err x = 0
  | [], d, p, _, _, h => by rw [(ap_nil_some h).2]; intro x hx; simp at hx
  | some (.inr x) :: r, d, p, ho, hd, h => by
    obtain ⟨p', rfl, h'⟩ := ap_put_some h
    have ih := ap_err r d p' (fun a ha => ho a (List.mem_cons_of_mem _ ha)) hd h'
    intro y hy
    rcases List.mem_cons.1 hy with rfl | hy
    · exact ho _ (List.mem_cons_self ..)
    · exact ih y hy
  | some (.inl c) :: r, d, p, ho, hd, h => by
    obtain ⟨z, d', p', rfl, rfl, h'⟩ := ap_keep_some h
    have ih := ap_err r d' p' (fun a ha => ho a (List.mem_cons_of_mem _ ha)) (fun x hx => hd x (List.mem_cons_of_mem _ hx)) h'
    have hc : OkE (some (.inl c)) := ho _ (List.mem_cons_self ..)
    obtain ⟨hc1, hc2, -⟩ := hc
    obtain ⟨e1, e2, e3⟩ := err_parts (hd z (List.mem_cons_self ..))
    intro y hy
    rcases List.mem_cons.1 hy with rfl | hy
    · exact err_of e1 (mark_m4 e2 hc1.clr hc1.set) (link_change e3 hc2)
    · exact ih y hy
  | none :: r, d, p, ho, hd, h => by
    obtain ⟨z, d', rfl, h'⟩ := ap_cut_some h
    exact ap_err r d' p (fun a ha => ho a (List.mem_cons_of_mem _ ha)) (fun x hx => hd x (List.mem_cons_of_mem _ hx)) h'
theorem ap_last : ∀ (l : List A) (c : Ch) (d p : List It), ap (l ++ [A.keep c]) d = some p → ∃ d' x p', d = d' ++ [x] ∧ p = p' ++ [change x c]
  | [], c, d, p, h => by
    obtain ⟨z, d', p', rfl, rfl, h'⟩ := ap_keep_some h
    obtain ⟨rfl, rfl⟩ := ap_nil_some h'
    exact ⟨[], z, [], rfl, rfl⟩
  | some (.inr x) :: r, c, d, p, h => by
    obtain ⟨p', rfl, h'⟩ := ap_put_some h
    obtain ⟨d1, y, p1, rfl, rfl⟩ := ap_last r c d p' h'
    exact ⟨d1, y, x :: p1, rfl, rfl⟩
  | some (.inl e) :: r, c, d, p, h => by
    obtain ⟨z, d', p', rfl, rfl, h'⟩ := ap_keep_some h
    obtain ⟨d1, y, p1, rfl, rfl⟩ := ap_last r c d' p' h'
    exact ⟨z :: d1, y, change z e :: p1, rfl, rfl⟩
  | none :: r, c, d, p, h => by
    obtain ⟨z, d', rfl, h'⟩ := ap_cut_some h
    obtain ⟨d1, y, p1, rfl, rfl⟩ := ap_last r c d' p h'
    exact ⟨z :: d1, y, p1, rfl, rfl⟩
theorem acts_ok {o : List Pt} (h : ∀ p ∈ o, err1 p = 0) : ∀ a ∈ acts o, OkE a := by
  intro a ha
  obtain ⟨p, hp, ha⟩ := List.mem_flatMap.1 ha
  have he := h p hp
  unfold acts1 at ha
  rcases kind_of he with k | k | k
  · rw [if_neg (by omega), if_pos k] at ha
    rw [(List.mem_replicate.1 ha).2]
    obtain ⟨h1, h2, _, _⟩ := keep_m4 he k
    rcases err0_kind (err1_0 he).1 with ⟨_, hk⟩ | ⟨h2, _⟩ | ⟨h3, _⟩
    · exact ⟨⟨h1, h2⟩, (errK_0 hk).2.1, trivial⟩
    · omega
    · omega
  · rw [if_pos k] at ha
    obtain ⟨x, hx, rfl⟩ := List.mem_map.1 ha
    exact errs_all (put_len he k).2.2 x hx
  · rw [if_neg (by omega), if_neg (by omega)] at ha
    rw [(List.mem_replicate.1 ha).2]
    trivial
theorem check_of {l : List It} (h1 : l.length ≤ 80) (h2 : Dc.errs l = 0) {l' : List It} {x : It} (e : l = l' ++ [x]) (hx : Dc.ends x = true) : Dc.check l = 0 := by
  have hl : l'.length < l.length := by rw [e]; simp
  rw [Dc.check_last (by omega) h2 hl (by rw [e]; simp)]
  have e2 : l[l'.length] = x := by simp [e]
  rw [e2, hx]
  rfl
/-- What an operation makes of a document is one, with the same last character. -/
theorem made_doc {d : List It} {o : List Pt} (hd : Dc.check d = 0) (h : Right o) (hn : nd o = d.length) (hl : lv o ≤ 80) :
    Dc.check (mk d o).1 = 0 ∧ (mk d o).1.length = lv o ∧ ∃ d' x p' y, d = d' ++ [x] ∧ (mk d o).1 = p' ++ [y] ∧ x.c = y.c := by
  have hs := mk_some h hn
  have hlen : (mk d o).1.length = lv o := by
    have := mk_len d o ([], 0) (by simp; omega)
    simpa [mk] using this
  obtain ⟨h80, he, d0, x0, e0, hx0⟩ := check_0 hd
  obtain ⟨o', p, e, hk⟩ := h.last
  have hp := h.ok p (by rw [e]; simp)
  obtain ⟨_, _, hn1, _⟩ := keep_m4 hp hk
  obtain ⟨m, hm⟩ : ∃ m : Nat, p.n.toNat = m + 1 := ⟨p.n.toNat - 1, by omega⟩
  have ha : acts o = (acts o' ++ List.replicate m (A.keep (chOf p))) ++ [A.keep (chOf p)] := by
    rw [e, acts_app, acts_cons, acts_nil, List.append_nil, List.append_assoc]
    congr 1
    unfold acts1
    rw [if_neg (by omega), if_pos hk, hm, List.replicate_succ']
  have hs2 := hs
  rw [ha] at hs2
  obtain ⟨d', x, p', e1, e2⟩ := ap_last _ _ _ _ hs2
  have hxe : x = x0 := by
    have := e1.symm.trans e0
    have := List.append_inj' this rfl
    simpa using this.2
  refine ⟨check_of (by omega) (errs_of (ap_err _ _ _ (acts_ok h.ok) (errs_all he) hs)) e2 (by rw [ends_change, hxe]; exact hx0), hlen, d', x, p', _, e1, e2, rfl⟩
/-- Who keeps all. -/
theorem keep_right {n : Nat} (h1 : 1 ≤ n) (h2 : n ≤ 80) : Right [keepP nop n] := by
  have hg : Gd (keepP nop n) := .inl ⟨rfl, (by decide +kernel : marksBad 0 0 = false), (by decide +kernel : linkBad false ⟨#[]⟩ = false), rfl, by show (1 : Int) ≤ n; omega⟩
  have e1 : nd1 (keepP nop n) = n := by show ((n : Int)).toNat = n; omega
  have e2 : lv1 (keepP nop n) = n := by show ((n : Int)).toNat = n; omega
  refine ⟨by simp, by simp, fun p hp => ?_, by simp [nd, e1]; omega, [], _, rfl, rfl⟩
  rw [List.mem_singleton.1 hp]
  exact gd_right hg (by omega) (by omega)
theorem keep_all {d : List It} (h : Dc.check d = 0) : fitE d [keepP nop d.length] = 0 ∧ (mk d [keepP nop d.length]).1 = d := by
  obtain ⟨h80, _, d', x, e, _⟩ := check_0 h
  have h1 : 1 ≤ d.length := by rw [e]; simp
  have e1 : nd1 (keepP nop d.length) = d.length := by show ((d.length : Int)).toNat = d.length; omega
  have e2 : lv1 (keepP nop d.length) = d.length := by show ((d.length : Int)).toNat = d.length; omega
  refine ⟨fit_of h (keep_right h1 h80) (by simp [nd, e1]) (by simp [lv, e2]; omega), ?_⟩
  show [] ++ ((d.drop 0).take ((d.length : Int)).toNat).map (fun x => change x nop) = d
  rw [List.nil_append, List.drop_zero, Int.toNat_natCast, List.take_length]
  have hm := check_m4 h
  exact (List.map_congr_left (g := id) (fun x hx => change_nop (hm x hx))).trans (List.map_id d)
end Ac
end Go.Proofs.YtaigleblmbblcaaDoor
