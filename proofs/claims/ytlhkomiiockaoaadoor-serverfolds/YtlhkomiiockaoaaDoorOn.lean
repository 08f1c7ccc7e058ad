/-
  Package op: a Keep behind a Keep.
-/
import Derived.Test.YtlhkomiiockaoaaDoorOm
namespace Go.Proofs.YtlhkomiiockaoaaDoor
open Go.RowKit
set_option maxRecDepth 100000 in
set_option maxHeartbeats 3200000 in
theorem wk_new (w : World) (B : Nat) (tv : Value) (p : PV) (out0 : List PV) (q : PV) (hk1 : q.kind = 1) (hsy : Ac.says q.pt p.pt = false) (hT : Tide w B tv (out0 ++ [q])) (hB : B ≤ w.heap.size) (ho : ((out0 ++ [q])).length ≤ 100000) (hP : Pvt w p) (hF : Far (usedV p) tv) (hH : High B (usedV p)) (hn : ∀ z ∈ (out0 ++ [q]), 0 ≤ z.n ∧ z.n ≤ 100000) (hpn : 0 ≤ p.n ∧ p.n ≤ 100000) :
    Calls Tryd.prog 64 #[tv, .agg #[.int .i64 p.kind, .int .i64 p.n, .slice p.ao p.m p.cap, .int .i64 p.set, .int .i64 p.clr, .bool p.goes, .string p.link]] w fun e w' => ∃ tv' out', e = .returned tv' ∧ WithTo w B tv (out0 ++ [q]) p w' tv' out' := by
  obtain ⟨i0, hi, hz0, hz1, hz2⟩ := info_parts Tryd.infP
  obtain ⟨tao, tcap, htv, hrow⟩ := own_row hT.own
  obtain ⟨ol, hol⟩ : ∃ ol, ((out0 ++ [q])).length = ol := ⟨_, rfl⟩
  have HOL : Hid (((out0 ++ [q])).length = ol) := hol
  rw [hol] at htv ho
  have hroom := hrow.room
  rw [hol] at hroom
  subst htv
  have HT : Hid (Tide w B (.slice tao ol tcap) (out0 ++ [q])) := hT
  have H1 : Hid (Below w.heap.size w (boxp p w)) := boxp_below _ w
  have HSV : Hid (Seven (boxp p w) w.heap.size 0 p) := boxp_at _ w
  have HPU : Hid (Pvt w (usedV p)) := usedV_pvt hP
  have HFU : Hid (Far (usedV p) (.slice tao ol tcap)) := hF
  have HHU : Hid (High B (usedV p)) := hH
  have HUP : Hid ((usedV p).pt = Ac.usedP p.pt) := usedV_pt p
  have CU : Hid (∀ w', Calls Tryd.prog 82 #[.agg #[.int .i64 p.kind, .int .i64 p.n, .slice p.ao p.m p.cap, .int .i64 p.set, .int .i64 p.clr, .bool p.goes, .string p.link]] w' fun e w2 => e = .returned (.agg #[.int .i64 (usedV p).kind, .int .i64 (usedV p).n, .slice (usedV p).ao (usedV p).m (usedV p).cap, .int .i64 (usedV p).set, .int .i64 (usedV p).clr, .bool (usedV p).goes, .string (usedV p).link]) ∧ Below w'.heap.size w' w2) := fun w' => used_any p w'
  have HNN : Hid (∀ z ∈ (out0 ++ [q]), 0 ≤ z.n ∧ z.n ≤ 100000) := hn
  obtain ⟨hpn0, hpn1⟩ := hpn
  have HOW : Hid (w.ownsRow B 66 7 (.slice tao ol tcap) ol (pvCells (out0 ++ [q]))) := by have := hT.own; rw [hol] at this; exact this
  clear hT hP hF hH hn hol hrow
  obtain ⟨j, hj⟩ : ∃ j, out0.length = j := ⟨_, rfl⟩
  obtain rfl : ol = j + 1 := by rw [← HOL.out, List.length_append, hj]; rfl
  have HJ : Hid (out0.length = j) := hj
  obtain ⟨g0, tc0, htv, -, hg0⟩ := HOW.out.form (Nat.succ_pos j)
  simp only [Value.slice.injEq, true_and] at htv
  obtain ⟨rfl, -⟩ := htv
  have hjl : j < (out0 ++ [q]).length := by rw [List.length_append, hj]; simp
  obtain ⟨k0, k1, k2, k3, k4, k5, k6⟩ := pvCells_at (out0 ++ [q]) j hjl
  have hgj : (out0 ++ [q])[j] = q := by simp [← hj]
  rw [hgj] at k0 k1 k2 k3 k4 k5 k6
  have hc : ∀ i u, i < 7 → (pvCells (out0 ++ [q]))[j * 7 + i]? = some u → w.cell? ⟨g0, j * 7 + i, none⟩ = some u := fun i u hi h => (HOW.out.cellAt (j * 7 + i) (by omega)).trans h
  have SQ : Seven w g0 (j * 7) q := ⟨hc 0 _ (by omega) k0, hc 1 _ (by omega) k1, hc 2 _ (by omega) k2, hc 3 _ (by omega) k3, hc 4 _ (by omega) k4, hc 5 _ (by omega) k5, hc 6 _ (by omega) k6⟩
  have HSQ : Hid (Seven w g0 (j * 7) q) := SQ
  have HSQ5 : Hid (Seven (boxp p w) g0 (j * 7) q) := SQ.below H1.out
  have hqn := HNN.out q (by simp)
  have CSS : Hid (∀ w', Calls Tryd.prog 78 #[.agg #[.int .i64 q.kind, .int .i64 q.n, .slice q.ao q.m q.cap, .int .i64 q.set, .int .i64 q.clr, .bool q.goes, .string q.link], .agg #[.int .i64 p.kind, .int .i64 p.n, .slice p.ao p.m p.cap, .int .i64 p.set, .int .i64 p.clr, .bool p.goes, .string p.link]] w' fun e w2 => e = .returned (.bool (Ac.says q.pt p.pt)) ∧ Below w'.heap.size w' w2) := fun w' => says_any q p w'
  have q1 : (0 : Int) ≤ (j : Int) := by omega
  have q2 : (j : Int) < (j : Int) + 1 := by omega
  have hmap : (out0 ++ [q]).map PV.pt = out0.map PV.pt ++ [q.pt] := by rw [List.map_append]; rfl
  clear hc k0 k1 k2 k3 k4 k5 k6 hgj hjl hj SQ
  have hk1' : (q.kind == 1) = true := by simp [hk1]
  have HPT : Hid (((out0 ++ [q]) ++ [usedV p]).map PV.pt = Ac.withK ((out0 ++ [q]).map PV.pt) p.pt) := by
    show _ = _
    rw [List.map_append, hmap, Ac.withK_snoc, if_neg (fun h => by rw [hsy] at h; cases h.2)]
    show _ ++ [(usedV p).pt] = _
    rw [HUP.out]
  have HK1 : Hid (q.kind = 1) := hk1
  clear hmap hk1
  go_enter Tryd.func64, Tryd.ntmps64
  go_upto_region 2 with fail
  change Code.wp Tryd.prog _ _ _ (boxp p w)
  generalize boxp p w = W5 at *
  obtain ⟨d0, d1, d2, d3, d4, d5, d6⟩ := HSV.out
  simp only [Nat.zero_add] at d0 d1 d2 d3 d4 d5 d6
  obtain ⟨b0, b1, b2, b3, b4, b5, b6⟩ := HSQ5.out
  go_region_held3 (fun w' => w'.cell? ⟨g0, j * 7, none⟩ = some (.int .i64 q.kind) ∧ w'.cell? ⟨g0, j * 7 + 1, none⟩ = some (.int .i64 q.n) ∧ w'.cell? ⟨g0, j * 7 + 2, none⟩ = some (.slice q.ao q.m q.cap) ∧ w'.cell? ⟨g0, j * 7 + 3, none⟩ = some (.int .i64 q.set) ∧ w'.cell? ⟨g0, j * 7 + 4, none⟩ = some (.int .i64 q.clr) ∧ w'.cell? ⟨g0, j * 7 + 5, none⟩ = some (.bool q.goes) ∧ w'.cell? ⟨g0, j * 7 + 6, none⟩ = some (.string q.link) ∧ w'.cell? ⟨w.heap.size, 0, none⟩ = some (.int .i64 p.kind) ∧ w'.cell? ⟨w.heap.size, 1, none⟩ = some (.int .i64 p.n) ∧ w'.cell? ⟨w.heap.size, 2, none⟩ = some (.slice p.ao p.m p.cap) ∧ w'.cell? ⟨w.heap.size, 3, none⟩ = some (.int .i64 p.set) ∧ w'.cell? ⟨w.heap.size, 4, none⟩ = some (.int .i64 p.clr) ∧ w'.cell? ⟨w.heap.size, 5, none⟩ = some (.bool p.goes) ∧ w'.cell? ⟨w.heap.size, 6, none⟩ = some (.string p.link)) (first | exact ⟨b0, b1, b2, b3, b4, b5, b6, d0, d1, d2, d3, d4, d5, d6⟩ | exact ⟨x0, x1, x2, x3, x4, x5, x6, y0, y1, y2, y3, y4, y5, y6⟩) (first | (go_at_call 78; refine (CSS.out _).mono ?_; rintro e w6 ⟨rfl, hb⟩; have HB6 : Hid (Below w.heap.size w w6) := H1.out.drew.trans (hb.mono (Below.size H1.out.drew)); have HSP6 : Hid (Seven w6 w.heap.size 0 p) := HSV.out.drew.below hb; have HSQ6 : Hid (Seven w6 g0 (j * 7) q) := HSQ5.out.drew.below hb; obtain ⟨y0, y1, y2, y3, y4, y5, y6⟩ := HSP6.out; obtain ⟨x0, x1, x2, x3, x4, x5, x6⟩ := HSQ6.out; simp only [Nat.zero_add] at y0 y1 y2 y3 y4 y5 y6; clear hb; rw [hsy]))
  go_wp2_with fail
  refine (CU.out _).mono ?_
  rintro e w4 ⟨rfl, hb⟩
  have HB4 : Hid (Below w.heap.size w w4) := (HB6.out).trans (hb.mono (HB6.out).size)
  have HO4 : Hid (w4.ownsRow B 66 7 (.slice (some ⟨g0, 0, none⟩) (j + 1) tcap) (j + 1) (pvCells (out0 ++ [q]))) := own_under HOW.out HB4.out
  have hs4 : B ≤ w4.heap.size := Nat.le_trans hB HB4.out.size
  clear hb
  go_wp2_with (at_builtin; refine wpList_append_lies _ rfl (.tmp 38) (.tmp 41) 23 rfl B 66 i0 (.agg #[.int .i64 0, .int .i64 0, .slice none 0 0, .int .i64 0, .int .i64 0, .bool false, .string ⟨#[]⟩]) 7 80 Tryd.underlying23 hi hz0 hz1 hz2 rfl (by decide) _ (j + 1) (pvCells (out0 ++ [q])) rfl ?c1 ⟨w4.heap.size, 0, none⟩ 1 1 (pvC (usedV p)) rfl rfl ?c2 ?c3 (by decide) ?c4 ?c5 ?c6 _ rfl ?c7)
  case c1 => exact HO4.out.alloc _
  case c2 => exact World.news_of_block (cs := (pvC (usedV p)).toArray) (heap_alloc_new w4 _)
  case c3 => exact fun u hu => pvCells_oneCell [usedV p] u (by rw [pvCells_one]; exact hu)
  case c4 => unfold maxLen; omega
  case c5 => omega
  case c6 => first | omega | (simp; omega)
  case c7 =>
    intro g cap2 w3 hown hgrow hat hlt
    have HW : Hid (WithTo w B (.slice (some ⟨g0, 0, none⟩) (j + 1) tcap) (out0 ++ [q]) p w3 (.slice (some ⟨g, 0, none⟩) ((j + 1) + 1) cap2) ((out0 ++ [q]) ++ [usedV p])) := withK_add w w4 B (some ⟨g0, 0, none⟩) (j + 1) tcap (out0 ++ [q]) p HT.out HOL.out HPU.out HFU.out HHU.out HB4.out _ ((Below.refl _ _).alloc (Nat.le_refl _) _) g cap2 w3 HPT.out hown hgrow (by rcases hat with h | h; exact .inl h; exact .inr (h.trans (World.size_alloc ..).symm))
    clear hown hgrow hat hlt
    go_wp2
    go_ret
    exact ⟨_, _, rfl, HW.out⟩
set_option maxRecDepth 100000 in
set_option maxHeartbeats 3200000 in
theorem wk_same (w : World) (B : Nat) (tv : Value) (p : PV) (out0 : List PV) (q : PV) (hk1 : q.kind = 1) (hsy : Ac.says q.pt p.pt = true) (hT : Tide w B tv (out0 ++ [q])) (_hB : B ≤ w.heap.size) (ho : ((out0 ++ [q])).length ≤ 100000) (hP : Pvt w p) (hF : Far (usedV p) tv) (hH : High B (usedV p)) (hn : ∀ z ∈ (out0 ++ [q]), 0 ≤ z.n ∧ z.n ≤ 100000) (hpn : 0 ≤ p.n ∧ p.n ≤ 100000) :
    Calls Tryd.prog 64 #[tv, .agg #[.int .i64 p.kind, .int .i64 p.n, .slice p.ao p.m p.cap, .int .i64 p.set, .int .i64 p.clr, .bool p.goes, .string p.link]] w fun e w' => ∃ tv' out', e = .returned tv' ∧ WithTo w B tv (out0 ++ [q]) p w' tv' out' := by
  obtain ⟨i0, hi, hz0, hz1, hz2⟩ := info_parts Tryd.infP
  obtain ⟨tao, tcap, htv, hrow⟩ := own_row hT.own
  obtain ⟨ol, hol⟩ : ∃ ol, ((out0 ++ [q])).length = ol := ⟨_, rfl⟩
  have HOL : Hid (((out0 ++ [q])).length = ol) := hol
  rw [hol] at htv ho
  have hroom := hrow.room
  rw [hol] at hroom
  subst htv
  have HT : Hid (Tide w B (.slice tao ol tcap) (out0 ++ [q])) := hT
  have H1 : Hid (Below w.heap.size w (boxp p w)) := boxp_below _ w
  have HSV : Hid (Seven (boxp p w) w.heap.size 0 p) := boxp_at _ w
  have HPU : Hid (Pvt w (usedV p)) := usedV_pvt hP
  have HFU : Hid (Far (usedV p) (.slice tao ol tcap)) := hF
  have HHU : Hid (High B (usedV p)) := hH
  have HUP : Hid ((usedV p).pt = Ac.usedP p.pt) := usedV_pt p
  have CU : Hid (∀ w', Calls Tryd.prog 82 #[.agg #[.int .i64 p.kind, .int .i64 p.n, .slice p.ao p.m p.cap, .int .i64 p.set, .int .i64 p.clr, .bool p.goes, .string p.link]] w' fun e w2 => e = .returned (.agg #[.int .i64 (usedV p).kind, .int .i64 (usedV p).n, .slice (usedV p).ao (usedV p).m (usedV p).cap, .int .i64 (usedV p).set, .int .i64 (usedV p).clr, .bool (usedV p).goes, .string (usedV p).link]) ∧ Below w'.heap.size w' w2) := fun w' => used_any p w'
  have HNN : Hid (∀ z ∈ (out0 ++ [q]), 0 ≤ z.n ∧ z.n ≤ 100000) := hn
  obtain ⟨hpn0, hpn1⟩ := hpn
  have HOW : Hid (w.ownsRow B 66 7 (.slice tao ol tcap) ol (pvCells (out0 ++ [q]))) := by have := hT.own; rw [hol] at this; exact this
  clear hT hP hF hH hn hol hrow
  obtain ⟨j, hj⟩ : ∃ j, out0.length = j := ⟨_, rfl⟩
  obtain rfl : ol = j + 1 := by rw [← HOL.out, List.length_append, hj]; rfl
  have HJ : Hid (out0.length = j) := hj
  obtain ⟨g0, tc0, htv, -, hg0⟩ := HOW.out.form (Nat.succ_pos j)
  simp only [Value.slice.injEq, true_and] at htv
  obtain ⟨rfl, -⟩ := htv
  have hjl : j < (out0 ++ [q]).length := by rw [List.length_append, hj]; simp
  obtain ⟨k0, k1, k2, k3, k4, k5, k6⟩ := pvCells_at (out0 ++ [q]) j hjl
  have hgj : (out0 ++ [q])[j] = q := by simp [← hj]
  rw [hgj] at k0 k1 k2 k3 k4 k5 k6
  have hc : ∀ i u, i < 7 → (pvCells (out0 ++ [q]))[j * 7 + i]? = some u → w.cell? ⟨g0, j * 7 + i, none⟩ = some u := fun i u hi h => (HOW.out.cellAt (j * 7 + i) (by omega)).trans h
  have SQ : Seven w g0 (j * 7) q := ⟨hc 0 _ (by omega) k0, hc 1 _ (by omega) k1, hc 2 _ (by omega) k2, hc 3 _ (by omega) k3, hc 4 _ (by omega) k4, hc 5 _ (by omega) k5, hc 6 _ (by omega) k6⟩
  have HSQ : Hid (Seven w g0 (j * 7) q) := SQ
  have HSQ5 : Hid (Seven (boxp p w) g0 (j * 7) q) := SQ.below H1.out
  have hqn := HNN.out q (by simp)
  have CSS : Hid (∀ w', Calls Tryd.prog 78 #[.agg #[.int .i64 q.kind, .int .i64 q.n, .slice q.ao q.m q.cap, .int .i64 q.set, .int .i64 q.clr, .bool q.goes, .string q.link], .agg #[.int .i64 p.kind, .int .i64 p.n, .slice p.ao p.m p.cap, .int .i64 p.set, .int .i64 p.clr, .bool p.goes, .string p.link]] w' fun e w2 => e = .returned (.bool (Ac.says q.pt p.pt)) ∧ Below w'.heap.size w' w2) := fun w' => says_any q p w'
  have q1 : (0 : Int) ≤ (j : Int) := by omega
  have q2 : (j : Int) < (j : Int) + 1 := by omega
  have hmap : (out0 ++ [q]).map PV.pt = out0.map PV.pt ++ [q.pt] := by rw [List.map_append]; rfl
  clear hc k0 k1 k2 k3 k4 k5 k6 hgj hjl hj SQ
  have hk1' : (q.kind == 1) = true := by simp [hk1]
  have HPT : Hid ((out0 ++ [{ q with n := q.n + p.n }]).map PV.pt = Ac.withK ((out0 ++ [q]).map PV.pt) p.pt) := by
    show _ = _
    rw [hmap, Ac.withK_snoc, if_pos ⟨hk1, hsy⟩, List.map_append]
    rfl
  have HK1 : Hid (q.kind = 1) := hk1
  clear hmap hk1
  go_enter Tryd.func64, Tryd.ntmps64
  go_upto_region 2 with fail
  change Code.wp Tryd.prog _ _ _ (boxp p w)
  generalize boxp p w = W5 at *
  obtain ⟨d0, d1, d2, d3, d4, d5, d6⟩ := HSV.out
  simp only [Nat.zero_add] at d0 d1 d2 d3 d4 d5 d6
  obtain ⟨b0, b1, b2, b3, b4, b5, b6⟩ := HSQ5.out
  go_region_held3 (fun w' => w'.cell? ⟨g0, j * 7, none⟩ = some (.int .i64 q.kind) ∧ w'.cell? ⟨g0, j * 7 + 1, none⟩ = some (.int .i64 q.n) ∧ w'.cell? ⟨g0, j * 7 + 2, none⟩ = some (.slice q.ao q.m q.cap) ∧ w'.cell? ⟨g0, j * 7 + 3, none⟩ = some (.int .i64 q.set) ∧ w'.cell? ⟨g0, j * 7 + 4, none⟩ = some (.int .i64 q.clr) ∧ w'.cell? ⟨g0, j * 7 + 5, none⟩ = some (.bool q.goes) ∧ w'.cell? ⟨g0, j * 7 + 6, none⟩ = some (.string q.link) ∧ w'.cell? ⟨w.heap.size, 0, none⟩ = some (.int .i64 p.kind) ∧ w'.cell? ⟨w.heap.size, 1, none⟩ = some (.int .i64 p.n) ∧ w'.cell? ⟨w.heap.size, 2, none⟩ = some (.slice p.ao p.m p.cap) ∧ w'.cell? ⟨w.heap.size, 3, none⟩ = some (.int .i64 p.set) ∧ w'.cell? ⟨w.heap.size, 4, none⟩ = some (.int .i64 p.clr) ∧ w'.cell? ⟨w.heap.size, 5, none⟩ = some (.bool p.goes) ∧ w'.cell? ⟨w.heap.size, 6, none⟩ = some (.string p.link)) (first | exact ⟨b0, b1, b2, b3, b4, b5, b6, d0, d1, d2, d3, d4, d5, d6⟩ | exact ⟨x0, x1, x2, x3, x4, x5, x6, y0, y1, y2, y3, y4, y5, y6⟩) (first | (go_at_call 78; refine (CSS.out _).mono ?_; rintro e w6 ⟨rfl, hb⟩; have HB6 : Hid (Below w.heap.size w w6) := H1.out.drew.trans (hb.mono (Below.size H1.out.drew)); have HSP6 : Hid (Seven w6 w.heap.size 0 p) := HSV.out.drew.below hb; have HSQ6 : Hid (Seven w6 g0 (j * 7) q) := HSQ5.out.drew.below hb; obtain ⟨y0, y1, y2, y3, y4, y5, y6⟩ := HSP6.out; obtain ⟨x0, x1, x2, x3, x4, x5, x6⟩ := HSQ6.out; simp only [Nat.zero_add] at y0 y1 y2 y3 y4 y5 y6; clear hb; rw [hsy]))
  clear b0 b1 b2 b3 b4 b5 b6 d0 d1 d2 d3 d4 d5 d6
  have HO6 := own_under HOW.out HB6.out
  have z1 := HO6.frozenAt (j * 7 + 1)
  go_wp2_with fail
  go_region
  have HW : Hid (WithTo w B (.slice (some ⟨g0, 0, none⟩) (j + 1) tcap) (out0 ++ [q]) p (w6.setCell ⟨g0, j * 7 + 1, none⟩ (.int .i64 (q.n + p.n))).drew (.slice (some ⟨g0, 0, none⟩) (j + 1) tcap) (out0 ++ [{ q with n := q.n + p.n }])) := wk_store w w6 B g0 tcap j out0 q p HT.out HJ.out HB6.out HPT.out
  clear z1 HO6 x0 x1 x2 x3 x4 x5 x6 y0 y1 y2 y3 y4 y5 y6
  go_wp2
  go_ret
  exact ⟨_, _, rfl, HW.out⟩

theorem withKeep_any (w : World) (B : Nat) (tv : Value) (out : List PV) (p : PV) (hT : Tide w B tv out) (hB : B ≤ w.heap.size) (ho : out.length ≤ 100000) (hP : Pvt w p) (hF : Far (usedV p) tv) (hH : High B (usedV p)) (hn : ∀ z ∈ out, 0 ≤ z.n ∧ z.n ≤ 100000) (hpn : 0 ≤ p.n ∧ p.n ≤ 100000) :
    Calls Tryd.prog 64 #[tv, .agg #[.int .i64 p.kind, .int .i64 p.n, .slice p.ao p.m p.cap, .int .i64 p.set, .int .i64 p.clr, .bool p.goes, .string p.link]] w fun e w' => ∃ tv' out', e = .returned tv' ∧ WithTo w B tv out p w' tv' out' := by
  rcases List.eq_nil_or_concat out with e | ⟨out0, q, e⟩
  · subst e
    exact wk_nil w B tv p hT hB ho hP hF hH hn hpn
  · rw [List.concat_eq_append] at e
    subst e
    by_cases hk : q.kind = 1
    · cases hs : Ac.says q.pt p.pt
      · exact wk_new w B tv p out0 q hk hs hT hB ho hP hF hH hn hpn
      · exact wk_same w B tv p out0 q hk hs hT hB ho hP hF hH hn hpn
    · exact wk_other w B tv out0 q hk p hT hB ho hP hF hH hn hpn
end Go.Proofs.YtlhkomiiockaoaaDoor
