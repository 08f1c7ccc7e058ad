/-
  The reference's Turned and JoinedTo: operations that are wrong, or don't meet.
-/
import Derived.Test.YtbhcklkbckacpaaGreatDoorQc
namespace Go.Proofs.YtbhcklkbckacpaaGreatDoor
open Go.RowKit
def boxt (x y : Value) (w : World) : World := w.alloc (.cells #[x, y] 44)
theorem boxt_below (x y : Value) (w : World) : Below w.heap.size w (boxt x y w) := (Below.refl _ _).alloc (Nat.le_refl _) _
theorem boxt_blk (x y : Value) (w : World) : Blk (boxt x y w) w.heap.size [x, y] 44 := Blk.new w _ _

set_option maxRecDepth 100000 in
set_option maxHeartbeats 3200000 in
theorem turnedR_bad (ao ao' : Option Addr) (n cap n' cap' : Nat) (vs vs' : List PV) (w : World) (hO : Ops w ao n cap vs) (hO' : Ops w ao' n' cap' vs') (hE : ¬ Ac.fst2 (vs.map PV.pt) (vs'.map PV.pt) = 0) :
    Calls Tryz.prog 93 #[.slice ao n cap, .slice ao' n' cap'] w fun e w' => e = .returned (.tuple #[.slice none 0 0, .slice none 0 0, .int .i64 (Ac.fst2 (vs.map PV.pt) (vs'.map PV.pt))]) ∧ Below w.heap.size w w' := by
  have C0 : Hid (∀ w', Below w.heap.size w w' → Calls Tryz.prog 102 #[.slice ao n cap] w' fun e w'' => e = .returned (.int .i64 (Ac.chk (vs.map PV.pt))) ∧ Below w'.heap.size w' w'') := fun w' hb => CheckOp_any ao n cap vs w' (hO.below hb)
  have C1 : Hid (∀ w', Below w.heap.size w w' → Calls Tryz.prog 102 #[.slice ao' n' cap'] w' fun e w'' => e = .returned (.int .i64 (Ac.chk (vs'.map PV.pt))) ∧ Below w'.heap.size w' w'') := fun w' hb => CheckOp_any ao' n' cap' vs' w' (hO'.below hb)
  have HB0 : Hid (Blk (boxt (.slice ao n cap) (.slice ao' n' cap') w) w.heap.size [.slice ao n cap, .slice ao' n' cap'] 44) := boxt_blk _ _ _
  have H1 : Hid (Below w.heap.size w (boxt (.slice ao n cap) (.slice ao' n' cap') w)) := boxt_below _ _ _
  obtain ⟨R, hR⟩ : ∃ R, Ac.fst2 (vs.map PV.pt) (vs'.map PV.pt) = R := ⟨_, rfl⟩
  rw [hR] at hE ⊢
  unfold Ac.fst2 at hR
  clear hO hO'
  generalize Ac.chk (vs.map PV.pt) = r at *
  generalize Ac.chk (vs'.map PV.pt) = r' at *
  by_cases hr : r = 0
  · rw [if_pos hr] at hR
    subst hR hr
    have hne : (r' != 0) = true := by simp [hE]
    clear hE
    go_enter Tryz.func93, Tryz.ntmps93
    go_wp2_with fail
    change Code.wp Tryz.prog _ _ _ (boxt (.slice ao n cap) (.slice ao' n' cap') w)
    generalize boxt (.slice ao n cap) (.slice ao' n' cap') w = W at *
    refine wp_loop_rounds 3 ?_
    rw [rounds_succ]
    have c0 : W.cell? ⟨w.heap.size, 0, none⟩ = some (.slice ao n cap) := HB0.out.cell 0
    go_wp2_with fail
    refine (C0.out _ H1.out).mono ?_
    rintro e w1 ⟨rfl, hb⟩
    have H2 : Hid (Below w.heap.size w w1) := H1.out.trans (hb.mono H1.out.size)
    have c1 : w1.cell? ⟨w.heap.size, 1, none⟩ = some (.slice ao' n' cap') := cell_below (HB0.out.cell 1) hb
    clear hb c0
    go_wp2_with fail
    rw [rounds_succ]
    go_wp2_with fail
    refine (C1.out _ H2.out).mono ?_
    rintro e w2 ⟨rfl, hb⟩
    have H3 : Hid (Below w.heap.size w w2) := H2.out.trans (hb.mono H2.out.size)
    clear hb c1
    go_wp2
    exact bodyPost_ret (v := .tuple #[.slice none 0 0, .slice none 0 0, .int .i64 r']) (by simp [results, Tryz.results93, go_sem]) rfl ⟨rfl, H3.out⟩
  · rw [if_neg hr] at hR
    subst hR
    have hne : (r != 0) = true := by simp [hr]
    clear hr hE
    go_enter Tryz.func93, Tryz.ntmps93
    go_wp2_with fail
    change Code.wp Tryz.prog _ _ _ (boxt (.slice ao n cap) (.slice ao' n' cap') w)
    generalize boxt (.slice ao n cap) (.slice ao' n' cap') w = W at *
    refine wp_loop_rounds 3 ?_
    rw [rounds_succ]
    have c0 : W.cell? ⟨w.heap.size, 0, none⟩ = some (.slice ao n cap) := HB0.out.cell 0
    go_wp2_with fail
    refine (C0.out _ H1.out).mono ?_
    rintro e w1 ⟨rfl, hb⟩
    have H2 : Hid (Below w.heap.size w w1) := H1.out.trans (hb.mono H1.out.size)
    have c1 : w1.cell? ⟨w.heap.size, 1, none⟩ = some (.slice ao' n' cap') := cell_below (HB0.out.cell 1) hb
    clear hb c0
    go_wp2
    exact bodyPost_ret (v := .tuple #[.slice none 0 0, .slice none 0 0, .int .i64 r]) (by simp [results, Tryz.results93, go_sem]) rfl ⟨rfl, H2.out⟩

theorem Ac.fst2_chk {a b : List Ac.Pt} (h : Ac.fst2 a b = 0) : Ac.chk a = 0 ∧ Ac.chk b = 0 := by
  unfold Ac.fst2 at h
  by_cases ha : Ac.chk a = 0
  · rw [if_pos ha] at h; exact ⟨ha, h⟩
  · rw [if_neg ha] at h; exact absurd h ha

structure RowsOf (w : World) (oa : Option Addr) (on oc : Nat) (R : List RwV) (vs : List PV) : Prop where
  row : Row w oa on oc 12 (rwCells R)
  len : R.length = on
  puts : ∀ r ∈ R, Row w r.ao r.n r.cap 11 (avCells r.put)
  ok : ∀ r ∈ R, RwK r
  flat : flatR R = actsV vs
theorem RowsOf.below {w w' : World} {oa : Option Addr} {on oc : Nat} {R : List RwV} {vs : List PV} (h : RowsOf w oa on oc R vs) (hb : Below w.heap.size w w') : RowsOf w' oa on oc R vs :=
  ⟨h.row.below hb, h.len, fun r hr => (h.puts r hr).below hb, h.ok, h.flat⟩
theorem rowsR_any (ao : Option Addr) (n cap : Nat) (vs : List PV) (w : World) (hO : Ops w ao n cap vs) (hr : Ac.Right (vs.map PV.pt)) :
    Calls Tryz.prog 166 #[.slice ao n cap] w fun e w' => (∃ oa oc R, e = .returned (.slice oa (Ac.nd (vs.map PV.pt)) oc) ∧ RowsOf w' oa (Ac.nd (vs.map PV.pt)) oc R vs) ∧ Below w.heap.size w w' := by
  have hok : ∀ v ∈ vs, Ac.err1 v.pt = 0 := fun v hv => hr.ok _ (List.mem_map.2 ⟨v, hv, rfl⟩)
  have hn : n ≤ 40 := by have := hr.few; rw [List.length_map, hO.len] at this; omega
  refine (rows_any ao n cap vs w hO hok hn).mono ?_
  rintro e w' ⟨⟨ov, pv, R, ps, rfl, hI, hf⟩, hb⟩
  have h0 := rows_end hr hok hI.pok hf
  subst h0
  rw [List.append_nil] at hf
  have hK := rows_right hok hO.pts hI.ok hf
  have hL : R.length = Ac.nd (vs.map PV.pt) := by rw [← need_rows R hK, hf, Ac.acts_toA hok]; exact hr.need.1
  obtain ⟨oa, oc, e, hrow⟩ := own_row hI.own
  subst e
  rw [hL] at hrow ⊢
  exact ⟨⟨oa, oc, R, rfl, hrow, hL, hI.rows, hK, hf⟩, hb⟩

set_option maxRecDepth 100000 in
set_option maxHeartbeats 3200000 in
theorem turnedR_base (ao ao' : Option Addr) (n cap n' cap' : Nat) (vs vs' : List PV) (w : World) (hO : Ops w ao n cap vs) (hO' : Ops w ao' n' cap' vs') (hE : Ac.fst2 (vs.map PV.pt) (vs'.map PV.pt) = 0) (hN : ¬ Ac.nd (vs.map PV.pt) = Ac.nd (vs'.map PV.pt)) :
    Calls Tryz.prog 93 #[.slice ao n cap, .slice ao' n' cap'] w fun e w' => e = .returned (.tuple #[.slice none 0 0, .slice none 0 0, .int .i64 6]) ∧ Below w.heap.size w w' := by
  have C0 : Hid (∀ w', Below w.heap.size w w' → Calls Tryz.prog 102 #[.slice ao n cap] w' fun e w'' => e = .returned (.int .i64 (Ac.chk (vs.map PV.pt))) ∧ Below w'.heap.size w' w'') := fun w' hb => CheckOp_any ao n cap vs w' (hO.below hb)
  have C1 : Hid (∀ w', Below w.heap.size w w' → Calls Tryz.prog 102 #[.slice ao' n' cap'] w' fun e w'' => e = .returned (.int .i64 (Ac.chk (vs'.map PV.pt))) ∧ Below w'.heap.size w' w'') := fun w' hb => CheckOp_any ao' n' cap' vs' w' (hO'.below hb)
  have HB0 : Hid (Blk (boxt (.slice ao n cap) (.slice ao' n' cap') w) w.heap.size [.slice ao n cap, .slice ao' n' cap'] 44) := boxt_blk _ _ _
  have H1 : Hid (Below w.heap.size w (boxt (.slice ao n cap) (.slice ao' n' cap') w)) := boxt_below _ _ _
  have hc := Ac.fst2_chk hE
  obtain ⟨r1, r2⟩ := Ac.fst2_right hE
  have CR : Hid (∀ w', Below w.heap.size w w' → Calls Tryz.prog 166 #[.slice ao n cap] w' fun e w'' => (∃ oa oc R, e = .returned (.slice oa (Ac.nd (vs.map PV.pt)) oc) ∧ RowsOf w'' oa (Ac.nd (vs.map PV.pt)) oc R vs) ∧ Below w'.heap.size w' w'') := fun w' hb => rowsR_any ao n cap vs w' (hO.below hb) r1
  have CQ : Hid (∀ w', Below w.heap.size w w' → Calls Tryz.prog 166 #[.slice ao' n' cap'] w' fun e w'' => (∃ oa oc R, e = .returned (.slice oa (Ac.nd (vs'.map PV.pt)) oc) ∧ RowsOf w'' oa (Ac.nd (vs'.map PV.pt)) oc R vs') ∧ Below w'.heap.size w' w'') := fun w' hb => rowsR_any ao' n' cap' vs' w' (hO'.below hb) r2
  rw [hc.1] at C0
  rw [hc.2] at C1
  clear hO hO' hE r1 r2 hc
  generalize Ac.nd (vs.map PV.pt) = k at *
  generalize Ac.nd (vs'.map PV.pt) = k' at *
  have hne : ((k : Int) != (k' : Int)) = true := by simp; omega
  have hne' : (k != k') = true := by simp; omega
  clear hN
  go_enter Tryz.func93, Tryz.ntmps93
  go_wp2_with fail
  change Code.wp Tryz.prog _ _ _ (boxt (.slice ao n cap) (.slice ao' n' cap') w)
  generalize boxt (.slice ao n cap) (.slice ao' n' cap') w = W at *
  refine wp_loop_rounds 3 ?_
  rw [rounds_succ]
  have c0 : W.cell? ⟨w.heap.size, 0, none⟩ = some (.slice ao n cap) := HB0.out.cell 0
  go_wp2_with fail
  refine (C0.out _ H1.out).mono ?_
  rintro e w1 ⟨rfl, hb⟩
  have H2 : Hid (Below w.heap.size w w1) := H1.out.trans (hb.mono H1.out.size)
  have c1 : w1.cell? ⟨w.heap.size, 1, none⟩ = some (.slice ao' n' cap') := cell_below (HB0.out.cell 1) hb
  clear hb c0
  go_wp2_with fail
  rw [rounds_succ]
  go_wp2_with fail
  refine (C1.out _ H2.out).mono ?_
  rintro e w2 ⟨rfl, hb⟩
  have H3 : Hid (Below w.heap.size w w2) := H2.out.trans (hb.mono H2.out.size)
  clear hb c1
  go_wp2_with fail
  rw [rounds_succ]
  go_wp2_with fail
  refine (CR.out _ H3.out).mono ?_
  rintro e w3 ⟨⟨pa, pc, R, rfl, hRW⟩, hb⟩
  have H4 : Hid (Below w.heap.size w w3) := H3.out.trans (hb.mono H3.out.size)
  clear hb
  go_wp2_with fail
  refine (CQ.out _ H4.out).mono ?_
  rintro e w4 ⟨⟨qa, qc, Q, rfl, hQW⟩, hb⟩
  have H5 : Hid (Below w.heap.size w w4) := H4.out.trans (hb.mono H4.out.size)
  have HRW : Hid (RowsOf w4 pa k pc R vs) := hRW.below hb
  have HQW : Hid (RowsOf w4 qa k' qc Q vs') := hQW
  have hpc := hRW.row.room
  have hqc := hQW.row.room
  have hpb := hRW.row.big
  have hqb := hQW.row.big
  clear hb hRW hQW
  go_wp2
  exact bodyPost_ret (v := .tuple #[.slice none 0 0, .slice none 0 0, .int .i64 6]) (by simp [results, Tryz.results93, go_sem]) rfl ⟨rfl, H5.out⟩
end Go.Proofs.YtbhcklkbckacpaaGreatDoor
