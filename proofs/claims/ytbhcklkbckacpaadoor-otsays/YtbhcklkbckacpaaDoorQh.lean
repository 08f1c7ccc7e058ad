/-
  The reference's JoinedTo.
-/
import Derived.Test.YtbhcklkbckacpaaDoorQg
namespace Go.Proofs.YtbhcklkbckacpaaDoor
open Go.RowKit
def JoinR (X : List Ac.Pt) (e : Ending) (w' : World) : Prop := JoinP (if Ac.chk X = 0 then X else []) (Ac.chk X) e w'
/-- Rows, as they lie. -/
structure RwL (w : World) (oa : Option Addr) (on oc : Nat) (R : List RwV) : Prop where
  row : Row w oa on oc 12 (rwCells R)
  puts : ∀ r ∈ R, Row w r.ao r.n r.cap 11 (avCells r.put)
  ok : ∀ r ∈ R, RwK r
theorem RwL.below {w w' : World} {oa : Option Addr} {on oc : Nat} {R : List RwV} (h : RwL w oa on oc R) (hb : Below w.heap.size w w') : RwL w' oa on oc R := ⟨h.row.below hb, fun r hr => (h.puts r hr).below hb, h.ok⟩
theorem RowsOf.rwl {w : World} {oa : Option Addr} {on oc : Nat} {R : List RwV} {vs : List PV} (h : RowsOf w oa on oc R vs) : RwL w oa on oc R := ⟨h.row, h.puts, h.ok⟩
theorem RwL.len {w : World} {oa : Option Addr} {on oc : Nat} {R : List RwV} (h : RwL w oa on oc R) : R.length = on := by
  have := h.row.len
  rw [rwCells_len] at this
  omega
def tailR (ao : Option Addr) (cap : Nat) : Option Addr := if cap = 1 then ao else ao.map (fun a => a.add 12)
theorem RwL.tail {w : World} {oa : Option Addr} {on oc : Nat} {t : RwV} {R : List RwV} (h : RwL w oa on oc (t :: R)) : RwL w (tailR oa oc) (on - 1) (oc - 1) R := by
  have hl := h.len
  rw [List.length_cons] at hl
  have hr := h.row.room
  have hb := h.row.big
  refine ⟨⟨by rw [rwCells_len]; congr 1; omega, by omega, by omega, fun hn => ?_⟩, fun u hu => h.puts u (List.mem_cons_of_mem _ hu), fun u hu => h.ok u (List.mem_cons_of_mem _ hu)⟩
  obtain ⟨b, off, e, hc⟩ := h.row.lies (by omega)
  refine ⟨b, off + 12, ?_, fun j u hj => ?_⟩
  · unfold tailR
    rw [if_neg (by omega), e, Option.map_some, add_off]
  · have := hc (12 + j) u (by show (rwC t ++ rwCells R)[12 + j]? = _; rw [List.getElem?_append_right (by show 12 ≤ _; omega), show 12 + j - (rwC t).length = j by show _ - 12 = _; omega]; exact hj)
    rw [← Nat.add_assoc] at this
    exact this
theorem RwL.head {w : World} {b off on oc : Nat} {t : RwV} {R : List RwV} (h : RwL w (some ⟨b, off, none⟩) on oc (t :: R)) : ∀ j, j < 12 → ∀ u, (rwC t)[j]? = some u → w.cell? ⟨b, off + j, none⟩ = some u := fun j hj u hu => by
  have hl := h.len
  obtain ⟨b', off', e, hc⟩ := h.row.lies (by rw [← hl, List.length_cons]; omega)
  cases e
  exact hc j u (by show (rwC t ++ rwCells R)[j]? = _; rw [List.getElem?_append_left (by show j < 12; exact hj)]; exact hu)
theorem elemLR : Tryd.prog.elem 74 = 84 := by kernel_rfl
theorem under_lr : Tryd.prog.underlying 74 = some (.slice (Tryd.prog.elem 74)) := by kernel_rfl
theorem slice_rows (b off n cap : Nat) (hn : 0 < n) (w : World) : (Instr.slice 74 (.slice (some ⟨b, off, none⟩) n cap) (some (.int .i64 1)) none none).run Tryd.prog w = .ok (.slice (tailR (some ⟨b, off, none⟩) cap) (n - 1) (cap - 1)) w := by
  rw [run_slice_l (P := Tryd.prog) (w := w) 74 _ n cap under_lr .i64 (1 : Int) (by omega) (by omega), elemLR, Tryd.sizeOf84 w]
  rfl
theorem act_kinds {vs : List PV} {w : World} (h : ∀ a ∈ actsV vs, Ac.OkT w a) : ∀ a ∈ actsV vs, a.kind = 1 ∨ a.kind = 2 ∨ a.kind = 3 := fun a ha => by
  rcases h a ha with ⟨k, _⟩ | ⟨k, _⟩ | k
  · exact .inr (.inl k)
  · exact .inl k
  · exact .inr (.inr k)
theorem own_slice' {w : World} {B n sz : Nat} {e : TypeId} {v : Value} {xs : List Value} (h : w.ownsRow B e sz v n xs) : ∃ a c, v = .slice a n c ∧ Row w a n c sz xs ∧ True ∧ True := by
  obtain ⟨a, c, hv, hr⟩ := own_row h
  exact ⟨a, c, hv, hr, trivial, trivial⟩
theorem TrA.poke3 {w wr : World} {lv mv : Value} {l m : List AV} {b j : Nat} {v : Value} (h : TrA w wr lv mv l m) (h1 : b ∉ ob lv) (hb : w.heap.size ≤ b) (h2 : b ∉ ob mv := by intro hx; cases hx) : TrA w (wr.setCell ⟨b, j, none⟩ v) lv mv l m :=
  ⟨own_keeps h.ol (kept_set wr b j v [b] (by simp)) (fun x hx e => by rw [List.mem_singleton] at hx; subst hx; exact h1 (ob_of e)), own_keeps h.om (kept_set wr b j v [b] (by simp)) (fun x hx e => by rw [List.mem_singleton] at hx; subst hx; exact h2 (ob_of e)), h.apart, h.blw.setCell hb _⟩
theorem acts_mx {vs : List PV} (h : ∀ v ∈ vs, Ac.err1 v.pt = 0) : ∀ a ∈ actsV vs, a.kind = 2 → Ac.m4 a.x.m := by
  intro a ha k
  obtain ⟨v, hv, ha⟩ := List.mem_flatMap.1 ha
  have he := h v hv
  unfold actV at ha
  split at ha
  · rename_i kv
    obtain ⟨x, hx, rfl⟩ := List.mem_map.1 ha
    exact (Ac.err_parts (Ac.errs_all (Ac.put_len he kv).2.2 x hx)).2.1
  · rename_i kv
    obtain ⟨_, rfl⟩ := List.mem_replicate.1 ha
    exact absurd k kv

set_option maxRecDepth 100000 in
set_option maxHeartbeats 3200000 in
theorem joinedR_base (ao ao' : Option Addr) (n cap n' cap' : Nat) (vs vs' : List PV) (w : World) (hO : Ops w ao n cap vs) (hO' : Ops w ao' n' cap' vs') (hE : Ac.fst2 (vs.map PV.pt) (vs'.map PV.pt) = 0) (hN : ¬ Ac.lv (vs.map PV.pt) = Ac.nd (vs'.map PV.pt)) :
    Calls Tryd.prog 12 #[.slice ao n cap, .slice ao' n' cap'] w fun e w' => e = .returned (.tuple #[.slice none 0 0, .int .i64 6]) ∧ Below w.heap.size w w' := by
  have C0 : Hid (∀ w', Below w.heap.size w w' → Calls Tryd.prog 36 #[.slice ao n cap] w' fun e w'' => e = .returned (.int .i64 (Ac.chk (vs.map PV.pt))) ∧ Below w'.heap.size w' w'') := fun w' hb => CheckOp_any ao n cap vs w' (hO.below hb)
  have C1 : Hid (∀ w', Below w.heap.size w w' → Calls Tryd.prog 36 #[.slice ao' n' cap'] w' fun e w'' => e = .returned (.int .i64 (Ac.chk (vs'.map PV.pt))) ∧ Below w'.heap.size w' w'') := fun w' hb => CheckOp_any ao' n' cap' vs' w' (hO'.below hb)
  have HB0 : Hid (Blk (boxt (.slice ao n cap) (.slice ao' n' cap') w) w.heap.size [.slice ao n cap, .slice ao' n' cap'] 23) := boxt_blk _ _ _
  have H1 : Hid (Below w.heap.size w (boxt (.slice ao n cap) (.slice ao' n' cap') w)) := boxt_below _ _ _
  have hc := Ac.fst2_chk hE
  obtain ⟨r1, r2⟩ := Ac.fst2_right hE
  have CL : Hid (∀ w', Below w.heap.size w w' → Calls Tryd.prog 40 #[.slice ao n cap] w' fun e w'' => e = .returned (.tuple #[.int .i64 (Ac.lf (vs.map PV.pt)), .int .i64 (Ac.lt (vs.map PV.pt))]) ∧ Below w'.heap.size w' w'') := fun w' hb => LongOf_any ao n cap vs w' (hO.below hb)
  have CQ : Hid (∀ w', Below w.heap.size w w' → Calls Tryd.prog 37 #[.slice ao' n' cap'] w' fun e w'' => (∃ oa oc R, e = .returned (.slice oa (Ac.nd (vs'.map PV.pt)) oc) ∧ RowsOf w'' oa (Ac.nd (vs'.map PV.pt)) oc R vs') ∧ Below w'.heap.size w' w'') := fun w' hb => rowsR_any ao' n' cap' vs' w' (hO'.below hb) r2
  rw [hc.1] at C0
  rw [hc.2] at C1
  clear hO hO' hE hc
  rw [r1.lt] at CL
  clear r1 r2
  generalize Ac.lf (vs.map PV.pt) = l0 at *
  generalize Ac.lv (vs.map PV.pt) = k at *
  generalize Ac.nd (vs'.map PV.pt) = k' at *
  have hne : ((k' : Int) != (k : Int)) = true := by simp; omega
  have hne' : (k' != k) = true := by simp; omega
  clear hN
  go_enter Tryd.func12, Tryd.ntmps12
  go_wp2_with fail
  change Code.wp Tryd.prog _ _ _ (boxt (.slice ao n cap) (.slice ao' n' cap') w)
  generalize boxt (.slice ao n cap) (.slice ao' n' cap') w = W at *
  refine wp_loop_rounds 3 ?_
  rw [rounds_succ]
  have c0 : W.cell? ⟨w.heap.size, 0, none⟩ = some (.slice ao n cap) := HB0.out.cell 0
  go_wp2_with fail
  refine (C0.out _ H1.out).mono ?_
  rintro e w1 ⟨rfl, hb⟩
  have H2 : Hid (Below w.heap.size w w1) := H1.out.trans (hb.mono H1.out.size)
  have c1 : w1.cell? ⟨w.heap.size, 1, none⟩ = some (.slice ao' n' cap') := cell_below (HB0.out.cell 1) hb
  clear hb c0
  go_wp2_with fail
  rw [rounds_succ]
  go_wp2_with fail
  refine (C1.out _ H2.out).mono ?_
  rintro e w2 ⟨rfl, hb⟩
  have H3 : Hid (Below w.heap.size w w2) := H2.out.trans (hb.mono H2.out.size)
  clear hb c1
  go_wp2_with fail
  rw [rounds_succ]
  go_wp2_with fail
  refine (CL.out _ H3.out).mono ?_
  rintro e w3 ⟨rfl, hb⟩
  have H4 : Hid (Below w.heap.size w w3) := H3.out.trans (hb.mono H3.out.size)
  clear hb
  go_wp2_with fail
  refine (CQ.out _ H4.out).mono ?_
  rintro e w4 ⟨⟨qa, qc, Q, rfl, hQW⟩, hb⟩
  have H5 : Hid (Below w.heap.size w w4) := H4.out.trans (hb.mono H4.out.size)
  have HQW : Hid (RowsOf w4 qa k' qc Q vs') := hQW
  have hqc := hQW.row.room
  have hqb := hQW.row.big
  clear hb hQW
  go_wp2
  exact bodyPost_ret (v := .tuple #[.slice none 0 0, .int .i64 6]) (by simp [results, Tryd.results12, go_sem]) rfl ⟨rfl, H5.out⟩

set_option maxRecDepth 100000 in
set_option maxHeartbeats 12800000 in
theorem joinedR_main (ao ao' : Option Addr) (n cap n' cap' : Nat) (vs vs' : List PV) (w : World) (hO : Ops w ao n cap vs) (hO' : Ops w ao' n' cap' vs') (hE : Ac.fst2 (vs.map PV.pt) (vs'.map PV.pt) = 0) (hN : Ac.lv (vs.map PV.pt) = Ac.nd (vs'.map PV.pt)) :
    Calls Tryd.prog 12 #[.slice ao n cap, .slice ao' n' cap'] w fun e w' => JoinR (Ac.jx (vs.map PV.pt) (vs'.map PV.pt)) e w' ∧ Below w.heap.size w w' := by
  obtain ⟨i0, hi, hz0, hz1, hz2⟩ := info_parts Tryd.infA
  obtain ⟨X, hX⟩ : ∃ X, Ac.jx (vs.map PV.pt) (vs'.map PV.pt) = X := ⟨_, rfl⟩
  rw [hX]
  have HX : Hid (Ac.jx (vs.map PV.pt) (vs'.map PV.pt) = X) := hX
  clear hX
  have C0 : Hid (∀ w', Below w.heap.size w w' → Calls Tryd.prog 36 #[.slice ao n cap] w' fun e w'' => e = .returned (.int .i64 (Ac.chk (vs.map PV.pt))) ∧ Below w'.heap.size w' w'') := fun w' hb => CheckOp_any ao n cap vs w' (hO.below hb)
  have C1 : Hid (∀ w', Below w.heap.size w w' → Calls Tryd.prog 36 #[.slice ao' n' cap'] w' fun e w'' => e = .returned (.int .i64 (Ac.chk (vs'.map PV.pt))) ∧ Below w'.heap.size w' w'') := fun w' hb => CheckOp_any ao' n' cap' vs' w' (hO'.below hb)
  have HB0 : Hid (Blk (boxt (.slice ao n cap) (.slice ao' n' cap') w) w.heap.size [.slice ao n cap, .slice ao' n' cap'] 23) := boxt_blk _ _ _
  have H1 : Hid (Below w.heap.size w (boxt (.slice ao n cap) (.slice ao' n' cap') w)) := boxt_below _ _ _
  have hc := Ac.fst2_chk hE
  obtain ⟨r1, r2⟩ := Ac.fst2_right hE
  have CL : Hid (∀ w', Below w.heap.size w w' → Calls Tryd.prog 40 #[.slice ao n cap] w' fun e w'' => e = .returned (.tuple #[.int .i64 (Ac.lf (vs.map PV.pt)), .int .i64 (Ac.lt (vs.map PV.pt))]) ∧ Below w'.heap.size w' w'') := fun w' hb => LongOf_any ao n cap vs w' (hO.below hb)
  have CQ : Hid (∀ w', Below w.heap.size w w' → Calls Tryd.prog 37 #[.slice ao' n' cap'] w' fun e w'' => (∃ oa oc R, e = .returned (.slice oa (Ac.nd (vs'.map PV.pt)) oc) ∧ RowsOf w'' oa (Ac.nd (vs'.map PV.pt)) oc R vs') ∧ Below w'.heap.size w' w'') := fun w' hb => rowsR_any ao' n' cap' vs' w' (hO'.below hb) r2
  rw [hc.1] at C0
  rw [hc.2] at C1
  have ok1 : ∀ v ∈ vs, Ac.err1 v.pt = 0 := fun v hv => r1.ok _ (List.mem_map.2 ⟨v, hv, rfl⟩)
  have ok2 : ∀ v ∈ vs', Ac.err1 v.pt = 0 := fun v hv => r2.ok _ (List.mem_map.2 ⟨v, hv, rfl⟩)
  have hn40 : n ≤ 40 := by have := r1.few; rw [List.length_map, hO.len] at this; omega
  have CA : Hid (∀ w', Below w.heap.size w w' → Calls Tryd.prog 41 #[.slice ao n cap] w' fun e w'' => (∃ lv, e = .returned lv ∧ w''.ownsRow w'.heap.size 81 11 lv (actsV vs).length (avCells (actsV vs))) ∧ Below w'.heap.size w' w'') := fun w' hb => acts_any ao n cap vs w' (hO.below hb) ok1 hn40
  have HOP : Hid (∀ w', Below w.heap.size w w' → (∀ v ∈ vs, Pvt w' v) ∧ ∀ v ∈ vs', Pvt w' v) := fun w' hb => ⟨fun v hv => (hO.pts v hv).below hb, fun v hv => (hO'.pts v hv).below hb⟩
  have HR1 : Hid (Ac.Right (vs.map PV.pt)) := r1
  have HR2 : Hid (Ac.Right (vs'.map PV.pt)) := r2
  have HOK1 : Hid (∀ v ∈ vs, Ac.err1 v.pt = 0) := ok1
  have HOK2 : Hid (∀ v ∈ vs', Ac.err1 v.pt = 0) := ok2
  have HLV : Hid (Ac.leave (Ac.acts (vs.map PV.pt)) = Ac.nd (vs'.map PV.pt)) := r1.need.2.trans hN
  clear hO hO' hE hc hn40 ok1 ok2
  rw [r1.lt, hN] at CL
  clear r1 r2 hN
  generalize Ac.lf (vs.map PV.pt) = l0 at *
  generalize Ac.nd (vs'.map PV.pt) = k at *
  go_enter Tryd.func12, Tryd.ntmps12
  go_wp2_with fail
  change Code.wp Tryd.prog _ _ _ (boxt (.slice ao n cap) (.slice ao' n' cap') w)
  generalize boxt (.slice ao n cap) (.slice ao' n' cap') w = W at *
  refine wp_loop_rounds 3 ?_
  rw [rounds_succ]
  have c0 : W.cell? ⟨w.heap.size, 0, none⟩ = some (.slice ao n cap) := HB0.out.cell 0
  go_wp2_with fail
  refine (C0.out _ H1.out).mono ?_
  rintro e w1 ⟨rfl, hb⟩
  have H2 : Hid (Below w.heap.size w w1) := H1.out.trans (hb.mono H1.out.size)
  have c1 : w1.cell? ⟨w.heap.size, 1, none⟩ = some (.slice ao' n' cap') := cell_below (HB0.out.cell 1) hb
  clear hb c0
  go_wp2_with fail
  rw [rounds_succ]
  go_wp2_with fail
  refine (C1.out _ H2.out).mono ?_
  rintro e w2 ⟨rfl, hb⟩
  have H3 : Hid (Below w.heap.size w w2) := H2.out.trans (hb.mono H2.out.size)
  clear hb c1
  go_wp2_with fail
  rw [rounds_succ]
  go_wp2_with fail
  refine (CL.out _ H3.out).mono ?_
  rintro e w3 ⟨rfl, hb⟩
  have H4 : Hid (Below w.heap.size w w3) := H3.out.trans (hb.mono H3.out.size)
  clear hb
  go_wp2_with fail
  refine (CQ.out _ H4.out).mono ?_
  rintro e w4 ⟨⟨qa, qc, Q, rfl, hQW⟩, hb⟩
  have H5 : Hid (Below w.heap.size w w4) := H4.out.trans (hb.mono H4.out.size)
  have HQW : Hid (RowsOf w4 qa k qc Q vs') := hQW
  have hqc := hQW.row.room
  have hqb := hQW.row.big
  clear hb hQW
  go_wp2_with fail
  refine (CA.out _ H5.out).mono ?_
  rintro e W5 ⟨⟨lv, rfl, hla⟩, hb⟩
  obtain ⟨aa, ac, rfl, hAR, -, -⟩ := own_slice' hla
  have HB5 : Hid (Below w.heap.size w W5) := H5.out.trans (hb.mono H5.out.size)
  have HQ5 : Hid (RowsOf W5 qa k qc Q vs') := HQW.out.below hb
  have HAR : Hid (Row W5 aa (actsV vs).length ac 11 (avCells (actsV vs))) := hAR
  have HOT : Hid (∀ w', Below w.heap.size w w' → (∀ a ∈ actsV vs, Ac.OkT w' a) ∧ ∀ a ∈ flatR Q, Ac.OkT w' a) := fun w' hb => ⟨Ac.okT_acts HOK1.out (HOP.out w' hb).1, by rw [HQ5.out.flat]; exact Ac.okT_acts HOK2.out (HOP.out w' hb).2⟩
  have HKD : Hid (∀ a ∈ actsV vs, a.kind = 1 ∨ a.kind = 2 ∨ a.kind = 3) := act_kinds (HOT.out w (Below.refl _ _)).1
  have HST : Hid (stay (actsV vs) = Q.length) := by
    show _ = _
    rw [← leave_stay _ HKD.out, Ac.acts_toA HOK1.out, HLV.out, HQ5.out.len]
  have HTX : Hid (Ac.tdy [] [] 0 ((joinA (actsV vs) Q).map Ac.toA) = X) := by
    show _ = _
    rw [← HX.out, join_rows _ _ HKD.out HQ5.out.ok HST.out, HQ5.out.flat, Ac.acts_toA HOK1.out, Ac.acts_toA HOK2.out]
    rfl
  have HJL : Hid ((joinA (actsV vs) Q).length ≤ 6400) := by
    have h1 := joinA_len (actsV vs) Q
    have h2 := HQ5.out.long HR2.out
    have h3 := actsV_len (vs := vs) HOK1.out
    have h4 := HR1.out.few
    rw [List.length_map] at h4
    show _ ≤ _
    omega
  have HOKJ : Hid (∀ w', Below w.heap.size w w' → ∀ a ∈ joinA (actsV vs) Q, Ac.OkT w' a) := fun w' hb => joinA_okT _ _ HKD.out HQ5.out.ok (HOT.out w' hb).1 (HOT.out w' hb).2
  have HM1 : Hid (∀ a ∈ actsV vs, a.kind = 1 → Ac.m4 a.p.set ∧ Ac.m4 a.p.clr) := acts_m4 HOK1.out
  have HM2 : Hid (∀ r ∈ Q, r.own.kind = 1 → Ac.m4 r.own.p.set ∧ Ac.m4 r.own.p.clr) := own_m4 HOK2.out HQ5.out.flat
  have HMX : Hid (∀ a ∈ actsV vs, a.kind = 2 → Ac.m4 a.x.m) := acts_mx HOK1.out
  have hac := HAR.out.room
  have hab := HAR.out.big
  have HRW : Hid (RwL W5 qa k qc Q) := HQ5.out.rwl
  have HRM : Hid (∀ r ∈ Q, r ∈ Q) := fun r hr => hr
  clear hb hla hAR H1 H2 H3 H4 H5 CA CL CQ C0 C1 HB0 HX HLV HOP HOK1 HOK2 HR1 HR2 HQW HQ5 HOT
  obtain ⟨JJ, hJJ⟩ : ∃ JJ, joinA (actsV vs) Q = JJ := ⟨_, rfl⟩
  have HJJ : Hid (joinA (actsV vs) Q = JJ) := hJJ
  rw [hJJ] at HTX HJL HOKJ
  clear hJJ
  generalize actsV vs = L at *
  obtain ⟨N, hN⟩ : ∃ N, L.length = N := ⟨_, rfl⟩
  have HNL : Hid (L.length = N) := hN
  rw [hN] at HAR hac ⊢
  clear hN
  go_wp2_with fail
  go_loopw [11, 12, 47] (fun qv ov i wr => ∃ (j : Nat) (a : Option Addr) (m c : Nat) (R : List RwV) (O : List AV), j ≤ N ∧ i = .int .i64 j ∧ qv = .slice a m c ∧ RwL W5 a m c R ∧ (∀ r ∈ R, r ∈ Q) ∧ TrA W5 wr ov (.slice none 0 0) O [] ∧ O ++ joinA (L.drop j) R = JJ ∧ stay (L.drop j) = R.length) (fun _ _ i _ => N - (intOf i).toNat)
  case atStart => exact ⟨0, qa, k, qc, Q, [], Nat.zero_le _, rfl, rfl, HRW.out, HRM.out, TrA.start W5, HJJ.out, HST.out⟩
  case round =>
    obtain ⟨j, qa', m, qc', R, O, hj, rfl, rfl, hrw, hrm, hT, hgo, hst⟩ := hrel
    have HRW' : Hid (RwL W5 qa' m qc' R) := hrw
    have HRM' : Hid (∀ r ∈ R, r ∈ Q) := hrm
    have HT : Hid (TrA W5 wr u12 (.slice none 0 0) O []) := hT
    have HGO : Hid (O ++ joinA (L.drop j) R = JJ) := hgo
    have HSY : Hid (stay (L.drop j) = R.length) := hst
    have hqr := hrw.row.room
    have hqg := hrw.row.big
    clear hrw hrm hT hgo hst
    by_cases hlt : j < N
    · have hjL : j < L.length := by rw [HNL.out]; exact hlt
      obtain ⟨ab, ao2, rfl, hcells⟩ := HAR.out.lies (by omega)
      have hA : ∀ i, i < 11 → ∀ u, (avC L[j])[i]? = some u → wr.cell? ⟨ab, ao2 + j * 11 + i, none⟩ = some u := fun i hi u hu => cell_below (by rw [Nat.add_assoc]; exact hcells _ u ((avCells_at L j hjL i hi).trans hu)) HT.out.blw
      have HKJ : Hid (L[j].kind = 1 ∨ L[j].kind = 2 ∨ L[j].kind = 3) := HKD.out _ (List.getElem_mem hjL)
      have HM1J : Hid (L[j].kind = 1 → Ac.m4 L[j].p.set ∧ Ac.m4 L[j].p.clr) := HM1.out _ (List.getElem_mem hjL)
      have HMXJ : Hid (L[j].kind = 2 → Ac.m4 L[j].x.m) := HMX.out _ (List.getElem_mem hjL)
      have hdr := List.drop_eq_getElem_cons hjL
      rw [hdr] at HGO HSY
      clear hdr hcells
      generalize L[j] = s at *
      generalize hLD : L.drop (j + 1) = LD at *
      have HLD : Hid (L.drop (j + 1) = LD) := hLD
      clear hLD
      obtain ⟨ol, hol⟩ : ∃ ol, O.length = ol := ⟨_, rfl⟩
      have HOLN : Hid (O.length = ol) := hol
      clear hol
      have a0 : wr.cell? ⟨ab, ao2 + j * 11, none⟩ = some (.int .i64 s.kind) := hA 0 (by decide) _ rfl
      have a1 : wr.cell? ⟨ab, ao2 + j * 11 + 1, none⟩ = some (.int .u8 s.x.c.toNat) := hA 1 (by decide) _ rfl
      have a2 : wr.cell? ⟨ab, ao2 + j * 11 + 2, none⟩ = some (.int .i64 s.x.m) := hA 2 (by decide) _ rfl
      have a3 : wr.cell? ⟨ab, ao2 + j * 11 + 3, none⟩ = some (.string s.x.l) := hA 3 (by decide) _ rfl
      have a4 : wr.cell? ⟨ab, ao2 + j * 11 + 4, none⟩ = some (.int .i64 s.p.kind) := hA 4 (by decide) _ rfl
      have a5 : wr.cell? ⟨ab, ao2 + j * 11 + 5, none⟩ = some (.int .i64 s.p.n) := hA 5 (by decide) _ rfl
      have a6 : wr.cell? ⟨ab, ao2 + j * 11 + 6, none⟩ = some (.slice s.p.ao s.p.m s.p.cap) := hA 6 (by decide) _ rfl
      have a7 : wr.cell? ⟨ab, ao2 + j * 11 + 7, none⟩ = some (.int .i64 s.p.set) := hA 7 (by decide) _ rfl
      have a8 : wr.cell? ⟨ab, ao2 + j * 11 + 8, none⟩ = some (.int .i64 s.p.clr) := hA 8 (by decide) _ rfl
      have a9 : wr.cell? ⟨ab, ao2 + j * 11 + 9, none⟩ = some (.bool s.p.goes) := hA 9 (by decide) _ rfl
      have a10 : wr.cell? ⟨ab, ao2 + j * 11 + 10, none⟩ = some (.string s.p.link) := hA 10 (by decide) _ rfl
      clear hA
      have HS6 : Hid (Blk (boxa s wr) wr.heap.size (avC s) 81) := boxa_blk s wr
      have HT6 : Hid (TrA W5 (boxa s wr) u12 (.slice none 0 0) O []) := HT.out.under (boxa_below s wr)
      have HSF : Hid (wr.heap.size ∉ ob u12) := (HT.out.far (Nat.le_refl _)).1
      go_upto_region 16 with fail
      change Code.wp Tryd.prog _ _ _ (boxa s wr)
      generalize boxa s wr = W6 at *
      clear a0 a1 a2 a3 a4 a5 a6 a7 a8 a9 a10
      have a0 : W6.cell? ⟨wr.heap.size, 0, none⟩ = some (.int .i64 s.kind) := HS6.out.cell 0
      have a1 : W6.cell? ⟨wr.heap.size, 1, none⟩ = some (.int .u8 s.x.c.toNat) := HS6.out.cell 1
      have a2 : W6.cell? ⟨wr.heap.size, 2, none⟩ = some (.int .i64 s.x.m) := HS6.out.cell 2
      have a3 : W6.cell? ⟨wr.heap.size, 3, none⟩ = some (.string s.x.l) := HS6.out.cell 3
      have a4 : W6.cell? ⟨wr.heap.size, 4, none⟩ = some (.int .i64 s.p.kind) := HS6.out.cell 4
      have a5 : W6.cell? ⟨wr.heap.size, 5, none⟩ = some (.int .i64 s.p.n) := HS6.out.cell 5
      have a6 : W6.cell? ⟨wr.heap.size, 6, none⟩ = some (.slice s.p.ao s.p.m s.p.cap) := HS6.out.cell 6
      have a7 : W6.cell? ⟨wr.heap.size, 7, none⟩ = some (.int .i64 s.p.set) := HS6.out.cell 7
      have a8 : W6.cell? ⟨wr.heap.size, 8, none⟩ = some (.int .i64 s.p.clr) := HS6.out.cell 8
      have a9 : W6.cell? ⟨wr.heap.size, 9, none⟩ = some (.bool s.p.goes) := HS6.out.cell 9
      have a10 : W6.cell? ⟨wr.heap.size, 10, none⟩ = some (.string s.p.link) := HS6.out.cell 10
      by_cases h3 : s.kind = 3
      · have hb3 : (s.kind == 3) = true := by simp [h3]
        have HGO2 : Hid ((O ++ [s]) ++ joinA LD R = JJ) := by show _ = _; rw [← HGO.out, joinA_cut h3, List.append_assoc]; rfl
        have HSY2 : Hid (stay LD = R.length) := by show _ = _; rw [← HSY.out, stay_cut h3]
        have hbd : ol + 1 ≤ 6400 := by have h1 := congrArg List.length HGO2.out; rw [List.length_append, List.length_append, HOLN.out, List.length_singleton] at h1; have := HJL.out; omega
        clear h3
        have HT7 : Hid (TrA W5 (boxa s W6) u12 (.slice none 0 0) O []) := HT6.out.under (boxa_below s W6)
        have HOL7 : Hid ((boxa s W6).ownsRow W5.heap.size 81 11 u12 ol (avCells O)) := by have := HT7.out.ol; rw [HOLN.out] at this; exact this
        go_wp2_with (at_builtin; refine wpList_append_row (boxa s W6) rfl (.tmp 54) (.tmp 56) 82 rfl W5.heap.size 81 i0 (.agg #[.int .i64 0, .int .u8 0, .int .i64 0, .string ⟨#[]⟩, .int .i64 0, .int .i64 0, .slice none 0 0, .int .i64 0, .int .i64 0, .bool false, .string ⟨#[]⟩]) 11 120 Tryd.underlying82 hi hz0 hz1 hz2 rfl (by decide) u12 ol (avCells O) rfl HOL7.out (some ⟨W6.heap.size, 0, none⟩) 1 1 (avC s) rfl (boxa_row s W6) (avC_one s) (by unfold maxLen; omega) (by omega) (by have := HT7.out.blw.size; omega) ?_)
        intro xw w9 hown9 hg9 hat9
        have HT9 : Hid (TrA W5 w9 xw (.slice none 0 0) (O ++ [s]) []) := HT7.out.push (us := [s]) HOLN.out rfl (by rw [avCells_one]; exact hown9) hg9 hat9
        clear hown9 hg9 hat9
        go_wp2
        go_roundw
        case rel => exact ⟨j + 1, qa', m, qc', R, O ++ [s], by omega, by go_num, rfl, HRW'.out, HRM'.out, HT9.out, by rw [HLD.out]; exact HGO2.out, by rw [HLD.out]; exact HSY2.out⟩
        case measure => simp [intOf]; omega
      · have hb3 : (s.kind == 3) = false := by simp [h3]
        obtain ⟨t, R, rfl⟩ : ∃ t R', R = t :: R' := by
          cases R with
          | nil => have h := HSY.out; rw [stay_go h3] at h; cases h
          | cons t R' => exact ⟨t, R', rfl⟩
        have HGO2 : Hid ((O ++ t.put) ++ (ownJ s t.own ++ joinA LD R) = JJ) := by show _ = _; rw [← HGO.out, joinA_go h3, List.append_assoc, List.append_assoc]
        have HSY2 : Hid (stay LD = R.length) := by have h := HSY.out; rw [stay_go h3, List.length_cons] at h; show _ = _; omega
        have hm0 : 0 < m := by have := HRW'.out.len; rw [List.length_cons] at this; omega
        obtain ⟨qb, qo, rfl, -⟩ := HRW'.out.row.lies (by omega)
        have HRT : Hid (RwL W5 (tailR (some ⟨qb, qo, none⟩) qc') (m - 1) (qc' - 1) R) := HRW'.out.tail
        have HRM2 : Hid (∀ r ∈ R, r ∈ Q) := fun r hr => HRM'.out r (List.mem_cons_of_mem _ hr)
        have HTK : Hid (RwK t) := HRW'.out.ok t (List.mem_cons_self ..)
        have HM2T : Hid (t.own.kind = 1 → Ac.m4 t.own.p.set ∧ Ac.m4 t.own.p.clr) := HM2.out t (HRM'.out t (List.mem_cons_self ..))
        have hQ : ∀ i, i < 12 → ∀ u, (rwC t)[i]? = some u → W6.cell? ⟨qb, qo + i, none⟩ = some u := fun i hi u hu => cell_below (HRW'.out.head i hi u hu) HT6.out.blw
        have HPT : Hid (∀ w', Below W5.heap.size W5 w' → Row w' t.ao t.n t.cap 11 (avCells t.put)) := fun w' hb => (HRW'.out.puts t (List.mem_cons_self ..)).below hb
        have HTN : Hid (t.put.length = t.n) := by have h1 := (HRW'.out.puts t (List.mem_cons_self ..)).len; rw [avCells_len] at h1; show _ = _; omega
        have hsl := slice_rows qb qo m qc' hm0
        have b0 : W6.cell? ⟨qb, qo, none⟩ = some (.slice t.ao t.n t.cap) := hQ 0 (by decide) _ rfl
        have b1 : W6.cell? ⟨qb, qo + 1, none⟩ = some (.int .i64 t.own.kind) := hQ 1 (by decide) _ rfl
        have b2 : W6.cell? ⟨qb, qo + 2, none⟩ = some (.int .u8 t.own.x.c.toNat) := hQ 2 (by decide) _ rfl
        have b3 : W6.cell? ⟨qb, qo + 3, none⟩ = some (.int .i64 t.own.x.m) := hQ 3 (by decide) _ rfl
        have b4 : W6.cell? ⟨qb, qo + 4, none⟩ = some (.string t.own.x.l) := hQ 4 (by decide) _ rfl
        have b5 : W6.cell? ⟨qb, qo + 5, none⟩ = some (.int .i64 t.own.p.kind) := hQ 5 (by decide) _ rfl
        have b6 : W6.cell? ⟨qb, qo + 6, none⟩ = some (.int .i64 t.own.p.n) := hQ 6 (by decide) _ rfl
        have b7 : W6.cell? ⟨qb, qo + 7, none⟩ = some (.slice t.own.p.ao t.own.p.m t.own.p.cap) := hQ 7 (by decide) _ rfl
        have b8 : W6.cell? ⟨qb, qo + 8, none⟩ = some (.int .i64 t.own.p.set) := hQ 8 (by decide) _ rfl
        have b9 : W6.cell? ⟨qb, qo + 9, none⟩ = some (.int .i64 t.own.p.clr) := hQ 9 (by decide) _ rfl
        have b10 : W6.cell? ⟨qb, qo + 10, none⟩ = some (.bool t.own.p.goes) := hQ 10 (by decide) _ rfl
        have b11 : W6.cell? ⟨qb, qo + 11, none⟩ = some (.string t.own.p.link) := hQ 11 (by decide) _ rfl
        clear hQ HGO HSY
        have HTB7 : Hid (Blk (boxw t W6) W6.heap.size (rwC t) 84) := boxw_blk t W6
        have HSB7 : Hid (Blk (boxw t W6) wr.heap.size (avC s) 81) := HS6.out.alloc _
        have HT7 : Hid (TrA W5 (boxw t W6) u12 (.slice none 0 0) O []) := HT6.out.under (boxw_below t W6)
        have HTF : Hid (W6.heap.size ∉ ob u12) := (HT6.out.far (Nat.le_refl _)).1
        go_upto_region 19 with fail
        change Code.wp Tryd.prog _ _ _ (boxw t W6)
        have HWZ : Hid (W6.heap.size < (boxw t W6).heap.size) := HTB7.out.lt
        generalize boxw t W6 = W7 at *
        generalize W6.heap.size = tb at *
        clear a0 a1 a2 a3 a4 a5 a6 a7 a8 a9 a10 b0 b1 b2 b3 b4 b5 b6 b7 b8 b9 b10 b11
        have e0 : W7.cell? ⟨tb, 0, none⟩ = some (.slice t.ao t.n t.cap) := HTB7.out.cell 0
        have HOL7 : Hid (W7.ownsRow W5.heap.size 81 11 u12 ol (avCells O)) := by have := HT7.out.ol; rw [HOLN.out] at this; exact this
        have HJT : Hid (ol + t.n + (ownJ s t.own).length ≤ 6400) := by
          have h1 := congrArg List.length HGO2.out
          rw [List.length_append, List.length_append, List.length_append, HOLN.out, HTN.out] at h1
          have := HJL.out
          show _ ≤ _
          omega
        have hbd : ol + t.n ≤ 6400 := by have := HJT.out; omega
        go_wp2_with (at_builtin; refine wpList_append_row (W7) rfl (.tmp 63) (.tmp 65) 82 rfl W5.heap.size 81 i0 (.agg #[.int .i64 0, .int .u8 0, .int .i64 0, .string ⟨#[]⟩, .int .i64 0, .int .i64 0, .slice none 0 0, .int .i64 0, .int .i64 0, .bool false, .string ⟨#[]⟩]) 11 120 Tryd.underlying82 hi hz0 hz1 hz2 rfl (by decide) u12 ol (avCells O) rfl HOL7.out t.ao t.n t.cap (avCells t.put) rfl (HPT.out _ HT7.out.blw) (avCells_oneCell _) (by unfold maxLen; omega) (by omega) (by have := HT7.out.blw.size; omega) ?_)
        intro xw w8 hown8 hg8 hat8
        have HT8 : Hid (TrA W5 w8 xw (.slice none 0 0) (O ++ t.put) []) := HT7.out.push HOLN.out HTN.out hown8 hg8 hat8
        have hK8 : Kept W7 w8 (ob u12) := grown_kept hg8
        have HSB8 : Hid (Blk w8 wr.heap.size (avC s) 81) := hK8.blk HSB7.out HSF.out
        have HTB8 : Hid (Blk w8 tb (rwC t) 84) := hK8.blk HTB7.out HTF.out
        have HL8 : Hid ((O ++ t.put).length = ol + t.n) := by show _ = _; rw [List.length_append, HOLN.out, HTN.out]
        have HF8 : Hid (wr.heap.size ∉ ob xw ∧ tb ∉ ob xw) := ⟨fun hx => (hat8 _ (ob_mem hx)).elim (fun e => HSF.out (ob_of e)) (fun e => by have := HSB7.out.lt; omega), fun hx => (hat8 _ (ob_mem hx)).elim (fun e => HTF.out (ob_of e)) (fun e => by have := HTB7.out.lt; omega)⟩
        clear hown8 hg8 hat8 hK8 e0 HOL7 HT7 HSB7 HTB7 hsl HWZ
        generalize O ++ t.put = OO at *
        have HOO : Hid (w8.ownsRow W5.heap.size 81 11 xw (ol + t.n) (avCells OO)) := by have := HT8.out.ol; rw [HL8.out] at this; exact this
        have a0 : w8.cell? ⟨wr.heap.size, 0, none⟩ = some (.int .i64 s.kind) := HSB8.out.cell 0
        have a1 : w8.cell? ⟨wr.heap.size, 1, none⟩ = some (.int .u8 s.x.c.toNat) := HSB8.out.cell 1
        have a2 : w8.cell? ⟨wr.heap.size, 2, none⟩ = some (.int .i64 s.x.m) := HSB8.out.cell 2
        have a3 : w8.cell? ⟨wr.heap.size, 3, none⟩ = some (.string s.x.l) := HSB8.out.cell 3
        have a4 : w8.cell? ⟨wr.heap.size, 4, none⟩ = some (.int .i64 s.p.kind) := HSB8.out.cell 4
        have a5 : w8.cell? ⟨wr.heap.size, 5, none⟩ = some (.int .i64 s.p.n) := HSB8.out.cell 5
        have a6 : w8.cell? ⟨wr.heap.size, 6, none⟩ = some (.slice s.p.ao s.p.m s.p.cap) := HSB8.out.cell 6
        have a7 : w8.cell? ⟨wr.heap.size, 7, none⟩ = some (.int .i64 s.p.set) := HSB8.out.cell 7
        have a8 : w8.cell? ⟨wr.heap.size, 8, none⟩ = some (.int .i64 s.p.clr) := HSB8.out.cell 8
        have a9 : w8.cell? ⟨wr.heap.size, 9, none⟩ = some (.bool s.p.goes) := HSB8.out.cell 9
        have a10 : w8.cell? ⟨wr.heap.size, 10, none⟩ = some (.string s.p.link) := HSB8.out.cell 10
        have f0 : w8.cell? ⟨tb, 0, none⟩ = some (.slice t.ao t.n t.cap) := HTB8.out.cell 0
        have f1 : w8.cell? ⟨tb, 1, none⟩ = some (.int .i64 t.own.kind) := HTB8.out.cell 1
        have f2 : w8.cell? ⟨tb, 2, none⟩ = some (.int .u8 t.own.x.c.toNat) := HTB8.out.cell 2
        have f3 : w8.cell? ⟨tb, 3, none⟩ = some (.int .i64 t.own.x.m) := HTB8.out.cell 3
        have f4 : w8.cell? ⟨tb, 4, none⟩ = some (.string t.own.x.l) := HTB8.out.cell 4
        have f5 : w8.cell? ⟨tb, 5, none⟩ = some (.int .i64 t.own.p.kind) := HTB8.out.cell 5
        have f6 : w8.cell? ⟨tb, 6, none⟩ = some (.int .i64 t.own.p.n) := HTB8.out.cell 6
        have f7 : w8.cell? ⟨tb, 7, none⟩ = some (.slice t.own.p.ao t.own.p.m t.own.p.cap) := HTB8.out.cell 7
        have f8 : w8.cell? ⟨tb, 8, none⟩ = some (.int .i64 t.own.p.set) := HTB8.out.cell 8
        have f9 : w8.cell? ⟨tb, 9, none⟩ = some (.int .i64 t.own.p.clr) := HTB8.out.cell 9
        have f10 : w8.cell? ⟨tb, 10, none⟩ = some (.bool t.own.p.goes) := HTB8.out.cell 10
        have f11 : w8.cell? ⟨tb, 11, none⟩ = some (.string t.own.p.link) := HTB8.out.cell 11
        rcases (show s.kind = 1 ∨ s.kind = 2 from by rcases HKJ.out with e | e | e; exact .inl e; exact .inr e; exact absurd e h3) with ks | ks <;> rcases HTK.out.own with kt | kt
        · have hb1 : (s.kind == 1) = true := by simp [ks]
          have hb2 : (t.own.kind == 3) = false := by simp [kt]
          have HGO4 : Hid ((OO ++ [thenA s t.own]) ++ joinA LD R = JJ) := by show _ = _; rw [← HGO2.out]; unfold ownJ; rw [if_pos ks, if_neg (by omega), List.append_assoc]
          obtain ⟨m1, m2⟩ := HM1J.out ks
          obtain ⟨m3, m4⟩ := HM2T.out kt
          clear ks kt
          have HZ9 : Hid (Blk (boxa s w8) w8.heap.size (avC s) 81) := boxa_blk s w8
          have HB9 : Hid (Below w8.heap.size w8 (boxa s w8)) := boxa_below s w8
          have q1 := and_m4 m1 m4
          have q2 := and_m4 m2 m3
          obtain ⟨av, hav⟩ : ∃ av, s.p.set.toNat &&& t.own.p.clr.toNat = av := ⟨_, rfl⟩
          obtain ⟨cv, hcv⟩ : ∃ cv, s.p.clr.toNat &&& t.own.p.set.toNat = cv := ⟨_, rfl⟩
          obtain ⟨l1, l2⟩ := less_and m1 hav
          obtain ⟨l3, l4⟩ := less_and m2 hcv
          rw [hav] at q1
          rw [hcv] at q2
          have q3 : bits .or .i64 (s.p.set - (av : Int)) t.own.p.set = (Ac.both (Ac.less s.p.set t.own.p.clr) t.own.p.set) := by rw [l1]; exact bits_or (Ac.less_m4 m1 m4) m3
          have q4 : bits .or .i64 (s.p.clr - (cv : Int)) t.own.p.clr = (Ac.both (Ac.less s.p.clr t.own.p.set) t.own.p.clr) := by rw [l3]; exact bits_or (Ac.less_m4 m2 m3) m4
          obtain ⟨n1, n2⟩ := m1
          obtain ⟨n3, n4⟩ := m2
          clear l1 l3 hav hcv m3 m4
          go_upto_region 25 with fail
          change Code.wp Tryd.prog _ _ _ (boxa s w8)
          generalize boxa s w8 = W9 at *
          clear a0 a1 a2 a3 a4 a5 a6 a7 a8 a9 a10 f0 f1 f2 f3 f4 f5 f6 f7 f8 f9 f10 f11
          have a7 : W9.cell? ⟨wr.heap.size, 7, none⟩ = some (.int .i64 s.p.set) := cell_below (HSB8.out.cell 7) HB9.out
          have a8 : W9.cell? ⟨wr.heap.size, 8, none⟩ = some (.int .i64 s.p.clr) := cell_below (HSB8.out.cell 8) HB9.out
          have f8 : W9.cell? ⟨tb, 8, none⟩ = some (.int .i64 t.own.p.set) := cell_below (HTB8.out.cell 8) HB9.out
          have f9 : W9.cell? ⟨tb, 9, none⟩ = some (.int .i64 t.own.p.clr) := cell_below (HTB8.out.cell 9) HB9.out
          have z7 : W9.cell? ⟨w8.heap.size, 7, none⟩ = some (.int .i64 s.p.set) := HZ9.out.cell 7
          have y7 := HZ9.out.frozen 7
          go_upto_region 26 with fail
          change Code.wp Tryd.prog _ _ _ (W9.setCell ⟨w8.heap.size, 7, none⟩ (.int .i64 (Ac.both (Ac.less s.p.set t.own.p.clr) t.own.p.set)))
          have HZ10 : Hid (Blk (W9.setCell ⟨w8.heap.size, 7, none⟩ (.int .i64 (Ac.both (Ac.less s.p.set t.own.p.clr) t.own.p.set))) w8.heap.size (avC (⟨s.kind, s.x, { s.p with set := (Ac.both (Ac.less s.p.set t.own.p.clr) t.own.p.set), clr := s.p.clr, goes := s.p.goes, link := s.p.link }⟩ : AV)) 81) := HZ9.out.set 7 _
          have HB10 : Hid (Below w8.heap.size w8 (W9.setCell ⟨w8.heap.size, 7, none⟩ (.int .i64 (Ac.both (Ac.less s.p.set t.own.p.clr) t.own.p.set)))) := HB9.out.setCell (Nat.le_refl _) _
          clear a7 a8 f8 f9 z7 y7 HZ9 HB9 q1 q3
          generalize (W9.setCell ⟨w8.heap.size, 7, none⟩ (.int .i64 (Ac.both (Ac.less s.p.set t.own.p.clr) t.own.p.set))) = W10 at *
          have a8 : W10.cell? ⟨wr.heap.size, 8, none⟩ = some (.int .i64 s.p.clr) := cell_below (HSB8.out.cell 8) HB10.out
          have f8 : W10.cell? ⟨tb, 8, none⟩ = some (.int .i64 t.own.p.set) := cell_below (HTB8.out.cell 8) HB10.out
          have f9 : W10.cell? ⟨tb, 9, none⟩ = some (.int .i64 t.own.p.clr) := cell_below (HTB8.out.cell 9) HB10.out
          have z8 : W10.cell? ⟨w8.heap.size, 8, none⟩ = some (.int .i64 s.p.clr) := HZ10.out.cell 8
          have y8 := HZ10.out.frozen 8
          go_upto_region 27 with fail
          change Code.wp Tryd.prog _ _ _ (W10.setCell ⟨w8.heap.size, 8, none⟩ (.int .i64 (Ac.both (Ac.less s.p.clr t.own.p.set) t.own.p.clr)))
          have HZ11 : Hid (Blk (W10.setCell ⟨w8.heap.size, 8, none⟩ (.int .i64 (Ac.both (Ac.less s.p.clr t.own.p.set) t.own.p.clr))) w8.heap.size (avC (⟨s.kind, s.x, { s.p with set := (Ac.both (Ac.less s.p.set t.own.p.clr) t.own.p.set), clr := (Ac.both (Ac.less s.p.clr t.own.p.set) t.own.p.clr), goes := s.p.goes, link := s.p.link }⟩ : AV)) 81) := HZ10.out.set 8 _
          have HB11 : Hid (Below w8.heap.size w8 (W10.setCell ⟨w8.heap.size, 8, none⟩ (.int .i64 (Ac.both (Ac.less s.p.clr t.own.p.set) t.own.p.clr)))) := HB10.out.setCell (Nat.le_refl _) _
          clear a8 f8 f9 z8 y8 HZ10 HB10 q2 q4
          generalize (W10.setCell ⟨w8.heap.size, 8, none⟩ (.int .i64 (Ac.both (Ac.less s.p.clr t.own.p.set) t.own.p.clr))) = W11 at *
          have f10 : W11.cell? ⟨tb, 10, none⟩ = some (.bool t.own.p.goes) := cell_below (HTB8.out.cell 10) HB11.out
          cases hgo : t.own.p.goes
          · rw [hgo] at f10
            have HZ : Hid (Blk W11 w8.heap.size (avC (⟨s.kind, s.x, { s.p with set := (Ac.both (Ac.less s.p.set t.own.p.clr) t.own.p.set), clr := (Ac.both (Ac.less s.p.clr t.own.p.set) t.own.p.clr), goes := s.p.goes, link := s.p.link }⟩ : AV)) 81) := HZ11.out
            have HBZ : Hid (Below w8.heap.size w8 W11) := HB11.out
            have HE : Hid ((⟨s.kind, s.x, { s.p with set := (Ac.both (Ac.less s.p.set t.own.p.clr) t.own.p.set), clr := (Ac.both (Ac.less s.p.clr t.own.p.set) t.own.p.clr), goes := s.p.goes, link := s.p.link }⟩ : AV) = thenA s t.own) := by show _ = _; unfold thenA; rw [hgo]; simp
            have z0 : W11.cell? ⟨w8.heap.size, 0, none⟩ = some (.int .i64 s.kind) := HZ.out.cell 0
            have z1 : W11.cell? ⟨w8.heap.size, 1, none⟩ = some (.int .u8 s.x.c.toNat) := HZ.out.cell 1
            have z2 : W11.cell? ⟨w8.heap.size, 2, none⟩ = some (.int .i64 s.x.m) := HZ.out.cell 2
            have z3 : W11.cell? ⟨w8.heap.size, 3, none⟩ = some (.string s.x.l) := HZ.out.cell 3
            have z4 : W11.cell? ⟨w8.heap.size, 4, none⟩ = some (.int .i64 s.p.kind) := HZ.out.cell 4
            have z5 : W11.cell? ⟨w8.heap.size, 5, none⟩ = some (.int .i64 s.p.n) := HZ.out.cell 5
            have z6 : W11.cell? ⟨w8.heap.size, 6, none⟩ = some (.slice s.p.ao s.p.m s.p.cap) := HZ.out.cell 6
            have z7 : W11.cell? ⟨w8.heap.size, 7, none⟩ = some (.int .i64 (Ac.both (Ac.less s.p.set t.own.p.clr) t.own.p.set)) := HZ.out.cell 7
            have z8 : W11.cell? ⟨w8.heap.size, 8, none⟩ = some (.int .i64 (Ac.both (Ac.less s.p.clr t.own.p.set) t.own.p.clr)) := HZ.out.cell 8
            have z9 : W11.cell? ⟨w8.heap.size, 9, none⟩ = some (.bool s.p.goes) := HZ.out.cell 9
            have z10 : W11.cell? ⟨w8.heap.size, 10, none⟩ = some (.string s.p.link) := HZ.out.cell 10
            have HT13 : Hid (TrA W5 (boxa (⟨s.kind, s.x, { s.p with set := (Ac.both (Ac.less s.p.set t.own.p.clr) t.own.p.set), clr := (Ac.both (Ac.less s.p.clr t.own.p.set) t.own.p.clr), goes := s.p.goes, link := s.p.link }⟩ : AV) W11) xw (.slice none 0 0) OO []) := (HT8.out.under HBZ.out).under (boxa_below _ _)
            have HOO13 : Hid ((boxa (⟨s.kind, s.x, { s.p with set := (Ac.both (Ac.less s.p.set t.own.p.clr) t.own.p.set), clr := (Ac.both (Ac.less s.p.clr t.own.p.set) t.own.p.clr), goes := s.p.goes, link := s.p.link }⟩ : AV) W11).ownsRow W5.heap.size 81 11 xw (ol + t.n) (avCells OO)) := by have := HT13.out.ol; rw [HL8.out] at this; exact this
            go_wp2_with (at_builtin; refine wpList_append_row (boxa (⟨s.kind, s.x, { s.p with set := (Ac.both (Ac.less s.p.set t.own.p.clr) t.own.p.set), clr := (Ac.both (Ac.less s.p.clr t.own.p.set) t.own.p.clr), goes := s.p.goes, link := s.p.link }⟩ : AV) W11) rfl (.tmp 137) (.tmp 139) 82 rfl W5.heap.size 81 i0 (.agg #[.int .i64 0, .int .u8 0, .int .i64 0, .string ⟨#[]⟩, .int .i64 0, .int .i64 0, .slice none 0 0, .int .i64 0, .int .i64 0, .bool false, .string ⟨#[]⟩]) 11 120 Tryd.underlying82 hi hz0 hz1 hz2 rfl (by decide) xw (ol + t.n) (avCells OO) rfl HOO13.out (some ⟨W11.heap.size, 0, none⟩) 1 1 (avC (⟨s.kind, s.x, { s.p with set := (Ac.both (Ac.less s.p.set t.own.p.clr) t.own.p.set), clr := (Ac.both (Ac.less s.p.clr t.own.p.set) t.own.p.clr), goes := s.p.goes, link := s.p.link }⟩ : AV)) rfl (boxa_row (⟨s.kind, s.x, { s.p with set := (Ac.both (Ac.less s.p.set t.own.p.clr) t.own.p.set), clr := (Ac.both (Ac.less s.p.clr t.own.p.set) t.own.p.clr), goes := s.p.goes, link := s.p.link }⟩ : AV) W11) (avC_one (⟨s.kind, s.x, { s.p with set := (Ac.both (Ac.less s.p.set t.own.p.clr) t.own.p.set), clr := (Ac.both (Ac.less s.p.clr t.own.p.set) t.own.p.clr), goes := s.p.goes, link := s.p.link }⟩ : AV)) (by unfold maxLen; omega) (by omega) (by have := HT13.out.blw.size; omega) ?_)
            intro zv w14 hown14 hg14 hat14
            have HT14 : Hid (TrA W5 w14 zv (.slice none 0 0) (OO ++ [(⟨s.kind, s.x, { s.p with set := (Ac.both (Ac.less s.p.set t.own.p.clr) t.own.p.set), clr := (Ac.both (Ac.less s.p.clr t.own.p.set) t.own.p.clr), goes := s.p.goes, link := s.p.link }⟩ : AV)]) []) := HT13.out.push (us := [(⟨s.kind, s.x, { s.p with set := (Ac.both (Ac.less s.p.set t.own.p.clr) t.own.p.set), clr := (Ac.both (Ac.less s.p.clr t.own.p.set) t.own.p.clr), goes := s.p.goes, link := s.p.link }⟩ : AV)]) HL8.out rfl (by rw [avCells_one]; exact hown14) hg14 hat14
            have HGO3 : Hid ((OO ++ [(⟨s.kind, s.x, { s.p with set := (Ac.both (Ac.less s.p.set t.own.p.clr) t.own.p.set), clr := (Ac.both (Ac.less s.p.clr t.own.p.set) t.own.p.clr), goes := s.p.goes, link := s.p.link }⟩ : AV)]) ++ joinA LD R = JJ) := by show _ = _; rw [HE.out]; exact HGO4.out
            clear hown14 hg14 hat14
            go_wp2
            go_roundw
            case rel => exact ⟨j + 1, tailR (some ⟨qb, qo, none⟩) qc', m - 1, qc' - 1, R, OO ++ [(⟨s.kind, s.x, { s.p with set := (Ac.both (Ac.less s.p.set t.own.p.clr) t.own.p.set), clr := (Ac.both (Ac.less s.p.clr t.own.p.set) t.own.p.clr), goes := s.p.goes, link := s.p.link }⟩ : AV)], by omega, by go_num, rfl, HRT.out, HRM2.out, HT14.out, by rw [HLD.out]; exact HGO3.out, by rw [HLD.out]; exact HSY2.out⟩
            case measure => simp [intOf]; omega
          · rw [hgo] at f10
            have f11 : W11.cell? ⟨tb, 11, none⟩ = some (.string t.own.p.link) := cell_below (HTB8.out.cell 11) HB11.out
            have z9 : W11.cell? ⟨w8.heap.size, 9, none⟩ = some (.bool s.p.goes) := HZ11.out.cell 9
            have z10 : W11.cell? ⟨w8.heap.size, 10, none⟩ = some (.string s.p.link) := HZ11.out.cell 10
            have y9 := HZ11.out.frozen 9
            have y10 := HZ11.out.frozen 10
            go_upto_region 28 with fail
            go_region
            change Exit.then _ _ Exit.normal _ ((W11.drew.setCell ⟨w8.heap.size, 9, none⟩ (.bool true)).setCell ⟨w8.heap.size, 10, none⟩ (.string t.own.p.link))
            have HZ : Hid (Blk ((W11.drew.setCell ⟨w8.heap.size, 9, none⟩ (.bool true)).setCell ⟨w8.heap.size, 10, none⟩ (.string t.own.p.link)) w8.heap.size (avC (⟨s.kind, s.x, { s.p with set := (Ac.both (Ac.less s.p.set t.own.p.clr) t.own.p.set), clr := (Ac.both (Ac.less s.p.clr t.own.p.set) t.own.p.clr), goes := true, link := t.own.p.link }⟩ : AV)) 81) := Blk.set (cs := avC (⟨s.kind, s.x, { s.p with set := (Ac.both (Ac.less s.p.set t.own.p.clr) t.own.p.set), clr := (Ac.both (Ac.less s.p.clr t.own.p.set) t.own.p.clr), goes := true, link := s.p.link }⟩ : AV)) (HZ11.out.drew.set 9 _) 10 _
            have HBZ : Hid (Below w8.heap.size w8 ((W11.drew.setCell ⟨w8.heap.size, 9, none⟩ (.bool true)).setCell ⟨w8.heap.size, 10, none⟩ (.string t.own.p.link))) := (HB11.out.drew.setCell (Nat.le_refl _) _).setCell (Nat.le_refl _) _
            clear z9 z10 y9 y10 f10 f11 HZ11 HB11
            generalize ((W11.drew.setCell ⟨w8.heap.size, 9, none⟩ (.bool true)).setCell ⟨w8.heap.size, 10, none⟩ (.string t.own.p.link)) = W12 at *
            have HE : Hid ((⟨s.kind, s.x, { s.p with set := (Ac.both (Ac.less s.p.set t.own.p.clr) t.own.p.set), clr := (Ac.both (Ac.less s.p.clr t.own.p.set) t.own.p.clr), goes := true, link := t.own.p.link }⟩ : AV) = thenA s t.own) := by show _ = _; unfold thenA; rw [hgo]; simp
            have z0 : W12.cell? ⟨w8.heap.size, 0, none⟩ = some (.int .i64 s.kind) := HZ.out.cell 0
            have z1 : W12.cell? ⟨w8.heap.size, 1, none⟩ = some (.int .u8 s.x.c.toNat) := HZ.out.cell 1
            have z2 : W12.cell? ⟨w8.heap.size, 2, none⟩ = some (.int .i64 s.x.m) := HZ.out.cell 2
            have z3 : W12.cell? ⟨w8.heap.size, 3, none⟩ = some (.string s.x.l) := HZ.out.cell 3
            have z4 : W12.cell? ⟨w8.heap.size, 4, none⟩ = some (.int .i64 s.p.kind) := HZ.out.cell 4
            have z5 : W12.cell? ⟨w8.heap.size, 5, none⟩ = some (.int .i64 s.p.n) := HZ.out.cell 5
            have z6 : W12.cell? ⟨w8.heap.size, 6, none⟩ = some (.slice s.p.ao s.p.m s.p.cap) := HZ.out.cell 6
            have z7 : W12.cell? ⟨w8.heap.size, 7, none⟩ = some (.int .i64 (Ac.both (Ac.less s.p.set t.own.p.clr) t.own.p.set)) := HZ.out.cell 7
            have z8 : W12.cell? ⟨w8.heap.size, 8, none⟩ = some (.int .i64 (Ac.both (Ac.less s.p.clr t.own.p.set) t.own.p.clr)) := HZ.out.cell 8
            have z9 : W12.cell? ⟨w8.heap.size, 9, none⟩ = some (.bool true) := HZ.out.cell 9
            have z10 : W12.cell? ⟨w8.heap.size, 10, none⟩ = some (.string t.own.p.link) := HZ.out.cell 10
            have HT13 : Hid (TrA W5 (boxa (⟨s.kind, s.x, { s.p with set := (Ac.both (Ac.less s.p.set t.own.p.clr) t.own.p.set), clr := (Ac.both (Ac.less s.p.clr t.own.p.set) t.own.p.clr), goes := true, link := t.own.p.link }⟩ : AV) W12) xw (.slice none 0 0) OO []) := (HT8.out.under HBZ.out).under (boxa_below _ _)
            have HOO13 : Hid ((boxa (⟨s.kind, s.x, { s.p with set := (Ac.both (Ac.less s.p.set t.own.p.clr) t.own.p.set), clr := (Ac.both (Ac.less s.p.clr t.own.p.set) t.own.p.clr), goes := true, link := t.own.p.link }⟩ : AV) W12).ownsRow W5.heap.size 81 11 xw (ol + t.n) (avCells OO)) := by have := HT13.out.ol; rw [HL8.out] at this; exact this
            go_wp2_with (at_builtin; refine wpList_append_row (boxa (⟨s.kind, s.x, { s.p with set := (Ac.both (Ac.less s.p.set t.own.p.clr) t.own.p.set), clr := (Ac.both (Ac.less s.p.clr t.own.p.set) t.own.p.clr), goes := true, link := t.own.p.link }⟩ : AV) W12) rfl (.tmp 137) (.tmp 139) 82 rfl W5.heap.size 81 i0 (.agg #[.int .i64 0, .int .u8 0, .int .i64 0, .string ⟨#[]⟩, .int .i64 0, .int .i64 0, .slice none 0 0, .int .i64 0, .int .i64 0, .bool false, .string ⟨#[]⟩]) 11 120 Tryd.underlying82 hi hz0 hz1 hz2 rfl (by decide) xw (ol + t.n) (avCells OO) rfl HOO13.out (some ⟨W12.heap.size, 0, none⟩) 1 1 (avC (⟨s.kind, s.x, { s.p with set := (Ac.both (Ac.less s.p.set t.own.p.clr) t.own.p.set), clr := (Ac.both (Ac.less s.p.clr t.own.p.set) t.own.p.clr), goes := true, link := t.own.p.link }⟩ : AV)) rfl (boxa_row (⟨s.kind, s.x, { s.p with set := (Ac.both (Ac.less s.p.set t.own.p.clr) t.own.p.set), clr := (Ac.both (Ac.less s.p.clr t.own.p.set) t.own.p.clr), goes := true, link := t.own.p.link }⟩ : AV) W12) (avC_one (⟨s.kind, s.x, { s.p with set := (Ac.both (Ac.less s.p.set t.own.p.clr) t.own.p.set), clr := (Ac.both (Ac.less s.p.clr t.own.p.set) t.own.p.clr), goes := true, link := t.own.p.link }⟩ : AV)) (by unfold maxLen; omega) (by omega) (by have := HT13.out.blw.size; omega) ?_)
            intro zv w14 hown14 hg14 hat14
            have HT14 : Hid (TrA W5 w14 zv (.slice none 0 0) (OO ++ [(⟨s.kind, s.x, { s.p with set := (Ac.both (Ac.less s.p.set t.own.p.clr) t.own.p.set), clr := (Ac.both (Ac.less s.p.clr t.own.p.set) t.own.p.clr), goes := true, link := t.own.p.link }⟩ : AV)]) []) := HT13.out.push (us := [(⟨s.kind, s.x, { s.p with set := (Ac.both (Ac.less s.p.set t.own.p.clr) t.own.p.set), clr := (Ac.both (Ac.less s.p.clr t.own.p.set) t.own.p.clr), goes := true, link := t.own.p.link }⟩ : AV)]) HL8.out rfl (by rw [avCells_one]; exact hown14) hg14 hat14
            have HGO3 : Hid ((OO ++ [(⟨s.kind, s.x, { s.p with set := (Ac.both (Ac.less s.p.set t.own.p.clr) t.own.p.set), clr := (Ac.both (Ac.less s.p.clr t.own.p.set) t.own.p.clr), goes := true, link := t.own.p.link }⟩ : AV)]) ++ joinA LD R = JJ) := by show _ = _; rw [HE.out]; exact HGO4.out
            clear hown14 hg14 hat14
            go_wp2
            go_roundw
            case rel => exact ⟨j + 1, tailR (some ⟨qb, qo, none⟩) qc', m - 1, qc' - 1, R, OO ++ [(⟨s.kind, s.x, { s.p with set := (Ac.both (Ac.less s.p.set t.own.p.clr) t.own.p.set), clr := (Ac.both (Ac.less s.p.clr t.own.p.set) t.own.p.clr), goes := true, link := t.own.p.link }⟩ : AV)], by omega, by go_num, rfl, HRT.out, HRM2.out, HT14.out, by rw [HLD.out]; exact HGO3.out, by rw [HLD.out]; exact HSY2.out⟩
            case measure => simp [intOf]; omega
        · have hb1 : (s.kind == 1) = true := by simp [ks]
          have hb2 : (t.own.kind == 3) = true := by simp [kt]
          have HGO3 : Hid ((OO ++ [t.own]) ++ joinA LD R = JJ) := by show _ = _; rw [← HGO2.out]; unfold ownJ; rw [if_pos ks, if_pos kt, List.append_assoc]
          have hbd2 : ol + t.n + 1 ≤ 6401 := by omega
          clear ks kt
          have HT9 : Hid (TrA W5 (boxa t.own w8) xw (.slice none 0 0) OO []) := HT8.out.under (boxa_below _ _)
          go_wp2_with (at_builtin; refine wpList_append_row (boxa t.own w8) rfl (.tmp 77) (.tmp 80) 82 rfl W5.heap.size 81 i0 (.agg #[.int .i64 0, .int .u8 0, .int .i64 0, .string ⟨#[]⟩, .int .i64 0, .int .i64 0, .slice none 0 0, .int .i64 0, .int .i64 0, .bool false, .string ⟨#[]⟩]) 11 120 Tryd.underlying82 hi hz0 hz1 hz2 rfl (by decide) xw (ol + t.n) (avCells OO) rfl (own_under HOO.out (boxa_below _ _)) (some ⟨w8.heap.size, 0, none⟩) 1 1 (avC t.own) rfl (boxa_row t.own w8) (avC_one t.own) (by unfold maxLen; omega) (by omega) (by have := HT9.out.blw.size; omega) ?_)
          intro zv w10 hown10 hg10 hat10
          have HT10 : Hid (TrA W5 w10 zv (.slice none 0 0) (OO ++ [t.own]) []) := HT9.out.push (us := [t.own]) HL8.out rfl (by rw [avCells_one]; exact hown10) hg10 hat10
          clear hown10 hg10 hat10
          go_wp2
          go_roundw
          case rel => exact ⟨j + 1, tailR (some ⟨qb, qo, none⟩) qc', m - 1, qc' - 1, R, OO ++ [t.own], by omega, by go_num, rfl, HRT.out, HRM2.out, HT10.out, by rw [HLD.out]; exact HGO3.out, by rw [HLD.out]; exact HSY2.out⟩
          case measure => simp [intOf]; omega
        · have hb1 : (s.kind == 1) = false := by simp [ks]
          have hb2 : (t.own.kind == 3) = false := by simp [kt]
          have hb4 : (t.own.kind == 1) = true := by simp [kt]
          have HGO3 : Hid ((OO ++ [chgA s t.own]) ++ joinA LD R = JJ) := by show _ = _; rw [← HGO2.out]; unfold ownJ; rw [if_neg (by omega), if_pos kt, List.append_assoc]
          obtain ⟨m3, m4⟩ := HM2T.out kt
          have CH : Hid (Calls Tryd.prog 42 #[.agg #[.int .u8 s.x.c.toNat, .int .i64 s.x.m, .string s.x.l], .agg #[.int .i64 t.own.p.kind, .int .i64 t.own.p.n, .slice t.own.p.ao t.own.p.m t.own.p.cap, .int .i64 t.own.p.set, .int .i64 t.own.p.clr, .bool t.own.p.goes, .string t.own.p.link] ] w8 fun e w' => e = .returned (.agg #[.int .u8 (Ac.change s.x (Ac.chOf t.own.p.pt)).c.toNat, .int .i64 (Ac.change s.x (Ac.chOf t.own.p.pt)).m, .string (Ac.change s.x (Ac.chOf t.own.p.pt)).l]) ∧ Below w8.heap.size w8 w') := changedR_any s.x t.own.p w8 (HMXJ.out ks) m3 m4
          clear ks kt m3 m4
          go_wp2_with fail
          refine CH.out.mono ?_
          rintro e w9 ⟨rfl, hb9⟩
          have HSB9 : Hid (Blk w9 wr.heap.size (avC s) 81) := (hb9.block _ HSB8.out.lt).trans HSB8.out
          have HSZ : Hid (wr.heap.size < w9.heap.size) := HSB9.out.lt
          have HT9 : Hid (TrA W5 w9 xw (.slice none 0 0) OO []) := HT8.out.under hb9
          clear hb9 a0 a1 a2 a3 a4 a5 a6 a7 a8 a9 a10 f0 f1 f2 f3 f4 f5 f6 f7 f8 f9 f10 f11 CH
          have HC : Hid ((Ac.change s.x (Ac.chOf t.own.p.pt)) = (chgA s t.own).x) := rfl
          generalize (Ac.change s.x (Ac.chOf t.own.p.pt)) = cx at *
          have a1 : w9.cell? ⟨wr.heap.size, 1, none⟩ = some (.int .u8 s.x.c.toNat) := HSB9.out.cell 1
          have a2 : w9.cell? ⟨wr.heap.size, 2, none⟩ = some (.int .i64 s.x.m) := HSB9.out.cell 2
          have a3 : w9.cell? ⟨wr.heap.size, 3, none⟩ = some (.string s.x.l) := HSB9.out.cell 3
          have y1 := HSB9.out.frozen 1
          have y2 := HSB9.out.frozen 2
          have y3 := HSB9.out.frozen 3
          go_upto_region 32 with fail
          have HSB10 : Hid (Blk (((w9.setCell ⟨wr.heap.size, 1, none⟩ (.int .u8 cx.c.toNat)).setCell ⟨wr.heap.size, 2, none⟩ (.int .i64 cx.m)).setCell ⟨wr.heap.size, 3, none⟩ (.string cx.l)) wr.heap.size (avC (⟨s.kind, cx, s.p⟩ : AV)) 81) := Blk.set (cs := avC (⟨s.kind, ⟨cx.c, cx.m, s.x.l⟩, s.p⟩ : AV)) (Blk.set (cs := avC (⟨s.kind, ⟨cx.c, s.x.m, s.x.l⟩, s.p⟩ : AV)) (HSB9.out.set 1 _) 2 _) 3 _
          have HT10 : Hid (TrA W5 (((w9.setCell ⟨wr.heap.size, 1, none⟩ (.int .u8 cx.c.toNat)).setCell ⟨wr.heap.size, 2, none⟩ (.int .i64 cx.m)).setCell ⟨wr.heap.size, 3, none⟩ (.string cx.l)) xw (.slice none 0 0) OO []) := ((HT9.out.poke3 HF8.out.1 HT.out.blw.size).poke3 HF8.out.1 HT.out.blw.size).poke3 HF8.out.1 HT.out.blw.size
          change Code.wp Tryd.prog _ _ _ (((w9.setCell ⟨wr.heap.size, 1, none⟩ (.int .u8 cx.c.toNat)).setCell ⟨wr.heap.size, 2, none⟩ (.int .i64 cx.m)).setCell ⟨wr.heap.size, 3, none⟩ (.string cx.l))
          generalize (((w9.setCell ⟨wr.heap.size, 1, none⟩ (.int .u8 cx.c.toNat)).setCell ⟨wr.heap.size, 2, none⟩ (.int .i64 cx.m)).setCell ⟨wr.heap.size, 3, none⟩ (.string cx.l)) = W10 at *
          clear a1 a2 a3 y1 y2 y3
          have a0 : W10.cell? ⟨wr.heap.size, 0, none⟩ = some (.int .i64 s.kind) := HSB10.out.cell 0
          have a1 : W10.cell? ⟨wr.heap.size, 1, none⟩ = some (.int .u8 cx.c.toNat) := HSB10.out.cell 1
          have a2 : W10.cell? ⟨wr.heap.size, 2, none⟩ = some (.int .i64 cx.m) := HSB10.out.cell 2
          have a3 : W10.cell? ⟨wr.heap.size, 3, none⟩ = some (.string cx.l) := HSB10.out.cell 3
          have a4 : W10.cell? ⟨wr.heap.size, 4, none⟩ = some (.int .i64 s.p.kind) := HSB10.out.cell 4
          have a5 : W10.cell? ⟨wr.heap.size, 5, none⟩ = some (.int .i64 s.p.n) := HSB10.out.cell 5
          have a6 : W10.cell? ⟨wr.heap.size, 6, none⟩ = some (.slice s.p.ao s.p.m s.p.cap) := HSB10.out.cell 6
          have a7 : W10.cell? ⟨wr.heap.size, 7, none⟩ = some (.int .i64 s.p.set) := HSB10.out.cell 7
          have a8 : W10.cell? ⟨wr.heap.size, 8, none⟩ = some (.int .i64 s.p.clr) := HSB10.out.cell 8
          have a9 : W10.cell? ⟨wr.heap.size, 9, none⟩ = some (.bool s.p.goes) := HSB10.out.cell 9
          have a10 : W10.cell? ⟨wr.heap.size, 10, none⟩ = some (.string s.p.link) := HSB10.out.cell 10
          have HT11 : Hid (TrA W5 (boxa (⟨s.kind, cx, s.p⟩ : AV) W10) xw (.slice none 0 0) OO []) := HT10.out.under (boxa_below _ _)
          have HOO11 : Hid ((boxa (⟨s.kind, cx, s.p⟩ : AV) W10).ownsRow W5.heap.size 81 11 xw (ol + t.n) (avCells OO)) := by have := HT11.out.ol; rw [HL8.out] at this; exact this
          go_wp2_with (at_builtin; refine wpList_append_row (boxa (⟨s.kind, cx, s.p⟩ : AV) W10) rfl (.tmp 153) (.tmp 155) 82 rfl W5.heap.size 81 i0 (.agg #[.int .i64 0, .int .u8 0, .int .i64 0, .string ⟨#[]⟩, .int .i64 0, .int .i64 0, .slice none 0 0, .int .i64 0, .int .i64 0, .bool false, .string ⟨#[]⟩]) 11 120 Tryd.underlying82 hi hz0 hz1 hz2 rfl (by decide) xw (ol + t.n) (avCells OO) rfl HOO11.out (some ⟨W10.heap.size, 0, none⟩) 1 1 (avC (⟨s.kind, cx, s.p⟩ : AV)) rfl (boxa_row (⟨s.kind, cx, s.p⟩ : AV) W10) (avC_one (⟨s.kind, cx, s.p⟩ : AV)) (by unfold maxLen; omega) (by omega) (by have := HT11.out.blw.size; omega) ?_)
          intro zv w12 hown12 hg12 hat12
          have HT12 : Hid (TrA W5 w12 zv (.slice none 0 0) (OO ++ [(⟨s.kind, cx, s.p⟩ : AV)]) []) := HT11.out.push (us := [(⟨s.kind, cx, s.p⟩ : AV)]) HL8.out rfl (by rw [avCells_one]; exact hown12) hg12 hat12
          clear hown12 hg12 hat12
          go_wp2
          go_roundw
          case rel => exact ⟨j + 1, tailR (some ⟨qb, qo, none⟩) qc', m - 1, qc' - 1, R, OO ++ [(⟨s.kind, cx, s.p⟩ : AV)], by omega, by go_num, rfl, HRT.out, HRM2.out, HT12.out, by rw [HLD.out]; rw [HC.out]; exact HGO3.out, by rw [HLD.out]; exact HSY2.out⟩
          case measure => simp [intOf]; omega
        · have hb1 : (s.kind == 1) = false := by simp [ks]
          have hb2 : (t.own.kind == 3) = true := by simp [kt]
          have hb4 : (t.own.kind == 1) = false := by simp [kt]
          have HGO3 : Hid (OO ++ joinA LD R = JJ) := by show _ = _; rw [← HGO2.out]; unfold ownJ; rw [if_neg (by omega), if_neg (by omega), List.nil_append]
          clear ks kt
          go_wp2
          go_roundw
          case rel => exact ⟨j + 1, tailR (some ⟨qb, qo, none⟩) qc', m - 1, qc' - 1, R, OO, by omega, by go_num, rfl, HRT.out, HRM2.out, HT8.out, by rw [HLD.out]; exact HGO3.out, by rw [HLD.out]; exact HSY2.out⟩
          case measure => simp [intOf]; omega
    · obtain rfl : j = N := by omega
      have hd : L.drop j = [] := List.drop_eq_nil_of_le (by rw [HNL.out]; exact Nat.le_refl _)
      have HO : Hid (O = JJ) := by have h := HGO.out; rw [hd] at h; rw [← h]; show O = O ++ []; rw [List.append_nil]
      clear hd HGO HSY
      obtain ⟨ol, hol⟩ : ∃ ol, O.length = ol := ⟨_, rfl⟩
      have hbd : ol ≤ 6400 := by have := HJL.out; rw [← HO.out, hol] at this; exact this
      have hox := HT.out.ol
      obtain ⟨xa, xc, hxv, -⟩ := own_row hox
      rw [hol] at hox hxv
      subst hxv
      have HBW : Hid (Below w.heap.size w wr) := HB5.out.trans (HT.out.blw.mono HB5.out.size)
      have CX : Hid (Calls Tryd.prog 39 #[.slice xa ol xc] wr fun e w' => (∃ a m c us, e = .returned (.slice a m c) ∧ Ops w' a m c us ∧ us.map PV.pt = X) ∧ Below wr.heap.size wr w') := by
        rw [← HTX.out, ← HO.out]
        exact tidied_any xa ol xc W5.heap.size O wr hox hol (by omega) (by rw [HO.out]; exact HOKJ.out wr HBW.out)
      clear hox hol
      go_wp2_with fail
      refine CX.out.mono ?_
      rintro e w5 ⟨⟨a0, n0, c0, us, rfl, hO0, hp0⟩, hb5⟩
      have CA : Hid (Calls Tryd.prog 36 #[.slice a0 n0 c0] w5 fun e w'' => e = .returned (.int .i64 (Ac.chk X)) ∧ Below w5.heap.size w5 w'') := by rw [← hp0]; exact CheckOp_any a0 n0 c0 us w5 hO0
      have HB6 : Hid (Below w.heap.size w w5) := HBW.out.trans (hb5.mono HBW.out.size)
      have HO0 : Hid (Ops w5 a0 n0 c0 us) := hO0
      have HPX : Hid (us.map PV.pt = X) := hp0
      obtain ⟨rx, hrx⟩ : ∃ rx, Ac.chk X = rx := ⟨_, rfl⟩
      have HRX : Hid (Ac.chk X = rx) := hrx
      rw [hrx] at CA
      clear hO0 hp0 hb5 hrx
      go_wp2_with fail
      refine CA.out.mono ?_
      rintro e w7 ⟨rfl, hb7⟩
      have H7 : Hid (Below w5.heap.size w5 w7) := hb7
      clear hb7
      by_cases hx : rx = 0
      · subst hx
        go_wp2
        exact bodyPost_ret (v := .tuple #[.slice a0 n0 c0, .int .i64 0]) (by simp [results, Tryd.results12, go_sem]) rfl ⟨by unfold JoinR; rw [HRX.out, if_pos rfl]; exact ⟨a0, n0, c0, us, rfl, HO0.out.below H7.out, HPX.out⟩, HB6.out.trans (H7.out.mono HB6.out.size)⟩
      · have hne : (rx != 0) = true := by simp [hx]
        have HNE : Hid (¬ rx = 0) := hx
        clear hx
        go_wp2
        exact bodyPost_ret (v := .tuple #[.slice none 0 0, .int .i64 rx]) (by simp [results, Tryd.results12, go_sem]) rfl ⟨by unfold JoinR; rw [HRX.out, if_neg HNE.out]; exact joinP_nil rx w7, HB6.out.trans (H7.out.mono HB6.out.size)⟩
end Go.Proofs.YtbhcklkbckacpaaDoor
