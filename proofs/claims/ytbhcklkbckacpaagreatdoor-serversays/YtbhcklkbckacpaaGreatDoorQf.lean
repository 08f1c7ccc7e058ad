/-
  The reference's Turned.
-/
import Derived.Test.YtbhcklkbckacpaaGreatDoorQe
import Derived.Deep.RegionHeld3
import Derived.Deep.CutRange
namespace Go.Proofs.YtbhcklkbckacpaaGreatDoor
open Go.RowKit
def TurnR (X Y : List Ac.Pt) (e : Ending) (w' : World) : Prop := TurnP (if Ac.fst2 X Y = 0 then X else []) (if Ac.fst2 X Y = 0 then Y else []) (Ac.fst2 X Y) e w'
theorem turnR_bad {X Y : List Ac.Pt} {r : Int} (w' : World) (h : Ac.fst2 X Y = r) (hr : ¬ r = 0) : TurnR X Y (.returned (.tuple #[.slice none 0 0, .slice none 0 0, .int .i64 r])) w' := by
  unfold TurnR
  rw [h, if_neg hr, if_neg hr]
  exact turnP_nil r w'
theorem acts_m4 {vs : List PV} (h : ∀ v ∈ vs, Ac.err1 v.pt = 0) : ∀ a ∈ actsV vs, a.kind = 1 → Ac.m4 a.p.set ∧ Ac.m4 a.p.clr := by
  intro a ha k
  obtain ⟨v, hv, ha⟩ := List.mem_flatMap.1 ha
  have he := h v hv
  unfold actV at ha
  split at ha
  · obtain ⟨x, _, rfl⟩ := List.mem_map.1 ha
    exact absurd (show (2 : Int) = 1 from k) (by decide)
  · obtain ⟨_, rfl⟩ := List.mem_replicate.1 ha
    have := Ac.keep_m4 he k
    exact ⟨this.1, this.2.1⟩
theorem own_m4 {vs : List PV} {R : List RwV} (h : ∀ v ∈ vs, Ac.err1 v.pt = 0) (e : flatR R = actsV vs) : ∀ r ∈ R, r.own.kind = 1 → Ac.m4 r.own.p.set ∧ Ac.m4 r.own.p.clr := fun r hr => acts_m4 h _ (by rw [← e]; exact List.mem_flatMap.2 ⟨r, hr, by simp⟩)
theorem less_and {a b : Int} {av : Nat} (ha : Ac.m4 a) (h : a.toNat &&& b.toNat = av) : a - (av : Int) = Ac.less a b ∧ av ≤ 3 := by
  have hle : a.toNat &&& b.toNat ≤ a.toNat := Nat.and_le_left
  have h1 := ha.1
  have h2 := ha.2
  unfold Ac.less
  rw [h] at hle ⊢
  exact ⟨by omega, by omega⟩
theorem and_m4 {a b : Int} (ha : Ac.m4 a) (hb : Ac.m4 b) : bits .and .i64 a b = ((a.toNat &&& b.toNat : Nat) : Int) := bits_and (by unfold Ac.areM; simp; exact ha) (by unfold Ac.areM; simp; exact hb)
theorem ob_of {v : Value} {k : Nat} (e : v.ownBlock = some k) : k ∈ ob v := by unfold ob; rw [e]; simp
theorem kept_more {a b c : World} {S T : List Nat} (h : Kept a b S) (k : Kept b c T) (hT : ∀ i, i < a.heap.size → i ∈ T → i ∈ S) : Kept a c S :=
  ⟨k.os.trans h.os, k.tape.trans h.tape, k.output.trans h.output, Nat.le_trans h.size k.size, fun i hi hn => (k.block i (Nat.lt_of_lt_of_le hi h.size) (fun hx => hn (hT i hi hx))).trans (h.block i hi hn)⟩
theorem kept_twice {w0 wa w7 wb w9 : World} {lv xv : Value} (h0 : Kept w0 wa (ob lv)) (hg : wa.grownBy w7 lv.ownBlock) (hat : ∀ k, xv.ownBlock = some k → lv.ownBlock = some k ∨ k = wa.heap.size) (h1 : Kept w7 wb (ob lv)) (hg2 : wb.grownBy w9 xv.ownBlock) : Kept w0 w9 (ob lv) := by
  have h2 := (h0.trans (grown_kept hg)).trans h1
  refine kept_more h2 (grown_kept hg2) (fun k hk hx => ?_)
  rcases hat k (ob_mem hx) with e | e
  · unfold ob; rw [e]; simp
  · have := h0.size; omega
theorem boxw_size (r : RwV) (w : World) : (boxw r w).heap.size = w.heap.size + 1 := World.size_alloc ..
theorem flatR_take_len (R : List RwV) (j : Nat) : (flatR (R.take j)).length ≤ (flatR R).length := by
  have h : flatR R = flatR (R.take j) ++ flatR (R.drop j) := by rw [← flatR_app, List.take_append_drop]
  rw [h, List.length_append]
  omega
theorem RowsOf.long {w : World} {oa : Option Addr} {on oc : Nat} {R : List RwV} {vs : List PV} (h : RowsOf w oa on oc R vs) (r : Ac.Right (vs.map PV.pt)) : (flatR R).length ≤ 3200 := by
  have h1 := actsV_len (vs := vs) (fun v hv => r.ok _ (List.mem_map.2 ⟨v, hv, rfl⟩))
  have h2 := r.few
  rw [List.length_map] at h2
  rw [h.flat]
  omega
theorem made_bd {w : World} {oa oa' : Option Addr} {on oc on' oc' : Nat} {R Q : List RwV} {Z : List (RwV × RwV)} {vs vs' : List PV} (hZ : R.zip Q = Z) (hL : R.length = Q.length) (h : RowsOf w oa on oc R vs) (h' : RowsOf w oa' on' oc' Q vs') (r : Ac.Right (vs.map PV.pt)) (r' : Ac.Right (vs'.map PV.pt)) (j : Nat) : (madeX (Z.take j)).length ≤ 10000 ∧ (madeY (Z.take j)).length ≤ 10000 := by
  have h1 := made_len (Z.take j)
  have e1 : (Z.take j).map Prod.fst = R.take j := by rw [List.map_take, ← hZ, (zip_rows hL).1]
  have e2 : (Z.take j).map Prod.snd = Q.take j := by rw [List.map_take, ← hZ, (zip_rows hL).2]
  rw [e1, e2] at h1
  have h2 := flatR_take_len R j
  have h3 := flatR_take_len Q j
  have h4 := h.long r
  have h5 := h'.long r'
  omega

set_option maxRecDepth 100000 in
set_option maxHeartbeats 12800000 in
theorem turnedR_main (ao ao' : Option Addr) (n cap n' cap' : Nat) (vs vs' : List PV) (w : World) (hO : Ops w ao n cap vs) (hO' : Ops w ao' n' cap' vs') (hE : Ac.fst2 (vs.map PV.pt) (vs'.map PV.pt) = 0) (hN : Ac.nd (vs.map PV.pt) = Ac.nd (vs'.map PV.pt)) :
    Calls Tryz.prog 93 #[.slice ao n cap, .slice ao' n' cap'] w fun e w' => TurnR (Ac.tx (vs.map PV.pt) (vs'.map PV.pt)) (Ac.ty (vs.map PV.pt) (vs'.map PV.pt)) e w' ∧ Below w.heap.size w w' := by
  obtain ⟨i0, hi, hz0, hz1, hz2⟩ := info_parts Tryz.infA
  obtain ⟨X, hX⟩ : ∃ X, Ac.tx (vs.map PV.pt) (vs'.map PV.pt) = X := ⟨_, rfl⟩
  obtain ⟨Y, hY⟩ : ∃ Y, Ac.ty (vs.map PV.pt) (vs'.map PV.pt) = Y := ⟨_, rfl⟩
  rw [hX, hY]
  have HX : Hid (Ac.tx (vs.map PV.pt) (vs'.map PV.pt) = X) := hX
  have HY : Hid (Ac.ty (vs.map PV.pt) (vs'.map PV.pt) = Y) := hY
  clear hX hY
  have C0 : Hid (∀ w', Below w.heap.size w w' → Calls Tryz.prog 102 #[.slice ao n cap] w' fun e w'' => e = .returned (.int .i64 (Ac.chk (vs.map PV.pt))) ∧ Below w'.heap.size w' w'') := fun w' hb => CheckOp_any ao n cap vs w' (hO.below hb)
  have C1 : Hid (∀ w', Below w.heap.size w w' → Calls Tryz.prog 102 #[.slice ao' n' cap'] w' fun e w'' => e = .returned (.int .i64 (Ac.chk (vs'.map PV.pt))) ∧ Below w'.heap.size w' w'') := fun w' hb => CheckOp_any ao' n' cap' vs' w' (hO'.below hb)
  have HB0 : Hid (Blk (boxt (.slice ao n cap) (.slice ao' n' cap') w) w.heap.size [.slice ao n cap, .slice ao' n' cap'] 44) := boxt_blk _ _ _
  have H1 : Hid (Below w.heap.size w (boxt (.slice ao n cap) (.slice ao' n' cap') w)) := boxt_below _ _ _
  have hc := Ac.fst2_chk hE
  obtain ⟨r1, r2⟩ := Ac.fst2_right hE
  have CR : Hid (∀ w', Below w.heap.size w w' → Calls Tryz.prog 166 #[.slice ao n cap] w' fun e w'' => (∃ oa oc R, e = .returned (.slice oa (Ac.nd (vs.map PV.pt)) oc) ∧ RowsOf w'' oa (Ac.nd (vs.map PV.pt)) oc R vs) ∧ Below w'.heap.size w' w'') := fun w' hb => rowsR_any ao n cap vs w' (hO.below hb) r1
  have CQ : Hid (∀ w', Below w.heap.size w w' → Calls Tryz.prog 166 #[.slice ao' n' cap'] w' fun e w'' => (∃ oa oc R, e = .returned (.slice oa (Ac.nd (vs'.map PV.pt)) oc) ∧ RowsOf w'' oa (Ac.nd (vs'.map PV.pt)) oc R vs') ∧ Below w'.heap.size w' w'') := fun w' hb => rowsR_any ao' n' cap' vs' w' (hO'.below hb) r2
  rw [hc.1] at C0
  rw [hc.2] at C1
  have hk80 : Ac.nd (vs.map PV.pt) ≤ 80 := r1.sum
  have HOP : Hid (∀ w', Below w.heap.size w w' → (∀ v ∈ vs, Pvt w' v) ∧ ∀ v ∈ vs', Pvt w' v) := fun w' hb => ⟨fun v hv => (hO.pts v hv).below hb, fun v hv => (hO'.pts v hv).below hb⟩
  clear hO hO' hE hc
  rw [← hN] at CQ
  generalize Ac.nd (vs.map PV.pt) = k at *
  clear hN
  go_enter Tryz.func93, Tryz.ntmps93
  go_wp2_with fail
  change Code.wp Tryz.prog _ _ _ (boxt (.slice ao n cap) (.slice ao' n' cap') w)
  generalize boxt (.slice ao n cap) (.slice ao' n' cap') w = W at *
  refine wp_loop_rounds 3 ?_
  rw [rounds_succ]
  have c0 : W.cell? ⟨w.heap.size, 0, none⟩ = some (.slice ao n cap) := HB0.out.cell 0
  go_wp2_with fail
  refine (C0.out _ H1.out).mono ?_
  rintro e w1 ⟨rfl, hb⟩
  have H2 : Hid (Below w.heap.size w w1) := H1.out.trans (hb.mono H1.out.size)
  have c1 : w1.cell? ⟨w.heap.size, 1, none⟩ = some (.slice ao' n' cap') := cell_below (HB0.out.cell 1) hb
  clear hb c0
  go_wp2_with fail
  rw [rounds_succ]
  go_wp2_with fail
  refine (C1.out _ H2.out).mono ?_
  rintro e w2 ⟨rfl, hb⟩
  have H3 : Hid (Below w.heap.size w w2) := H2.out.trans (hb.mono H2.out.size)
  clear hb c1
  go_wp2_with fail
  rw [rounds_succ]
  go_wp2_with fail
  refine (CR.out _ H3.out).mono ?_
  rintro e w3 ⟨⟨pa, pc, R, rfl, hRW⟩, hb⟩
  have H4 : Hid (Below w.heap.size w w3) := H3.out.trans (hb.mono H3.out.size)
  clear hb
  go_wp2_with fail
  refine (CQ.out _ H4.out).mono ?_
  rintro e w4 ⟨⟨qa, qc, Q, rfl, hQW⟩, hb⟩
  have H5 : Hid (Below w.heap.size w w4) := H4.out.trans (hb.mono H4.out.size)
  have HRW : Hid (RowsOf w4 pa k pc R vs) := hRW.below hb
  have HQW : Hid (RowsOf w4 qa k qc Q vs') := hQW
  have hpc := hRW.row.room
  have hqc := hQW.row.room
  have hpb := hRW.row.big
  have hqb := hQW.row.big
  clear hb hRW hQW
  clear C0 C1 CR CQ HB0 H1 H2 H3 H4
  have HK5 : Hid (Blk (boxa keepA w4) w4.heap.size (avC keepA) 196) := boxa_blk keepA w4
  have H6 : Hid (Below w4.heap.size w4 (boxa keepA w4)) := boxa_below keepA w4
  have HZL : Hid (R.length = Q.length) := by have := HRW.out.len; have := HQW.out.len; show _ = _; omega
  have HRL : Hid (R.length = k) := HRW.out.len
  obtain ⟨Z, hZ⟩ : ∃ Z, R.zip Q = Z := ⟨_, rfl⟩
  have HZS : Hid (∀ i (hi : i < R.length), Z.take (i + 1) = Z.take i ++ [(R[i], Q[i]'(by have := HZL.out; omega))]) := fun i hi => by rw [← hZ]; exact zip_step HZL.out i hi
  have HZO : Hid (∀ z ∈ Z, RwK z.1 ∧ RwK z.2) := fun z hz => by
    rw [← hZ] at hz
    exact ⟨HRW.out.ok _ (List.of_mem_zip hz).1, HQW.out.ok _ (List.of_mem_zip hz).2⟩
  have HZLN : Hid (∀ j, (madeX (Z.take j)).length ≤ 10000 ∧ (madeY (Z.take j)).length ≤ 10000) := made_bd hZ HZL.out HRW.out HQW.out r1 r2
  have HZN : Hid (Z.length = k) := by show _ = _; rw [← hZ, List.length_zip]; have := HZL.out; have := HRL.out; omega
  have e1 : Z.map Prod.fst = R := by rw [← hZ]; exact (zip_rows HZL.out).1
  have e2 : Z.map Prod.snd = Q := by rw [← hZ]; exact (zip_rows HZL.out).2
  have ok1 : ∀ v ∈ vs, Ac.err1 v.pt = 0 := fun v hv => r1.ok _ (List.mem_map.2 ⟨v, hv, rfl⟩)
  have ok2 : ∀ v ∈ vs', Ac.err1 v.pt = 0 := fun v hv => r2.ok _ (List.mem_map.2 ⟨v, hv, rfl⟩)
  have HOKZ : Hid (∀ w', Below w.heap.size w w' → (∀ a ∈ madeX Z, Ac.OkT w' a) ∧ ∀ a ∈ madeY Z, Ac.OkT w' a) := fun w' hb => made_okT (by rw [e1, HRW.out.flat]; exact Ac.okT_acts ok1 (HOP.out w' hb).1) (by rw [e2, HQW.out.flat]; exact Ac.okT_acts ok2 (HOP.out w' hb).2)
  have htr : Ac.turn (Ac.acts (vs.map PV.pt)) (Ac.acts (vs'.map PV.pt)) = ((madeX Z).map Ac.toA, (madeY Z).map Ac.toA) := by
    have h := turn_rows Z HZO.out
    rw [e1, e2, HRW.out.flat, HQW.out.flat, Ac.acts_toA ok1, Ac.acts_toA ok2] at h
    exact h
  have HTX : Hid (Ac.tdy [] [] 0 ((madeX Z).map Ac.toA) = X) := by show _ = _; rw [← HX.out]; unfold Ac.tx Ac.tA; rw [htr]
  have HTY : Hid (Ac.tdy [] [] 0 ((madeY Z).map Ac.toA) = Y) := by show _ = _; rw [← HY.out]; unfold Ac.ty Ac.tA; rw [htr]
  have HM1 : Hid (∀ r ∈ R, r.own.kind = 1 → Ac.m4 r.own.p.set ∧ Ac.m4 r.own.p.clr) := own_m4 ok1 HRW.out.flat
  have HM2 : Hid (∀ r ∈ Q, r.own.kind = 1 → Ac.m4 r.own.p.set ∧ Ac.m4 r.own.p.clr) := own_m4 ok2 HQW.out.flat
  clear htr e1 e2 ok1 ok2 HOP
  clear hZ r1 r2
  go_wp2_with fail
  change Code.wp Tryz.prog _ _ _ (boxa keepA w4)
  generalize boxa keepA w4 = W5 at *
  go_loopw [13, 14, 48] (fun lv mv i wr => ∃ j : Nat, j ≤ k ∧ i = .int .i64 j ∧ TrA W5 wr lv mv (madeX (Z.take j)) (madeY (Z.take j))) (fun _ _ i _ => k - (intOf i).toNat)
  case atStart => exact ⟨0, Nat.zero_le _, rfl, TrA.start W5⟩
  case round =>
    obtain ⟨j, hj, rfl, hT⟩ := hrel
    have HT : Hid (TrA W5 wr u13 u14 (madeX (Z.take j)) (madeY (Z.take j))) := hT
    clear hT
    by_cases hlt : j < k
    · have hjR : j < R.length := by rw [HRL.out]; exact hlt
      have hjQ : j < Q.length := by rw [← HZL.out]; exact hjR
      obtain ⟨pb, po, rfl, -⟩ := HRW.out.row.lies (by omega)
      obtain ⟨qb, qo, rfl, -⟩ := HQW.out.row.lies (by omega)
      have HB : Hid (Below w4.heap.size w4 wr) := H6.out.trans (HT.out.blw.mono H6.out.size)
      have hs1 := HRW.out.below HB.out
      have hs2 := HQW.out.below HB.out
      have hA := hs1.at j hjR
      have hQ := hs2.at j hjQ
      have HP1 : Hid (Row wr R[j].ao R[j].n R[j].cap 11 (avCells R[j].put)) := hs1.puts _ (List.getElem_mem hjR)
      have HP2 : Hid (Row wr Q[j].ao Q[j].n Q[j].cap 11 (avCells Q[j].put)) := hs2.puts _ (List.getElem_mem hjQ)
      have HK1 : Hid (RwK R[j]) := hs1.ok _ (List.getElem_mem hjR)
      have HK2 : Hid (RwK Q[j]) := hs2.ok _ (List.getElem_mem hjQ)
      have HN1 : Hid (R[j].own.kind = 1 → Ac.m4 R[j].own.p.set ∧ Ac.m4 R[j].own.p.clr) := HM1.out _ (List.getElem_mem hjR)
      have HN2 : Hid (Q[j].own.kind = 1 → Ac.m4 Q[j].own.p.set ∧ Ac.m4 Q[j].own.p.clr) := HM2.out _ (List.getElem_mem hjQ)
      have HST : Hid (Z.take (j + 1) = Z.take j ++ [(R[j], Q[j])]) := HZS.out j hjR
      have HLX := HZLN.out (j + 1)
      rw [HST.out] at HLX
      have HPP : Hid (∀ w', Below W5.heap.size W5 w' → Row w' R[j].ao R[j].n R[j].cap 11 (avCells R[j].put) ∧ Row w' Q[j].ao Q[j].n Q[j].cap 11 (avCells Q[j].put)) := fun w' hb =>
        ⟨(HRW.out.below (H6.out.trans (hb.mono H6.out.size))).puts _ (List.getElem_mem hjR), (HQW.out.below (H6.out.trans (hb.mono H6.out.size))).puts _ (List.getElem_mem hjQ)⟩
      clear hs1 hs2
      generalize R[j] = s at *
      generalize Q[j] = t at *
      obtain ⟨lx, hlx⟩ : ∃ lx, madeX (Z.take j) = lx := ⟨_, rfl⟩
      obtain ⟨ly, hly⟩ : ∃ ly, madeY (Z.take j) = ly := ⟨_, rfl⟩
      have c0 : wr.cell? ⟨pb, po + j * 12, none⟩ = some (.slice s.ao s.n s.cap) := hA 0 (by decide) _ rfl
      have c1 : wr.cell? ⟨pb, po + j * 12 + 1, none⟩ = some (.int .i64 s.own.kind) := hA 1 (by decide) _ rfl
      have c2 : wr.cell? ⟨pb, po + j * 12 + 2, none⟩ = some (.int .u8 s.own.x.c.toNat) := hA 2 (by decide) _ rfl
      have c3 : wr.cell? ⟨pb, po + j * 12 + 3, none⟩ = some (.int .i64 s.own.x.m) := hA 3 (by decide) _ rfl
      have c4 : wr.cell? ⟨pb, po + j * 12 + 4, none⟩ = some (.string s.own.x.l) := hA 4 (by decide) _ rfl
      have c5 : wr.cell? ⟨pb, po + j * 12 + 5, none⟩ = some (.int .i64 s.own.p.kind) := hA 5 (by decide) _ rfl
      have c6 : wr.cell? ⟨pb, po + j * 12 + 6, none⟩ = some (.int .i64 s.own.p.n) := hA 6 (by decide) _ rfl
      have c7 : wr.cell? ⟨pb, po + j * 12 + 7, none⟩ = some (.slice s.own.p.ao s.own.p.m s.own.p.cap) := hA 7 (by decide) _ rfl
      have c8 : wr.cell? ⟨pb, po + j * 12 + 8, none⟩ = some (.int .i64 s.own.p.set) := hA 8 (by decide) _ rfl
      have c9 : wr.cell? ⟨pb, po + j * 12 + 9, none⟩ = some (.int .i64 s.own.p.clr) := hA 9 (by decide) _ rfl
      have c10 : wr.cell? ⟨pb, po + j * 12 + 10, none⟩ = some (.bool s.own.p.goes) := hA 10 (by decide) _ rfl
      have c11 : wr.cell? ⟨pb, po + j * 12 + 11, none⟩ = some (.string s.own.p.link) := hA 11 (by decide) _ rfl
      have d0 : wr.cell? ⟨qb, qo + j * 12, none⟩ = some (.slice t.ao t.n t.cap) := hQ 0 (by decide) _ rfl
      have d1 : wr.cell? ⟨qb, qo + j * 12 + 1, none⟩ = some (.int .i64 t.own.kind) := hQ 1 (by decide) _ rfl
      have d2 : wr.cell? ⟨qb, qo + j * 12 + 2, none⟩ = some (.int .u8 t.own.x.c.toNat) := hQ 2 (by decide) _ rfl
      have d3 : wr.cell? ⟨qb, qo + j * 12 + 3, none⟩ = some (.int .i64 t.own.x.m) := hQ 3 (by decide) _ rfl
      have d4 : wr.cell? ⟨qb, qo + j * 12 + 4, none⟩ = some (.string t.own.x.l) := hQ 4 (by decide) _ rfl
      have d5 : wr.cell? ⟨qb, qo + j * 12 + 5, none⟩ = some (.int .i64 t.own.p.kind) := hQ 5 (by decide) _ rfl
      have d6 : wr.cell? ⟨qb, qo + j * 12 + 6, none⟩ = some (.int .i64 t.own.p.n) := hQ 6 (by decide) _ rfl
      have d7 : wr.cell? ⟨qb, qo + j * 12 + 7, none⟩ = some (.slice t.own.p.ao t.own.p.m t.own.p.cap) := hQ 7 (by decide) _ rfl
      have d8 : wr.cell? ⟨qb, qo + j * 12 + 8, none⟩ = some (.int .i64 t.own.p.set) := hQ 8 (by decide) _ rfl
      have d9 : wr.cell? ⟨qb, qo + j * 12 + 9, none⟩ = some (.int .i64 t.own.p.clr) := hQ 9 (by decide) _ rfl
      have d10 : wr.cell? ⟨qb, qo + j * 12 + 10, none⟩ = some (.bool t.own.p.goes) := hQ 10 (by decide) _ rfl
      have d11 : wr.cell? ⟨qb, qo + j * 12 + 11, none⟩ = some (.string t.own.p.link) := hQ 11 (by decide) _ rfl
      have HALL : Hid (∀ w', Below wr.heap.size wr w' → w'.cell? ⟨pb, po + j * 12, none⟩ = some (.slice s.ao s.n s.cap) ∧ w'.cell? ⟨pb, po + j * 12 + 1, none⟩ = some (.int .i64 s.own.kind) ∧ w'.cell? ⟨pb, po + j * 12 + 2, none⟩ = some (.int .u8 s.own.x.c.toNat) ∧ w'.cell? ⟨pb, po + j * 12 + 3, none⟩ = some (.int .i64 s.own.x.m) ∧ w'.cell? ⟨pb, po + j * 12 + 4, none⟩ = some (.string s.own.x.l) ∧ w'.cell? ⟨pb, po + j * 12 + 5, none⟩ = some (.int .i64 s.own.p.kind) ∧ w'.cell? ⟨pb, po + j * 12 + 6, none⟩ = some (.int .i64 s.own.p.n) ∧ w'.cell? ⟨pb, po + j * 12 + 7, none⟩ = some (.slice s.own.p.ao s.own.p.m s.own.p.cap) ∧ w'.cell? ⟨pb, po + j * 12 + 8, none⟩ = some (.int .i64 s.own.p.set) ∧ w'.cell? ⟨pb, po + j * 12 + 9, none⟩ = some (.int .i64 s.own.p.clr) ∧ w'.cell? ⟨pb, po + j * 12 + 10, none⟩ = some (.bool s.own.p.goes) ∧ w'.cell? ⟨pb, po + j * 12 + 11, none⟩ = some (.string s.own.p.link) ∧ w'.cell? ⟨qb, qo + j * 12, none⟩ = some (.slice t.ao t.n t.cap) ∧ w'.cell? ⟨qb, qo + j * 12 + 1, none⟩ = some (.int .i64 t.own.kind) ∧ w'.cell? ⟨qb, qo + j * 12 + 2, none⟩ = some (.int .u8 t.own.x.c.toNat) ∧ w'.cell? ⟨qb, qo + j * 12 + 3, none⟩ = some (.int .i64 t.own.x.m) ∧ w'.cell? ⟨qb, qo + j * 12 + 4, none⟩ = some (.string t.own.x.l) ∧ w'.cell? ⟨qb, qo + j * 12 + 5, none⟩ = some (.int .i64 t.own.p.kind) ∧ w'.cell? ⟨qb, qo + j * 12 + 6, none⟩ = some (.int .i64 t.own.p.n) ∧ w'.cell? ⟨qb, qo + j * 12 + 7, none⟩ = some (.slice t.own.p.ao t.own.p.m t.own.p.cap) ∧ w'.cell? ⟨qb, qo + j * 12 + 8, none⟩ = some (.int .i64 t.own.p.set) ∧ w'.cell? ⟨qb, qo + j * 12 + 9, none⟩ = some (.int .i64 t.own.p.clr) ∧ w'.cell? ⟨qb, qo + j * 12 + 10, none⟩ = some (.bool t.own.p.goes) ∧ w'.cell? ⟨qb, qo + j * 12 + 11, none⟩ = some (.string t.own.p.link)) := fun w' hb => ⟨cell_below c0 hb, cell_below c1 hb, cell_below c2 hb, cell_below c3 hb, cell_below c4 hb, cell_below c5 hb, cell_below c6 hb, cell_below c7 hb, cell_below c8 hb, cell_below c9 hb, cell_below c10 hb, cell_below c11 hb, cell_below d0 hb, cell_below d1 hb, cell_below d2 hb, cell_below d3 hb, cell_below d4 hb, cell_below d5 hb, cell_below d6 hb, cell_below d7 hb, cell_below d8 hb, cell_below d9 hb, cell_below d10 hb, cell_below d11 hb⟩
      clear hA hQ
      go_upto_region 16 with fail
      go_cut [16, 17] from 49 to 169 (fun sv tv wx => ∃ sb tb : Nat, sv = .pointer (some ⟨sb, 0, none⟩) ∧ tv = .pointer (some ⟨tb, 0, none⟩) ∧ wr.heap.size ≤ sb ∧ wr.heap.size ≤ tb ∧ Blk wx sb (rwC s) 205 ∧ Blk wx tb (rwC t) 205 ∧ Below wr.heap.size wr wx)
      case first =>
        go_region_held3 (fun w' => w'.cell? ⟨pb, po + j * 12, none⟩ = some (.slice s.ao s.n s.cap) ∧ w'.cell? ⟨pb, po + j * 12 + 1, none⟩ = some (.int .i64 s.own.kind) ∧ w'.cell? ⟨pb, po + j * 12 + 2, none⟩ = some (.int .u8 s.own.x.c.toNat) ∧ w'.cell? ⟨pb, po + j * 12 + 3, none⟩ = some (.int .i64 s.own.x.m) ∧ w'.cell? ⟨pb, po + j * 12 + 4, none⟩ = some (.string s.own.x.l) ∧ w'.cell? ⟨pb, po + j * 12 + 5, none⟩ = some (.int .i64 s.own.p.kind) ∧ w'.cell? ⟨pb, po + j * 12 + 6, none⟩ = some (.int .i64 s.own.p.n) ∧ w'.cell? ⟨pb, po + j * 12 + 7, none⟩ = some (.slice s.own.p.ao s.own.p.m s.own.p.cap) ∧ w'.cell? ⟨pb, po + j * 12 + 8, none⟩ = some (.int .i64 s.own.p.set) ∧ w'.cell? ⟨pb, po + j * 12 + 9, none⟩ = some (.int .i64 s.own.p.clr) ∧ w'.cell? ⟨pb, po + j * 12 + 10, none⟩ = some (.bool s.own.p.goes) ∧ w'.cell? ⟨pb, po + j * 12 + 11, none⟩ = some (.string s.own.p.link) ∧ w'.cell? ⟨qb, qo + j * 12, none⟩ = some (.slice t.ao t.n t.cap) ∧ w'.cell? ⟨qb, qo + j * 12 + 1, none⟩ = some (.int .i64 t.own.kind) ∧ w'.cell? ⟨qb, qo + j * 12 + 2, none⟩ = some (.int .u8 t.own.x.c.toNat) ∧ w'.cell? ⟨qb, qo + j * 12 + 3, none⟩ = some (.int .i64 t.own.x.m) ∧ w'.cell? ⟨qb, qo + j * 12 + 4, none⟩ = some (.string t.own.x.l) ∧ w'.cell? ⟨qb, qo + j * 12 + 5, none⟩ = some (.int .i64 t.own.p.kind) ∧ w'.cell? ⟨qb, qo + j * 12 + 6, none⟩ = some (.int .i64 t.own.p.n) ∧ w'.cell? ⟨qb, qo + j * 12 + 7, none⟩ = some (.slice t.own.p.ao t.own.p.m t.own.p.cap) ∧ w'.cell? ⟨qb, qo + j * 12 + 8, none⟩ = some (.int .i64 t.own.p.set) ∧ w'.cell? ⟨qb, qo + j * 12 + 9, none⟩ = some (.int .i64 t.own.p.clr) ∧ w'.cell? ⟨qb, qo + j * 12 + 10, none⟩ = some (.bool t.own.p.goes) ∧ w'.cell? ⟨qb, qo + j * 12 + 11, none⟩ = some (.string t.own.p.link)) (first | go_keep | exact HALL.out _ (by repeat (first | exact Below.refl _ _ | refine Below.setCell ?_ (by simp) _ | refine Below.alloc ?_ (by simp) _ | refine Below.drew ?_))) (fail)
        · first | go_meet | (go_wp2_with fail; go_meet)
          case rel => exact ⟨wr.heap.size, wr.heap.size + 1, rfl, rfl, by omega, by omega, (boxw_blk s wr).alloc _, (by have := boxw_blk t (boxw s wr); rw [boxw_size] at this; exact this), (((Below.refl _ _).alloc (Nat.le_refl _) _).alloc (by simp) _).drew⟩
        · first | go_meet | (go_wp2_with fail; go_meet)
          case rel => exact ⟨wr.heap.size + 1, wr.heap.size, rfl, rfl, by omega, by omega, (by have := boxw_blk s (boxw t wr); rw [boxw_size] at this; exact this), (boxw_blk t wr).alloc _, (((Below.refl _ _).alloc (Nat.le_refl _) _).alloc (by simp) _).drew⟩
      case rest =>
        obtain ⟨sb, tb, rfl, rfl, hsb, htb, hSB, hTB, hW6⟩ := hcut
        have HSB : Hid (Blk wc sb (rwC s) 205) := hSB
        have HTB : Hid (Blk wc tb (rwC t) 205) := hTB
        have HW6 : Hid (Below wr.heap.size wr wc) := hW6
        clear hSB hTB hW6
        generalize wc = W6 at *
        have HT6 : Hid (TrA W5 W6 u13 u14 lx ly) := by have := HT.out.under HW6.out; rw [hlx, hly] at this; exact this
        have HKB : Hid (Blk W6 w4.heap.size (avC keepA) 196) := (HW6.out.block _ (by have := HT.out.blw.size; have := HK5.out.lt; omega)).trans ((HT.out.blw.block _ HK5.out.lt).trans HK5.out)
        have HALL2 : Hid (∀ w', Kept W6 w' (ob u13) → w'.cell? ⟨w4.heap.size, 0, none⟩ = some (.int .i64 1) ∧ w'.cell? ⟨w4.heap.size, 1, none⟩ = some (.int .u8 0) ∧ w'.cell? ⟨w4.heap.size, 2, none⟩ = some (.int .i64 0) ∧ w'.cell? ⟨w4.heap.size, 3, none⟩ = some (.string ⟨#[]⟩) ∧ w'.cell? ⟨w4.heap.size, 4, none⟩ = some (.int .i64 1) ∧ w'.cell? ⟨w4.heap.size, 5, none⟩ = some (.int .i64 1) ∧ w'.cell? ⟨w4.heap.size, 6, none⟩ = some (.slice none 0 0) ∧ w'.cell? ⟨w4.heap.size, 7, none⟩ = some (.int .i64 0) ∧ w'.cell? ⟨w4.heap.size, 8, none⟩ = some (.int .i64 0) ∧ w'.cell? ⟨w4.heap.size, 9, none⟩ = some (.bool false) ∧ w'.cell? ⟨w4.heap.size, 10, none⟩ = some (.string ⟨#[]⟩) ∧ w'.cell? ⟨sb, 0, none⟩ = some (.slice s.ao s.n s.cap) ∧ w'.cell? ⟨tb, 0, none⟩ = some (.slice t.ao t.n t.cap)) := fun w' hk => by
          have b1 := hk.blk HKB.out (fun hx => by have := ob_lo HT6.out.ol _ hx; have := HK5.out.lt; omega)
          have b2 := hk.blk HSB.out (HT.out.far (by omega)).1
          have b3 := hk.blk HTB.out (HT.out.far (by omega)).1
          exact ⟨b1.cell 0, b1.cell 1, b1.cell 2, b1.cell 3, b1.cell 4, b1.cell 5, b1.cell 6, b1.cell 7, b1.cell 8, b1.cell 9, b1.cell 10, b2.cell 0, b3.cell 0⟩
        obtain ⟨xl, hxl⟩ : ∃ xl, lx.length = xl := ⟨_, rfl⟩
        obtain ⟨yl, hyl⟩ : ∃ yl, ly.length = yl := ⟨_, rfl⟩
        obtain ⟨hbx, hby⟩ : xl + s.n + t.n ≤ 10000 ∧ yl + s.n + t.n ≤ 10000 := by
          have h1 := HP1.out.len
          have h2 := HP2.out.len
          rw [avCells_len] at h1 h2
          have h3 := HLX
          rw [madeX_app, madeY_app, madeX_one, madeY_one, hlx, hly, List.length_append, List.length_append, hxl, hyl] at h3
          unfold rowX rowY at h3
          simp only [List.length_append, List.length_replicate] at h3
          omega
        have HSN : Hid (s.put.length = s.n) := by have h1 := HP1.out.len; rw [avCells_len] at h1; show _ = _; omega
        have HTN : Hid (t.put.length = t.n) := by have h1 := HP2.out.len; rw [avCells_len] at h1; show _ = _; omega
        have HXL : Hid (lx.length = xl) := hxl
        have HYL : Hid (ly.length = yl) := hyl
        have HOL : Hid (W6.ownsRow W5.heap.size 196 11 u13 xl (avCells lx)) := by have := HT6.out.ol; rw [hxl] at this; exact this
        have HP16 : Hid (Row W6 s.ao s.n s.cap 11 (avCells s.put)) := HP1.out.below HW6.out
        have HP26 : Hid (Row W6 t.ao t.n t.cap 11 (avCells t.put)) := HP2.out.below HW6.out
        have hs6 : W5.heap.size ≤ W6.heap.size := HT6.out.blw.size
        have HKT : Hid (Kept W6 W6 (ob u13)) := Kept.refl _ _
        obtain ⟨k0, k1, k2, k3, k4, k5, k6, k7, k8, k9, k10, s0, t0⟩ := HALL2.out W6 HKT.out
        clear c0 c1 c2 c3 c4 c5 c6 c7 c8 c9 c10 c11 d0 d1 d2 d3 d4 d5 d6 d7 d8 d9 d10 d11
        clear HP1 HP2 HLX hxl hyl
        go_upto_region 17 with fail
        go_cut [13] from 49 to 169 (fun xv wx => ∃ xw, xw = xv ∧ TrA W5 wx xw u14 (lx ++ s.put ++ List.replicate t.n keepA) ly ∧ Blk wx w4.heap.size (avC keepA) 196 ∧ Blk wx sb (rwC s) 205 ∧ Blk wx tb (rwC t) 205 ∧ sb ∉ ob xw ∧ tb ∉ ob xw)
        case first =>
          go_region_held3 (fun w' => w'.cell? ⟨w4.heap.size, 0, none⟩ = some (.int .i64 1) ∧ w'.cell? ⟨w4.heap.size, 1, none⟩ = some (.int .u8 0) ∧ w'.cell? ⟨w4.heap.size, 2, none⟩ = some (.int .i64 0) ∧ w'.cell? ⟨w4.heap.size, 3, none⟩ = some (.string ⟨#[]⟩) ∧ w'.cell? ⟨w4.heap.size, 4, none⟩ = some (.int .i64 1) ∧ w'.cell? ⟨w4.heap.size, 5, none⟩ = some (.int .i64 1) ∧ w'.cell? ⟨w4.heap.size, 6, none⟩ = some (.slice none 0 0) ∧ w'.cell? ⟨w4.heap.size, 7, none⟩ = some (.int .i64 0) ∧ w'.cell? ⟨w4.heap.size, 8, none⟩ = some (.int .i64 0) ∧ w'.cell? ⟨w4.heap.size, 9, none⟩ = some (.bool false) ∧ w'.cell? ⟨w4.heap.size, 10, none⟩ = some (.string ⟨#[]⟩) ∧ w'.cell? ⟨sb, 0, none⟩ = some (.slice s.ao s.n s.cap) ∧ w'.cell? ⟨tb, 0, none⟩ = some (.slice t.ao t.n t.cap)) (first | go_keep | exact HALL2.out _ hK9 | exact HALL2.out _ hK8 | exact HALL2.out _ hKA | exact HALL2.out _ (hKA.trans ((kept_of_below (by repeat (first | exact Below.refl _ _ | refine Below.setCell ?_ (by simp) _ | refine Below.alloc ?_ (by simp) _ | refine Below.drew ?_))).mono (fun k hk => by cases hk))) | exact HALL2.out _ ((kept_of_below (by repeat (first | exact Below.refl _ _ | exact hBR | refine Below.setCell ?_ (by simp) _ | refine Below.alloc ?_ (by simp) _ | refine Below.drew ?_))).mono (fun k hk => by cases hk))) (first | (refine step_append_row _ (by rfl) (.tmp 59) (.tmp 61) 193 (by rfl) W5.heap.size 196 i0 (.agg #[.int .i64 0, .int .u8 0, .int .i64 0, .string ⟨#[]⟩, .int .i64 0, .int .i64 0, .slice none 0 0, .int .i64 0, .int .i64 0, .bool false, .string ⟨#[]⟩]) 11 120 Tryz.underlying193 hi hz0 hz1 hz2 rfl (by decide) u13 xl (avCells lx) (by rfl) (own_under HOL.out (by repeat (first | exact Below.refl _ _ | exact hBR | refine Below.setCell ?_ (by simp) _ | refine Below.alloc ?_ (by simp) _ | refine Below.drew ?_))) s.ao s.n s.cap (avCells s.put) (by rfl) (HP16.out.below (by repeat (first | exact Below.refl _ _ | exact hBR | refine Below.setCell ?_ (by simp) _ | refine Below.alloc ?_ (by simp) _ | refine Below.drew ?_))) (avCells_oneCell _) (by unfold maxLen; omega) (by omega) (by first | (have := hBR.size; omega) | (simp; omega)) ?_; intro xv w7 hown7 hg7 hat7; have hKA : Kept W6 w7 (ob u13) := Kept.trans ((kept_of_below (by repeat (first | exact Below.refl _ _ | exact hBR | refine Below.setCell ?_ (by simp) _ | refine Below.alloc ?_ (by simp) _ | refine Below.drew ?_))).mono (fun k hk => by cases hk)) (grown_kept hg7); have HT7 : TrA W5 w7 xv u14 (lx ++ s.put) ly := (HT6.out.under (by repeat (first | exact Below.refl _ _ | exact hBR | refine Below.setCell ?_ (by simp) _ | refine Below.alloc ?_ (by simp) _ | refine Below.drew ?_))).push HXL.out HSN.out hown7 hg7 hat7) | (refine step_append_row _ (by rfl) (.tmp 62) (.tmp 68) 193 (by rfl) W5.heap.size 196 i0 (.agg #[.int .i64 0, .int .u8 0, .int .i64 0, .string ⟨#[]⟩, .int .i64 0, .int .i64 0, .slice none 0 0, .int .i64 0, .int .i64 0, .bool false, .string ⟨#[]⟩]) 11 120 Tryz.underlying193 hi hz0 hz1 hz2 rfl (by decide) xv (xl + s.n) (avCells lx ++ avCells s.put) (by rfl) (by first | exact hown7 | exact own_under hown7 hB78) ra t.n t.n (avCells (List.replicate t.n keepA)) (by rfl) (by first | exact hrow8 | exact hrow8.kept (by decide) (grown_kept hg7) (fun b hn hb hx => absurd hx (HT6.out.far (Nat.le_trans (boxa_below keepA W6.drew).size (hfr8 b hn hb))).1)) (avCells_oneCell _) (by unfold maxLen; omega) (by omega) (by first | (have := hB78.size; have := HT7.blw.size; omega) | (have := HT7.blw.size; omega)) ?_; intro xw w9 hown9 hg9 hat9; have HT9 : TrA W5 w9 xw u14 (lx ++ s.put ++ List.replicate t.n keepA) ly := (by first | exact HT7.push (n := xl + s.n) (by rw [List.length_append, HXL.out, HSN.out]) (List.length_replicate ..) (by rw [avCells_app]; exact hown9) hg9 hat9 | exact (HT7.under hB78).push (n := xl + s.n) (by rw [List.length_append, HXL.out, HSN.out]) (List.length_replicate ..) (by rw [avCells_app]; exact hown9) hg9 hat9); have hK9 : Kept W6 w9 (ob u13) := (by first | exact kept_twice ((kept_of_below (by repeat (first | exact Below.refl _ _ | exact hBR | refine Below.setCell ?_ (by simp) _ | refine Below.alloc ?_ (by simp) _ | refine Below.drew ?_))).mono (fun k hk => by cases hk)) hg7 hat7 ((kept_of_below hB78).mono (fun k hk => by cases hk)) hg9 | exact kept_twice ((kept_of_below hBR).mono (fun k hk => by cases hk)) hg7 hat7 (Kept.refl _ _) hg9); have hO9 : ∀ k, xw.ownBlock = some k → u13.ownBlock = some k ∨ W6.heap.size ≤ k := fun k e => (hat9 k e).elim (fun e2 => (hat7 k e2).elim Or.inl (fun e3 => Or.inr (by rw [e3]; exact (by first | exact Nat.le_refl _ | (simp; done) | (have := hKA.size; have := hB78.size; omega) | (have := hKA.size; omega) | (simp; omega))))) (fun e2 => Or.inr (by rw [e2]; exact (by first | exact Nat.le_refl _ | (simp; done) | (have := hKA.size; have := hB78.size; omega) | (have := hKA.size; omega) | (simp; omega))))) | (go_at_call 167; refine (repeat_any _ _ _ t.n keepA _ (by first | exact boxa_row keepA w7 | exact boxa_row keepA W6.drew | exact (boxa_row keepA W6.drew).kept (by decide) (grown_kept hg7) (fun b _ hb hx => by cases hb; exact absurd hx (HT6.out.far (Nat.le_refl _)).1)) (by omega)).mono ?_; rintro e w8 ⟨⟨ra, rfl, hrow8, hfr8⟩, hb8⟩; first | (have hB78 : Below w7.heap.size w7 w8 := (by first | exact hb8 | exact (boxa_below keepA w7).trans (hb8.mono (boxa_below keepA w7).size)); have hK8 : Kept W6 w8 (ob u13) := hKA.trans ((kept_of_below hB78).mono (fun k hk => by cases hk))) | (have hBR : Below W6.heap.size W6 w8 := ((Below.refl _ _).drew.alloc (Nat.le_refl _) _).trans (hb8.mono (boxa_below keepA W6.drew).size))))
          all_goals
            have HT9' : Hid (TrA W5 w9 xw u14 (lx ++ s.put ++ List.replicate t.n keepA) ly) := HT9
            have HKB9 : Hid (Blk w9 w4.heap.size (avC keepA) 196) := hK9.blk HKB.out (fun hx => by have := ob_lo HT6.out.ol _ hx; have := HK5.out.lt; omega)
            have HSB9 : Hid (Blk w9 (sb) (rwC s) 205) := hK9.blk HSB.out (HT.out.far (by omega)).1
            have HTB9 : Hid (Blk w9 (tb) (rwC t) 205) := hK9.blk HTB.out (HT.out.far (by omega)).1
            have HFX : Hid (sb ∉ ob xw ∧ tb ∉ ob xw) := ⟨fun hx => (hO9 _ (ob_mem hx)).elim (fun e => (HT.out.far (b := sb) (by omega)).1 (ob_of e)) (fun e => by have := HSB.out.lt; omega), fun hx => (hO9 _ (ob_mem hx)).elim (fun e => (HT.out.far (b := tb) (by omega)).1 (ob_of e)) (fun e => by have := HTB.out.lt; omega)⟩
            clear hO9 HT9 hK9 hown9 hg9 hat9 HT7 hKA hown7 hg7 hat7 hrow8 hfr8 hb8 hB78 hK8
            first | go_meet | (go_wp2_with fail; go_meet)
            case rel => exact ⟨xw, rfl, HT9'.out, HKB9.out, HSB9.out, HTB9.out, HFX.out⟩
        case rest =>
          obtain ⟨xw, exw, hT9, hKB9, hSB9, hTB9, hFX⟩ := hcut
          subst exw
          have HT9' : Hid (TrA W5 wc xw u14 (lx ++ s.put ++ List.replicate t.n keepA) ly) := hT9
          have HKB9 : Hid (Blk wc w4.heap.size (avC keepA) 196) := hKB9
          have HSB9 : Hid (Blk wc sb (rwC s) 205) := hSB9
          have HTB9 : Hid (Blk wc tb (rwC t) 205) := hTB9
          have HFX : Hid (sb ∉ ob xw ∧ tb ∉ ob xw) := hFX
          clear hT9 hKB9 hSB9 hTB9 hFX HSB HTB HKB HP16 HP26 HKT HALL2 HOL HW6
          clear k0 k1 k2 k3 k4 k5 k6 k7 k8 k9 k10 s0 t0
          generalize wc = w9 at *
          have HOM : Hid (w9.ownsRow W5.heap.size 196 11 u14 yl (avCells ly)) := by have := HT9'.out.om; rw [HYL.out] at this; exact this
          have hs9 : W5.heap.size ≤ w9.heap.size := HT9'.out.blw.size
          have HFAR : Hid (sb ∉ ob u14 ∧ tb ∉ ob u14 ∧ w4.heap.size ∉ ob u14) := ⟨(HT.out.far (by omega)).2, (HT.out.far (by omega)).2, fun hx => by have := ob_lo HT6.out.om _ hx; have := HK5.out.lt; omega⟩
          have HALL3 : Hid (∀ w', Kept w9 w' (ob u14) → w'.cell? ⟨w4.heap.size, 0, none⟩ = some (.int .i64 1) ∧ w'.cell? ⟨w4.heap.size, 1, none⟩ = some (.int .u8 0) ∧ w'.cell? ⟨w4.heap.size, 2, none⟩ = some (.int .i64 0) ∧ w'.cell? ⟨w4.heap.size, 3, none⟩ = some (.string ⟨#[]⟩) ∧ w'.cell? ⟨w4.heap.size, 4, none⟩ = some (.int .i64 1) ∧ w'.cell? ⟨w4.heap.size, 5, none⟩ = some (.int .i64 1) ∧ w'.cell? ⟨w4.heap.size, 6, none⟩ = some (.slice none 0 0) ∧ w'.cell? ⟨w4.heap.size, 7, none⟩ = some (.int .i64 0) ∧ w'.cell? ⟨w4.heap.size, 8, none⟩ = some (.int .i64 0) ∧ w'.cell? ⟨w4.heap.size, 9, none⟩ = some (.bool false) ∧ w'.cell? ⟨w4.heap.size, 10, none⟩ = some (.string ⟨#[]⟩) ∧ w'.cell? ⟨sb, 0, none⟩ = some (.slice s.ao s.n s.cap) ∧ w'.cell? ⟨tb, 0, none⟩ = some (.slice t.ao t.n t.cap)) := fun w' hk => by
            have b1 := hk.blk HKB9.out HFAR.out.2.2
            have b2 := hk.blk HSB9.out HFAR.out.1
            have b3 := hk.blk HTB9.out HFAR.out.2.1
            exact ⟨b1.cell 0, b1.cell 1, b1.cell 2, b1.cell 3, b1.cell 4, b1.cell 5, b1.cell 6, b1.cell 7, b1.cell 8, b1.cell 9, b1.cell 10, b2.cell 0, b3.cell 0⟩
          obtain ⟨k0, k1, k2, k3, k4, k5, k6, k7, k8, k9, k10, s0, t0⟩ := HALL3.out w9 (Kept.refl _ _)
          go_upto_region 18 with fail
          go_cut [14] from 49 to 169 (fun yv wx => ∃ yw, yw = yv ∧ TrA W5 wx xw yw (lx ++ s.put ++ List.replicate t.n keepA) (ly ++ List.replicate s.n keepA ++ t.put) ∧ Blk wx sb (rwC s) 205 ∧ Blk wx tb (rwC t) 205 ∧ sb ∉ ob yw ∧ tb ∉ ob yw)
          case first =>
            go_region_held3 (fun w' => w'.cell? ⟨w4.heap.size, 0, none⟩ = some (.int .i64 1) ∧ w'.cell? ⟨w4.heap.size, 1, none⟩ = some (.int .u8 0) ∧ w'.cell? ⟨w4.heap.size, 2, none⟩ = some (.int .i64 0) ∧ w'.cell? ⟨w4.heap.size, 3, none⟩ = some (.string ⟨#[]⟩) ∧ w'.cell? ⟨w4.heap.size, 4, none⟩ = some (.int .i64 1) ∧ w'.cell? ⟨w4.heap.size, 5, none⟩ = some (.int .i64 1) ∧ w'.cell? ⟨w4.heap.size, 6, none⟩ = some (.slice none 0 0) ∧ w'.cell? ⟨w4.heap.size, 7, none⟩ = some (.int .i64 0) ∧ w'.cell? ⟨w4.heap.size, 8, none⟩ = some (.int .i64 0) ∧ w'.cell? ⟨w4.heap.size, 9, none⟩ = some (.bool false) ∧ w'.cell? ⟨w4.heap.size, 10, none⟩ = some (.string ⟨#[]⟩) ∧ w'.cell? ⟨sb, 0, none⟩ = some (.slice s.ao s.n s.cap) ∧ w'.cell? ⟨tb, 0, none⟩ = some (.slice t.ao t.n t.cap)) (first | go_keep | exact HALL3.out _ hK12 | exact HALL3.out _ hK11 | exact HALL3.out _ ((kept_of_below hB10).mono (fun k hk => by cases hk)) | exact HALL3.out _ ((kept_of_below (by repeat (first | exact Below.refl _ _ | exact hBR | refine Below.setCell ?_ (by simp) _ | refine Below.alloc ?_ (by simp) _ | refine Below.drew ?_))).mono (fun k hk => by cases hk))) (first | (refine step_append_row _ (by rfl) (.tmp 70) (.tmp 76) 193 (by rfl) W5.heap.size 196 i0 (.agg #[.int .i64 0, .int .u8 0, .int .i64 0, .string ⟨#[]⟩, .int .i64 0, .int .i64 0, .slice none 0 0, .int .i64 0, .int .i64 0, .bool false, .string ⟨#[]⟩]) 11 120 Tryz.underlying193 hi hz0 hz1 hz2 rfl (by decide) u14 yl (avCells ly) (by rfl) (own_under HOM.out hB10) ra2 s.n s.n (avCells (List.replicate s.n keepA)) (by rfl) hrow10 (avCells_oneCell _) (by unfold maxLen; omega) (by omega) (by have := hB10.size; omega) ?_; intro yv w11 hown11 hg11 hat11; have hK11 : Kept w9 w11 (ob u14) := ((kept_of_below hB10).mono (fun k hk => by cases hk)).trans (grown_kept hg11); have HT11 : TrA W5 w11 yv xw (ly ++ List.replicate s.n keepA) (lx ++ s.put ++ List.replicate t.n keepA) := (HT9'.out.swap.under hB10).push HYL.out (List.length_replicate ..) hown11 hg11 hat11) | (refine step_append_row _ (by rfl) (.tmp 77) (.tmp 79) 193 (by rfl) W5.heap.size 196 i0 (.agg #[.int .i64 0, .int .u8 0, .int .i64 0, .string ⟨#[]⟩, .int .i64 0, .int .i64 0, .slice none 0 0, .int .i64 0, .int .i64 0, .bool false, .string ⟨#[]⟩]) 11 120 Tryz.underlying193 hi hz0 hz1 hz2 rfl (by decide) yv (yl + s.n) (avCells ly ++ avCells (List.replicate s.n keepA)) (by rfl) hown11 t.ao t.n t.cap (avCells t.put) (by rfl) (HPP.out _ HT11.blw).2 (avCells_oneCell _) (by unfold maxLen; omega) (by omega) (by have := HT11.blw.size; omega) ?_; intro yw w12 hown12 hg12 hat12; have HT12 : TrA W5 w12 yw xw (ly ++ List.replicate s.n keepA ++ t.put) (lx ++ s.put ++ List.replicate t.n keepA) := HT11.push (n := yl + s.n) (by rw [List.length_append, HYL.out, List.length_replicate]) HTN.out (by rw [avCells_app]; exact hown12) hg12 hat12; have hK12 : Kept w9 w12 (ob u14) := kept_twice ((kept_of_below hB10).mono (fun k hk => by cases hk)) hg11 hat11 (Kept.refl _ _) hg12; have hO12 : ∀ k, yw.ownBlock = some k → u14.ownBlock = some k ∨ w9.heap.size ≤ k := fun k e => (hat12 k e).elim (fun e2 => (hat11 k e2).elim Or.inl (fun e3 => Or.inr (by rw [e3]; exact (by first | exact Nat.le_refl _ | (have := hB10.size; have := hK11.size; omega) | (have := hB10.size; omega))))) (fun e2 => Or.inr (by rw [e2]; exact (by first | exact Nat.le_refl _ | (have := hB10.size; have := hK11.size; omega) | (have := hB10.size; omega))))) | (go_at_call 167; refine (repeat_any _ _ _ s.n keepA _ (boxa_row keepA w9.drew) (by omega)).mono ?_; rintro e w10 ⟨⟨ra2, rfl, hrow10, hfr10⟩, hb10⟩; have hB10 : Below w9.heap.size w9 w10 := ((Below.refl _ _).drew.alloc (Nat.le_refl _) _).trans (hb10.mono (boxa_below keepA w9.drew).size)))
            all_goals
              have HT13 : Hid (TrA W5 w12 xw yw (lx ++ s.put ++ List.replicate t.n keepA) (ly ++ List.replicate s.n keepA ++ t.put)) := HT12.swap
              have HSB13 : Hid (Blk w12 (sb) (rwC s) 205) := hK12.blk HSB9.out HFAR.out.1
              have HTB13 : Hid (Blk w12 (tb) (rwC t) 205) := hK12.blk HTB9.out HFAR.out.2.1
              have HFY : Hid (sb ∉ ob yw ∧ tb ∉ ob yw) := ⟨fun hx => (hO12 _ (ob_mem hx)).elim (fun e => HFAR.out.1 (ob_of e)) (fun e => by have := HSB9.out.lt; omega), fun hx => (hO12 _ (ob_mem hx)).elim (fun e => HFAR.out.2.1 (ob_of e)) (fun e => by have := HTB9.out.lt; omega)⟩
              clear hO12 HT11 hown11 hg11 hat11 hrow10 hfr10 hb10 hown12 hg12 hat12 HT12 hK12 hK11 hB10
              first | go_meet | (go_wp2_with fail; go_meet)
              case rel => exact ⟨yw, rfl, HT13.out, HSB13.out, HTB13.out, HFY.out⟩
          case rest =>
            obtain ⟨yw, eyw, hT13, hSB13, hTB13, hFY⟩ := hcut
            subst eyw
            have HT13 : Hid (TrA W5 wc xw yw (lx ++ s.put ++ List.replicate t.n keepA) (ly ++ List.replicate s.n keepA ++ t.put)) := hT13
            have HSB13 : Hid (Blk wc sb (rwC s) 205) := hSB13
            have HTB13 : Hid (Blk wc tb (rwC t) 205) := hTB13
            have HFY : Hid (sb ∉ ob yw ∧ tb ∉ ob yw) := hFY
            clear hT13 hSB13 hTB13 hFY HALL3 HFAR HOM HSB9 HTB9 HKB9 HT9'
            clear k0 k1 k2 k3 k4 k5 k6 k7 k8 k9 k10 s0 t0
            generalize wc = w12 at *
            have HLX2 : Hid ((lx ++ s.put ++ List.replicate t.n keepA).length = xl + s.n + t.n) := by show _ = _; rw [List.length_append, List.length_append, List.length_replicate, HXL.out, HSN.out]
            have HLY2 : Hid ((ly ++ List.replicate s.n keepA ++ t.put).length = yl + s.n + t.n) := by show _ = _; rw [List.length_append, List.length_append, List.length_replicate, HYL.out, HTN.out]
            have HEX : Hid (madeX (Z.take (j + 1)) = lx ++ s.put ++ List.replicate t.n keepA ++ ownX s.own t.own) := by show _ = _; rw [HST.out, madeX_app, madeX_one, hlx]; unfold rowX; rw [HTN.out]; simp only [List.append_assoc]
            have HEY : Hid (madeY (Z.take (j + 1)) = ly ++ List.replicate s.n keepA ++ t.put ++ ownY s.own t.own) := by show _ = _; rw [HST.out, madeY_app, madeY_one, hly]; unfold rowY; rw [HSN.out]; simp only [List.append_assoc]
            generalize lx ++ s.put ++ List.replicate t.n keepA = LX at *
            generalize ly ++ List.replicate s.n keepA ++ t.put = LY at *
            have HOX : Hid (w12.ownsRow W5.heap.size 196 11 xw (xl + s.n + t.n) (avCells LX)) := by have := HT13.out.ol; rw [HLX2.out] at this; exact this
            have HOY : Hid (w12.ownsRow W5.heap.size 196 11 yw (yl + s.n + t.n) (avCells LY)) := by have := HT13.out.om; rw [HLY2.out] at this; exact this
            have hs13 : W5.heap.size ≤ w12.heap.size := HT13.out.blw.size
            have e0 : w12.cell? ⟨sb, 0, none⟩ = some (.slice s.ao s.n s.cap) := HSB13.out.cell 0
            have e1 : w12.cell? ⟨sb, 1, none⟩ = some (.int .i64 s.own.kind) := HSB13.out.cell 1
            have e2 : w12.cell? ⟨sb, 2, none⟩ = some (.int .u8 s.own.x.c.toNat) := HSB13.out.cell 2
            have e3 : w12.cell? ⟨sb, 3, none⟩ = some (.int .i64 s.own.x.m) := HSB13.out.cell 3
            have e4 : w12.cell? ⟨sb, 4, none⟩ = some (.string s.own.x.l) := HSB13.out.cell 4
            have e5 : w12.cell? ⟨sb, 5, none⟩ = some (.int .i64 s.own.p.kind) := HSB13.out.cell 5
            have e6 : w12.cell? ⟨sb, 6, none⟩ = some (.int .i64 s.own.p.n) := HSB13.out.cell 6
            have e7 : w12.cell? ⟨sb, 7, none⟩ = some (.slice s.own.p.ao s.own.p.m s.own.p.cap) := HSB13.out.cell 7
            have e8 : w12.cell? ⟨sb, 8, none⟩ = some (.int .i64 s.own.p.set) := HSB13.out.cell 8
            have e9 : w12.cell? ⟨sb, 9, none⟩ = some (.int .i64 s.own.p.clr) := HSB13.out.cell 9
            have e10 : w12.cell? ⟨sb, 10, none⟩ = some (.bool s.own.p.goes) := HSB13.out.cell 10
            have e11 : w12.cell? ⟨sb, 11, none⟩ = some (.string s.own.p.link) := HSB13.out.cell 11
            have f0 : w12.cell? ⟨tb, 0, none⟩ = some (.slice t.ao t.n t.cap) := HTB13.out.cell 0
            have f1 : w12.cell? ⟨tb, 1, none⟩ = some (.int .i64 t.own.kind) := HTB13.out.cell 1
            have f2 : w12.cell? ⟨tb, 2, none⟩ = some (.int .u8 t.own.x.c.toNat) := HTB13.out.cell 2
            have f3 : w12.cell? ⟨tb, 3, none⟩ = some (.int .i64 t.own.x.m) := HTB13.out.cell 3
            have f4 : w12.cell? ⟨tb, 4, none⟩ = some (.string t.own.x.l) := HTB13.out.cell 4
            have f5 : w12.cell? ⟨tb, 5, none⟩ = some (.int .i64 t.own.p.kind) := HTB13.out.cell 5
            have f6 : w12.cell? ⟨tb, 6, none⟩ = some (.int .i64 t.own.p.n) := HTB13.out.cell 6
            have f7 : w12.cell? ⟨tb, 7, none⟩ = some (.slice t.own.p.ao t.own.p.m t.own.p.cap) := HTB13.out.cell 7
            have f8 : w12.cell? ⟨tb, 8, none⟩ = some (.int .i64 t.own.p.set) := HTB13.out.cell 8
            have f9 : w12.cell? ⟨tb, 9, none⟩ = some (.int .i64 t.own.p.clr) := HTB13.out.cell 9
            have f10 : w12.cell? ⟨tb, 10, none⟩ = some (.bool t.own.p.goes) := HTB13.out.cell 10
            have f11 : w12.cell? ⟨tb, 11, none⟩ = some (.string t.own.p.link) := HTB13.out.cell 11
            rcases HK1.out.own with hk1 | hk1 <;> rcases HK2.out.own with hk2 | hk2
            · have hb1 : (s.own.kind == 1) = true := by simp [hk1]
              have hb2 : (t.own.kind == 1) = true := by simp [hk2]
              obtain ⟨m1, m2⟩ := HN1.out hk1
              obtain ⟨m3, m4⟩ := HN2.out hk2
              have HQA : Hid (s.own.kind = 1) := hk1
              have HQB : Hid (t.own.kind = 1) := hk2
              clear hk1 hk2
              have HT14 : Hid (TrA W5 (boxa s.own w12) xw yw LX LY) := HT13.out.under (boxa_below _ _)
              go_wp2_with (at_builtin; refine wpList_append_row (boxa s.own w12) rfl (.tmp 92) (.tmp 95) 193 rfl W5.heap.size 196 i0 (.agg #[.int .i64 0, .int .u8 0, .int .i64 0, .string ⟨#[]⟩, .int .i64 0, .int .i64 0, .slice none 0 0, .int .i64 0, .int .i64 0, .bool false, .string ⟨#[]⟩]) 11 120 Tryz.underlying193 hi hz0 hz1 hz2 rfl (by decide) xw (xl + s.n + t.n) (avCells LX) rfl (own_under HOX.out (boxa_below _ _)) (some ⟨w12.heap.size, 0, none⟩) 1 1 (avC s.own) rfl (boxa_row s.own w12) (avC_one s.own) (by unfold maxLen; omega) (by omega) (by have := HT14.out.blw.size; omega) ?_)
              intro zv w15 hown15 hg15 hat15
              have HT15 : Hid (TrA W5 w15 zv yw (LX ++ [s.own]) LY) := HT14.out.push (us := [s.own]) HLX2.out rfl (by rw [avCells_one]; exact hown15) hg15 hat15
              have hK15 : Kept w12 w15 (ob xw) := ((kept_of_below (boxa_below s.own w12)).mono (fun k hk => by cases hk)).trans (grown_kept hg15)
              have HSB15 : Hid (Blk w15 (sb) (rwC s) 205) := hK15.blk HSB13.out HFX.out.1
              have HTB15 : Hid (Blk w15 (tb) (rwC t) 205) := hK15.blk HTB13.out HFX.out.2
              clear hown15 hg15 hat15 hK15 e0 e1 e2 e3 e4 e5 e6 e7 e8 e9 e10 e11 f0 f1 f2 f3 f4 f5 f6 f7 f8 f9 f10 f11
              have g0 : w15.cell? ⟨tb, 0, none⟩ = some (.slice t.ao t.n t.cap) := HTB15.out.cell 0
              have g1 : w15.cell? ⟨tb, 1, none⟩ = some (.int .i64 t.own.kind) := HTB15.out.cell 1
              have g2 : w15.cell? ⟨tb, 2, none⟩ = some (.int .u8 t.own.x.c.toNat) := HTB15.out.cell 2
              have g3 : w15.cell? ⟨tb, 3, none⟩ = some (.int .i64 t.own.x.m) := HTB15.out.cell 3
              have g4 : w15.cell? ⟨tb, 4, none⟩ = some (.string t.own.x.l) := HTB15.out.cell 4
              have g5 : w15.cell? ⟨tb, 5, none⟩ = some (.int .i64 t.own.p.kind) := HTB15.out.cell 5
              have g6 : w15.cell? ⟨tb, 6, none⟩ = some (.int .i64 t.own.p.n) := HTB15.out.cell 6
              have g7 : w15.cell? ⟨tb, 7, none⟩ = some (.slice t.own.p.ao t.own.p.m t.own.p.cap) := HTB15.out.cell 7
              have g8 : w15.cell? ⟨tb, 8, none⟩ = some (.int .i64 t.own.p.set) := HTB15.out.cell 8
              have g9 : w15.cell? ⟨tb, 9, none⟩ = some (.int .i64 t.own.p.clr) := HTB15.out.cell 9
              have g10 : w15.cell? ⟨tb, 10, none⟩ = some (.bool t.own.p.goes) := HTB15.out.cell 10
              have g11 : w15.cell? ⟨tb, 11, none⟩ = some (.string t.own.p.link) := HTB15.out.cell 11
              have HZB : Hid (Blk (boxa t.own w15) w15.heap.size (avC t.own) 196) := boxa_blk t.own w15
              have HSB16 : Hid (Blk (boxa t.own w15) (sb) (rwC s) 205) := HSB15.out.alloc _
              have HB16 : Hid (Below w15.heap.size w15 (boxa t.own w15)) := boxa_below _ _
              have HT16 : Hid (TrA W5 (boxa t.own w15) zv yw (LX ++ [s.own]) LY) := HT15.out.under (boxa_below _ _)
              have q1 := bits_or m1 m2
              have hb4 := Ac.both_m4 m1 m2
              have q2 := and_m4 m3 hb4
              have q3 := and_m4 m4 hb4
              obtain ⟨av, hav⟩ : ∃ av, t.own.p.set.toNat &&& (Ac.both s.own.p.set s.own.p.clr).toNat = av := ⟨_, rfl⟩
              obtain ⟨cv, hcv⟩ : ∃ cv, t.own.p.clr.toNat &&& (Ac.both s.own.p.set s.own.p.clr).toNat = cv := ⟨_, rfl⟩
              obtain ⟨l1, l2⟩ := less_and m3 hav
              obtain ⟨l3, l4⟩ := less_and m4 hcv
              rw [hav] at q2
              rw [hcv] at q3
              have HL1 : Hid (t.own.p.set - (av : Int) = Ac.less t.own.p.set (Ac.both s.own.p.set s.own.p.clr)) := l1
              have HL3 : Hid (t.own.p.clr - (cv : Int) = Ac.less t.own.p.clr (Ac.both s.own.p.set s.own.p.clr)) := l3
              obtain ⟨n1, n2⟩ := m3
              obtain ⟨n3, n4⟩ := m4
              clear l1 l3 hav hcv hb4 m1 m2
              go_upto_region 22 with fail
              change Code.wp Tryz.prog _ _ _ (boxa t.own w15)
              generalize boxa t.own w15 = W16 at *
              clear g0 g1 g2 g3 g4 g5 g6 g7 g8 g9 g10 g11
              have s8 : W16.cell? ⟨sb, 8, none⟩ = some (.int .i64 s.own.p.set) := HSB16.out.cell 8
              have s9 : W16.cell? ⟨sb, 9, none⟩ = some (.int .i64 s.own.p.clr) := HSB16.out.cell 9
              have z7 : W16.cell? ⟨w15.heap.size, 7, none⟩ = some (.int .i64 t.own.p.set) := HZB.out.cell 7
              have y7 := HZB.out.frozen 7
              go_upto_region 23 with fail
              change Code.wp Tryz.prog _ _ _ (W16.setCell ⟨w15.heap.size, 7, none⟩ (.int .i64 (t.own.p.set - (av : Int))))
              have HZ17 : Hid (Blk (W16.setCell ⟨w15.heap.size, 7, none⟩ (.int .i64 (t.own.p.set - (av : Int)))) w15.heap.size (avC (⟨t.own.kind, t.own.x, { t.own.p with set := t.own.p.set - (av : Int) }⟩ : AV)) 196) := HZB.out.set 7 _
              have HB17 : Hid (Below w15.heap.size w15 (W16.setCell ⟨w15.heap.size, 7, none⟩ (.int .i64 (t.own.p.set - (av : Int))))) := HB16.out.setCell (Nat.le_refl _) _
              clear s8 s9 z7 y7 HZB HSB16 HT16 HB16
              generalize (W16.setCell ⟨w15.heap.size, 7, none⟩ (.int .i64 (t.own.p.set - (av : Int)))) = W17 at *
              have s8 : W17.cell? ⟨sb, 8, none⟩ = some (.int .i64 s.own.p.set) := cell_below (HSB15.out.cell 8) HB17.out
              have s9 : W17.cell? ⟨sb, 9, none⟩ = some (.int .i64 s.own.p.clr) := cell_below (HSB15.out.cell 9) HB17.out
              have z8 : W17.cell? ⟨w15.heap.size, 8, none⟩ = some (.int .i64 t.own.p.clr) := HZ17.out.cell 8
              have y8 := HZ17.out.frozen 8
              go_upto_region 24 with fail
              change Code.wp Tryz.prog _ _ _ (W17.setCell ⟨w15.heap.size, 8, none⟩ (.int .i64 (t.own.p.clr - (cv : Int))))
              have HZ18 : Hid (Blk (W17.setCell ⟨w15.heap.size, 8, none⟩ (.int .i64 (t.own.p.clr - (cv : Int)))) w15.heap.size (avC (⟨t.own.kind, t.own.x, { t.own.p with set := t.own.p.set - (av : Int), clr := t.own.p.clr - (cv : Int) }⟩ : AV)) 196) := HZ17.out.set 8 _
              have HB18 : Hid (Below w15.heap.size w15 (W17.setCell ⟨w15.heap.size, 8, none⟩ (.int .i64 (t.own.p.clr - (cv : Int))))) := HB17.out.setCell (Nat.le_refl _) _
              clear s8 s9 z8 y8 HZ17 HB17 q1 q2 q3
              generalize (W17.setCell ⟨w15.heap.size, 8, none⟩ (.int .i64 (t.own.p.clr - (cv : Int)))) = W18 at *
              have s10 : W18.cell? ⟨sb, 10, none⟩ = some (.bool s.own.p.goes) := cell_below (HSB15.out.cell 10) HB18.out
              cases hgo : s.own.p.goes
              · rw [hgo] at s10
                have HE : Hid ((⟨t.own.kind, t.own.x, { t.own.p with set := t.own.p.set - (av : Int), clr := t.own.p.clr - (cv : Int) }⟩ : AV) = behA s.own t.own) := by show _ = _; unfold behA; rw [HL1.out, HL3.out, hgo]; simp
                clear hgo
                have z0 : W18.cell? ⟨w15.heap.size, 0, none⟩ = some (.int .i64 t.own.kind) := HZ18.out.cell 0
                have z1 : W18.cell? ⟨w15.heap.size, 1, none⟩ = some (.int .u8 t.own.x.c.toNat) := HZ18.out.cell 1
                have z2 : W18.cell? ⟨w15.heap.size, 2, none⟩ = some (.int .i64 t.own.x.m) := HZ18.out.cell 2
                have z3 : W18.cell? ⟨w15.heap.size, 3, none⟩ = some (.string t.own.x.l) := HZ18.out.cell 3
                have z4 : W18.cell? ⟨w15.heap.size, 4, none⟩ = some (.int .i64 t.own.p.kind) := HZ18.out.cell 4
                have z5 : W18.cell? ⟨w15.heap.size, 5, none⟩ = some (.int .i64 t.own.p.n) := HZ18.out.cell 5
                have z6 : W18.cell? ⟨w15.heap.size, 6, none⟩ = some (.slice t.own.p.ao t.own.p.m t.own.p.cap) := HZ18.out.cell 6
                have z7 : W18.cell? ⟨w15.heap.size, 7, none⟩ = some (.int .i64 (t.own.p.set - (av : Int))) := HZ18.out.cell 7
                have z8 : W18.cell? ⟨w15.heap.size, 8, none⟩ = some (.int .i64 (t.own.p.clr - (cv : Int))) := HZ18.out.cell 8
                have z9 : W18.cell? ⟨w15.heap.size, 9, none⟩ = some (.bool t.own.p.goes) := HZ18.out.cell 9
                have z10 : W18.cell? ⟨w15.heap.size, 10, none⟩ = some (.string t.own.p.link) := HZ18.out.cell 10
                have HT19 : Hid (TrA W5 (boxa (⟨t.own.kind, t.own.x, { t.own.p with set := t.own.p.set - (av : Int), clr := t.own.p.clr - (cv : Int) }⟩ : AV) W18) zv yw (LX ++ [s.own]) LY) := (HT15.out.under HB18.out).under (boxa_below _ _)
                have HOY19 : Hid ((boxa (⟨t.own.kind, t.own.x, { t.own.p with set := t.own.p.set - (av : Int), clr := t.own.p.clr - (cv : Int) }⟩ : AV) W18).ownsRow W5.heap.size 196 11 yw (yl + s.n + t.n) (avCells LY)) := by have := HT19.out.om; rw [HLY2.out] at this; exact this
                go_wp2_with (at_builtin; refine wpList_append_row (boxa (⟨t.own.kind, t.own.x, { t.own.p with set := t.own.p.set - (av : Int), clr := t.own.p.clr - (cv : Int) }⟩ : AV) W18) rfl (.tmp 145) (.tmp 147) 193 rfl W5.heap.size 196 i0 (.agg #[.int .i64 0, .int .u8 0, .int .i64 0, .string ⟨#[]⟩, .int .i64 0, .int .i64 0, .slice none 0 0, .int .i64 0, .int .i64 0, .bool false, .string ⟨#[]⟩]) 11 120 Tryz.underlying193 hi hz0 hz1 hz2 rfl (by decide) yw (yl + s.n + t.n) (avCells LY) rfl HOY19.out (some ⟨W18.heap.size, 0, none⟩) 1 1 (avC (⟨t.own.kind, t.own.x, { t.own.p with set := t.own.p.set - (av : Int), clr := t.own.p.clr - (cv : Int) }⟩ : AV)) rfl (boxa_row (⟨t.own.kind, t.own.x, { t.own.p with set := t.own.p.set - (av : Int), clr := t.own.p.clr - (cv : Int) }⟩ : AV) W18) (avC_one (⟨t.own.kind, t.own.x, { t.own.p with set := t.own.p.set - (av : Int), clr := t.own.p.clr - (cv : Int) }⟩ : AV)) (by unfold maxLen; omega) (by omega) (by have := HT19.out.blw.size; omega) ?_)
                intro yv2 w20 hown20 hg20 hat20
                have HT21 : Hid (TrA W5 w20 zv yv2 (LX ++ [s.own]) (LY ++ [(⟨t.own.kind, t.own.x, { t.own.p with set := t.own.p.set - (av : Int), clr := t.own.p.clr - (cv : Int) }⟩ : AV)])) := (HT19.out.swap.push (us := [(⟨t.own.kind, t.own.x, { t.own.p with set := t.own.p.set - (av : Int), clr := t.own.p.clr - (cv : Int) }⟩ : AV)]) HLY2.out rfl (by rw [avCells_one]; exact hown20) hg20 hat20).swap
                clear hown20 hg20 hat20
                go_wp2
                go_roundw
                case rel => exact ⟨j + 1, by omega, by go_num, by rw [HEX.out, HEY.out]; unfold ownX ownY; rw [if_pos HQB.out, if_pos HQA.out, if_pos HQB.out, ← HE.out]; exact HT21.out⟩
                case measure => simp [intOf]; omega
              · rw [hgo] at s10
                have HE : Hid ((⟨t.own.kind, t.own.x, { t.own.p with set := t.own.p.set - (av : Int), clr := t.own.p.clr - (cv : Int), goes := false, link := ⟨#[]⟩ }⟩ : AV) = behA s.own t.own) := by show _ = _; unfold behA; rw [HL1.out, HL3.out, hgo]; simp
                clear hgo
                have z9 : W18.cell? ⟨w15.heap.size, 9, none⟩ = some (.bool t.own.p.goes) := HZ18.out.cell 9
                have z10 : W18.cell? ⟨w15.heap.size, 10, none⟩ = some (.string t.own.p.link) := HZ18.out.cell 10
                have y9 := HZ18.out.frozen 9
                have y10 := HZ18.out.frozen 10
                go_upto_region 26 with fail
                change Code.wp Tryz.prog _ _ _ ((W18.setCell ⟨w15.heap.size, 9, none⟩ (.bool false)).setCell ⟨w15.heap.size, 10, none⟩ (.string ⟨#[]⟩))
                have HZ19 : Hid (Blk ((W18.setCell ⟨w15.heap.size, 9, none⟩ (.bool false)).setCell ⟨w15.heap.size, 10, none⟩ (.string ⟨#[]⟩)) w15.heap.size (avC (⟨t.own.kind, t.own.x, { t.own.p with set := t.own.p.set - (av : Int), clr := t.own.p.clr - (cv : Int), goes := false, link := ⟨#[]⟩ }⟩ : AV)) 196) := Blk.set (cs := avC (⟨t.own.kind, t.own.x, { t.own.p with set := t.own.p.set - (av : Int), clr := t.own.p.clr - (cv : Int), goes := false }⟩ : AV)) (HZ18.out.set 9 _) 10 _
                have HB19 : Hid (Below w15.heap.size w15 ((W18.setCell ⟨w15.heap.size, 9, none⟩ (.bool false)).setCell ⟨w15.heap.size, 10, none⟩ (.string ⟨#[]⟩))) := (HB18.out.setCell (Nat.le_refl _) _).setCell (Nat.le_refl _) _
                clear z9 z10 y9 y10 HZ18 HB18 s10
                generalize ((W18.setCell ⟨w15.heap.size, 9, none⟩ (.bool false)).setCell ⟨w15.heap.size, 10, none⟩ (.string ⟨#[]⟩)) = W19 at *
                have z0 : W19.cell? ⟨w15.heap.size, 0, none⟩ = some (.int .i64 t.own.kind) := HZ19.out.cell 0
                have z1 : W19.cell? ⟨w15.heap.size, 1, none⟩ = some (.int .u8 t.own.x.c.toNat) := HZ19.out.cell 1
                have z2 : W19.cell? ⟨w15.heap.size, 2, none⟩ = some (.int .i64 t.own.x.m) := HZ19.out.cell 2
                have z3 : W19.cell? ⟨w15.heap.size, 3, none⟩ = some (.string t.own.x.l) := HZ19.out.cell 3
                have z4 : W19.cell? ⟨w15.heap.size, 4, none⟩ = some (.int .i64 t.own.p.kind) := HZ19.out.cell 4
                have z5 : W19.cell? ⟨w15.heap.size, 5, none⟩ = some (.int .i64 t.own.p.n) := HZ19.out.cell 5
                have z6 : W19.cell? ⟨w15.heap.size, 6, none⟩ = some (.slice t.own.p.ao t.own.p.m t.own.p.cap) := HZ19.out.cell 6
                have z7 : W19.cell? ⟨w15.heap.size, 7, none⟩ = some (.int .i64 (t.own.p.set - (av : Int))) := HZ19.out.cell 7
                have z8 : W19.cell? ⟨w15.heap.size, 8, none⟩ = some (.int .i64 (t.own.p.clr - (cv : Int))) := HZ19.out.cell 8
                have z9 : W19.cell? ⟨w15.heap.size, 9, none⟩ = some (.bool false) := HZ19.out.cell 9
                have z10 : W19.cell? ⟨w15.heap.size, 10, none⟩ = some (.string ⟨#[]⟩) := HZ19.out.cell 10
                have HT19 : Hid (TrA W5 (boxa (⟨t.own.kind, t.own.x, { t.own.p with set := t.own.p.set - (av : Int), clr := t.own.p.clr - (cv : Int), goes := false, link := ⟨#[]⟩ }⟩ : AV) W19) zv yw (LX ++ [s.own]) LY) := (HT15.out.under HB19.out).under (boxa_below _ _)
                have HOY19 : Hid ((boxa (⟨t.own.kind, t.own.x, { t.own.p with set := t.own.p.set - (av : Int), clr := t.own.p.clr - (cv : Int), goes := false, link := ⟨#[]⟩ }⟩ : AV) W19).ownsRow W5.heap.size 196 11 yw (yl + s.n + t.n) (avCells LY)) := by have := HT19.out.om; rw [HLY2.out] at this; exact this
                go_wp2_with (at_builtin; refine wpList_append_row (boxa (⟨t.own.kind, t.own.x, { t.own.p with set := t.own.p.set - (av : Int), clr := t.own.p.clr - (cv : Int), goes := false, link := ⟨#[]⟩ }⟩ : AV) W19) rfl (.tmp 145) (.tmp 147) 193 rfl W5.heap.size 196 i0 (.agg #[.int .i64 0, .int .u8 0, .int .i64 0, .string ⟨#[]⟩, .int .i64 0, .int .i64 0, .slice none 0 0, .int .i64 0, .int .i64 0, .bool false, .string ⟨#[]⟩]) 11 120 Tryz.underlying193 hi hz0 hz1 hz2 rfl (by decide) yw (yl + s.n + t.n) (avCells LY) rfl HOY19.out (some ⟨W19.heap.size, 0, none⟩) 1 1 (avC (⟨t.own.kind, t.own.x, { t.own.p with set := t.own.p.set - (av : Int), clr := t.own.p.clr - (cv : Int), goes := false, link := ⟨#[]⟩ }⟩ : AV)) rfl (boxa_row (⟨t.own.kind, t.own.x, { t.own.p with set := t.own.p.set - (av : Int), clr := t.own.p.clr - (cv : Int), goes := false, link := ⟨#[]⟩ }⟩ : AV) W19) (avC_one (⟨t.own.kind, t.own.x, { t.own.p with set := t.own.p.set - (av : Int), clr := t.own.p.clr - (cv : Int), goes := false, link := ⟨#[]⟩ }⟩ : AV)) (by unfold maxLen; omega) (by omega) (by have := HT19.out.blw.size; omega) ?_)
                intro yv2 w20 hown20 hg20 hat20
                have HT21 : Hid (TrA W5 w20 zv yv2 (LX ++ [s.own]) (LY ++ [(⟨t.own.kind, t.own.x, { t.own.p with set := t.own.p.set - (av : Int), clr := t.own.p.clr - (cv : Int), goes := false, link := ⟨#[]⟩ }⟩ : AV)])) := (HT19.out.swap.push (us := [(⟨t.own.kind, t.own.x, { t.own.p with set := t.own.p.set - (av : Int), clr := t.own.p.clr - (cv : Int), goes := false, link := ⟨#[]⟩ }⟩ : AV)]) HLY2.out rfl (by rw [avCells_one]; exact hown20) hg20 hat20).swap
                clear hown20 hg20 hat20
                go_wp2
                go_roundw
                case rel => exact ⟨j + 1, by omega, by go_num, by rw [HEX.out, HEY.out]; unfold ownX ownY; rw [if_pos HQB.out, if_pos HQA.out, if_pos HQB.out, ← HE.out]; exact HT21.out⟩
                case measure => simp [intOf]; omega
            · have hb1 : (s.own.kind == 1) = true := by simp [hk1]
              have hb2 : (t.own.kind == 1) = false := by simp [hk2]
              have HQA : Hid (s.own.kind = 1) := hk1
              have HQB : Hid (t.own.kind = 3) := hk2
              clear hk1 hk2
              have HT14 : Hid (TrA W5 (boxa t.own w12) xw yw LX LY) := HT13.out.under (boxa_below _ _)
              go_wp2_with (at_builtin; refine wpList_append_row (boxa t.own w12) rfl (.tmp 164) (.tmp 167) 193 rfl W5.heap.size 196 i0 (.agg #[.int .i64 0, .int .u8 0, .int .i64 0, .string ⟨#[]⟩, .int .i64 0, .int .i64 0, .slice none 0 0, .int .i64 0, .int .i64 0, .bool false, .string ⟨#[]⟩]) 11 120 Tryz.underlying193 hi hz0 hz1 hz2 rfl (by decide) yw (yl + s.n + t.n) (avCells LY) rfl (own_under HOY.out (boxa_below _ _)) (some ⟨w12.heap.size, 0, none⟩) 1 1 (avC t.own) rfl (boxa_row t.own w12) (avC_one t.own) (by unfold maxLen; omega) (by omega) (by have := HT14.out.blw.size; omega) ?_)
              intro zv w15 hown15 hg15 hat15
              have HT15 : Hid (TrA W5 w15 xw zv LX (LY ++ [t.own])) := (HT14.out.swap.push (us := [t.own]) HLY2.out rfl (by rw [avCells_one]; exact hown15) hg15 hat15).swap
              clear hown15 hg15 hat15
              go_wp2
              go_roundw
              case rel => exact ⟨j + 1, by omega, by go_num, by rw [HEX.out, HEY.out]; unfold ownX ownY; rw [if_neg (show ¬ t.own.kind = 1 by have := HQB.out; omega), if_pos HQA.out, if_neg (show ¬ t.own.kind = 1 by have := HQB.out; omega), List.append_nil]; exact HT15.out⟩
              case measure => simp [intOf]; omega
            · have hb1 : (s.own.kind == 1) = false := by simp [hk1]
              have hb2 : (t.own.kind == 1) = true := by simp [hk2]
              have HQA : Hid (s.own.kind = 3) := hk1
              have HQB : Hid (t.own.kind = 1) := hk2
              clear hk1 hk2
              have HT14 : Hid (TrA W5 (boxa s.own w12) xw yw LX LY) := HT13.out.under (boxa_below _ _)
              go_wp2_with (at_builtin; refine wpList_append_row (boxa s.own w12) rfl (.tmp 154) (.tmp 157) 193 rfl W5.heap.size 196 i0 (.agg #[.int .i64 0, .int .u8 0, .int .i64 0, .string ⟨#[]⟩, .int .i64 0, .int .i64 0, .slice none 0 0, .int .i64 0, .int .i64 0, .bool false, .string ⟨#[]⟩]) 11 120 Tryz.underlying193 hi hz0 hz1 hz2 rfl (by decide) xw (xl + s.n + t.n) (avCells LX) rfl (own_under HOX.out (boxa_below _ _)) (some ⟨w12.heap.size, 0, none⟩) 1 1 (avC s.own) rfl (boxa_row s.own w12) (avC_one s.own) (by unfold maxLen; omega) (by omega) (by have := HT14.out.blw.size; omega) ?_)
              intro zv w15 hown15 hg15 hat15
              have HT15 : Hid (TrA W5 w15 zv yw (LX ++ [s.own]) LY) := HT14.out.push (us := [s.own]) HLX2.out rfl (by rw [avCells_one]; exact hown15) hg15 hat15
              clear hown15 hg15 hat15
              go_wp2
              go_roundw
              case rel => exact ⟨j + 1, by omega, by go_num, by rw [HEX.out, HEY.out]; unfold ownX ownY; rw [if_pos HQB.out, if_neg (show ¬ s.own.kind = 1 by have := HQA.out; omega), List.append_nil]; exact HT15.out⟩
              case measure => simp [intOf]; omega
            · have hb1 : (s.own.kind == 1) = false := by simp [hk1]
              have hb2 : (t.own.kind == 1) = false := by simp [hk2]
              have HQA : Hid (s.own.kind = 3) := hk1
              have HQB : Hid (t.own.kind = 3) := hk2
              clear hk1 hk2
              go_wp2
              go_roundw
              case rel => exact ⟨j + 1, by omega, by go_num, by rw [HEX.out, HEY.out]; unfold ownX ownY; rw [if_neg (show ¬ t.own.kind = 1 by have := HQB.out; omega), if_neg (show ¬ s.own.kind = 1 by have := HQA.out; omega), List.append_nil, List.append_nil]; exact HT13.out⟩
              case measure => simp [intOf]; omega
    · obtain rfl : j = k := by omega
      have ht : Z.take j = Z := List.take_of_length_le (by rw [HZN.out]; exact Nat.le_refl _)
      have hbz := HZLN.out j
      rw [ht] at HT hbz
      have HBW : Hid (Below w.heap.size w wr) := H5.out.trans ((H6.out.trans (HT.out.blw.mono H6.out.size)).mono H5.out.size)
      obtain ⟨xl, hxl⟩ : ∃ xl, (madeX Z).length = xl := ⟨_, rfl⟩
      obtain ⟨yl, hyl⟩ : ∃ yl, (madeY Z).length = yl := ⟨_, rfl⟩
      have hox := HT.out.ol
      have hoy := HT.out.om
      obtain ⟨xa, xc, hxv, -⟩ := own_row hox
      obtain ⟨ya, yc, hyv, -⟩ := own_row hoy
      rw [hxl] at hox hxv
      rw [hyl] at hoy hyv
      rw [hxl, hyl] at hbz
      obtain ⟨hbz1, hbz2⟩ := hbz
      subst hxv hyv
      have CX : Hid (Calls Tryz.prog 168 #[.slice xa xl xc] wr fun e w' => (∃ a m c us, e = .returned (.slice a m c) ∧ Ops w' a m c us ∧ us.map PV.pt = X) ∧ Below wr.heap.size wr w') := by rw [← HTX.out]; exact tidied_any xa xl xc W5.heap.size (madeX Z) wr hox hxl (by omega) (HOKZ.out wr HBW.out).1
      have CY : Hid (∀ w', Below wr.heap.size wr w' → Calls Tryz.prog 168 #[.slice ya yl yc] w' fun e w'' => (∃ a m c us, e = .returned (.slice a m c) ∧ Ops w'' a m c us ∧ us.map PV.pt = Y) ∧ Below w'.heap.size w' w'') := fun w' hb => by rw [← HTY.out]; exact tidied_any ya yl yc W5.heap.size (madeY Z) w' (own_under hoy hb) hyl (by omega) (HOKZ.out w' (HBW.out.trans (hb.mono HBW.out.size))).2
      clear hox hoy ht
      go_wp2_with fail
      refine CX.out.mono ?_
      rintro e w5 ⟨⟨a0, n0, c0, us, rfl, hO0, hp0⟩, hb5⟩
      go_wp2_with fail
      refine (CY.out _ hb5).mono ?_
      rintro e w6 ⟨⟨a1, n1, c1, us', rfl, hO1, hp1⟩, hb6⟩
      have CA : Hid (Calls Tryz.prog 102 #[.slice a0 n0 c0] w6 fun e w'' => e = .returned (.int .i64 (Ac.chk X)) ∧ Below w6.heap.size w6 w'') := by rw [← hp0]; exact CheckOp_any a0 n0 c0 us w6 (hO0.below hb6)
      have CB : Hid (∀ w', Below w6.heap.size w6 w' → Calls Tryz.prog 102 #[.slice a1 n1 c1] w' fun e w'' => e = .returned (.int .i64 (Ac.chk Y)) ∧ Below w'.heap.size w' w'') := fun w' hb => by rw [← hp1]; exact CheckOp_any a1 n1 c1 us' w' (hO1.below hb)
      have HB6 : Hid (Below w.heap.size w w6) := HBW.out.trans ((hb5.trans (hb6.mono hb5.size)).mono HBW.out.size)
      have HO0 : Hid (Ops w6 a0 n0 c0 us) := hO0.below hb6
      have HO1 : Hid (Ops w6 a1 n1 c1 us') := hO1
      have HPX : Hid (us.map PV.pt = X) := hp0
      have HPY : Hid (us'.map PV.pt = Y) := hp1
      have HF : Hid (Ac.fst2 X Y = if Ac.chk X = 0 then Ac.chk Y else Ac.chk X) := rfl
      clear hO0 hO1 hp0 hp1 hb5 hb6
      generalize Ac.chk X = rx at *
      generalize Ac.chk Y = ry at *
      go_wp2_with fail
      refine CA.out.mono ?_
      rintro e w7 ⟨rfl, hb7⟩
      have H7 : Hid (Below w6.heap.size w6 w7) := hb7
      clear hb7
      by_cases hx : rx = 0
      · subst hx
        have HF2 : Hid (Ac.fst2 X Y = ry) := by show _ = _; rw [HF.out, if_pos rfl]
        go_wp2_with fail
        refine (CB.out _ H7.out).mono ?_
        rintro e w8 ⟨rfl, hb8⟩
        have H8 : Hid (Below w6.heap.size w6 w8) := H7.out.trans (hb8.mono H7.out.size)
        clear hb8
        by_cases hy : ry = 0
        · subst hy
          go_wp2
          exact bodyPost_ret (v := .tuple #[.slice a0 n0 c0, .slice a1 n1 c1, .int .i64 0]) (by simp [results, Tryz.results93, go_sem]) rfl ⟨by unfold TurnR; rw [HF2.out, if_pos rfl, if_pos rfl]; exact ⟨a0, n0, c0, us, a1, n1, c1, us', rfl, HO0.out.below H8.out, HO1.out.below H8.out, HPX.out, HPY.out⟩, HB6.out.trans (H8.out.mono HB6.out.size)⟩
        · have hne : (ry != 0) = true := by simp [hy]
          have HNE : Hid (¬ ry = 0) := hy
          clear hy
          go_wp2
          exact bodyPost_ret (v := .tuple #[.slice none 0 0, .slice none 0 0, .int .i64 ry]) (by simp [results, Tryz.results93, go_sem]) rfl ⟨turnR_bad _ HF2.out HNE.out, HB6.out.trans (H8.out.mono HB6.out.size)⟩
      · have hne : (rx != 0) = true := by simp [hx]
        have HNE : Hid (¬ rx = 0) := hx
        have HF2 : Hid (Ac.fst2 X Y = rx) := by show _ = _; rw [HF.out, if_neg hx]
        clear hx
        go_wp2
        exact bodyPost_ret (v := .tuple #[.slice none 0 0, .slice none 0 0, .int .i64 rx]) (by simp [results, Tryz.results93, go_sem]) rfl ⟨turnR_bad _ HF2.out HNE.out, HB6.out.trans (H7.out.mono HB6.out.size)⟩
end Go.Proofs.YtbhcklkbckacpaaGreatDoor
