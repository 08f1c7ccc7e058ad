/-
  Package op: what Apply makes lies in blocks of its own.
-/
import Derived.Test.YtbhcklkbckacpaaGreatDoorM6
namespace Go.Proofs.YtbhcklkbckacpaaGreatDoor
open Go.RowKit
set_option maxRecDepth 100000 in
set_option maxHeartbeats 12800000 in
theorem apply_okF (ao ao' : Option Addr) (n cap n' cap' : Nat) (l : List It) (vs : List PV) (w : World) (hD : Doc w ao n cap l) (hO : Ops w ao' n' cap' vs) (hS : Sch w) (hE : Ac.fitE l (vs.map PV.pt) = 0) :
    Calls Tryz.prog 78 #[.slice ao n cap, .slice ao' n' cap'] w fun e w' => (∃ a c, e = .returned (.tuple #[.slice a (Ac.mk l (vs.map PV.pt)).1.length c, .int .i64 0]) ∧ Doc w' a (Ac.mk l (vs.map PV.pt)).1.length c (Ac.mk l (vs.map PV.pt)).1 ∧ ∀ ad : Addr, a = some ad → w.heap.size ≤ ad.block) ∧ Below w.heap.size w w' := by
  obtain ⟨hck, hri, hnd, hlv⟩ := Ac.fit_0 hE
  have hN80 := (Ac.check_0 hck).1
  obtain ⟨i0, hi, hz0, hz1, hz2⟩ := info_parts Tryz.infI
  have hpos : n ≠ 0 := by
    obtain ⟨_, _, l', x, e, _⟩ := Ac.check_0 hck
    have := hD.len
    rw [e] at this
    simp at this
    omega
  obtain ⟨b, off, rfl, hA⟩ := hD.lies hpos
  have H1 : Hid (Below w.heap.size w (w.alloc (.cells #[.slice (some ⟨b, off, none⟩) n cap] 34))) := (Below.refl _ _).alloc (Nat.le_refl _) _
  have CF : Hid (Calls Tryz.prog 154 #[.slice (some ⟨b, off, none⟩) n cap, .slice ao' n' cap'] (w.alloc (.cells #[.slice (some ⟨b, off, none⟩) n cap] 34)) fun e w' => e = .returned (.int .i64 (Ac.fitE l (vs.map PV.pt))) ∧ Below (w.alloc (.cells #[.slice (some ⟨b, off, none⟩) n cap] 34)).heap.size (w.alloc (.cells #[.slice (some ⟨b, off, none⟩) n cap] 34)) w') := fit_any _ ao' n cap n' cap' l vs _ (hD.below H1.out) (hO.below H1.out) (hS.below H1.out)
  rw [hE] at CF
  have HDX : Hid (Blk (w.alloc (.cells #[.slice (some ⟨b, off, none⟩) n cap] 34)) w.heap.size [.slice (some ⟨b, off, none⟩) n cap] 34) := Blk.new w _ _
  have HDS : Hid (w.heap.size < (w.alloc (.cells #[.slice (some ⟨b, off, none⟩) n cap] 34)).heap.size) := by show _ < _; simp
  have HA0 : Hid (At w b off l) := hA
  have HO0 : Hid (Ops w ao' n' cap' vs) := hO
  have HN : Hid (vs.length = n') := hO.len
  have HLL : Hid (l.length = n) := hD.len
  have HFIT : Hid (Fit l) := hD.fit
  have HM4 : Hid (Ac.M4 l) := Ac.check_m4 hck
  have HOK : Hid (∀ v ∈ vs, Ac.err1 v.pt = 0) := fun v hv => hri.ok _ (List.mem_map.2 ⟨v, hv, rfl⟩)
  have HTK : Hid (∀ k, (Ac.mk l ((vs.map PV.pt).take k)).2 ≤ n ∧ (Ac.mk l ((vs.map PV.pt).take k)).1.length ≤ 80) := fun k => by
    have := Ac.mk_take l (vs.map PV.pt) hnd k
    rw [hD.len] at this
    exact ⟨this.1, by omega⟩
  have hcap := hD.room
  have hbig := hD.big
  have hcap' := hO.row.room
  have hbig' := hO.row.big
  rw [hD.len] at hN80
  clear hD hO hS hE hck hri hnd hlv hA hpos
  obtain ⟨R, hR⟩ : ∃ R, (Ac.mk l (vs.map PV.pt)).1 = R := ⟨_, rfl⟩
  have HR : Hid ((Ac.mk l (vs.map PV.pt)).1 = R) := hR
  rw [hR]
  clear hR
  go_enter Tryz.func78, Tryz.ntmps78
  go_wp2_with fail
  refine CF.out.mono ?_
  rintro e w2 ⟨rfl, hb⟩
  have H2 : Hid (Below w.heap.size w w2) := H1.out.trans (hb.mono H1.out.size)
  have HD2 : Hid (Blk w2 w.heap.size [.slice (some ⟨b, off, none⟩) n cap] 34) := (hb.block _ HDS.out).trans HDX.out
  have HDL : Hid (w.heap.size < w2.heap.size) := HD2.out.lt
  have HA2 : Hid (At w2 b off l) := HA0.out.below H2.out
  have HO2 : Hid (Ops w2 ao' n' cap' vs) := HO0.out.below H2.out
  have HAT : Hid (Blk (w2.alloc (.cells #[.int .i64 0] 3)) w2.heap.size [.int .i64 0] 3) := Blk.new w2 [.int .i64 0] 3
  have HBA : Hid (Below w2.heap.size w2 (w2.alloc (.cells #[.int .i64 0] 3))) := (Below.refl _ _).alloc (Nat.le_refl _) _
  clear hb CF HDX HDS HA0 HO0
  go_wp2
  go_loopw [9, 21] (fun mv i wr => ∃ k : Nat, k ≤ n' ∧ i = .int .i64 k ∧ ApI w2 mv (Ac.mk l ((vs.map PV.pt).take k)) wr) (fun _ i _ => n' - (intOf i).toNat)
  case atStart => exact ⟨0, Nat.zero_le _, rfl, World.ownsRow_nil _ _ _ _, HAT.out, HBA.out, fun x hx => absurd hx (by simp [Ac.mk])⟩
  case round =>
    obtain ⟨k, hk, rfl, hI⟩ := hrel
    have HI : Hid (ApI w2 u9 (Ac.mk l ((vs.map PV.pt).take k)) wr) := hI
    clear hI
    by_cases hlt : k < n'
    · obtain ⟨pb, po, rfl, hG⟩ := HO2.out.get (by omega)
      have hkv : k < vs.length := by rw [HN.out]; exact hlt
      have HMS : Hid (Ac.mk l ((vs.map PV.pt).take (k + 1)) = Ac.mkS l (Ac.mk l ((vs.map PV.pt).take k)) vs[k].pt) := by
        have := Ac.mk_step l (vs.map PV.pt) k (by rw [List.length_map]; exact hkv)
        rw [List.getElem_map] at this
        exact this
      have hB1 := HTK.out k
      have hB2 := HTK.out (k + 1)
      rw [HMS.out] at hB2
      have hok := HOK.out vs[k] (List.getElem_mem hkv)
      have HPV := HO2.out.pts vs[k] (List.getElem_mem hkv)
      obtain ⟨c0, c1, c2, c3, c4, c5, c6⟩ := (hG k hkv).same (HI.out.blw.block pb (cell_lt (hG k hkv).c0))
      clear hG
      generalize Ac.mk l ((vs.map PV.pt).take k) = s at *
      generalize vs[k] = v at *
      obtain ⟨kind, q, vo, m, vcap, items, st, cl, gs, lk⟩ := v
      simp only at c0 c1 c2 c3 c4 c5 c6
      clear hkv
      obtain ⟨made, at0⟩ := s
      by_cases h1 : kind = 1
      · subst h1
        obtain ⟨hs4, hc4, hq1, hq2⟩ := Ac.keep_m4 hok rfl
        change 1 ≤ q at hq1
        change q ≤ 80 at hq2
        obtain ⟨qn, rfl⟩ : ∃ qn : Nat, q = qn := ⟨q.toNat, by omega⟩
        have hms : Ac.mkS l (made, at0) (PV.pt ⟨1, qn, vo, m, vcap, items, st, cl, gs, lk⟩) = (made ++ ((l.drop at0).take qn).map (fun x => Ac.change x ⟨st, cl, gs, lk⟩), at0 + qn) := rfl
        rw [hms] at HMS hB2
        have hB3 : (made ++ ((l.drop at0).take qn).map (fun x => Ac.change x ⟨st, cl, gs, lk⟩)).length ≤ 80 := hB2.2
        rw [List.length_append, List.length_map] at hB3
        have hb1 : made.length ≤ 80 := hB1.2
        obtain ⟨ml, hml⟩ : ∃ ml, made.length = ml := ⟨_, rfl⟩
        have HML : Hid (made.length = ml) := hml
        have HLT := HI.out.lt
        have HNB : Hid (some wr.heap.size ≠ u9.ownBlock) := fun e => by have := (HI.out.own.lt _ e.symm).2; omega
        have HDL1 := HDL.out
        have HS5 : Hid (Seven (boxp ⟨1, qn, vo, m, vcap, items, st, cl, gs, lk⟩ wr) wr.heap.size 0 ⟨1, qn, vo, m, vcap, items, st, cl, gs, lk⟩) := boxp_at _ wr
        have hw5 : Below wr.heap.size wr (boxp ⟨1, qn, vo, m, vcap, items, st, cl, gs, lk⟩ wr) := boxp_below _ wr
        have HB5 : Hid (Below w2.heap.size w2 (boxp ⟨1, qn, vo, m, vcap, items, st, cl, gs, lk⟩ wr)) := HI.out.blw.trans (hw5.mono (by omega))
        have HO5 : Hid ((boxp ⟨1, qn, vo, m, vcap, items, st, cl, gs, lk⟩ wr).ownsRow (w2.heap.size + 1) 39 3 u9 ml (itCells made)) := by
          have := own_under HI.out.own hw5
          rw [hml] at this
          exact this
        have HAT5 : Hid (Blk (boxp ⟨1, qn, vo, m, vcap, items, st, cl, gs, lk⟩ wr) w2.heap.size [.int .i64 at0] 3) := (hw5.block _ HI.out.atv.lt).trans HI.out.atv
        have HD5 : Hid (Blk (boxp ⟨1, qn, vo, m, vcap, items, st, cl, gs, lk⟩ wr) w.heap.size [.slice (some ⟨b, off, none⟩) n cap] 34) := (HB5.out.block _ HDL1).trans HD2.out
        have HA5 : Hid (At (boxp ⟨1, qn, vo, m, vcap, items, st, cl, gs, lk⟩ wr) b off l) := HA2.out.below HB5.out
        have hq0 : 0 < qn := by omega
        have hqn : at0 + qn ≤ n := hB2.1
        have CN : Hid (Calls Tryz.prog 155 #[.int .i64 qn, .pointer (some ⟨w2.heap.size, 0, none⟩), .pointer (some ⟨w.heap.size, 0, none⟩)] (boxp ⟨1, qn, vo, m, vcap, items, st, cl, gs, lk⟩ wr).drew fun e w' => e = .returned (.slice (some ⟨b, off + at0 * 3, none⟩) qn (cap - at0)) ∧ w' = (boxp ⟨1, qn, vo, m, vcap, items, st, cl, gs, lk⟩ wr).drew.setCell ⟨w2.heap.size, 0, none⟩ (.int .i64 ((at0 + qn : Nat) : Int))) := next_any w2.heap.size w.heap.size b off n cap at0 qn (at0 + qn) _ HAT5.out HD5.out (by omega) rfl hq0 hqn hN80 hcap
        have HW1b : Hid (Below w2.heap.size w2 ((boxp ⟨1, qn, vo, m, vcap, items, st, cl, gs, lk⟩ wr).drew.setCell ⟨w2.heap.size, 0, none⟩ (.int .i64 ((at0 + qn : Nat) : Int)))) := HB5.out.drew.setCell (Nat.le_refl _) _
        have HAT1 : Hid (Blk ((boxp ⟨1, qn, vo, m, vcap, items, st, cl, gs, lk⟩ wr).drew.setCell ⟨w2.heap.size, 0, none⟩ (.int .i64 ((at0 + qn : Nat) : Int))) w2.heap.size [.int .i64 ((at0 + qn : Nat) : Int)] 3) := HAT5.out.set 0 _
        have HS1 : Hid (Seven ((boxp ⟨1, qn, vo, m, vcap, items, st, cl, gs, lk⟩ wr).drew.setCell ⟨w2.heap.size, 0, none⟩ (.int .i64 ((at0 + qn : Nat) : Int))) wr.heap.size 0 ⟨1, qn, vo, m, vcap, items, st, cl, gs, lk⟩) := HS5.out.same (Below.heap_setCell (boxp ⟨1, qn, vo, m, vcap, items, st, cl, gs, lk⟩ wr).drew _ _ _ (by simp; omega))
        have HO1 : Hid (((boxp ⟨1, qn, vo, m, vcap, items, st, cl, gs, lk⟩ wr).drew.setCell ⟨w2.heap.size, 0, none⟩ (.int .i64 ((at0 + qn : Nat) : Int))).ownsRow (w2.heap.size + 1) 39 3 u9 ml (itCells made)) := ownsRow_setCell_below HO5.out (by simp) _
        have HA1 : Hid (At ((boxp ⟨1, qn, vo, m, vcap, items, st, cl, gs, lk⟩ wr).drew.setCell ⟨w2.heap.size, 0, none⟩ (.int .i64 ((at0 + qn : Nat) : Int))) b off l) := HA2.out.below HW1b.out
        generalize (boxp ⟨1, qn, vo, m, vcap, items, st, cl, gs, lk⟩ wr).drew.setCell ⟨w2.heap.size, 0, none⟩ (.int .i64 ((at0 + qn : Nat) : Int)) = W1 at *
        have hpl : ((l.drop at0).take qn).length = qn := by rw [List.length_take, List.length_drop, HLL.out]; omega
        have CHH : Hid (Calls Tryz.prog 156 #[.slice (some ⟨b, off + at0 * 3, none⟩) qn (cap - at0), .agg #[.int .i64 1, .int .i64 qn, .slice vo m vcap, .int .i64 st, .int .i64 cl, .bool gs, .string lk]] W1 fun e w' => (∃ g cap', e = .returned (.slice (some ⟨g, 0, none⟩) qn cap') ∧ w'.ownsRow W1.heap.size 39 3 (.slice (some ⟨g, 0, none⟩) qn cap') qn (itCells (((l.drop at0).take qn).map fun x => Ac.change x ⟨st, cl, gs, lk⟩))) ∧ Below W1.heap.size W1 w') := changed_any b (off + at0 * 3) qn (cap - at0) _ 1 qn vo m vcap items st cl gs lk W1 (HA1.out.part at0 qn) hpl hq0 (by omega) (m4_part HM4.out _ _) hs4 hc4
        have HLC : Hid ((itCells (((l.drop at0).take qn).map fun x => Ac.change x ⟨st, cl, gs, lk⟩)).length = qn * 3) := by show _ = _; rw [itCells_len, List.length_map, hpl]
        have HFN : Hid (Fit (made ++ (((l.drop at0).take qn).map fun x => Ac.change x ⟨st, cl, gs, lk⟩))) := fit_app HI.out.fit (fit_change (fit_part HFIT.out _ _) _ HPV.fit)
        have hmq : ml + qn ≤ 80 := by rw [hpl] at hB3; omega
        have HMQ : Hid ((made ++ (((l.drop at0).take qn).map fun x => Ac.change x ⟨st, cl, gs, lk⟩)).length = ml + qn) := by show _ = _; rw [List.length_append, List.length_map, hpl, hml]
        clear hms hB1 hB2 hB3 hml hpl hw5 hok hs4 hc4 HPV hb1
        generalize (((l.drop at0).take qn).map fun x => Ac.change x ⟨st, cl, gs, lk⟩) = ch at *
        go_upto_region 12 with fail
        change Code.wp Tryz.prog _ _ _ (boxp ⟨1, qn, vo, m, vcap, items, st, cl, gs, lk⟩ wr)
        generalize (boxp ⟨1, qn, vo, m, vcap, items, st, cl, gs, lk⟩ wr) = W5 at *
        clear c0 c1 c2 c3 c4 c5 c6
        obtain ⟨d0, d1, d2, d3, d4, d5, d6⟩ := HS5.out
        obtain ⟨x0, x1, x2, x3, x4, x5, x6⟩ := HS1.out
        simp only [Nat.zero_add] at d0 d1 d2 d3 d4 d5 d6 x0 x1 x2 x3 x4 x5 x6
        go_region_held3 (fun w' => w'.cell? ⟨wr.heap.size, 0, none⟩ = some (.int .i64 1) ∧ w'.cell? ⟨wr.heap.size, 1, none⟩ = some (.int .i64 qn) ∧ w'.cell? ⟨wr.heap.size, 2, none⟩ = some (.slice vo m vcap) ∧ w'.cell? ⟨wr.heap.size, 3, none⟩ = some (.int .i64 st) ∧ w'.cell? ⟨wr.heap.size, 4, none⟩ = some (.int .i64 cl) ∧ w'.cell? ⟨wr.heap.size, 5, none⟩ = some (.bool gs) ∧ w'.cell? ⟨wr.heap.size, 6, none⟩ = some (.string lk)) (first | exact ⟨d0, d1, d2, d3, d4, d5, d6⟩ | exact ⟨x0, x1, x2, x3, x4, x5, x6⟩ | exact ⟨y0, y1, y2, y3, y4, y5, y6⟩ | exact ⟨z0, z1, z2, z3, z4, z5, z6⟩) (first | (go_at_call 155; refine CN.out.mono ?_; rintro e w6 ⟨rfl, rfl⟩) | (go_at_call 156; refine CHH.out.mono ?_; rintro e w7 ⟨⟨g, cg, rfl, ho⟩, hb⟩; have HS7 : Hid (Seven w7 wr.heap.size 0 ⟨1, qn, vo, m, vcap, items, st, cl, gs, lk⟩) := HS1.out.below hb; obtain ⟨y0, y1, y2, y3, y4, y5, y6⟩ := HS7.out; simp only [Nat.zero_add] at y0 y1 y2 y3 y4 y5 y6; have HO7 : Hid (w7.ownsRow (w2.heap.size + 1) 39 3 u9 ml (itCells made)) := own_under HO1.out hb; have HN7 : Hid (∀ j u, (itCells ch)[j]? = some u → w7.cell? ((⟨g, 0, none⟩ : Addr).add j) = some u) := ho.cells rfl; have HAT7 : Hid (Blk w7 w2.heap.size [.int .i64 ((at0 + qn : Nat) : Int)] 3) := (hb.block _ HAT1.out.lt).trans HAT1.out; have HB7 : Hid (Below w2.heap.size w2 w7) := HW1b.out.trans (hb.mono (Nat.le_of_lt HAT1.out.lt)); have hsz7 : w2.heap.size + 1 ≤ w7.heap.size := HAT7.out.lt; clear ho hb) | (refine step_append_lies2 _ rfl (.tmp 29) (.tmp 35) 34 33 39 rfl Tryz.underlying33 (w2.heap.size + 1) 39 i0 (.agg #[.int .u8 0, .int .i64 0, .string ⟨#[]⟩]) 3 32 Tryz.underlying34 hi hz0 hz1 hz2 rfl (by decide) u9 ml (itCells made) rfl HO7.out ⟨g, 0, none⟩ qn cg (itCells ch) rfl HLC.out HN7.out (itCells_one _) hq0 (by unfold maxLen; omega) (by omega) hsz7 _ rfl ?_; intro g2 cap2 w8 hown hgrow hat hlt; obtain ⟨z0, z1, z2, z3, z4, z5, z6⟩ := HS7.out.same (hgrow.block _ (cell_lt HS7.out.c0) HNB.out); simp only [Nat.zero_add] at z0 z1 z2 z3 z4 z5 z6; have HFIN : Hid (ApI w2 (.slice (some ⟨g2, 0, none⟩) (ml + qn) cap2) (made ++ ch, at0 + qn) w8) := HI.out.push HAT7.out HB7.out (by rw [itCells_app, HMQ.out]; exact hown) hgrow HFN.out; clear hown hgrow hat hlt))
        go_wp2
        go_roundw
        case rel => exact ⟨k + 1, by omega, by go_num, by rw [HMS.out]; exact HFIN.out⟩
        case measure => simp [intOf]; omega
      · by_cases h2 : kind = 2
        · subst h2
          obtain ⟨hp1, hp2, -⟩ := Ac.put_len hok rfl
          change 1 ≤ items.length at hp1
          change items.length ≤ 80 at hp2
          have hlm : items.length = m := HPV.doc.len
          have hms : Ac.mkS l (made, at0) (PV.pt ⟨2, q, vo, m, vcap, items, st, cl, gs, lk⟩) = (made ++ items, at0) := rfl
          rw [hms] at HMS hB2
          have hB3 : (made ++ items).length ≤ 80 := hB2.2
          rw [List.length_append, hlm] at hB3
          rw [hlm] at hp1 hp2
          have hb1 : made.length ≤ 80 := hB1.2
          obtain ⟨ml, hml⟩ : ∃ ml, made.length = ml := ⟨_, rfl⟩
          have HML : Hid (made.length = ml) := hml
          have HLT := HI.out.lt
          have HNB : Hid (some wr.heap.size ≠ u9.ownBlock) := fun e => by have := (HI.out.own.lt _ e.symm).2; omega
          have HDL1 := HDL.out
          have HS5 : Hid (Seven (boxp ⟨2, q, vo, m, vcap, items, st, cl, gs, lk⟩ wr) wr.heap.size 0 ⟨2, q, vo, m, vcap, items, st, cl, gs, lk⟩) := boxp_at _ wr
          have hw5 : Below wr.heap.size wr (boxp ⟨2, q, vo, m, vcap, items, st, cl, gs, lk⟩ wr) := boxp_below _ wr
          have HB5 : Hid (Below w2.heap.size w2 (boxp ⟨2, q, vo, m, vcap, items, st, cl, gs, lk⟩ wr)) := HI.out.blw.trans (hw5.mono (by omega))
          have HO5 : Hid ((boxp ⟨2, q, vo, m, vcap, items, st, cl, gs, lk⟩ wr).ownsRow (w2.heap.size + 1) 39 3 u9 ml (itCells made)) := by
            have := own_under HI.out.own hw5
            rw [hml] at this
            exact this
          have HAT5 : Hid (Blk (boxp ⟨2, q, vo, m, vcap, items, st, cl, gs, lk⟩ wr) w2.heap.size [.int .i64 at0] 3) := (hw5.block _ HI.out.atv.lt).trans HI.out.atv
          have HD5 : Hid (Blk (boxp ⟨2, q, vo, m, vcap, items, st, cl, gs, lk⟩ wr) w.heap.size [.slice (some ⟨b, off, none⟩) n cap] 34) := (HB5.out.block _ HDL1).trans HD2.out
          have HA5 : Hid (At (boxp ⟨2, q, vo, m, vcap, items, st, cl, gs, lk⟩ wr) b off l) := HA2.out.below HB5.out
          obtain ⟨ib, io, rfl, hIA⟩ := HPV.doc.lies (by change m ≠ 0; omega)
          have HIA : Hid (∀ j u, (itCells items)[j]? = some u → (boxp ⟨2, q, some ⟨ib, io, none⟩, m, vcap, items, st, cl, gs, lk⟩ wr).cell? ((⟨ib, io, none⟩ : Addr).add j) = some u) := at_cells (hIA.below HB5.out)
          have HLC : Hid ((itCells items).length = m * 3) := by show _ = _; rw [itCells_len, hlm]
          have HFN : Hid (Fit (made ++ items)) := fit_app HI.out.fit HPV.doc.fit
          have hmq : ml + m ≤ 80 := by omega
          have HMQ : Hid ((made ++ items).length = ml + m) := by show _ = _; rw [List.length_append, hlm, hml]
          have hsz5 : w2.heap.size + 1 ≤ (boxp ⟨2, q, some ⟨ib, io, none⟩, m, vcap, items, st, cl, gs, lk⟩ wr).heap.size := HAT5.out.lt
          clear hms hB1 hB2 hB3 hml hw5 hok HPV hb1 hIA hlm
          go_upto_region 13 with fail
          change Code.wp Tryz.prog _ _ _ (boxp ⟨2, q, some ⟨ib, io, none⟩, m, vcap, items, st, cl, gs, lk⟩ wr)
          generalize boxp ⟨2, q, some ⟨ib, io, none⟩, m, vcap, items, st, cl, gs, lk⟩ wr = W5 at *
          clear c0 c1 c2 c3 c4 c5 c6
          obtain ⟨d0, d1, d2, d3, d4, d5, d6⟩ := HS5.out
          simp only [Nat.zero_add] at d0 d1 d2 d3 d4 d5 d6
          go_wp2_with (at_builtin; refine wpList_append_lies2 _ rfl (.tmp 39) (.tmp 41) 34 33 39 rfl Tryz.underlying33 (w2.heap.size + 1) 39 i0 (.agg #[.int .u8 0, .int .i64 0, .string ⟨#[]⟩]) 3 32 Tryz.underlying34 hi hz0 hz1 hz2 rfl (by decide) u9 ml (itCells made) rfl HO5.out ⟨ib, io, none⟩ m vcap (itCells items) rfl HLC.out HIA.out (itCells_one _) (by omega) (by unfold maxLen; omega) (by omega) hsz5 _ rfl ?c7)
          case c7 =>
            intro g2 cap2 w8 hown hgrow hat hlt2
            have HFIN : Hid (ApI w2 (.slice (some ⟨g2, 0, none⟩) (ml + m) cap2) (made ++ items, at0) w8) := HI.out.push HAT5.out HB5.out (by rw [itCells_app, HMQ.out]; exact hown) hgrow HFN.out
            clear hown hgrow hat hlt2
            go_wp2
            go_roundw
            case rel => exact ⟨k + 1, by omega, by go_num, by rw [HMS.out]; exact HFIN.out⟩
            case measure => simp [intOf]; omega
        · by_cases h3 : kind = 3
          · subst h3
            obtain ⟨hq1, hq2⟩ := Ac.cut_n hok rfl
            change 1 ≤ q at hq1
            change q ≤ 80 at hq2
            obtain ⟨qn, rfl⟩ : ∃ qn : Nat, q = qn := ⟨q.toNat, by omega⟩
            have hms : Ac.mkS l (made, at0) (PV.pt ⟨3, qn, vo, m, vcap, items, st, cl, gs, lk⟩) = (made, at0 + qn) := rfl
            rw [hms] at HMS hB2
            have hb1 : made.length ≤ 80 := hB1.2
            obtain ⟨ml, hml⟩ : ∃ ml, made.length = ml := ⟨_, rfl⟩
            have HML : Hid (made.length = ml) := hml
            have HLT := HI.out.lt
            have HNB : Hid (some wr.heap.size ≠ u9.ownBlock) := fun e => by have := (HI.out.own.lt _ e.symm).2; omega
            have HDL1 := HDL.out
            have HS5 : Hid (Seven (boxp ⟨3, qn, vo, m, vcap, items, st, cl, gs, lk⟩ wr) wr.heap.size 0 ⟨3, qn, vo, m, vcap, items, st, cl, gs, lk⟩) := boxp_at _ wr
            have hw5 : Below wr.heap.size wr (boxp ⟨3, qn, vo, m, vcap, items, st, cl, gs, lk⟩ wr) := boxp_below _ wr
            have HB5 : Hid (Below w2.heap.size w2 (boxp ⟨3, qn, vo, m, vcap, items, st, cl, gs, lk⟩ wr)) := HI.out.blw.trans (hw5.mono (by omega))
            have HO5 : Hid ((boxp ⟨3, qn, vo, m, vcap, items, st, cl, gs, lk⟩ wr).ownsRow (w2.heap.size + 1) 39 3 u9 ml (itCells made)) := by
              have := own_under HI.out.own hw5
              rw [hml] at this
              exact this
            have HAT5 : Hid (Blk (boxp ⟨3, qn, vo, m, vcap, items, st, cl, gs, lk⟩ wr) w2.heap.size [.int .i64 at0] 3) := (hw5.block _ HI.out.atv.lt).trans HI.out.atv
            have HD5 : Hid (Blk (boxp ⟨3, qn, vo, m, vcap, items, st, cl, gs, lk⟩ wr) w.heap.size [.slice (some ⟨b, off, none⟩) n cap] 34) := (HB5.out.block _ HDL1).trans HD2.out
            have HA5 : Hid (At (boxp ⟨3, qn, vo, m, vcap, items, st, cl, gs, lk⟩ wr) b off l) := HA2.out.below HB5.out
            have hq0 : 0 < qn := by omega
            have hqn : at0 + qn ≤ n := hB2.1
            have CN : Hid (Calls Tryz.prog 155 #[.int .i64 qn, .pointer (some ⟨w2.heap.size, 0, none⟩), .pointer (some ⟨w.heap.size, 0, none⟩)] (boxp ⟨3, qn, vo, m, vcap, items, st, cl, gs, lk⟩ wr) fun e w' => e = .returned (.slice (some ⟨b, off + at0 * 3, none⟩) qn (cap - at0)) ∧ w' = (boxp ⟨3, qn, vo, m, vcap, items, st, cl, gs, lk⟩ wr).setCell ⟨w2.heap.size, 0, none⟩ (.int .i64 ((at0 + qn : Nat) : Int))) := next_any w2.heap.size w.heap.size b off n cap at0 qn (at0 + qn) _ HAT5.out HD5.out (by omega) rfl hq0 hqn hN80 hcap
            have HW1b : Hid (Below w2.heap.size w2 ((boxp ⟨3, qn, vo, m, vcap, items, st, cl, gs, lk⟩ wr).setCell ⟨w2.heap.size, 0, none⟩ (.int .i64 ((at0 + qn : Nat) : Int)))) := HB5.out.setCell (Nat.le_refl _) _
            have HAT1 : Hid (Blk ((boxp ⟨3, qn, vo, m, vcap, items, st, cl, gs, lk⟩ wr).setCell ⟨w2.heap.size, 0, none⟩ (.int .i64 ((at0 + qn : Nat) : Int))) w2.heap.size [.int .i64 ((at0 + qn : Nat) : Int)] 3) := HAT5.out.set 0 _
            have HS1 : Hid (Seven ((boxp ⟨3, qn, vo, m, vcap, items, st, cl, gs, lk⟩ wr).setCell ⟨w2.heap.size, 0, none⟩ (.int .i64 ((at0 + qn : Nat) : Int))) wr.heap.size 0 ⟨3, qn, vo, m, vcap, items, st, cl, gs, lk⟩) := HS5.out.same (Below.heap_setCell (boxp ⟨3, qn, vo, m, vcap, items, st, cl, gs, lk⟩ wr) _ _ _ (by simp; omega))
            have HO1 : Hid (((boxp ⟨3, qn, vo, m, vcap, items, st, cl, gs, lk⟩ wr).setCell ⟨w2.heap.size, 0, none⟩ (.int .i64 ((at0 + qn : Nat) : Int))).ownsRow (w2.heap.size + 1) 39 3 u9 ml (itCells made)) := ownsRow_setCell_below HO5.out (by simp) _
            have HA1 : Hid (At ((boxp ⟨3, qn, vo, m, vcap, items, st, cl, gs, lk⟩ wr).setCell ⟨w2.heap.size, 0, none⟩ (.int .i64 ((at0 + qn : Nat) : Int))) b off l) := HA2.out.below HW1b.out
            have HFIN : Hid (ApI w2 u9 (made, at0 + qn) ((boxp ⟨3, qn, vo, m, vcap, items, st, cl, gs, lk⟩ wr).setCell ⟨w2.heap.size, 0, none⟩ (.int .i64 ((at0 + qn : Nat) : Int)))) := ⟨by rw [HML.out]; exact HO1.out, HAT1.out, HW1b.out, HI.out.fit⟩
            clear hms hB1 hB2 hml hw5 hok HPV hb1
            go_upto_region 13 with fail
            change Code.wp Tryz.prog _ _ _ (boxp ⟨3, qn, vo, m, vcap, items, st, cl, gs, lk⟩ wr)
            generalize boxp ⟨3, qn, vo, m, vcap, items, st, cl, gs, lk⟩ wr = W5 at *
            clear c0 c1 c2 c3 c4 c5 c6
            obtain ⟨d0, d1, d2, d3, d4, d5, d6⟩ := HS5.out
            simp only [Nat.zero_add] at d0 d1 d2 d3 d4 d5 d6
            go_wp2_with fail
            refine CN.out.mono ?_
            rintro e w6 ⟨rfl, rfl⟩
            go_wp2
            go_roundw
            case rel => exact ⟨k + 1, by omega, by go_num, by rw [HMS.out]; exact HFIN.out⟩
            case measure => simp [intOf]; omega
          · exact absurd (Ac.kind_of hok) (fun h => h.elim h1 (fun h => h.elim h2 h3))
    · have hkn : k = n' := by omega
      have hm : Ac.mk l ((vs.map PV.pt).take k) = Ac.mk l (vs.map PV.pt) := by rw [List.take_of_length_le (by rw [List.length_map, HN.out]; omega)]
      rw [hm] at HI
      obtain ⟨a, c, hv, hd⟩ := own_doc HI.out.own HI.out.fit rfl
      have HFR : Hid (∀ ad : Addr, a = some ad → w.heap.size ≤ ad.block) := fun ad e => by
        have h1 := ownBlk_ge HI.out.own ad.block (by rw [hv, e]; rfl)
        have := H2.out.size
        omega
      rw [HR.out] at hv hd
      have HB : Hid (Below w.heap.size w wr) := H2.out.trans (HI.out.blw.mono (Nat.le_of_lt HDL.out))
      have HDD : Hid (Doc wr a R.length c R) := hd
      obtain ⟨rl, hrl⟩ : ∃ rl, R.length = rl := ⟨_, rfl⟩
      rw [hrl] at hv HDD
      have HRL : Hid (R.length = rl) := hrl
      subst hv hkn
      clear hm hd hrl
      go_wp2
      go_ret2
      exact ⟨⟨a, c, by rw [HRL.out]; rfl, by rw [HRL.out]; exact HDD.out, HFR.out⟩, HB.out⟩
end Go.Proofs.YtbhcklkbckacpaaGreatDoor
