/-
  Package op: Tidy, of whatever operation.
-/
import Derived.Test.YtlhkomiiockaoaaDoorOn
import Derived.Test.YtlhkomiiockaoaaDoorPc
namespace Go.Proofs.YtlhkomiiockaoaaDoor
open Go.RowKit

theorem Ac.err1_nd_le {p : Ac.Pt} (h : Ac.err1 p = 0) : Ac.nd1 p ≤ 80 := by
  have := Ac.err1_nd h
  have := Ac.err1_n h
  omega
theorem Ac.nd_le : ∀ (o : List Ac.Pt), (∀ p ∈ o, Ac.err1 p = 0) → Ac.nd o ≤ o.length * 80
  | [], _ => by simp [Ac.nd]
  | p :: o, h => by
    rw [Ac.nd_cons, List.length_cons]
    have := Ac.err1_nd_le (h p (List.mem_cons_self ..))
    have := Ac.nd_le o (fun q hq => h q (List.mem_cons_of_mem _ hq))
    omega
/-- A Keep is behind what is made. -/
theorem Tdy.keep {w1 w6 w7 : World} {tv tv' : Value} {out out' : List PV} {p : PV} (h : Tdy w1 tv (.slice none 0 0) out [] 0 w6) (hw : WithTo w6 (w1.heap.size + 3) tv out p w7 tv' out') : Tdy w1 tv' (.slice none 0 0) out' [] 0 (w7.setCell ⟨w1.heap.size, 0, none⟩ tv') := by
  have hlo : ∀ x ∈ ob tv, w1.heap.size + 3 ≤ x := fun x hx => ownBlk_ge h.tide.own x (ob_mem hx)
  have hb := hw.kept.blk h.tb (fun hx => by have := hlo _ hx; omega)
  have hp := hw.kept.blk h.pb (fun hx => by have := hlo _ hx; omega)
  have hc := hw.kept.blk h.cb (fun hx => by have := hlo _ hx; omega)
  obtain ⟨ht, -, hb2⟩ := hw.tide.var (kept_cons hw.kept _) hb
  refine ⟨?_, hb2, hp.other _ _ (by simp), hc.other _ _ (by simp), ht, World.ownsRow_nil _ _ _ _, fun x hx => absurd hx (by simp), fun v _ => far_none v rfl, fun k _ e => by cases e⟩
  exact (h.blw.trans (hw.kept.below h.blw.size (fun x hx => by have := hlo x hx; omega))).setCell (Nat.le_refl _) _
/-- Items are put. -/
theorem Tdy.puts {w1 w w3 : World} {tv pv : Value} {out : List PV} {put items : List It} {cut g cap n : Nat} (h : Tdy w1 tv pv out put cut w) (hf : Fit items)
    (hown : w3.ownsRow (w1.heap.size + 3) 68 3 (.slice (some ⟨g, 0, none⟩) n cap) n (itCells (put ++ items))) (hn : (put ++ items).length = n) (hg : w.grownBy w3 pv.ownBlock) (hat : pv.ownBlock = some g ∨ g = w.heap.size) :
    Tdy w1 tv (.slice (some ⟨g, 0, none⟩) n cap) out (put ++ items) cut (w3.setCell ⟨w1.heap.size + 1, 0, none⟩ (.slice (some ⟨g, 0, none⟩) n cap)) := by
  have hk := grown_kept hg
  have hlo : ∀ x ∈ ob pv, w1.heap.size + 3 ≤ x := fun x hx => ownBlk_ge h.pown x (ob_mem hx)
  have hb := hk.blk h.tb (fun hx => by have := hlo _ hx; omega)
  have hp := hk.blk h.pb (fun hx => by have := hlo _ hx; omega)
  have hc := hk.blk h.cb (fun hx => by have := hlo _ hx; omega)
  have ht3 : Tide w3 (w1.heap.size + 3) tv out := h.tide.kept hk (fun x hx e => h.apart x e (ob_mem hx)) (fun v hv a hm ha hx => h.pfar v hv a hm ha (ob_mem hx).symm)
  have hks : Kept w3 (w3.setCell ⟨w1.heap.size + 1, 0, none⟩ (.slice (some ⟨g, 0, none⟩) n cap)) [w1.heap.size + 1] := kept_set _ _ _ _ _ (List.mem_singleton.2 rfl)
  refine ⟨?_, hb.other _ _ (by simp), hp.set 0 _, hc.other _ _ (by simp), ?_, ?_, fit_app h.pfit hf, fun v hv a hm ha e => ?_, fun k hk e => ?_⟩
  · exact (h.blw.trans (hk.below h.blw.size (fun x hx => by have := hlo x hx; omega))).setCell (Nat.le_succ _) _
  · refine ht3.kept hks (fun x hx e => ?_) (fun v hv a hm ha hx => ?_)
    · have := ownBlk_ge ht3.own x e
      rw [List.mem_singleton] at hx
      omega
    · have := ht3.hi v hv a hm ha
      rw [List.mem_singleton] at hx
      omega
  · rw [hn]
    exact ownsRow_setCell_below hown (by simp) _
  · rcases hat with e2 | e2
    · exact h.pfar v hv a hm ha (by rw [e2]; exact e)
    · have h1 := (h.tide.pts v hv).lies hm ha
      have : a.block = g := by simpa [Value.ownBlock] using e
      omega
  · have hkg : g = k := by simpa [Value.ownBlock] using e
    rcases hat with e2 | e2
    · exact h.apart k hk (by rw [e2, hkg])
    · have := (h.tide.own.lt k hk).2
      omega
/-- Items are cut. -/
theorem Tdy.cuts {w1 w : World} {tv pv : Value} {out : List PV} {put : List It} {cut : Nat} (h : Tdy w1 tv pv out put cut w) (c : Nat) : Tdy w1 tv pv out put c (w.setCell ⟨w1.heap.size + 2, 0, none⟩ (.int .i64 c)) := by
  have hks : Kept w (w.setCell ⟨w1.heap.size + 2, 0, none⟩ (.int .i64 c)) [w1.heap.size + 2] := kept_set _ _ _ _ _ (List.mem_singleton.2 rfl)
  refine ⟨h.blw.setCell (by simp) _, h.tb.other _ _ (by simp), h.pb.other _ _ (by simp), h.cb.set 0 _, ?_, ownsRow_setCell_below h.pown (by simp) _, h.pfit, h.pfar, h.apart⟩
  refine h.tide.kept hks (fun x hx e => ?_) (fun v hv a hm ha hx => ?_)
  · have := ownBlk_ge h.tide.own x e
    rw [List.mem_singleton] at hx
    omega
  · have := h.tide.hi v hv a hm ha
    rw [List.mem_singleton] at hx
    omega
/-- The three variables as they are laid. -/
def tide0 (w : World) : World := ((w.alloc (.cells #[(.slice none 0 0)] 23)).alloc (.cells #[(.slice none 0 0)] 31)).alloc (.cells #[.int .i64 0] 3)
theorem tide0_tdy (w : World) : Tdy w (.slice none 0 0) (.slice none 0 0) [] [] 0 (tide0 w) := by
  have h1 := Blk.new w [(.slice none 0 0)] 23
  have h2 := Blk.newAt (w.alloc (.cells #[(.slice none 0 0)] 23)) (w.heap.size + 1) [(.slice none 0 0)] 31 (World.size_alloc ..)
  have h3 := Blk.newAt ((w.alloc (.cells #[(.slice none 0 0)] 23)).alloc (.cells #[(.slice none 0 0)] 31)) (w.heap.size + 2) [.int .i64 0] 3 (by rw [World.size_alloc, World.size_alloc])
  exact ⟨(((Below.refl _ _).alloc (Nat.le_refl _) _).alloc (by simp) _).alloc (by simp; omega) _, (h1.alloc _).alloc _, h2.alloc _, h3, Tide.nil _ _, World.ownsRow_nil _ _ _ _, fun x hx => absurd hx (by simp), fun v hv => absurd hv (by simp), fun k e => by cases e⟩

theorem Tide.mono {w : World} {B B' : Nat} {tv : Value} {out : List PV} (h : Tide w B tv out) (hB : B' ≤ B) : Tide w B' tv out :=
  ⟨h.own.mono hB, h.pts, h.far, fun v hv a hm ha => Nat.le_trans hB (h.hi v hv a hm ha)⟩
theorem Tide.ops {w : World} {B : Nat} {tv : Value} {out : List PV} (h : Tide w B tv out) : ∃ a c, tv = .slice a out.length c ∧ Ops w a out.length c out := by
  obtain ⟨a, c, e, hrow⟩ := own_row h.own
  exact ⟨a, c, e, hrow, h.pts⟩
set_option maxRecDepth 100000 in
set_option maxHeartbeats 12800000 in
theorem tidied0_any (ao : Option Addr) (n cap : Nat) (vs : List PV) (w : World) (hO : Ops w ao n cap vs) (hok : ∀ v ∈ vs, Ac.err1 v.pt = 0) (hfew : vs.length ≤ 100) :
    Calls Tryd.prog 26 #[.slice ao n cap] w fun e w' => (∃ tv us, e = .returned tv ∧ Tide w' w.heap.size tv us ∧ us.map PV.pt = (Ac.ts (vs.map PV.pt)).out ++ Ac.flushP (Ac.ts (vs.map PV.pt)).put (Ac.ts (vs.map PV.pt)).cut) ∧ Below w.heap.size w w' := by
  have hOKL : ∀ p ∈ vs.map PV.pt, Ac.err1 p = 0 := fun p hp => by
    obtain ⟨v, hv, rfl⟩ := List.mem_map.1 hp
    exact hok v hv
  obtain ⟨i0, hi, hz0, hz1, hz2⟩ := info_parts Tryd.infI
  have HO0 : Hid (Ops w ao n cap vs) := hO
  have HN : Hid (vs.length = n) := hO.len
  have hn40 : n ≤ 100 := by have := hO.len; omega
  have HOK : Hid (∀ v ∈ vs, Ac.err1 v.pt = 0) := hok
  have HTB : Hid (∀ k, (Ac.ts ((vs.map PV.pt).take k)).out.length + 2 ≤ 200 ∧ (∀ z ∈ (Ac.ts ((vs.map PV.pt).take k)).out ++ Ac.flushP (Ac.ts ((vs.map PV.pt).take k)).put (Ac.ts ((vs.map PV.pt).take k)).cut, 0 ≤ z.n ∧ z.n ≤ 8000) ∧ (Ac.ts ((vs.map PV.pt).take k)).cut ≤ 8000 ∧ (Ac.ts ((vs.map PV.pt).take k)).put.length ≤ 8000) := fun k => by
    have hb := Ac.ts_bound (o := (vs.map PV.pt).take k) (fun p hp => hOKL p (List.mem_of_mem_take hp))
    have h1 := Ac.nd_take (vs.map PV.pt) k
    have h2 := Ac.lv_take (vs.map PV.pt) k
    have h3 := Ac.lv_le (vs.map PV.pt) hOKL
    have h4 : (vs.map PV.pt).length ≤ 100 := by rw [List.length_map]; exact hfew
    have h5 := Ac.nd_le (vs.map PV.pt) hOKL
    have h6 := hb.len
    have h7 := hb.sum
    have h8 := hb.put
    have h9 : ((vs.map PV.pt).take k).length ≤ 100 := by rw [List.length_take]; omega
    have hpos : ∀ z ∈ (Ac.ts ((vs.map PV.pt).take k)).out ++ Ac.flushP (Ac.ts ((vs.map PV.pt).take k)).put (Ac.ts ((vs.map PV.pt).take k)).cut, 0 ≤ z.n := fun z hz => by
      rcases List.mem_append.1 hz with hz | hz
      · exact hb.pos z hz
      · exact Ac.flush_n hz
    have hsl := Ac.sum_le hpos
    have hse : Ac.sumN ((Ac.ts ((vs.map PV.pt).take k)).out ++ Ac.flushP (Ac.ts ((vs.map PV.pt).take k)).put (Ac.ts ((vs.map PV.pt).take k)).cut) = Ac.nd ((vs.map PV.pt).take k) := by rw [Ac.sumN_app, Ac.sumN_flush]; exact h7
    have hp0 := (Ac.sum_le hb.pos).1
    refine ⟨by omega, fun z hz => ⟨hpos z hz, ?_⟩, by omega, by omega⟩
    have := hsl.2 z hz
    omega
  have hcap := hO.row.room
  have hbig := hO.row.big
  clear hO hok hfew hOKL
  have HO2 : Hid (Ops w ao n cap vs) := HO0.out
  have HT0 : Hid (Tdy w (.slice none 0 0) (.slice none 0 0) [] [] 0 (tide0 w)) := tide0_tdy w
  clear HO0
  go_enter Tryd.func26, Tryd.ntmps26
  go_wp2
  go_loopw [12] (fun i wr => ∃ k : Nat, k ≤ n ∧ i = .int .i64 k ∧ ∃ tv pv out, Tdy w tv pv out (Ac.ts ((vs.map PV.pt).take k)).put (Ac.ts ((vs.map PV.pt).take k)).cut wr ∧ out.map PV.pt = (Ac.ts ((vs.map PV.pt).take k)).out) (fun i _ => n - (intOf i).toNat)
  case atStart => exact ⟨0, Nat.zero_le _, rfl, _, _, [], HT0.out, rfl⟩
  case round =>
    obtain ⟨k, hk, rfl, tv, pv, out, hT, hpt⟩ := hrel
    have HT : Hid (Tdy w tv pv out (Ac.ts ((vs.map PV.pt).take k)).put (Ac.ts ((vs.map PV.pt).take k)).cut wr) := hT
    have HPT : Hid (out.map PV.pt = (Ac.ts ((vs.map PV.pt).take k)).out) := hpt
    clear hT hpt HT0
    by_cases hlt : k < n
    · obtain ⟨pb, po, rfl, hG⟩ := HO2.out.get (by omega)
      have hkv : k < vs.length := by rw [HN.out]; exact hlt
      have HMS : Hid (Ac.ts ((vs.map PV.pt).take (k + 1)) = Ac.tS (Ac.ts ((vs.map PV.pt).take k)) vs[k].pt) := by
        have := Ac.ts_step (vs.map PV.pt) k (by rw [List.length_map]; exact hkv)
        rw [List.getElem_map] at this
        exact this
      have hB1 := HTB.out k
      have hok := HOK.out vs[k] (List.getElem_mem hkv)
      have HPV := HO2.out.pts vs[k] (List.getElem_mem hkv)
      obtain ⟨c0, c1, c2, c3, c4, c5, c6⟩ := (hG k hkv).same (HT.out.blw.block pb (cell_lt (hG k hkv).c0))
      clear hG
      generalize Ac.ts ((vs.map PV.pt).take k) = s at *
      generalize vs[k] = v at *
      obtain ⟨kind, q, vo, m, vcap, items, st, cl, gs, lk⟩ := v
      simp only at c0 c1 c2 c3 c4 c5 c6
      clear hkv
      obtain ⟨so, sp, sc⟩ := s
      simp only at HT HPT hB1
      obtain ⟨hb1, hb2, hb3, hb4⟩ := hB1
      have hol : out.length + 2 ≤ 200 := by have := congrArg List.length HPT.out; rw [List.length_map] at this; omega
      have hsz : w.heap.size + 3 ≤ wr.heap.size := HT.out.cb.lt
      by_cases h1 : kind = 1
      · subst h1
        have hqb : 0 ≤ q ∧ q ≤ 80 := Ac.err1_n hok
        have hms : Ac.tS ⟨so, sp, sc⟩ (PV.pt ⟨1, q, vo, m, vcap, items, st, cl, gs, lk⟩) = ⟨Ac.withK (so ++ Ac.flushP sp sc) (PV.pt ⟨1, q, vo, m, vcap, items, st, cl, gs, lk⟩), [], 0⟩ := rfl
        rw [hms] at HMS
        have HS5 : Hid (Seven (boxp ⟨1, q, vo, m, vcap, items, st, cl, gs, lk⟩ wr) wr.heap.size 0 ⟨1, q, vo, m, vcap, items, st, cl, gs, lk⟩) := boxp_at _ wr
        have hw5 : Below wr.heap.size wr (boxp ⟨1, q, vo, m, vcap, items, st, cl, gs, lk⟩ wr) := boxp_below _ wr
        have HT5 : Hid (Tdy w tv pv out sp sc (boxp ⟨1, q, vo, m, vcap, items, st, cl, gs, lk⟩ wr)) := HT.out.under hw5
        have HNB : Hid (∀ x ∈ w.heap.size :: (w.heap.size + 1) :: (w.heap.size + 2) :: ob tv, x ≠ wr.heap.size) := fun x hx e => by
          simp only [List.mem_cons] at hx
          rcases hx with h | h | h | h
          · omega
          · omega
          · omega
          · have := (HT.out.tide.own.lt x (ob_mem h)).2; omega
        have HL5 : Hid (wr.heap.size < (boxp ⟨1, q, vo, m, vcap, items, st, cl, gs, lk⟩ wr).heap.size) := by show _ < _; rw [boxp_size]; omega
        have HP5 : Hid (Pvt w ⟨1, q, vo, m, vcap, items, st, cl, gs, lk⟩) := HPV
        have HBN : Hid (∀ z ∈ so ++ Ac.flushP sp sc, 0 ≤ z.n ∧ z.n ≤ 8000) := hb2
        clear hw5 hms hok HPV hb2
        go_upto_region 10 with fail
        change Code.wp Tryd.prog _ _ _ (boxp ⟨1, q, vo, m, vcap, items, st, cl, gs, lk⟩ wr)
        generalize boxp ⟨1, q, vo, m, vcap, items, st, cl, gs, lk⟩ wr = W5 at *
        clear c0 c1 c2 c3 c4 c5 c6
        obtain ⟨d0, d1, d2, d3, d4, d5, d6⟩ := HS5.out
        simp only [Nat.zero_add] at d0 d1 d2 d3 d4 d5 d6
        go_wp2_with fail
        refine (settle_any w W5 tv pv out sp sc HT5.out (by omega) (by omega) (by omega)).mono ?_
        rintro e w6 ⟨rfl, tv6, out6, hT6, hp6, hl6, hk6⟩
        have HT6 : Hid (Tdy w tv6 (.slice none 0 0) out6 [] 0 w6) := hT6
        have HS6 : Hid (Seven w6 wr.heap.size 0 ⟨1, q, vo, m, vcap, items, st, cl, gs, lk⟩) := HS5.out.same (hk6.block _ HL5.out (fun hm => HNB.out _ hm rfl))
        have HPT6 : Hid (out6.map PV.pt = so ++ Ac.flushP sp sc) := by show _ = _; rw [hp6, HPT.out]
        have HN6 : Hid (∀ z ∈ out6, 0 ≤ z.n ∧ z.n ≤ 8000) := fun z hz => by
          have : z.pt ∈ so ++ Ac.flushP sp sc := by rw [← HPT6.out]; exact List.mem_map.2 ⟨z, hz, rfl⟩
          exact HBN.out z.pt this
        have t6 : w6.cell? ⟨w.heap.size, 0, none⟩ = some tv6 := hT6.tb.cell 0
        have HP6 : Hid (Pvt w6 ⟨1, q, vo, m, vcap, items, st, cl, gs, lk⟩) := HP5.out.below hT6.blw
        have CW : Hid (Calls Tryd.prog 64 #[tv6, .agg #[.int .i64 1, .int .i64 q, .slice vo m vcap, .int .i64 st, .int .i64 cl, .bool gs, .string lk]] w6 fun e w' => ∃ tv' out', e = .returned tv' ∧ WithTo w6 (w.heap.size + 3) tv6 out6 ⟨1, q, vo, m, vcap, items, st, cl, gs, lk⟩ w' tv' out') := withKeep_any w6 (w.heap.size + 3) tv6 out6 ⟨1, q, vo, m, vcap, items, st, cl, gs, lk⟩ hT6.tide hT6.cb.lt (by omega) HP6.out (far_zero rfl _) (high_zero rfl _) (fun z hz => ⟨(HN6.out z hz).1, by have := (HN6.out z hz).2; omega⟩) ⟨hqb.1, by change q ≤ 100000; omega⟩
        obtain ⟨d0, d1, d2, d3, d4, d5, d6⟩ := HS6.out
        simp only [Nat.zero_add] at d0 d1 d2 d3 d4 d5 d6
        clear hT6 hp6 hk6
        go_wp2_with fail
        refine CW.out.mono ?_
        rintro e w7 ⟨tv7, out7, rfl, hW⟩
        have HT7 : Hid (Tdy w tv7 (.slice none 0 0) out7 [] 0 (w7.setCell ⟨w.heap.size, 0, none⟩ tv7)) := HT6.out.keep hW
        have HPT7 : Hid (out7.map PV.pt = Ac.withK (so ++ Ac.flushP sp sc) (PV.pt ⟨1, q, vo, m, vcap, items, st, cl, gs, lk⟩)) := by show _ = _; rw [hW.pt, HPT6.out]
        have hb7 := hW.kept.blk HT6.out.tb (fun hx => by have := ownBlk_ge HT6.out.tide.own _ (ob_mem hx); omega)
        have t7 : w7.cell? ⟨w.heap.size, 0, none⟩ = some tv6 := hb7.cell 0
        have f7 := hb7.frozen 0
        obtain ⟨ta, tc, htv7, -⟩ := own_row hW.tide.own
        obtain ⟨ol7, hol7⟩ : ∃ ol7, out7.length = ol7 := ⟨_, rfl⟩
        rw [hol7] at htv7
        subst htv7
        clear hW hol7 hb7 d0 d1 d2 d3 d4 d5 d6 t6
        go_wp2
        go_roundw
        case rel => exact ⟨k + 1, by omega, by go_num, _, _, out7, by rw [HMS.out]; exact HT7.out, by rw [HMS.out]; exact HPT7.out⟩
        case measure => simp [intOf]; omega
      · by_cases h2 : kind = 2
        · subst h2
          obtain ⟨hp1, hp2, -⟩ := Ac.put_len hok rfl
          change 1 ≤ items.length at hp1
          change items.length ≤ 80 at hp2
          have hlm : items.length = m := HPV.doc.len
          rw [hlm] at hp1 hp2
          have hms : Ac.tS ⟨so, sp, sc⟩ (PV.pt ⟨2, q, vo, m, vcap, items, st, cl, gs, lk⟩) = ⟨so, sp ++ items, sc⟩ := rfl
          rw [hms] at HMS
          obtain ⟨ib, io, rfl, hIA⟩ := HPV.doc.lies (by change m ≠ 0; omega)
          have HS5 : Hid (Seven (boxp ⟨2, q, some ⟨ib, io, none⟩, m, vcap, items, st, cl, gs, lk⟩ wr) wr.heap.size 0 ⟨2, q, some ⟨ib, io, none⟩, m, vcap, items, st, cl, gs, lk⟩) := boxp_at _ wr
          have hw5 : Below wr.heap.size wr (boxp ⟨2, q, some ⟨ib, io, none⟩, m, vcap, items, st, cl, gs, lk⟩ wr) := boxp_below _ wr
          have HT5 : Hid (Tdy w tv pv out sp sc (boxp ⟨2, q, some ⟨ib, io, none⟩, m, vcap, items, st, cl, gs, lk⟩ wr)) := HT.out.under hw5
          have HIA : Hid (∀ j u, (itCells items)[j]? = some u → (boxp ⟨2, q, some ⟨ib, io, none⟩, m, vcap, items, st, cl, gs, lk⟩ wr).cell? ((⟨ib, io, none⟩ : Addr).add j) = some u) := at_cells (hIA.below HT5.out.blw)
          have HLC : Hid ((itCells items).length = m * 3) := by show _ = _; rw [itCells_len, hlm]
          obtain ⟨ml, hml⟩ : ∃ ml, sp.length = ml := ⟨_, rfl⟩
          rw [hml] at hb4
          have HFI : Hid (Fit items) := HPV.doc.fit
          have HMQ : Hid ((sp ++ items).length = ml + m) := by show _ = _; rw [List.length_append, hlm, hml]
          have HO5 : Hid ((boxp ⟨2, q, some ⟨ib, io, none⟩, m, vcap, items, st, cl, gs, lk⟩ wr).ownsRow (w.heap.size + 3) 68 3 pv ml (itCells sp)) := by have := HT5.out.pown; rw [hml] at this; exact this
          obtain ⟨pa, pc, hpv, -⟩ := own_row HO5.out
          have hsz5 : w.heap.size + 3 ≤ (boxp ⟨2, q, some ⟨ib, io, none⟩, m, vcap, items, st, cl, gs, lk⟩ wr).heap.size := HT5.out.cb.lt
          clear hms hok HPV hlm hIA hw5 hml
          subst hpv
          go_upto_region 12 with fail
          change Code.wp Tryd.prog _ _ _ (boxp ⟨2, q, some ⟨ib, io, none⟩, m, vcap, items, st, cl, gs, lk⟩ wr)
          generalize boxp ⟨2, q, some ⟨ib, io, none⟩, m, vcap, items, st, cl, gs, lk⟩ wr = W5 at *
          clear c0 c1 c2 c3 c4 c5 c6
          obtain ⟨d0, d1, d2, d3, d4, d5, d6⟩ := HS5.out
          simp only [Nat.zero_add] at d0 d1 d2 d3 d4 d5 d6
          have p5 : W5.cell? ⟨w.heap.size + 1, 0, none⟩ = some (.slice pa ml pc) := HT5.out.pb.cell 0
          go_wp2_with (at_builtin; refine wpList_append_lies _ rfl (.tmp 27) (.tmp 29) 31 rfl (w.heap.size + 3) 68 i0 (.agg #[.int .u8 0, .int .i64 0, .string ⟨#[]⟩]) 3 32 Tryd.underlying31 hi hz0 hz1 hz2 rfl (by decide) _ ml (itCells sp) rfl HO5.out ⟨ib, io, none⟩ m vcap (itCells items) rfl HLC.out HIA.out (itCells_one _) (by omega) (by unfold maxLen; omega) (by omega) hsz5 _ rfl ?c7)
          case c7 =>
            intro g2 cap2 w8 hown hgrow hat hlt2
            have hb8 := (grown_kept hgrow).blk HT5.out.pb (fun hx => by have := ownBlk_ge HO5.out _ (ob_mem hx); omega)
            have HFIN : Hid (Tdy w tv (.slice (some ⟨g2, 0, none⟩) (ml + m) cap2) out (sp ++ items) sc (w8.setCell ⟨w.heap.size + 1, 0, none⟩ (.slice (some ⟨g2, 0, none⟩) (ml + m) cap2))) := HT5.out.puts HFI.out (by rw [itCells_app]; exact hown) HMQ.out hgrow hat
            have p8 : w8.cell? ⟨w.heap.size + 1, 0, none⟩ = some (.slice pa ml pc) := hb8.cell 0
            have f8 := hb8.frozen 0
            clear hown hgrow hat hlt2 hb8
            go_wp2
            go_roundw
            case rel => exact ⟨k + 1, by omega, by go_num, _, _, out, by rw [HMS.out]; exact HFIN.out, by rw [HMS.out]; exact HPT.out⟩
            case measure => simp [intOf]; omega
        · by_cases h3 : kind = 3
          · subst h3
            obtain ⟨hq1, hq2⟩ := Ac.cut_n hok rfl
            change 1 ≤ q at hq1
            change q ≤ 80 at hq2
            obtain ⟨qn, rfl⟩ : ∃ qn : Nat, q = qn := ⟨q.toNat, by omega⟩
            have hms : Ac.tS ⟨so, sp, sc⟩ (PV.pt ⟨3, qn, vo, m, vcap, items, st, cl, gs, lk⟩) = ⟨so, sp, sc + qn⟩ := rfl
            rw [hms] at HMS
            have HS5 : Hid (Seven (boxp ⟨3, qn, vo, m, vcap, items, st, cl, gs, lk⟩ wr) wr.heap.size 0 ⟨3, qn, vo, m, vcap, items, st, cl, gs, lk⟩) := boxp_at _ wr
            have hw5 : Below wr.heap.size wr (boxp ⟨3, qn, vo, m, vcap, items, st, cl, gs, lk⟩ wr) := boxp_below _ wr
            have HT5 : Hid (Tdy w tv pv out sp sc (boxp ⟨3, qn, vo, m, vcap, items, st, cl, gs, lk⟩ wr)) := HT.out.under hw5
            have HFIN : Hid (Tdy w tv pv out sp (sc + qn) ((boxp ⟨3, qn, vo, m, vcap, items, st, cl, gs, lk⟩ wr).setCell ⟨w.heap.size + 2, 0, none⟩ (.int .i64 ((sc + qn : Nat) : Int)))) := HT5.out.cuts (sc + qn)
            clear hms hok HPV hw5
            go_upto_region 12 with fail
            change Code.wp Tryd.prog _ _ _ (boxp ⟨3, qn, vo, m, vcap, items, st, cl, gs, lk⟩ wr)
            generalize boxp ⟨3, qn, vo, m, vcap, items, st, cl, gs, lk⟩ wr = W5 at *
            clear c0 c1 c2 c3 c4 c5 c6
            obtain ⟨d0, d1, d2, d3, d4, d5, d6⟩ := HS5.out
            simp only [Nat.zero_add] at d0 d1 d2 d3 d4 d5 d6
            have k5 : W5.cell? ⟨w.heap.size + 2, 0, none⟩ = some (.int .i64 sc) := HT5.out.cb.cell 0
            have f5 := HT5.out.cb.frozen 0
            rw [Int.natCast_add] at HFIN
            go_wp2
            go_roundw
            case rel => exact ⟨k + 1, by omega, by go_num, _, _, out, by rw [HMS.out]; exact HFIN.out, by rw [HMS.out]; exact HPT.out⟩
            case measure => simp [intOf]; omega
          · exact absurd (Ac.kind_of hok) (fun h => h.elim h1 (fun h => h.elim h2 h3))
    · have hkn : k = n := by omega
      have hm : (vs.map PV.pt).take k = vs.map PV.pt := List.take_of_length_le (by rw [List.length_map, HN.out]; omega)
      rw [hm] at HT HPT
      have hB9 := HTB.out n
      rw [List.take_of_length_le (by rw [List.length_map, HN.out]; omega)] at hB9
      obtain ⟨s, hs⟩ : ∃ s, Ac.ts (vs.map PV.pt) = s := ⟨_, rfl⟩
      have HTS : Hid (Ac.ts (vs.map PV.pt) = s) := hs
      rw [hs] at HT HPT hB9
      clear hs
      obtain ⟨so, sp, sc⟩ := s
      simp only at HT HPT hB9
      obtain ⟨hb1, -, hb3, hb4⟩ := hB9
      have hol : out.length + 2 ≤ 200 := by have := congrArg List.length HPT.out; rw [List.length_map] at this; omega
      clear hm
      subst hkn
      go_wp2_with fail
      refine (settle_any w wr tv pv out sp sc HT.out (by omega) (by omega) (by omega)).mono ?_
      rintro e w6 ⟨rfl, tv6, out6, hT6, hp6, hl6, -⟩
      have HTT : Hid (Tide w6 w.heap.size tv6 out6) := hT6.tide.mono (by omega)
      have HPT6 : Hid (out6.map PV.pt = so ++ Ac.flushP sp sc) := by show _ = _; rw [hp6, HPT.out]
      have HB : Hid (Below w.heap.size w w6) := hT6.blw
      have t9 : w6.cell? ⟨w.heap.size, 0, none⟩ = some tv6 := hT6.tb.cell 0
      obtain ⟨a, c, htv, -⟩ := own_row hT6.tide.own
      obtain ⟨rl, hrl⟩ : ∃ rl, out6.length = rl := ⟨_, rfl⟩
      rw [hrl] at htv
      clear hT6 hp6 hrl
      subst htv
      go_wp2
      go_ret
      exact ⟨⟨_, out6, rfl, HTT.out, by rw [HTS.out]; exact HPT6.out⟩, HB.out⟩

end Go.Proofs.YtlhkomiiockaoaaDoor
