/-
  Texts of this proof, one behind the other.
-/
import Derived.Test.YtbhcklkbckacpaaGreatDoorM5
import Derived.Test.YtbhcklkbckacpaaGreatDoorM4

/-
  Package op: Tidy, of whatever operation.
-/
namespace Go.Proofs.YtbhcklkbckacpaaGreatDoor
open Go.RowKit

theorem Ac.err1_nd_le {p : Ac.Pt} (h : Ac.err1 p = 0) : Ac.nd1 p ≤ 80 := by
  have := Ac.err1_nd h
  have := Ac.err1_n h
  omega
theorem Ac.nd_le : ∀ (o : List Ac.Pt), (∀ p ∈ o, Ac.err1 p = 0) → Ac.nd o ≤ o.length * 80
  | [], _ => by simp [Ac.nd]
  | p :: o, h => by
    rw [Ac.nd_cons, List.length_cons]
    have := Ac.err1_nd_le (h p (List.mem_cons_self ..))
    have := Ac.nd_le o (fun q hq => h q (List.mem_cons_of_mem _ hq))
    omega
theorem Tdy.keep {w1 w6 w7 : World} {tv tv' : Value} {out out' : List PV} {p : PV} (h : Tdy w1 tv (.slice none 0 0) out [] 0 w6) (hw : WithTo w6 (w1.heap.size + 3) tv out p w7 tv' out') : Tdy w1 tv' (.slice none 0 0) out' [] 0 (w7.setCell ⟨w1.heap.size, 0, none⟩ tv') := by
  have hlo : ∀ x ∈ ob tv, w1.heap.size + 3 ≤ x := fun x hx => ownBlk_ge h.tide.own x (ob_mem hx)
  have hb := hw.kept.blk h.tb (fun hx => by have := hlo _ hx; omega)
  have hp := hw.kept.blk h.pb (fun hx => by have := hlo _ hx; omega)
  have hc := hw.kept.blk h.cb (fun hx => by have := hlo _ hx; omega)
  obtain ⟨ht, -, hb2⟩ := hw.tide.var (kept_cons hw.kept _) hb
  refine ⟨?_, hb2, hp.other _ _ (by simp), hc.other _ _ (by simp), ht, World.ownsRow_nil _ _ _ _, fun x hx => absurd hx (by simp), fun v _ => far_none v rfl, fun k _ e => by cases e⟩
  exact (h.blw.trans (hw.kept.below h.blw.size (fun x hx => by have := hlo x hx; omega))).setCell (Nat.le_refl _) _
theorem Tdy.puts {w1 w w3 : World} {tv pv : Value} {out : List PV} {put items : List It} {cut g cap n : Nat} (h : Tdy w1 tv pv out put cut w) (hf : Fit items)
    (hown : w3.ownsRow (w1.heap.size + 3) 39 3 (.slice (some ⟨g, 0, none⟩) n cap) n (itCells (put ++ items))) (hn : (put ++ items).length = n) (hg : w.grownBy w3 pv.ownBlock) (hat : pv.ownBlock = some g ∨ g = w.heap.size) :
    Tdy w1 tv (.slice (some ⟨g, 0, none⟩) n cap) out (put ++ items) cut (w3.setCell ⟨w1.heap.size + 1, 0, none⟩ (.slice (some ⟨g, 0, none⟩) n cap)) := by
  have hk := grown_kept hg
  have hlo : ∀ x ∈ ob pv, w1.heap.size + 3 ≤ x := fun x hx => ownBlk_ge h.pown x (ob_mem hx)
  have hb := hk.blk h.tb (fun hx => by have := hlo _ hx; omega)
  have hp := hk.blk h.pb (fun hx => by have := hlo _ hx; omega)
  have hc := hk.blk h.cb (fun hx => by have := hlo _ hx; omega)
  have ht3 : Tide w3 (w1.heap.size + 3) tv out := h.tide.kept hk (fun x hx e => h.apart x e (ob_mem hx)) (fun v hv a hm ha hx => h.pfar v hv a hm ha (ob_mem hx).symm)
  have hks : Kept w3 (w3.setCell ⟨w1.heap.size + 1, 0, none⟩ (.slice (some ⟨g, 0, none⟩) n cap)) [w1.heap.size + 1] := kept_set _ _ _ _ _ (List.mem_singleton.2 rfl)
  refine ⟨?_, hb.other _ _ (by simp), hp.set 0 _, hc.other _ _ (by simp), ?_, ?_, fit_app h.pfit hf, fun v hv a hm ha e => ?_, fun k hk e => ?_⟩
  · exact (h.blw.trans (hk.below h.blw.size (fun x hx => by have := hlo x hx; omega))).setCell (Nat.le_succ _) _
  · refine ht3.kept hks (fun x hx e => ?_) (fun v hv a hm ha hx => ?_)
    · have := ownBlk_ge ht3.own x e
      rw [List.mem_singleton] at hx
      omega
    · have := ht3.hi v hv a hm ha
      rw [List.mem_singleton] at hx
      omega
  · rw [hn]
    exact ownsRow_setCell_below hown (by simp) _
  · rcases hat with e2 | e2
    · exact h.pfar v hv a hm ha (by rw [e2]; exact e)
    · have h1 := (h.tide.pts v hv).lies hm ha
      have : a.block = g := by simpa [Value.ownBlock] using e
      omega
  · have hkg : g = k := by simpa [Value.ownBlock] using e
    rcases hat with e2 | e2
    · exact h.apart k hk (by rw [e2, hkg])
    · have := (h.tide.own.lt k hk).2
      omega
theorem Tdy.cuts {w1 w : World} {tv pv : Value} {out : List PV} {put : List It} {cut : Nat} (h : Tdy w1 tv pv out put cut w) (c : Nat) : Tdy w1 tv pv out put c (w.setCell ⟨w1.heap.size + 2, 0, none⟩ (.int .i64 c)) := by
  have hks : Kept w (w.setCell ⟨w1.heap.size + 2, 0, none⟩ (.int .i64 c)) [w1.heap.size + 2] := kept_set _ _ _ _ _ (List.mem_singleton.2 rfl)
  refine ⟨h.blw.setCell (by simp) _, h.tb.other _ _ (by simp), h.pb.other _ _ (by simp), h.cb.set 0 _, ?_, ownsRow_setCell_below h.pown (by simp) _, h.pfit, h.pfar, h.apart⟩
  refine h.tide.kept hks (fun x hx e => ?_) (fun v hv a hm ha hx => ?_)
  · have := ownBlk_ge h.tide.own x e
    rw [List.mem_singleton] at hx
    omega
  · have := h.tide.hi v hv a hm ha
    rw [List.mem_singleton] at hx
    omega
def tide0 (w : World) : World := ((w.alloc (.cells #[(.slice none 0 0)] 44)).alloc (.cells #[(.slice none 0 0)] 33)).alloc (.cells #[.int .i64 0] 3)
theorem tide0_tdy (w : World) : Tdy w (.slice none 0 0) (.slice none 0 0) [] [] 0 (tide0 w) := by
  have h1 := Blk.new w [(.slice none 0 0)] 44
  have h2 := Blk.newAt (w.alloc (.cells #[(.slice none 0 0)] 44)) (w.heap.size + 1) [(.slice none 0 0)] 33 (World.size_alloc ..)
  have h3 := Blk.newAt ((w.alloc (.cells #[(.slice none 0 0)] 44)).alloc (.cells #[(.slice none 0 0)] 33)) (w.heap.size + 2) [.int .i64 0] 3 (by rw [World.size_alloc, World.size_alloc])
  exact ⟨(((Below.refl _ _).alloc (Nat.le_refl _) _).alloc (by simp) _).alloc (by simp; omega) _, (h1.alloc _).alloc _, h2.alloc _, h3, Tide.nil _ _, World.ownsRow_nil _ _ _ _, fun x hx => absurd hx (by simp), fun v hv => absurd hv (by simp), fun k e => by cases e⟩

theorem Tide.mono {w : World} {B B' : Nat} {tv : Value} {out : List PV} (h : Tide w B tv out) (hB : B' ≤ B) : Tide w B' tv out :=
  ⟨h.own.mono hB, h.pts, h.far, fun v hv a hm ha => Nat.le_trans hB (h.hi v hv a hm ha)⟩
set_option maxRecDepth 100000 in
set_option maxHeartbeats 12800000 in
theorem tidied0_any (ao : Option Addr) (n cap : Nat) (vs : List PV) (w : World) (hO : Ops w ao n cap vs) (hok : ∀ v ∈ vs, Ac.err1 v.pt = 0) (hfew : vs.length ≤ 100) :
    Calls Tryz.prog 224 #[.slice ao n cap] w fun e w' => (∃ tv us, e = .returned tv ∧ Tide w' w.heap.size tv us ∧ us.map PV.pt = (Ac.ts (vs.map PV.pt)).out ++ Ac.flushP (Ac.ts (vs.map PV.pt)).put (Ac.ts (vs.map PV.pt)).cut) ∧ Below w.heap.size w w' := by
  have hOKL : ∀ p ∈ vs.map PV.pt, Ac.err1 p = 0 := fun p hp => by
    obtain ⟨v, hv, rfl⟩ := List.mem_map.1 hp
    exact hok v hv
  obtain ⟨i0, hi, hz0, hz1, hz2⟩ := info_parts Tryz.infI
  have HO0 : Hid (Ops w ao n cap vs) := hO
  have HN : Hid (vs.length = n) := hO.len
  have hn40 : n ≤ 100 := by have := hO.len; omega
  have HOK : Hid (∀ v ∈ vs, Ac.err1 v.pt = 0) := hok
  have HTB : Hid (∀ k, (Ac.ts ((vs.map PV.pt).take k)).out.length + 2 ≤ 200 ∧ (∀ z ∈ (Ac.ts ((vs.map PV.pt).take k)).out ++ Ac.flushP (Ac.ts ((vs.map PV.pt).take k)).put (Ac.ts ((vs.map PV.pt).take k)).cut, 0 ≤ z.n ∧ z.n ≤ 8000) ∧ (Ac.ts ((vs.map PV.pt).take k)).cut ≤ 8000 ∧ (Ac.ts ((vs.map PV.pt).take k)).put.length ≤ 8000) := fun k => by
    have hb := Ac.ts_bound (o := (vs.map PV.pt).take k) (fun p hp => hOKL p (List.mem_of_mem_take hp))
    have h1 := Ac.nd_take (vs.map PV.pt) k
    have h2 := Ac.lv_take (vs.map PV.pt) k
    have h3 := Ac.lv_le (vs.map PV.pt) hOKL
    have h4 : (vs.map PV.pt).length ≤ 100 := by rw [List.length_map]; exact hfew
    have h5 := Ac.nd_le (vs.map PV.pt) hOKL
    have h6 := hb.len
    have h7 := hb.sum
    have h8 := hb.put
    have h9 : ((vs.map PV.pt).take k).length ≤ 100 := by rw [List.length_take]; omega
    have hpos : ∀ z ∈ (Ac.ts ((vs.map PV.pt).take k)).out ++ Ac.flushP (Ac.ts ((vs.map PV.pt).take k)).put (Ac.ts ((vs.map PV.pt).take k)).cut, 0 ≤ z.n := fun z hz => by
      rcases List.mem_append.1 hz with hz | hz
      · exact hb.pos z hz
      · exact Ac.flush_n hz
    have hsl := Ac.sum_le hpos
    have hse : Ac.sumN ((Ac.ts ((vs.map PV.pt).take k)).out ++ Ac.flushP (Ac.ts ((vs.map PV.pt).take k)).put (Ac.ts ((vs.map PV.pt).take k)).cut) = Ac.nd ((vs.map PV.pt).take k) := by rw [Ac.sumN_app, Ac.sumN_flush]; exact h7
    have hp0 := (Ac.sum_le hb.pos).1
    refine ⟨by omega, fun z hz => ⟨hpos z hz, ?_⟩, by omega, by omega⟩
    have := hsl.2 z hz
    omega
  have hcap := hO.row.room
  have hbig := hO.row.big
  clear hO hok hfew hOKL
  have HO2 : Hid (Ops w ao n cap vs) := HO0.out
  have HT0 : Hid (Tdy w (.slice none 0 0) (.slice none 0 0) [] [] 0 (tide0 w)) := tide0_tdy w
  clear HO0
  go_enter Tryz.func224, Tryz.ntmps224
  go_wp2
  go_loopw [12] (fun i wr => ∃ k : Nat, k ≤ n ∧ i = .int .i64 k ∧ ∃ tv pv out, Tdy w tv pv out (Ac.ts ((vs.map PV.pt).take k)).put (Ac.ts ((vs.map PV.pt).take k)).cut wr ∧ out.map PV.pt = (Ac.ts ((vs.map PV.pt).take k)).out) (fun i _ => n - (intOf i).toNat)
  case atStart => exact ⟨0, Nat.zero_le _, rfl, _, _, [], HT0.out, rfl⟩
  case round =>
    obtain ⟨k, hk, rfl, tv, pv, out, hT, hpt⟩ := hrel
    have HT : Hid (Tdy w tv pv out (Ac.ts ((vs.map PV.pt).take k)).put (Ac.ts ((vs.map PV.pt).take k)).cut wr) := hT
    have HPT : Hid (out.map PV.pt = (Ac.ts ((vs.map PV.pt).take k)).out) := hpt
    clear hT hpt HT0
    by_cases hlt : k < n
    · obtain ⟨pb, po, rfl, hG⟩ := HO2.out.get (by omega)
      have hkv : k < vs.length := by rw [HN.out]; exact hlt
      have HMS : Hid (Ac.ts ((vs.map PV.pt).take (k + 1)) = Ac.tS (Ac.ts ((vs.map PV.pt).take k)) vs[k].pt) := by
        have := Ac.ts_step (vs.map PV.pt) k (by rw [List.length_map]; exact hkv)
        rw [List.getElem_map] at this
        exact this
      have hB1 := HTB.out k
      have hok := HOK.out vs[k] (List.getElem_mem hkv)
      have HPV := HO2.out.pts vs[k] (List.getElem_mem hkv)
      obtain ⟨c0, c1, c2, c3, c4, c5, c6⟩ := (hG k hkv).same (HT.out.blw.block pb (cell_lt (hG k hkv).c0))
      clear hG
      generalize Ac.ts ((vs.map PV.pt).take k) = s at *
      generalize vs[k] = v at *
      obtain ⟨kind, q, vo, m, vcap, items, st, cl, gs, lk⟩ := v
      simp only at c0 c1 c2 c3 c4 c5 c6
      clear hkv
      obtain ⟨so, sp, sc⟩ := s
      simp only at HT HPT hB1
      obtain ⟨hb1, hb2, hb3, hb4⟩ := hB1
      have hol : out.length + 2 ≤ 200 := by have := congrArg List.length HPT.out; rw [List.length_map] at this; omega
      have hsz : w.heap.size + 3 ≤ wr.heap.size := HT.out.cb.lt
      by_cases h1 : kind = 1
      · subst h1
        have hqb : 0 ≤ q ∧ q ≤ 80 := Ac.err1_n hok
        have hms : Ac.tS ⟨so, sp, sc⟩ (PV.pt ⟨1, q, vo, m, vcap, items, st, cl, gs, lk⟩) = ⟨Ac.withK (so ++ Ac.flushP sp sc) (PV.pt ⟨1, q, vo, m, vcap, items, st, cl, gs, lk⟩), [], 0⟩ := rfl
        rw [hms] at HMS
        have HS5 : Hid (Seven (boxp ⟨1, q, vo, m, vcap, items, st, cl, gs, lk⟩ wr) wr.heap.size 0 ⟨1, q, vo, m, vcap, items, st, cl, gs, lk⟩) := boxp_at _ wr
        have hw5 : Below wr.heap.size wr (boxp ⟨1, q, vo, m, vcap, items, st, cl, gs, lk⟩ wr) := boxp_below _ wr
        have HT5 : Hid (Tdy w tv pv out sp sc (boxp ⟨1, q, vo, m, vcap, items, st, cl, gs, lk⟩ wr)) := HT.out.under hw5
        have HNB : Hid (∀ x ∈ w.heap.size :: (w.heap.size + 1) :: (w.heap.size + 2) :: ob tv, x ≠ wr.heap.size) := fun x hx e => by
          simp only [List.mem_cons] at hx
          rcases hx with h | h | h | h
          · omega
          · omega
          · omega
          · have := (HT.out.tide.own.lt x (ob_mem h)).2; omega
        have HL5 : Hid (wr.heap.size < (boxp ⟨1, q, vo, m, vcap, items, st, cl, gs, lk⟩ wr).heap.size) := by show _ < _; rw [boxp_size]; omega
        have HP5 : Hid (Pvt w ⟨1, q, vo, m, vcap, items, st, cl, gs, lk⟩) := HPV
        have HBN : Hid (∀ z ∈ so ++ Ac.flushP sp sc, 0 ≤ z.n ∧ z.n ≤ 8000) := hb2
        clear hw5 hms hok HPV hb2
        go_upto_region 10 with fail
        change Code.wp Tryz.prog _ _ _ (boxp ⟨1, q, vo, m, vcap, items, st, cl, gs, lk⟩ wr)
        generalize boxp ⟨1, q, vo, m, vcap, items, st, cl, gs, lk⟩ wr = W5 at *
        clear c0 c1 c2 c3 c4 c5 c6
        obtain ⟨d0, d1, d2, d3, d4, d5, d6⟩ := HS5.out
        simp only [Nat.zero_add] at d0 d1 d2 d3 d4 d5 d6
        go_wp2_with fail
        refine (settle_any w W5 tv pv out sp sc HT5.out (by omega) (by omega) (by omega)).mono ?_
        rintro e w6 ⟨rfl, tv6, out6, hT6, hp6, hl6, hk6⟩
        have HT6 : Hid (Tdy w tv6 (.slice none 0 0) out6 [] 0 w6) := hT6
        have HS6 : Hid (Seven w6 wr.heap.size 0 ⟨1, q, vo, m, vcap, items, st, cl, gs, lk⟩) := HS5.out.same (hk6.block _ HL5.out (fun hm => HNB.out _ hm rfl))
        have HPT6 : Hid (out6.map PV.pt = so ++ Ac.flushP sp sc) := by show _ = _; rw [hp6, HPT.out]
        have HN6 : Hid (∀ z ∈ out6, 0 ≤ z.n ∧ z.n ≤ 8000) := fun z hz => by
          have : z.pt ∈ so ++ Ac.flushP sp sc := by rw [← HPT6.out]; exact List.mem_map.2 ⟨z, hz, rfl⟩
          exact HBN.out z.pt this
        have t6 : w6.cell? ⟨w.heap.size, 0, none⟩ = some tv6 := hT6.tb.cell 0
        have HP6 : Hid (Pvt w6 ⟨1, q, vo, m, vcap, items, st, cl, gs, lk⟩) := HP5.out.below hT6.blw
        have CW : Hid (Calls Tryz.prog 263 #[tv6, .agg #[.int .i64 1, .int .i64 q, .slice vo m vcap, .int .i64 st, .int .i64 cl, .bool gs, .string lk]] w6 fun e w' => ∃ tv' out', e = .returned tv' ∧ WithTo w6 (w.heap.size + 3) tv6 out6 ⟨1, q, vo, m, vcap, items, st, cl, gs, lk⟩ w' tv' out') := withKeep_any w6 (w.heap.size + 3) tv6 out6 ⟨1, q, vo, m, vcap, items, st, cl, gs, lk⟩ hT6.tide hT6.cb.lt (by omega) HP6.out (far_zero rfl _) (high_zero rfl _) (fun z hz => ⟨(HN6.out z hz).1, by have := (HN6.out z hz).2; omega⟩) ⟨hqb.1, by change q ≤ 100000; omega⟩
        obtain ⟨d0, d1, d2, d3, d4, d5, d6⟩ := HS6.out
        simp only [Nat.zero_add] at d0 d1 d2 d3 d4 d5 d6
        clear hT6 hp6 hk6
        go_wp2_with fail
        refine CW.out.mono ?_
        rintro e w7 ⟨tv7, out7, rfl, hW⟩
        have HT7 : Hid (Tdy w tv7 (.slice none 0 0) out7 [] 0 (w7.setCell ⟨w.heap.size, 0, none⟩ tv7)) := HT6.out.keep hW
        have HPT7 : Hid (out7.map PV.pt = Ac.withK (so ++ Ac.flushP sp sc) (PV.pt ⟨1, q, vo, m, vcap, items, st, cl, gs, lk⟩)) := by show _ = _; rw [hW.pt, HPT6.out]
        have hb7 := hW.kept.blk HT6.out.tb (fun hx => by have := ownBlk_ge HT6.out.tide.own _ (ob_mem hx); omega)
        have t7 : w7.cell? ⟨w.heap.size, 0, none⟩ = some tv6 := hb7.cell 0
        have f7 := hb7.frozen 0
        obtain ⟨ta, tc, htv7, -⟩ := own_row hW.tide.own
        obtain ⟨ol7, hol7⟩ : ∃ ol7, out7.length = ol7 := ⟨_, rfl⟩
        rw [hol7] at htv7
        subst htv7
        clear hW hol7 hb7 d0 d1 d2 d3 d4 d5 d6 t6
        go_wp2
        go_roundw
        case rel => exact ⟨k + 1, by omega, by go_num, _, _, out7, by rw [HMS.out]; exact HT7.out, by rw [HMS.out]; exact HPT7.out⟩
        case measure => simp [intOf]; omega
      · by_cases h2 : kind = 2
        · subst h2
          obtain ⟨hp1, hp2, -⟩ := Ac.put_len hok rfl
          change 1 ≤ items.length at hp1
          change items.length ≤ 80 at hp2
          have hlm : items.length = m := HPV.doc.len
          rw [hlm] at hp1 hp2
          have hms : Ac.tS ⟨so, sp, sc⟩ (PV.pt ⟨2, q, vo, m, vcap, items, st, cl, gs, lk⟩) = ⟨so, sp ++ items, sc⟩ := rfl
          rw [hms] at HMS
          obtain ⟨ib, io, rfl, hIA⟩ := HPV.doc.lies (by change m ≠ 0; omega)
          have HS5 : Hid (Seven (boxp ⟨2, q, some ⟨ib, io, none⟩, m, vcap, items, st, cl, gs, lk⟩ wr) wr.heap.size 0 ⟨2, q, some ⟨ib, io, none⟩, m, vcap, items, st, cl, gs, lk⟩) := boxp_at _ wr
          have hw5 : Below wr.heap.size wr (boxp ⟨2, q, some ⟨ib, io, none⟩, m, vcap, items, st, cl, gs, lk⟩ wr) := boxp_below _ wr
          have HT5 : Hid (Tdy w tv pv out sp sc (boxp ⟨2, q, some ⟨ib, io, none⟩, m, vcap, items, st, cl, gs, lk⟩ wr)) := HT.out.under hw5
          have HIA : Hid (∀ j u, (itCells items)[j]? = some u → (boxp ⟨2, q, some ⟨ib, io, none⟩, m, vcap, items, st, cl, gs, lk⟩ wr).cell? ((⟨ib, io, none⟩ : Addr).add j) = some u) := at_cells (hIA.below HT5.out.blw)
          have HLC : Hid ((itCells items).length = m * 3) := by show _ = _; rw [itCells_len, hlm]
          obtain ⟨ml, hml⟩ : ∃ ml, sp.length = ml := ⟨_, rfl⟩
          rw [hml] at hb4
          have HFI : Hid (Fit items) := HPV.doc.fit
          have HMQ : Hid ((sp ++ items).length = ml + m) := by show _ = _; rw [List.length_append, hlm, hml]
          have HO5 : Hid ((boxp ⟨2, q, some ⟨ib, io, none⟩, m, vcap, items, st, cl, gs, lk⟩ wr).ownsRow (w.heap.size + 3) 39 3 pv ml (itCells sp)) := by have := HT5.out.pown; rw [hml] at this; exact this
          obtain ⟨pa, pc, hpv, -⟩ := own_row HO5.out
          have hsz5 : w.heap.size + 3 ≤ (boxp ⟨2, q, some ⟨ib, io, none⟩, m, vcap, items, st, cl, gs, lk⟩ wr).heap.size := HT5.out.cb.lt
          clear hms hok HPV hlm hIA hw5 hml
          subst hpv
          go_upto_region 12 with fail
          change Code.wp Tryz.prog _ _ _ (boxp ⟨2, q, some ⟨ib, io, none⟩, m, vcap, items, st, cl, gs, lk⟩ wr)
          generalize boxp ⟨2, q, some ⟨ib, io, none⟩, m, vcap, items, st, cl, gs, lk⟩ wr = W5 at *
          clear c0 c1 c2 c3 c4 c5 c6
          obtain ⟨d0, d1, d2, d3, d4, d5, d6⟩ := HS5.out
          simp only [Nat.zero_add] at d0 d1 d2 d3 d4 d5 d6
          have p5 : W5.cell? ⟨w.heap.size + 1, 0, none⟩ = some (.slice pa ml pc) := HT5.out.pb.cell 0
          go_wp2_with (at_builtin; refine wpList_append_lies _ rfl (.tmp 27) (.tmp 29) 33 rfl (w.heap.size + 3) 39 i0 (.agg #[.int .u8 0, .int .i64 0, .string ⟨#[]⟩]) 3 32 Tryz.underlying33 hi hz0 hz1 hz2 rfl (by decide) _ ml (itCells sp) rfl HO5.out ⟨ib, io, none⟩ m vcap (itCells items) rfl HLC.out HIA.out (itCells_one _) (by omega) (by unfold maxLen; omega) (by omega) hsz5 _ rfl ?c7)
          case c7 =>
            intro g2 cap2 w8 hown hgrow hat hlt2
            have hb8 := (grown_kept hgrow).blk HT5.out.pb (fun hx => by have := ownBlk_ge HO5.out _ (ob_mem hx); omega)
            have HFIN : Hid (Tdy w tv (.slice (some ⟨g2, 0, none⟩) (ml + m) cap2) out (sp ++ items) sc (w8.setCell ⟨w.heap.size + 1, 0, none⟩ (.slice (some ⟨g2, 0, none⟩) (ml + m) cap2))) := HT5.out.puts HFI.out (by rw [itCells_app]; exact hown) HMQ.out hgrow hat
            have p8 : w8.cell? ⟨w.heap.size + 1, 0, none⟩ = some (.slice pa ml pc) := hb8.cell 0
            have f8 := hb8.frozen 0
            clear hown hgrow hat hlt2 hb8
            go_wp2
            go_roundw
            case rel => exact ⟨k + 1, by omega, by go_num, _, _, out, by rw [HMS.out]; exact HFIN.out, by rw [HMS.out]; exact HPT.out⟩
            case measure => simp [intOf]; omega
        · by_cases h3 : kind = 3
          · subst h3
            obtain ⟨hq1, hq2⟩ := Ac.cut_n hok rfl
            change 1 ≤ q at hq1
            change q ≤ 80 at hq2
            obtain ⟨qn, rfl⟩ : ∃ qn : Nat, q = qn := ⟨q.toNat, by omega⟩
            have hms : Ac.tS ⟨so, sp, sc⟩ (PV.pt ⟨3, qn, vo, m, vcap, items, st, cl, gs, lk⟩) = ⟨so, sp, sc + qn⟩ := rfl
            rw [hms] at HMS
            have HS5 : Hid (Seven (boxp ⟨3, qn, vo, m, vcap, items, st, cl, gs, lk⟩ wr) wr.heap.size 0 ⟨3, qn, vo, m, vcap, items, st, cl, gs, lk⟩) := boxp_at _ wr
            have hw5 : Below wr.heap.size wr (boxp ⟨3, qn, vo, m, vcap, items, st, cl, gs, lk⟩ wr) := boxp_below _ wr
            have HT5 : Hid (Tdy w tv pv out sp sc (boxp ⟨3, qn, vo, m, vcap, items, st, cl, gs, lk⟩ wr)) := HT.out.under hw5
            have HFIN : Hid (Tdy w tv pv out sp (sc + qn) ((boxp ⟨3, qn, vo, m, vcap, items, st, cl, gs, lk⟩ wr).setCell ⟨w.heap.size + 2, 0, none⟩ (.int .i64 ((sc + qn : Nat) : Int)))) := HT5.out.cuts (sc + qn)
            clear hms hok HPV hw5
            go_upto_region 12 with fail
            change Code.wp Tryz.prog _ _ _ (boxp ⟨3, qn, vo, m, vcap, items, st, cl, gs, lk⟩ wr)
            generalize boxp ⟨3, qn, vo, m, vcap, items, st, cl, gs, lk⟩ wr = W5 at *
            clear c0 c1 c2 c3 c4 c5 c6
            obtain ⟨d0, d1, d2, d3, d4, d5, d6⟩ := HS5.out
            simp only [Nat.zero_add] at d0 d1 d2 d3 d4 d5 d6
            have k5 : W5.cell? ⟨w.heap.size + 2, 0, none⟩ = some (.int .i64 sc) := HT5.out.cb.cell 0
            have f5 := HT5.out.cb.frozen 0
            rw [Int.natCast_add] at HFIN
            go_wp2
            go_roundw
            case rel => exact ⟨k + 1, by omega, by go_num, _, _, out, by rw [HMS.out]; exact HFIN.out, by rw [HMS.out]; exact HPT.out⟩
            case measure => simp [intOf]; omega
          · exact absurd (Ac.kind_of hok) (fun h => h.elim h1 (fun h => h.elim h2 h3))
    · have hkn : k = n := by omega
      have hm : (vs.map PV.pt).take k = vs.map PV.pt := List.take_of_length_le (by rw [List.length_map, HN.out]; omega)
      rw [hm] at HT HPT
      have hB9 := HTB.out n
      rw [List.take_of_length_le (by rw [List.length_map, HN.out]; omega)] at hB9
      obtain ⟨s, hs⟩ : ∃ s, Ac.ts (vs.map PV.pt) = s := ⟨_, rfl⟩
      have HTS : Hid (Ac.ts (vs.map PV.pt) = s) := hs
      rw [hs] at HT HPT hB9
      clear hs
      obtain ⟨so, sp, sc⟩ := s
      simp only at HT HPT hB9
      obtain ⟨hb1, -, hb3, hb4⟩ := hB9
      have hol : out.length + 2 ≤ 200 := by have := congrArg List.length HPT.out; rw [List.length_map] at this; omega
      clear hm
      subst hkn
      go_wp2_with fail
      refine (settle_any w wr tv pv out sp sc HT.out (by omega) (by omega) (by omega)).mono ?_
      rintro e w6 ⟨rfl, tv6, out6, hT6, hp6, hl6, -⟩
      have HTT : Hid (Tide w6 w.heap.size tv6 out6) := hT6.tide.mono (by omega)
      have HPT6 : Hid (out6.map PV.pt = so ++ Ac.flushP sp sc) := by show _ = _; rw [hp6, HPT.out]
      have HB : Hid (Below w.heap.size w w6) := hT6.blw
      have t9 : w6.cell? ⟨w.heap.size, 0, none⟩ = some tv6 := hT6.tb.cell 0
      obtain ⟨a, c, htv, -⟩ := own_row hT6.tide.own
      obtain ⟨rl, hrl⟩ : ∃ rl, out6.length = rl := ⟨_, rfl⟩
      rw [hrl] at htv
      clear hT6 hp6 hrl
      subst htv
      go_wp2
      go_ret
      exact ⟨⟨_, out6, rfl, HTT.out, by rw [HTS.out]; exact HPT6.out⟩, HB.out⟩

end Go.Proofs.YtbhcklkbckacpaaGreatDoor

/-
  Chapter 7's promises on parts: what an operation makes of a document is one; made tidy it does the same, and is a right one, and made tidy again the same.
-/
namespace Go.Proofs.YtbhcklkbckacpaaGreatDoor
open Go.RowKit
theorem it_alike {x y : It} : Dc.alike x y = true ↔ x = y := by
  constructor
  · intro h
    unfold Dc.alike at h
    simp only [Bool.and_eq_true] at h
    obtain ⟨h1, h2, h3⟩ := h
    have e1 : x.c = y.c := UInt8.toNat_inj.1 (by have : (x.c.toNat : Int) = (y.c.toNat : Int) := by simpa using h1
                                                 omega)
    have e2 : x.m = y.m := by simpa using h2
    have e3 : x.l = y.l := ext_list (by rw [← Lib.toList_data, ← Lib.toList_data]; simpa using h3)
    obtain ⟨a, b, c⟩ := x
    obtain ⟨a', b', c'⟩ := y
    simp only at e1 e2 e3
    rw [e1, e2, e3]
  · rintro rfl
    unfold Dc.alike
    simp
theorem its_same : ∀ (l l' : List It), Dc.same l l' = true ↔ l = l'
  | [], [] => by simp [Dc.same]
  | [], _ :: _ => by simp [Dc.same]
  | _ :: _, [] => by simp [Dc.same]
  | x :: s, y :: t => by
    rw [Dc.same, Bool.and_eq_true, it_alike, its_same s t]
    simp
namespace Ac
theorem says_self (p : Pt) : says p p = true := by unfold says; simp
theorem same1_self (p : Pt) : same1 p p = true := by
  unfold same1
  rw [(its_same _ _).2 rfl, says_self]
  simp
theorem sameO_self : ∀ o : List Pt, sameO o o = true
  | [] => rfl
  | p :: o => by rw [sameO, same1_self, sameO_self o]; rfl
theorem says_eq {p q : Pt} : says p q = true ↔ chOf p = chOf q := by
  unfold says
  simp only [Bool.and_eq_true, beq_iff_eq]
  constructor
  · rintro ⟨h1, h2, h3, h4⟩
    have e : p.link = q.link := ext_list (by rw [← Lib.toList_data, ← Lib.toList_data]; exact h4)
    unfold chOf
    rw [h1, h2, h3, e]
  · intro h
    unfold chOf at h
    simp only [Ch.mk.injEq] at h
    obtain ⟨h1, h2, h3, h4⟩ := h
    exact ⟨h1, h2, h3, by rw [h4]⟩
theorem same1_eq {p q : Pt} : same1 p q = true ↔ p = q := by
  constructor
  · intro h
    unfold same1 at h
    simp only [Bool.and_eq_true, beq_iff_eq] at h
    obtain ⟨h1, h2, h3, h4⟩ := h
    have h3 := (its_same _ _).1 h3
    have h4 := says_eq.1 h4
    unfold chOf at h4
    simp only [Ch.mk.injEq] at h4
    obtain ⟨a1, a2, a3, a4, a5, a6, a7⟩ := p
    obtain ⟨b1, b2, b3, b4, b5, b6, b7⟩ := q
    simp only at h1 h2 h3 h4
    obtain ⟨h5, h6, h7, h8⟩ := h4
    rw [h1, h2, h3, h5, h6, h7, h8]
  · rintro rfl
    exact same1_self p
theorem likeK_eq {p : Pt} {c : Ch} : likeK p c = true ↔ p.kind = 1 ∧ chOf p = c := by
  constructor
  · exact likeK_ch
  · rintro ⟨h1, rfl⟩
    unfold likeK chOf
    simp [h1]
theorem addK_snoc : ∀ (o : List Pt) (q : Pt) (c : Ch), addK (o ++ [q]) c = if likeK q c then o ++ [{ q with n := q.n + 1 }] else o ++ [q] ++ [keepP c 1]
  | [], q, c => by
    show addK [q] c = _
    rw [addK]
    split <;> rfl
  | [p], q, c => by
    show addK (p :: q :: []) c = _
    rw [addK]
    have := addK_snoc [] q c
    rw [List.nil_append] at this
    rw [this]
    split <;> rfl
  | p :: p' :: o, q, c => by
    show addK (p :: p' :: (o ++ [q])) c = _
    rw [addK]
    have := addK_snoc (p' :: o) q c
    rw [List.cons_append] at this
    rw [this]
    split <;> rfl
def addKs (o : List Pt) (c : Ch) : Nat → List Pt
  | 0 => o
  | k + 1 => addKs (addK o c) c k
theorem addKs_like : ∀ (k : Nat) (o : List Pt) (q : Pt) (c : Ch), likeK q c = true → addKs (o ++ [q]) c k = o ++ [{ q with n := q.n + k }]
  | 0, o, q, c, _ => by simp [addKs]
  | k + 1, o, q, c, h => by
    have h2 : likeK { q with n := q.n + 1 } c = true := h
    rw [addKs, addK_snoc, if_pos h, addKs_like k o _ c h2]
    congr 2
    simp only
    congr 1
    omega
theorem keepP_like (c : Ch) (n : Int) : likeK (keepP c n) c = true := likeK_eq.2 ⟨rfl, rfl⟩
theorem tdy_keeps (c : Ch) : ∀ (k : Nat) (out : List Pt) (r : List A), tdy out [] 0 (List.replicate k (A.keep c) ++ r) = tdy (addKs out c k) [] 0 r
  | 0, out, r => rfl
  | k + 1, out, r => by
    rw [List.replicate_succ, List.cons_append, tdy, addKs]
    have : flushP ([] : List It) 0 = [] := rfl
    rw [this, List.append_nil, tdy_keeps c k]
theorem keep_items {p : Pt} (h : err1 p = 0) (hk : p.kind = 1) : p.items = [] := by
  have hs := (same1_eq.1 (err1_0 h).2)
  unfold usedP at hs
  rw [if_pos hk] at hs
  exact (congrArg Pt.items hs).trans rfl
theorem keep_is {p : Pt} (h : err1 p = 0) (hk : p.kind = 1) : p = keepP (chOf p) p.n := by
  have hi := keep_items h hk
  obtain ⟨a1, a2, a3, a4, a5, a6, a7⟩ := p
  simp only at hk hi
  subst hk hi
  rfl
theorem withK_adds {o : List Pt} {p : Pt} (h : err1 p = 0) (hk : p.kind = 1) {k : Nat} (hn : p.n = (k : Int) + 1) : addKs o (chOf p) (k + 1) = withK o p := by
  have hu : usedP p = keepP (chOf p) ((k : Int) + 1) := by
    have := keep_is h hk
    unfold usedP
    rw [if_pos hk]
    obtain ⟨a1, a2, a3, a4, a5, a6, a7⟩ := p
    simp only at hk hn
    subst hk hn
    rfl
  rcases List.eq_nil_or_concat o with e | ⟨o', q, e⟩
  · rw [e, withK_nil, hu, addKs]
    have e2 : addK [] (chOf p) = [] ++ [keepP (chOf p) 1] := rfl
    rw [e2, addKs_like k [] _ _ (keepP_like _ _)]
    show [keepP (chOf p) ((1 : Int) + k)] = _
    rw [Int.add_comm]
  · rw [List.concat_eq_append] at e
    rw [e, withK_snoc]
    by_cases hq : q.kind = 1 ∧ says q p = true
    · rw [if_pos hq, addKs_like _ _ _ _ (likeK_eq.2 ⟨hq.1, says_eq.1 hq.2⟩), hn]
      rfl
    · have hl : likeK q (chOf p) = false := by
        cases hc : likeK q (chOf p)
        · rfl
        · have := likeK_eq.1 hc
          exact absurd ⟨this.1, says_eq.2 this.2⟩ hq
      rw [if_neg hq, addKs, addK_snoc, if_neg (by rw [hl]; exact Bool.false_ne_true), addKs_like k _ _ _ (keepP_like _ _), hu]
      show _ ++ [keepP (chOf p) ((1 : Int) + k)] = _
      rw [Int.add_comm]
theorem tdy_part {p : Pt} (h : err1 p = 0) (s : TS) (r : List A) : tdy s.out s.put s.cut (acts1 p ++ r) = tdy (tS s p).out (tS s p).put (tS s p).cut r := by
  unfold tS
  rcases kind_of h with k | k | k
  · rw [if_pos k]
    obtain ⟨_, _, hn1, hn2⟩ := keep_m4 h k
    obtain ⟨m, hm⟩ : ∃ m : Nat, p.n = (m : Int) + 1 := ⟨(p.n - 1).toNat, by omega⟩
    have ha : acts1 p = List.replicate (m + 1) (A.keep (chOf p)) := by
      unfold acts1
      rw [if_neg (by omega), if_pos k]
      congr 1
      omega
    rw [ha, List.replicate_succ, List.cons_append, tdy, tdy_keeps]
    simp only
    rw [← withK_adds h k hm]
    rfl
  · rw [if_neg (by omega), if_pos k]
    have ha : acts1 p = p.items.map A.put := by unfold acts1; rw [if_pos k]
    rw [ha, tdy_puts]
  · rw [if_neg (by omega), if_neg (by omega)]
    have ha : acts1 p = List.replicate p.n.toNat A.cut := by unfold acts1; rw [if_neg (by omega), if_neg (by omega)]
    rw [ha, tdy_cuts]
theorem tdy_fold : ∀ (o : List Pt) (s : TS) (r : List A), (∀ p ∈ o, err1 p = 0) → tdy s.out s.put s.cut (acts o ++ r) = tdy (o.foldl tS s).out (o.foldl tS s).put (o.foldl tS s).cut r
  | [], s, r, _ => rfl
  | p :: o, s, r, h => by
    rw [acts_cons, List.append_assoc, tdy_part (h p (List.mem_cons_self ..)), List.foldl_cons]
    exact tdy_fold o (tS s p) r (fun q hq => h q (List.mem_cons_of_mem _ hq))
theorem need_app : ∀ (a b : List A), need (a ++ b) = need a + need b
  | [], b => by simp [need]
  | some (.inl c) :: a, b => by rw [List.cons_append, need, need, need_app a b]; omega
  | some (.inr x) :: a, b => by rw [List.cons_append, need, need, need_app a b]
  | none :: a, b => by rw [List.cons_append, need, need, need_app a b]; omega
theorem leave_app : ∀ (a b : List A), leave (a ++ b) = leave a + leave b
  | [], b => by simp [leave]
  | some (.inl c) :: a, b => by rw [List.cons_append, leave, leave, leave_app a b]; omega
  | some (.inr x) :: a, b => by rw [List.cons_append, leave, leave, leave_app a b]; omega
  | none :: a, b => by rw [List.cons_append, leave, leave, leave_app a b]
theorem need_keeps (c : Ch) : ∀ n : Nat, need (List.replicate n (A.keep c)) = n ∧ leave (List.replicate n (A.keep c)) = n
  | 0 => ⟨rfl, rfl⟩
  | n + 1 => by rw [List.replicate_succ, need, leave, (need_keeps c n).1, (need_keeps c n).2]; exact ⟨rfl, rfl⟩
theorem need_cuts : ∀ n : Nat, need (List.replicate n A.cut) = n ∧ leave (List.replicate n A.cut) = 0
  | 0 => ⟨rfl, rfl⟩
  | n + 1 => by rw [List.replicate_succ, need, leave, (need_cuts n).1, (need_cuts n).2]; exact ⟨rfl, rfl⟩
theorem need_puts : ∀ l : List It, need (l.map A.put) = 0 ∧ leave (l.map A.put) = l.length
  | [] => ⟨rfl, rfl⟩
  | x :: l => by rw [List.map_cons, need, leave, (need_puts l).1, (need_puts l).2]; exact ⟨rfl, rfl⟩
theorem need_part {p : Pt} (h : p.kind = 1 ∨ p.kind = 2 ∨ p.kind = 3) : need (acts1 p) = nd1 p ∧ leave (acts1 p) = lv1 p := by
  unfold acts1 nd1 lv1
  rcases h with k | k | k
  · rw [if_neg (by omega), if_pos k, if_neg (by omega), if_pos k]; exact need_keeps _ _
  · rw [if_pos k, if_pos k, if_neg (by omega), if_pos k]; exact need_puts _
  · rw [if_neg (by omega), if_neg (by omega), if_neg (by omega), if_neg (by omega), if_neg (by omega)]; exact need_cuts _
theorem need_acts : ∀ {o : List Pt}, (∀ p ∈ o, p.kind = 1 ∨ p.kind = 2 ∨ p.kind = 3) → need (acts o) = nd o ∧ leave (acts o) = lv o
  | [], _ => ⟨rfl, rfl⟩
  | p :: o, h => by
    have h1 := need_part (h p (List.mem_cons_self ..))
    have h2 := need_acts (fun q hq => h q (List.mem_cons_of_mem _ hq))
    rw [acts_cons, need_app, leave_app, nd_cons, lv_cons, h1.1, h1.2, h2.1, h2.2]
    exact ⟨rfl, rfl⟩
theorem kinds_of {o : List Pt} (h : ∀ p ∈ o, err1 p = 0) : ∀ p ∈ o, p.kind = 1 ∨ p.kind = 2 ∨ p.kind = 3 := fun p hp => kind_of (h p hp)
def Gd (z : Pt) : Prop := (z.kind = 1 ∧ marksBad z.set z.clr = false ∧ linkBad z.goes z.link = false ∧ z.items = [] ∧ 1 ≤ z.n) ∨ (∃ ps, z = putP ps ∧ ps ≠ [] ∧ ∀ x ∈ ps, Dc.err x = 0) ∨ (∃ n, z = cutP n ∧ 0 < n)
theorem gd_right {z : Pt} (h : Gd z) (h1 : nd1 z ≤ 80) (h2 : lv1 z ≤ 80) : err1 z = 0 := by
  have key : err0 z = 0 → same1 z (usedP z) = true → err1 z = 0 := fun a b => by unfold err1; rw [if_pos a, if_pos b]
  rcases h with ⟨k, hm, hl, hi, hn⟩ | ⟨ps, rfl, hne, he⟩ | ⟨n, rfl, hn⟩
  · refine key ?_ (same1_eq.2 ?_)
    · unfold nd1 at h1
      rw [if_neg (by omega)] at h1
      unfold err0 errK
      rw [if_pos k, hm, hl]
      show errN z.n = 0
      unfold errN
      rw [if_neg (by omega)]
    · unfold usedP
      rw [if_pos k]
      obtain ⟨a1, a2, a3, a4, a5, a6, a7⟩ := z
      simp only at hi
      subst hi
      rfl
  · refine key ?_ (same1_eq.2 rfl)
    show errPut ps = 0
    have h2 : ps.length ≤ 80 := h2
    have : ps.length ≠ 0 := fun e => hne (List.length_eq_zero_iff.1 e)
    unfold errPut
    rw [if_neg (by omega)]
    exact errs_of he
  · refine key ?_ (same1_eq.2 rfl)
    show errN (n : Int) = 0
    have h1 : ((n : Int)).toNat ≤ 80 := h1
    unfold errN
    rw [if_neg (by omega)]
theorem err1_gd {p : Pt} (h : err1 p = 0) (hk : p.kind = 1) : Gd p := by
  rcases err0_kind (err1_0 h).1 with ⟨_, he⟩ | ⟨h2, _⟩ | ⟨h3, _⟩
  · obtain ⟨h1, h2, h3⟩ := errK_0 he
    exact .inl ⟨hk, h1, h2, keep_items h hk, (errN_0 h3).1⟩
  · omega
  · omega
theorem mk_some {d : List It} {o : List Pt} (h : Right o) (hn : nd o = d.length) : ap (acts o) d = some (mk d o).1 := by
  have := mk_ap d o ([], 0) (by simpa using hn) (kinds_of h.ok)
  simpa [mk] using this
def OkE (a : A) : Prop := match a with
  | some (.inl c) => ChOk c ∧ linkBad c.goes c.link = false ∧ True
  | some (.inr x) => Dc.err x = 0
  | none => True
theorem err_of {x : It} (h1 : Dc.ends x = true ∨ Dc.isChar x = true) (h2 : m4 x.m) (h3 : Dc.link x = true) : Dc.err x = 0 := by
  rw [err_rest h1]
  have : Dc.marks x = true := by unfold Dc.marks; simp only [Bool.and_eq_true, decide_eq_true_eq]; exact h2
  rw [this, h3]
  rfl
theorem link_change {x : It} {c : Ch} (hx : Dc.link x = true) (hc : linkBad c.goes c.link = false) : Dc.link (change x c) = true := by
  unfold Dc.link at hx ⊢
  have e1 : Dc.ends (change x c) = Dc.ends x := rfl
  rw [e1]
  cases he : Dc.ends x
  · cases hg : c.goes
    · have e2 : (change x c).l = x.l := by unfold change; rw [hg]; rfl
      rw [e2]
      rw [he] at hx
      exact hx
    · have e2 : (change x c).l = c.link := by unfold change; rw [hg, he]; rfl
      rw [e2]
      unfold linkBad at hc
      rw [hg] at hc
      cases h1 : c.link.toList.isEmpty
      · rw [h1] at hc
        cases h2 : Lk.may c.link.data.toList
        · rw [h2] at hc; cases hc
        · rfl
      · rfl
  · have e2 : (change x c).l = x.l := by unfold change; rw [he]; simp
    rw [e2]
    rw [he] at hx
    exact hx
theorem ap_err : ∀ (l : List A) (d p : List It), (∀ a ∈ l, OkE a) → (∀ x ∈ d, Dc.err x = 0) → ap l d = some p → ∀ x ∈ p, Dc.err x = 0
  | [], d, p, _, _, h => by rw [(ap_nil_some h).2]; intro x hx; simp at hx
  | some (.inr x) :: r, d, p, ho, hd, h => by
    obtain ⟨p', rfl, h'⟩ := ap_put_some h
    have ih := ap_err r d p' (fun a ha => ho a (List.mem_cons_of_mem _ ha)) hd h'
    intro y hy
    rcases List.mem_cons.1 hy with rfl | hy
    · exact ho _ (List.mem_cons_self ..)
    · exact ih y hy
  | some (.inl c) :: r, d, p, ho, hd, h => by
    obtain ⟨z, d', p', rfl, rfl, h'⟩ := ap_keep_some h
    have ih := ap_err r d' p' (fun a ha => ho a (List.mem_cons_of_mem _ ha)) (fun x hx => hd x (List.mem_cons_of_mem _ hx)) h'
    have hc : OkE (some (.inl c)) := ho _ (List.mem_cons_self ..)
    obtain ⟨hc1, hc2, -⟩ := hc
    obtain ⟨e1, e2, e3⟩ := err_parts (hd z (List.mem_cons_self ..))
    intro y hy
    rcases List.mem_cons.1 hy with rfl | hy
    · exact err_of e1 (mark_m4 e2 hc1.clr hc1.set) (link_change e3 hc2)
    · exact ih y hy
  | none :: r, d, p, ho, hd, h => by
    obtain ⟨z, d', rfl, h'⟩ := ap_cut_some h
    exact ap_err r d' p (fun a ha => ho a (List.mem_cons_of_mem _ ha)) (fun x hx => hd x (List.mem_cons_of_mem _ hx)) h'
theorem ap_last : ∀ (l : List A) (c : Ch) (d p : List It), ap (l ++ [A.keep c]) d = some p → ∃ d' x p', d = d' ++ [x] ∧ p = p' ++ [change x c]
  | [], c, d, p, h => by
    obtain ⟨z, d', p', rfl, rfl, h'⟩ := ap_keep_some h
    obtain ⟨rfl, rfl⟩ := ap_nil_some h'
    exact ⟨[], z, [], rfl, rfl⟩
  | some (.inr x) :: r, c, d, p, h => by
    obtain ⟨p', rfl, h'⟩ := ap_put_some h
    obtain ⟨d1, y, p1, rfl, rfl⟩ := ap_last r c d p' h'
    exact ⟨d1, y, x :: p1, rfl, rfl⟩
  | some (.inl e) :: r, c, d, p, h => by
    obtain ⟨z, d', p', rfl, rfl, h'⟩ := ap_keep_some h
    obtain ⟨d1, y, p1, rfl, rfl⟩ := ap_last r c d' p' h'
    exact ⟨z :: d1, y, change z e :: p1, rfl, rfl⟩
  | none :: r, c, d, p, h => by
    obtain ⟨z, d', rfl, h'⟩ := ap_cut_some h
    obtain ⟨d1, y, p1, rfl, rfl⟩ := ap_last r c d' p h'
    exact ⟨z :: d1, y, p1, rfl, rfl⟩
theorem acts_ok {o : List Pt} (h : ∀ p ∈ o, err1 p = 0) : ∀ a ∈ acts o, OkE a := by
  intro a ha
  obtain ⟨p, hp, ha⟩ := List.mem_flatMap.1 ha
  have he := h p hp
  unfold acts1 at ha
  rcases kind_of he with k | k | k
  · rw [if_neg (by omega), if_pos k] at ha
    rw [(List.mem_replicate.1 ha).2]
    obtain ⟨h1, h2, _, _⟩ := keep_m4 he k
    rcases err0_kind (err1_0 he).1 with ⟨_, hk⟩ | ⟨h2, _⟩ | ⟨h3, _⟩
    · exact ⟨⟨h1, h2⟩, (errK_0 hk).2.1, trivial⟩
    · omega
    · omega
  · rw [if_pos k] at ha
    obtain ⟨x, hx, rfl⟩ := List.mem_map.1 ha
    exact errs_all (put_len he k).2.2 x hx
  · rw [if_neg (by omega), if_neg (by omega)] at ha
    rw [(List.mem_replicate.1 ha).2]
    trivial
theorem check_of {l : List It} (h1 : l.length ≤ 80) (h2 : Dc.errs l = 0) {l' : List It} {x : It} (e : l = l' ++ [x]) (hx : Dc.ends x = true) : Dc.check l = 0 := by
  have hl : l'.length < l.length := by rw [e]; simp
  rw [Dc.check_last (by omega) h2 hl (by rw [e]; simp)]
  have e2 : l[l'.length] = x := by simp [e]
  rw [e2, hx]
  rfl
theorem made_doc {d : List It} {o : List Pt} (hd : Dc.check d = 0) (h : Right o) (hn : nd o = d.length) (hl : lv o ≤ 80) :
    Dc.check (mk d o).1 = 0 ∧ (mk d o).1.length = lv o ∧ ∃ d' x p' y, d = d' ++ [x] ∧ (mk d o).1 = p' ++ [y] ∧ x.c = y.c := by
  have hs := mk_some h hn
  have hlen : (mk d o).1.length = lv o := by
    have := mk_len d o ([], 0) (by simp; omega)
    simpa [mk] using this
  obtain ⟨h80, he, d0, x0, e0, hx0⟩ := check_0 hd
  obtain ⟨o', p, e, hk⟩ := h.last
  have hp := h.ok p (by rw [e]; simp)
  obtain ⟨_, _, hn1, _⟩ := keep_m4 hp hk
  obtain ⟨m, hm⟩ : ∃ m : Nat, p.n.toNat = m + 1 := ⟨p.n.toNat - 1, by omega⟩
  have ha : acts o = (acts o' ++ List.replicate m (A.keep (chOf p))) ++ [A.keep (chOf p)] := by
    rw [e, acts_app, acts_cons, acts_nil, List.append_nil, List.append_assoc]
    congr 1
    unfold acts1
    rw [if_neg (by omega), if_pos hk, hm, List.replicate_succ']
  have hs2 := hs
  rw [ha] at hs2
  obtain ⟨d', x, p', e1, e2⟩ := ap_last _ _ _ _ hs2
  have hxe : x = x0 := by
    have := e1.symm.trans e0
    have := List.append_inj' this rfl
    simpa using this.2
  refine ⟨check_of (by omega) (errs_of (ap_err _ _ _ (acts_ok h.ok) (errs_all he) hs)) e2 (by rw [ends_change, hxe]; exact hx0), hlen, d', x, p', _, e1, e2, rfl⟩
end Ac
end Go.Proofs.YtbhcklkbckacpaaGreatDoor

/-
  The laws' closed fact of one operation; Apply and Tidy, in one form each.
-/
namespace Go.Proofs.YtbhcklkbckacpaaGreatDoor
open Go.RowKit

theorem apply_any (ao ao' : Option Addr) (n cap n' cap' : Nat) (l : List It) (vs : List PV) (w : World) (hD : Doc w ao n cap l) (hO : Ops w ao' n' cap' vs) (hS : Sch w) :
    Calls Tryz.prog 78 #[.slice ao n cap, .slice ao' n' cap'] w fun e w' => (∃ a c, e = .returned (.tuple #[.slice a (Ac.done l (vs.map PV.pt)).length c, .int .i64 (Ac.fitE l (vs.map PV.pt))]) ∧ Doc w' a (Ac.done l (vs.map PV.pt)).length c (Ac.done l (vs.map PV.pt))) ∧ Below w.heap.size w w' := by
  unfold Ac.done
  by_cases h : Ac.fitE l (vs.map PV.pt) = 0
  · rw [if_pos h, h]
    exact apply_ok ao ao' n cap n' cap' l vs w hD hO hS h
  · rw [if_neg h]
    refine (apply_bad ao ao' n cap n' cap' l vs w hD hO hS h).mono ?_
    rintro e w' ⟨he, hb⟩
    exact ⟨⟨none, 0, he, doc_none w'⟩, hb⟩
theorem ops_nil (w : World) : Ops w none 0 0 [] := ⟨Row.nil w 7, fun v hv => absurd hv (by simp)⟩
theorem Ac.ts_all {o : List Ac.Pt} (h : ∀ p ∈ o, Ac.err1 p = 0) : (Ac.ts o).out ++ Ac.flushP (Ac.ts o).put (Ac.ts o).cut = Ac.tidy o := by
  have := Ac.tdy_fold o ⟨[], [], 0⟩ [] h
  rw [List.append_nil] at this
  unfold Ac.tidy
  rw [show Ac.tdy [] [] 0 (Ac.acts o) = _ from this]
  rfl
theorem made_tidy (ao : Option Addr) (n cap : Nat) (vs : List PV) (w : World) (hO : Ops w ao n cap vs) (hok : ∀ v ∈ vs, Ac.err1 v.pt = 0) (hfew : vs.length ≤ 100) :
    Calls Tryz.prog 224 #[.slice ao n cap] w fun e w' => (∃ tv us, e = .returned tv ∧ Tide w' w.heap.size tv us ∧ us.map PV.pt = Ac.tidy (vs.map PV.pt)) ∧ Below w.heap.size w w' := by
  have hOKL : ∀ p ∈ vs.map PV.pt, Ac.err1 p = 0 := fun p hp => by
    obtain ⟨v, hv, rfl⟩ := List.mem_map.1 hp
    exact hok v hv
  have := tidied0_any ao n cap vs w hO hok hfew
  rw [Ac.ts_all hOKL] at this
  exact this
end Go.Proofs.YtbhcklkbckacpaaGreatDoor

/-
  Chapter 8 on parts: what is left of an operation, pieces of its parts; two gone through together, part by part, are turned, and joined, as their acts are.
-/
namespace Go.Proofs.YtbhcklkbckacpaaGreatDoor
open Go.RowKit
namespace Ac
def lg (p : Pt) : Nat := if p.kind = 2 then p.items.length else p.n.toNat
theorem acts1_len (p : Pt) : (acts1 p).length = lg p := by
  unfold acts1 lg
  split <;> simp
def piece (p : Pt) (g n : Nat) : Pt := if p.kind = 2 then { p with items := (p.items.drop g).take n } else { p with n := n }
theorem piece_kind (p : Pt) (g n : Nat) : (piece p g n).kind = p.kind := by unfold piece; split <;> rfl
theorem piece_put {p : Pt} (k : p.kind = 2) (g n : Nat) : piece p g n = { p with items := (p.items.drop g).take n } := if_pos k
theorem piece_not {p : Pt} (k : ¬ p.kind = 2) (g n : Nat) : piece p g n = { p with n := n } := if_neg k
theorem acts1_piece (p : Pt) (g n : Nat) (h : g + n ≤ lg p) : acts1 (piece p g n) = ((acts1 p).drop g).take n := by
  by_cases k : p.kind = 2
  · rw [piece_put k]
    unfold acts1
    simp only [if_pos k]
    rw [List.map_take, List.map_drop]
  · rw [piece_not k]
    unfold lg at h
    rw [if_neg k] at h
    unfold acts1
    simp only [if_neg k]
    rw [List.drop_replicate, List.take_replicate]
    congr 1
    omega
theorem gd_of {p : Pt} (h : err1 p = 0) : Gd p := by
  have hu := same1_eq.1 (err1_0 h).2
  rcases kind_of h with k | k | k
  · exact err1_gd h k
  · have e : p = putP p.items := by
      unfold usedP at hu
      rw [if_neg (by omega), if_pos k] at hu
      rw [k] at hu
      exact hu
    obtain ⟨h1, h2, h3⟩ := put_len h k
    exact .inr (.inl ⟨p.items, e, fun e => by rw [e] at h1; simp at h1, errs_all h3⟩)
  · obtain ⟨h1, h2⟩ := cut_n h k
    have e : p = cutP p.n.toNat := by
      unfold usedP at hu
      rw [if_neg (by omega), if_neg (by omega)] at hu
      rw [k] at hu
      rw [hu]
      show (⟨3, p.n, [], 0, 0, false, ⟨#[]⟩⟩ : Pt) = ⟨3, ((p.n.toNat : Nat) : Int), [], 0, 0, false, ⟨#[]⟩⟩
      rw [show ((p.n.toNat : Nat) : Int) = p.n by omega]
    exact .inr (.inr ⟨p.n.toNat, e, by omega⟩)
theorem lg_bd {p : Pt} (h : err1 p = 0) : 1 ≤ lg p ∧ lg p ≤ 80 := by
  unfold lg
  rcases kind_of h with k | k | k
  · obtain ⟨_, _, h1, h2⟩ := keep_m4 h k
    rw [if_neg (by omega)]
    omega
  · obtain ⟨h1, h2, _⟩ := put_len h k
    rw [if_pos k]
    omega
  · obtain ⟨h1, h2⟩ := cut_n h k
    rw [if_neg (by omega)]
    omega
theorem piece_err {p : Pt} (h : err1 p = 0) {g n : Nat} (hn : 1 ≤ n) (hl : g + n ≤ lg p) : err1 (piece p g n) = 0 := by
  have hb := lg_bd h
  unfold lg at hl hb
  by_cases k : p.kind = 2
  · rw [if_pos k] at hl hb
    have hln : ((p.items.drop g).take n).length = n := by simp; omega
    rcases gd_of h with ⟨k1, _⟩ | ⟨ps, e, hne, he⟩ | ⟨m, e, _⟩
    · omega
    · rw [piece_put k]
      refine gd_right (.inr (.inl ⟨(p.items.drop g).take n, by rw [e]; rfl, fun e => by rw [e] at hln; simp at hln; omega, fun x hx => he x ?_⟩)) ?_ ?_
      · rw [e] at hx
        exact List.mem_of_mem_drop (List.mem_of_mem_take hx)
      · unfold nd1; simp only [if_pos k]; omega
      · unfold lv1; simp only [if_pos k]; rw [if_neg (by omega)]; omega
    · rw [e] at k; cases k
  · rw [if_neg k] at hl hb
    have h1 : nd1 { p with n := (n : Int) } ≤ 80 := by unfold nd1; simp only [if_neg k]; omega
    have h2 : lv1 { p with n := (n : Int) } ≤ 80 := by
      unfold lv1
      simp only [if_neg k]
      split <;> omega
    rw [piece_not k]
    rcases gd_of h with ⟨k1, a, b, c, d⟩ | ⟨ps, e, hne, he⟩ | ⟨m, e, _⟩
    · exact gd_right (.inl ⟨k1, a, b, c, by simp only; omega⟩) h1 h2
    · rw [e] at k; exact absurd rfl k
    · refine gd_right (.inr (.inr ⟨n, by rw [e]; rfl, by omega⟩)) h1 h2
theorem keepP_err {c : Ch} {n : Nat} (h1 : 1 ≤ n) (h2 : n ≤ 80) (hm : marksBad c.set c.clr = false) (hl : linkBad c.goes c.link = false) : err1 (keepP c n) = 0 :=
  gd_right (.inl ⟨rfl, hm, hl, rfl, by show (1 : Int) ≤ n; omega⟩) (by show ((n : Int)).toNat ≤ 80; omega) (by show ((n : Int)).toNat ≤ 80; omega)
theorem nop_err {n : Nat} (h1 : 1 ≤ n) (h2 : n ≤ 80) : err1 (keepP nop n) = 0 := keepP_err h1 h2 (by decide +kernel) (by decide +kernel)

def ra (ps : List Pt) (g : Nat) : List A := (acts ps).drop g
structure Rv (ps : List Pt) (g : Nat) : Prop where
  ok : ∀ p ∈ ps, err1 p = 0
  lt : ∀ p t, ps = p :: t → g < lg p
  nil : ps = [] → g = 0
  last : ps ≠ [] → ∃ o' p, ps = o' ++ [p] ∧ p.kind = 1
theorem Right.rv {o : List Pt} (h : Right o) : Rv o 0 :=
  ⟨h.ok, fun p t e => (lg_bd (h.ok p (by rw [e]; exact List.mem_cons_self ..))).1, fun _ => rfl, fun _ => h.last⟩
def nxtP (p : Pt) (t : List Pt) (g n : Nat) : List Pt := if g + n = lg p then t else p :: t
def nxtG (p : Pt) (g n : Nat) : Nat := if g + n = lg p then 0 else g + n
theorem ra_nxt (p : Pt) (t : List Pt) (g n : Nat) : ra (nxtP p t g n) (nxtG p g n) = (acts (p :: t)).drop (g + n) := by
  unfold ra nxtP nxtG
  by_cases h : g + n = lg p
  · rw [if_pos h, if_pos h, List.drop_zero, acts_cons, h, ← acts1_len, List.drop_left]
  · rw [if_neg h, if_neg h]
theorem ra_split (p : Pt) (t : List Pt) (g n : Nat) (h : g + n ≤ lg p) : ra (p :: t) g = acts1 (piece p g n) ++ ra (nxtP p t g n) (nxtG p g n) := by
  rw [ra_nxt, acts1_piece p g n h]
  have e : ((acts1 p).drop g).take n = ((acts (p :: t)).drop g).take n := by
    rw [acts_cons, List.drop_append_of_le_length (by rw [acts1_len]; omega), List.take_append_of_le_length (by rw [List.length_drop, acts1_len]; omega)]
  rw [e, ← List.drop_drop, List.take_append_drop]
  rfl
theorem Rv.nxt {p : Pt} {t : List Pt} {g n : Nat} (h : Rv (p :: t) g) (hl : g + n ≤ lg p) : Rv (nxtP p t g n) (nxtG p g n) := by
  unfold nxtP nxtG
  by_cases e : g + n = lg p
  · rw [if_pos e, if_pos e]
    refine ⟨fun q hq => h.ok q (List.mem_cons_of_mem _ hq), fun q u eq => (lg_bd (h.ok q (by rw [eq]; simp))).1, fun _ => rfl, fun hne => ?_⟩
    obtain ⟨o', q, e2, hq⟩ := h.last (by simp)
    rcases o' with _ | ⟨r, o'⟩
    · simp at e2
      exact absurd e2.2 hne
    · simp at e2
      exact ⟨o', q, e2.2, hq⟩
  · rw [if_neg e, if_neg e]
    refine ⟨h.ok, fun q u eq => ?_, fun h0 => (by cases h0), fun _ => h.last (by simp)⟩
    simp at eq
    rw [← eq.1]
    omega
theorem nxtP_len (p : Pt) (t : List Pt) (g n : Nat) : (nxtP p t g n).length ≤ t.length + 1 := by
  unfold nxtP
  split <;> simp
theorem nxtP_end {p : Pt} {t : List Pt} {g n : Nat} (h : g + n = lg p) : nxtP p t g n = t := if_pos h
theorem nxtG_end {p : Pt} {g n : Nat} (h : g + n = lg p) : nxtG p g n = 0 := if_pos h
theorem Rv.some {ps : List Pt} {g : Nat} (h : Rv ps g) (hne : ps ≠ []) : 1 ≤ need (ra ps g) ∧ 1 ≤ leave (ra ps g) := by
  obtain ⟨o', q, e, hq⟩ := h.last hne
  have hqe := h.ok q (by rw [e]; simp)
  have hb := lg_bd hqe
  have hlg : lg q = q.n.toNat := if_neg (by omega)
  obtain ⟨m, hm⟩ : ∃ m, q.n.toNat = m + 1 := ⟨q.n.toNat - 1, by omega⟩
  have ha : acts ps = (acts o' ++ List.replicate m (A.keep (chOf q))) ++ [A.keep (chOf q)] := by
    rw [e, acts_app, acts_cons, acts_nil, List.append_nil, List.append_assoc]
    congr 1
    unfold acts1
    rw [if_neg (by omega), if_pos hq, hm, List.replicate_succ']
  have hg : g ≤ (acts o' ++ List.replicate m (A.keep (chOf q))).length := by
    rw [List.length_append, List.length_replicate]
    rcases o' with _ | ⟨r, o'⟩
    · have := h.lt q [] (by rw [e]; rfl)
      rw [acts_nil, List.length_nil]
      omega
    · have := h.lt r (o' ++ [q]) (by rw [e]; rfl)
      rw [acts_cons, List.length_append, acts1_len]
      omega
  unfold ra
  rw [ha, List.drop_append_of_le_length hg, need_app, leave_app]
  exact ⟨Nat.le_add_left _ _, Nat.le_add_left _ _⟩

/- Turned, many at once. -/
theorem turn_puts (b : List A) : ∀ (xs : List It) (a : List A), turn (xs.map A.put ++ a) b = (xs.map A.put ++ (turn a b).1, List.replicate xs.length (A.keep nop) ++ (turn a b).2)
  | [], a => rfl
  | x :: xs, a => by
    rw [List.map_cons, List.cons_append, turn_put, turn_puts b xs a]
    rfl
theorem turn_puts_r (a : List A) (b : List A) (h : (∃ c a', a = A.keep c :: a') ∨ ∃ a', a = A.cut :: a') : ∀ ys : List It, turn a (ys.map A.put ++ b) = (List.replicate ys.length (A.keep nop) ++ (turn a b).1, ys.map A.put ++ (turn a b).2)
  | [] => rfl
  | y :: ys => by
    have ih := turn_puts_r a b h ys
    rcases h with ⟨c, a', rfl⟩ | ⟨a', rfl⟩
    · rw [List.map_cons, List.cons_append, turn_kp, ih]
      rfl
    · rw [List.map_cons, List.cons_append, turn_cp, ih]
      rfl
theorem turn_kks (c d : Ch) (a b : List A) : ∀ n : Nat, turn (List.replicate n (A.keep c) ++ a) (List.replicate n (A.keep d) ++ b) = (List.replicate n (A.keep c) ++ (turn a b).1, List.replicate n (A.keep (behind d c)) ++ (turn a b).2)
  | 0 => rfl
  | n + 1 => by
    rw [List.replicate_succ, List.cons_append, List.replicate_succ, List.cons_append, turn_kk, turn_kks c d a b n]
    rfl
theorem turn_cks (d : Ch) (a b : List A) : ∀ n : Nat, turn (List.replicate n A.cut ++ a) (List.replicate n (A.keep d) ++ b) = (List.replicate n A.cut ++ (turn a b).1, (turn a b).2)
  | 0 => rfl
  | n + 1 => by
    rw [List.replicate_succ, List.cons_append, List.replicate_succ, List.cons_append, turn_ck, turn_cks d a b n]
    rfl
theorem turn_kcs (c : Ch) (a b : List A) : ∀ n : Nat, turn (List.replicate n (A.keep c) ++ a) (List.replicate n A.cut ++ b) = ((turn a b).1, List.replicate n A.cut ++ (turn a b).2)
  | 0 => rfl
  | n + 1 => by
    rw [List.replicate_succ, List.cons_append, List.replicate_succ, List.cons_append, turn_kc, turn_kcs c a b n]
    rfl
theorem turn_ccs (a b : List A) : ∀ n : Nat, turn (List.replicate n A.cut ++ a) (List.replicate n A.cut ++ b) = turn a b
  | 0 => rfl
  | n + 1 => by rw [List.replicate_succ, List.cons_append, List.cons_append, turn_cc, turn_ccs a b n]
end Ac
end Go.Proofs.YtbhcklkbckacpaaGreatDoor

/-
  Chapter 8 on parts: Turn and Join, step by step.
-/
namespace Go.Proofs.YtbhcklkbckacpaaGreatDoor
open Go.RowKit
namespace Ac
def yieldP (p f : Pt) : Pt := { p with set := less p.set (both f.set f.clr), clr := less p.clr (both f.set f.clr), goes := p.goes && !f.goes, link := if f.goes then ⟨#[]⟩ else p.link }
theorem yield_ch (p f : Pt) : chOf (yieldP p f) = behind (chOf p) (chOf f) := rfl
def oneP (f p : Pt) : Pt := { f with set := both (less f.set p.clr) p.set, clr := both (less f.clr p.set) p.clr, goes := f.goes || p.goes, link := if p.goes then p.link else f.link }
theorem marks_of {s c : Int} (h : marksBad s c = false) : m4 s ∧ m4 c ∧ s.toNat &&& c.toNat = 0 := by
  unfold marksBad areM at h
  simp only [Bool.or_eq_false_iff, Bool.not_eq_false', Bool.and_eq_true, decide_eq_true_eq, bne_eq_false_iff_eq] at h
  exact ⟨h.1, h.2.1, h.2.2⟩
theorem of_marks {s c : Int} (h1 : m4 s) (h2 : m4 c) (h3 : s.toNat &&& c.toNat = 0) : marksBad s c = false := by
  unfold marksBad areM
  simp only [Bool.or_eq_false_iff, Bool.not_eq_false', Bool.and_eq_true, decide_eq_true_eq, bne_eq_false_iff_eq]
  exact ⟨h1, h2, h3⟩
theorem yield_marks {s c s' c' : Int} (h : marksBad s c = false) (h' : marksBad s' c' = false) : marksBad (less s (both s' c')) (less c (both s' c')) = false := by
  obtain ⟨a1, a2, a3⟩ := marks_of h
  obtain ⟨b1, b2, _⟩ := marks_of h'
  refine of_marks (less_m4 a1 (both_m4 b1 b2)) (less_m4 a2 (both_m4 b1 b2)) ?_
  obtain ⟨x, hx, rfl⟩ := m4_nat a1
  obtain ⟨y, hy, rfl⟩ := m4_nat a2
  obtain ⟨u, hu, rfl⟩ := m4_nat b1
  obtain ⟨v, hv, rfl⟩ := m4_nat b2
  have key : ∀ x < 4, ∀ y < 4, ∀ u < 4, ∀ v < 4, x &&& y = 0 → (x - (x &&& (u ||| v))) &&& (y - (y &&& (u ||| v))) = 0 := by decide +kernel
  exact key x hx y hy u hu v hv a3
theorem linkBad_nil (g : Bool) : linkBad g ⟨#[]⟩ = false := by cases g <;> decide +kernel
theorem keep_err {p : Pt} (h : err1 p = 0) (k : p.kind = 1) {q : Pt} (kq : q.kind = 1) (hn : q.n = p.n) (hi : q.items = []) (hm : marksBad q.set q.clr = false) (hl : linkBad q.goes q.link = false) : err1 q = 0 := by
  obtain ⟨_, _, h1, h2⟩ := keep_m4 h k
  refine gd_right (.inl ⟨kq, hm, hl, hi, by omega⟩) ?_ ?_
  · unfold nd1; rw [if_neg (by omega), hn]; omega
  · unfold lv1; rw [if_pos kq, hn]; omega
theorem yield_err {p f : Pt} (h : err1 p = 0) (k : p.kind = 1) (hf : err1 f = 0) (kf : f.kind = 1) : err1 (yieldP p f) = 0 := by
  rcases gd_of h with ⟨_, hm, hl, hi, _⟩ | ⟨ps, e, _⟩ | ⟨m, e, _⟩
  · rcases gd_of hf with ⟨_, fm, fl, _, _⟩ | ⟨ps, e, _⟩ | ⟨m, e, _⟩
    · refine keep_err h k (q := yieldP p f) k rfl hi (yield_marks hm fm) ?_
      show linkBad (p.goes && !f.goes) (if f.goes then ⟨#[]⟩ else p.link) = false
      cases f.goes
      · rw [Bool.not_false, Bool.and_true]; exact hl
      · exact linkBad_nil _
    · rw [e] at kf; cases kf
    · rw [e] at kf; cases kf
  · rw [e] at k; cases k
  · rw [e] at k; cases k
theorem acts1_k {p : Pt} (k : p.kind = 1) {n : Nat} (hn : p.n = n) : acts1 p = List.replicate n (A.keep (chOf p)) := by unfold acts1; rw [if_neg (by omega), if_pos k, hn]; rfl
theorem acts1_c {p : Pt} (k : p.kind = 3) {n : Nat} (hn : p.n = n) : acts1 p = List.replicate n A.cut := by unfold acts1; rw [if_neg (by omega), if_neg (by omega), hn]; rfl
theorem acts1_p {p : Pt} (k : p.kind = 2) : acts1 p = p.items.map A.put := by unfold acts1; rw [if_pos k]
theorem piece_n {p : Pt} (k : ¬ p.kind = 2) (g n : Nat) : (piece p g n).n = n := by rw [piece_not k]
theorem acts_one (p : Pt) : acts [p] = acts1 p := by rw [acts_cons, acts_nil, List.append_nil]
theorem ok_snoc {x : List Pt} {p : Pt} (h : ∀ z ∈ x, err1 z = 0) (hp : err1 p = 0) : ∀ z ∈ x ++ [p], err1 z = 0 := fun z hz => by
  rcases List.mem_append.1 hz with hz | hz
  · exact h z hz
  · rw [List.mem_singleton.1 hz]; exact hp
def behX (p q : Pt) : List Pt := if q.kind = 1 then [p] else []
def behY (p q : Pt) : List Pt := if p.kind = 1 then (if q.kind = 1 then [yieldP q p] else [q]) else []
structure TurnI (a b ps : List Pt) (g : Nat) (qs : List Pt) (h : Nat) (x y : List Pt) : Prop where
  rp : Rv ps g
  rq : Rv qs h
  eq : turn (acts a) (acts b) = (acts x ++ (turn (ra ps g) (ra qs h)).1, acts y ++ (turn (ra ps g) (ra qs h)).2)
  need : need (ra ps g) = need (ra qs h)
  okx : ∀ p ∈ x, err1 p = 0
  oky : ∀ p ∈ y, err1 p = 0
  lx : x.length + ps.length + qs.length ≤ a.length + b.length
  ly : y.length + ps.length + qs.length ≤ a.length + b.length
theorem TurnI.start {a b : List Pt} (ha : Right a) (hb : Right b) (hn : nd a = nd b) : TurnI a b a 0 b 0 [] [] := by
  refine ⟨ha.rv, hb.rv, ?_, ?_, fun p hp => absurd hp (by simp), fun p hp => absurd hp (by simp), by simp, by simp⟩
  · unfold ra
    rw [List.drop_zero, List.drop_zero, acts_nil, List.nil_append, List.nil_append]
  · unfold ra
    rw [List.drop_zero, List.drop_zero, (need_acts (kinds_of ha.ok)).1, (need_acts (kinds_of hb.ok)).1, hn]
theorem TurnI.left {a b ps : List Pt} {g : Nat} {qs : List Pt} {h : Nat} {x y : List Pt} (I : TurnI a b ps g qs h x y) : ps = [] ↔ qs = [] := by
  constructor
  · intro e
    cases hq : qs with
    | nil => rfl
    | cons q u =>
      have h1 := (I.rq.some (by rw [hq]; simp)).1
      have h2 := I.need
      rw [e, I.rp.nil e] at h2
      rw [← h2] at h1
      exact absurd h1 (by decide)
  · intro e
    cases hq : ps with
    | nil => rfl
    | cons q u =>
      have h1 := (I.rp.some (by rw [hq]; simp)).1
      have h2 := I.need
      rw [e, I.rq.nil e] at h2
      rw [h2] at h1
      exact absurd h1 (by decide)
theorem TurnI.done {a b : List Pt} {g : Nat} {qs : List Pt} {h : Nat} {x y : List Pt} (I : TurnI a b [] g qs h x y) : turn (acts a) (acts b) = (acts x, acts y) := by
  have e := I.left.1 rfl
  have h1 := I.eq
  subst e
  rw [I.rp.nil rfl, I.rq.nil rfl] at h1
  rw [h1]
  show (acts x ++ [], acts y ++ []) = _
  rw [List.append_nil, List.append_nil]
theorem piece_items {p : Pt} (k : p.kind = 2) {g n : Nat} (h : g + n ≤ lg p) : (piece p g n).items.length = n := by
  unfold lg at h
  rw [if_pos k] at h
  rw [piece_put k]
  simp
  omega
theorem TurnI.putA {a b : List Pt} {p : Pt} {t : List Pt} {g : Nat} {qs : List Pt} {h : Nat} {x y : List Pt} (I : TurnI a b (p :: t) g qs h x y) (k : p.kind = 2) :
    TurnI a b t 0 qs h (x ++ [piece p g (lg p - g)]) (y ++ [keepP nop ((lg p - g : Nat) : Int)]) := by
  have hg := I.rp.lt p t rfl
  have hpe := I.rp.ok p (List.mem_cons_self ..)
  have hb := lg_bd hpe
  have hle : g + (lg p - g) ≤ lg p := by omega
  have hE : g + (lg p - g) = lg p := by omega
  have hs := ra_split p t g (lg p - g) hle
  have hk2 : (piece p g (lg p - g)).kind = 2 := (piece_kind ..).trans k
  rw [nxtP_end hE, nxtG_end hE, acts1_p hk2] at hs
  have hI := I.eq
  have hn := I.need
  have hil := piece_items k hle
  rw [hs, turn_puts, hil] at hI
  rw [hs, need_app, (need_puts _).1, Nat.zero_add] at hn
  have hr := I.rp.nxt hle
  rw [nxtP_end hE, nxtG_end hE] at hr
  have l1 := I.lx
  have l2 := I.ly
  rw [List.length_cons] at l1 l2
  refine ⟨hr, I.rq, ?_, hn, ok_snoc I.okx (piece_err hpe (by omega) hle), ok_snoc I.oky (nop_err (by omega) (by omega)), by simp; omega, by simp; omega⟩
  rw [hI, acts_app, acts_app, acts_one, acts_one, acts1_p hk2, acts1_keep, Int.toNat_natCast, List.append_assoc, List.append_assoc]
theorem ra_head {p : Pt} {t : List Pt} {g : Nat} (h : Rv (p :: t) g) (k : ¬ p.kind = 2) : (∃ c a', ra (p :: t) g = A.keep c :: a') ∨ ∃ a', ra (p :: t) g = A.cut :: a' := by
  have hg := h.lt p t rfl
  have hs := ra_split p t g 1 (by omega)
  rw [hs]
  have hn : (piece p g 1).n = ((1 : Nat) : Int) := piece_n k g 1
  rcases kind_of (h.ok p (List.mem_cons_self ..)) with k1 | k1 | k1
  · rw [acts1_k ((piece_kind ..).trans k1) hn]
    exact .inl ⟨_, _, rfl⟩
  · exact absurd k1 k
  · rw [acts1_c ((piece_kind ..).trans k1) hn]
    exact .inr ⟨_, rfl⟩
theorem TurnI.putB {a b : List Pt} {p : Pt} {t : List Pt} {g : Nat} {q : Pt} {u : List Pt} {h : Nat} {x y : List Pt} (I : TurnI a b (p :: t) g (q :: u) h x y) (k : ¬ p.kind = 2) (kq : q.kind = 2) :
    TurnI a b (p :: t) g u 0 (x ++ [keepP nop ((lg q - h : Nat) : Int)]) (y ++ [piece q h (lg q - h)]) := by
  have hg := I.rq.lt q u rfl
  have hqe := I.rq.ok q (List.mem_cons_self ..)
  have hb := lg_bd hqe
  have hle : h + (lg q - h) ≤ lg q := by omega
  have hE : h + (lg q - h) = lg q := by omega
  have hs := ra_split q u h (lg q - h) hle
  have hk2 : (piece q h (lg q - h)).kind = 2 := (piece_kind ..).trans kq
  rw [nxtP_end hE, nxtG_end hE, acts1_p hk2] at hs
  have hI := I.eq
  have hn := I.need
  have hil := piece_items kq hle
  rw [hs, turn_puts_r _ _ (ra_head I.rp k), hil] at hI
  rw [hs, need_app, (need_puts _).1, Nat.zero_add] at hn
  have hr := I.rq.nxt hle
  rw [nxtP_end hE, nxtG_end hE] at hr
  have l1 := I.lx
  have l2 := I.ly
  simp only [List.length_cons] at l1 l2
  refine ⟨I.rp, hr, ?_, hn, ok_snoc I.okx (nop_err (by omega) (by omega)), ok_snoc I.oky (piece_err hqe (by omega) hle), by simp; omega, by simp; omega⟩
  rw [hI, acts_app, acts_app, acts_one, acts_one, acts1_p hk2, acts1_keep, Int.toNat_natCast, List.append_assoc, List.append_assoc]
theorem nxt_less {p q : Pt} {t u : List Pt} {g h n : Nat} (e : g + n = lg p ∨ h + n = lg q) : (nxtP p t g n).length + (nxtP q u h n).length ≤ t.length + u.length + 1 := by
  have h1 := nxtP_len p t g n
  have h2 := nxtP_len q u h n
  rcases e with e | e
  · rw [nxtP_end e] at h1 ⊢; omega
  · rw [nxtP_end e] at h2 ⊢; omega
theorem TurnI.both {a b : List Pt} {p : Pt} {t : List Pt} {g : Nat} {q : Pt} {u : List Pt} {h : Nat} {x y : List Pt} (I : TurnI a b (p :: t) g (q :: u) h x y) (k : ¬ p.kind = 2) (kq : ¬ q.kind = 2) {n : Nat} (hn : n = min (lg p - g) (lg q - h)) :
    TurnI a b (nxtP p t g n) (nxtG p g n) (nxtP q u h n) (nxtG q h n) (x ++ behX (piece p g n) (piece q h n)) (y ++ behY (piece p g n) (piece q h n)) := by
  have hg := I.rp.lt p t rfl
  have hh := I.rq.lt q u rfl
  have hpe := I.rp.ok p (List.mem_cons_self ..)
  have hqe := I.rq.ok q (List.mem_cons_self ..)
  have hl1 : g + n ≤ lg p := by omega
  have hl2 : h + n ≤ lg q := by omega
  have hE : g + n = lg p ∨ h + n = lg q := by omega
  have h1n : 1 ≤ n := by omega
  have e1 := piece_err hpe h1n hl1
  have e2 := piece_err hqe h1n hl2
  have hs1 := ra_split p t g n hl1
  have hs2 := ra_split q u h n hl2
  have n1 : (piece p g n).n = n := piece_n k g n
  have n2 : (piece q h n).n = n := piece_n kq h n
  have hI := I.eq
  have hN := I.need
  rw [hs1, hs2] at hI
  rw [hs1, hs2, need_app, need_app] at hN
  have l1 := I.lx
  have l2 := I.ly
  simp only [List.length_cons] at l1 l2
  have hless := nxt_less (t := t) (u := u) hE
  have r1 := I.rp.nxt hl1
  have r2 := I.rq.nxt hl2
  have hpk : (piece p g n).kind = p.kind := piece_kind ..
  have hqk : (piece q h n).kind = q.kind := piece_kind ..
  generalize piece p g n = P at *
  generalize piece q h n = Q at *
  have ka := kind_of e1
  have kb := kind_of e2
  rw [hpk] at ka
  rw [hqk] at kb
  rcases ka with ka | ka | ka
  · rcases kb with kb | kb | kb
    · have kP := hpk.trans ka
      have kQ := hqk.trans kb
      have bx : behX P Q = [P] := if_pos kQ
      have byy : behY P Q = [yieldP Q P] := (if_pos kP).trans (if_pos kQ)
      rw [acts1_k kP n1, acts1_k kQ n2, turn_kks] at hI
      rw [acts1_k kP n1, acts1_k kQ n2, (need_keeps _ _).1, (need_keeps _ _).1] at hN
      rw [bx, byy]
      refine ⟨r1, r2, ?_, by omega, ok_snoc I.okx e1, ok_snoc I.oky (yield_err e2 kQ e1 kP), by simp; omega, by simp; omega⟩
      rw [hI, acts_app, acts_app, acts_one, acts_one, acts1_k kP n1, acts1_k (p := yieldP Q P) kQ (n := n) n2, yield_ch, List.append_assoc, List.append_assoc]
    · exact absurd kb kq
    · have kP := hpk.trans ka
      have kQ := hqk.trans kb
      have bx : behX P Q = [] := if_neg (by omega)
      have byy : behY P Q = [Q] := (if_pos kP).trans (if_neg (by omega))
      rw [acts1_k kP n1, acts1_c kQ n2, turn_kcs] at hI
      rw [acts1_k kP n1, acts1_c kQ n2, (need_keeps _ _).1, (need_cuts _).1] at hN
      rw [bx, byy, List.append_nil]
      refine ⟨r1, r2, ?_, by omega, I.okx, ok_snoc I.oky e2, by omega, by simp; omega⟩
      rw [hI, acts_app, acts_one, acts1_c kQ n2, List.append_assoc]
  · exact absurd ka k
  · rcases kb with kb | kb | kb
    · have kP := hpk.trans ka
      have kQ := hqk.trans kb
      have bx : behX P Q = [P] := if_pos kQ
      have byy : behY P Q = [] := if_neg (by omega)
      rw [acts1_c kP n1, acts1_k kQ n2, turn_cks] at hI
      rw [acts1_c kP n1, acts1_k kQ n2, (need_cuts _).1, (need_keeps _ _).1] at hN
      rw [bx, byy, List.append_nil]
      refine ⟨r1, r2, ?_, by omega, ok_snoc I.okx e1, I.oky, by simp; omega, by omega⟩
      rw [hI, acts_app, acts_one, acts1_c kP n1, List.append_assoc]
    · exact absurd kb kq
    · have kP := hpk.trans ka
      have kQ := hqk.trans kb
      have bx : behX P Q = [] := if_neg (by omega)
      have byy : behY P Q = [] := if_neg (by omega)
      rw [acts1_c kP n1, acts1_c kQ n2, turn_ccs] at hI
      rw [acts1_c kP n1, acts1_c kQ n2, (need_cuts _).1] at hN
      rw [bx, byy, List.append_nil, List.append_nil]
      exact ⟨r1, r2, hI, by omega, I.okx, I.oky, by omega, by omega⟩
end Ac
end Go.Proofs.YtbhcklkbckacpaaGreatDoor

/-
  Package ot, its small functions: how long a part is, which one is at hand, how much of it is left.
-/
namespace Go.Proofs.YtbhcklkbckacpaaGreatDoor
open Go.RowKit

def lgV (v : PV) : Int := if v.kind = 2 then (v.m : Int) else v.n
set_option maxRecDepth 100000 in
set_option maxHeartbeats 1600000 in
theorem longp_any (v : PV) (w : World) : Calls Tryz.prog 308 #[.agg #[.int .i64 v.kind, .int .i64 v.n, .slice v.ao v.m v.cap, .int .i64 v.set, .int .i64 v.clr, .bool v.goes, .string v.link]] w fun e w' => e = .returned (.int .i64 (lgV v)) ∧ Below w.heap.size w w' := by
  have H1 : Hid (Below w.heap.size w (boxp v w)) := boxp_below v w
  obtain ⟨r, hr⟩ : ∃ r, lgV v = r := ⟨_, rfl⟩
  rw [hr]
  unfold lgV at hr
  by_cases h2 : v.kind = 2
  · rw [if_pos h2] at hr
    subst hr
    have hk : (v.kind == 2) = true := by simp [h2]
    clear h2
    go_enter Tryz.func308, Tryz.ntmps308
    go_wp2
    go_ret
    exact ⟨rfl, H1.out⟩
  · rw [if_neg h2] at hr
    subst hr
    have hk : (v.kind == 2) = false := by simp [h2]
    clear h2
    go_enter Tryz.func308, Tryz.ntmps308
    go_wp2
    go_ret
    exact ⟨rfl, H1.out⟩
def atK (vs : List PV) (k : Int) : Bool := match vs with
  | [] => false
  | v :: _ => v.kind == k
theorem Ops.head {w : World} {ao : Option Addr} {n cap : Nat} {v : PV} {t : List PV} (h : Ops w ao n cap (v :: t)) : ∃ b off, ao = some ⟨b, off, none⟩ ∧ Seven w b off v ∧ 0 < n ∧ n = t.length + 1 := by
  have hl := h.len
  rw [List.length_cons] at hl
  obtain ⟨b, off, e, hG⟩ := h.get (by omega)
  have := hG 0 (by simp)
  rw [Nat.zero_mul, Nat.add_zero] at this
  exact ⟨b, off, e, this, by omega, hl.symm⟩
set_option maxRecDepth 100000 in
set_option maxHeartbeats 1600000 in
theorem isAt_any (b off : Nat) (ao : Option Addr) (n cap : Nat) (vs : List PV) (k : Int) (w : World) (h0 : w.cell? ⟨b, off, none⟩ = some (.slice ao n cap)) (hO : Ops w ao n cap vs) :
    Calls Tryz.prog 268 #[.pointer (some ⟨b, off, none⟩), .int .i64 k] w fun e w' => e = .returned (.bool (atK vs k)) ∧ w' = w := by
  cases vs with
  | nil =>
    have hn : n = 0 := hO.len.symm
    subst hn
    clear hO
    go_enter Tryz.func268, Tryz.ntmps268
    go_wp2
    go_ret
    exact ⟨rfl, rfl⟩
  | cons v t =>
    obtain ⟨pb, po, rfl, hsv, hn, -⟩ := hO.head
    have c0 := hsv.c0
    have hn' : (0 : Int) < (n : Int) := by omega
    have hd : decide (0 < n) = true := by simp [hn]
    have hbig := hO.row.big
    have hroom := hO.row.room
    clear hO hsv
    unfold atK
    simp only
    generalize v.kind = q at *
    go_enter Tryz.func268, Tryz.ntmps268
    go_wp2
    go_ret
    exact ⟨rfl, rfl⟩

set_option maxRecDepth 100000 in
set_option maxHeartbeats 1600000 in
theorem left_any (b off : Nat) (ao : Option Addr) (n cap : Nat) (v : PV) (t : List PV) (g : Nat) (w : World) (h0 : w.cell? ⟨b, off, none⟩ = some (.slice ao n cap)) (h1 : w.cell? ⟨b, off + 1, none⟩ = some (.int .i64 g)) (hO : Ops w ao n cap (v :: t)) (hg : (g : Int) ≤ lgV v) (hl : lgV v ≤ 1000) :
    Calls Tryz.prog 284 #[.pointer (some ⟨b, off, none⟩)] w fun e w' => e = .returned (.int .i64 (lgV v - g)) ∧ Below w.heap.size w w' := by
  obtain ⟨pb, po, rfl, hsv, hn, -⟩ := hO.head
  obtain ⟨c0, c1, c2, c3, c4, c5, c6⟩ := hsv
  have hn' : (0 : Int) < (n : Int) := by omega
  have hbig := hO.row.big
  have hroom := hO.row.room
  have CL : Hid (∀ w', Calls Tryz.prog 308 #[.agg #[.int .i64 v.kind, .int .i64 v.n, .slice v.ao v.m v.cap, .int .i64 v.set, .int .i64 v.clr, .bool v.goes, .string v.link]] w' fun e w'' => e = .returned (.int .i64 (lgV v)) ∧ Below w'.heap.size w' w'') := fun w' => longp_any v w'
  have HB : Hid (∀ w', Below w.heap.size w.drew w' → w'.cell? ⟨b, off + 1, none⟩ = some (.int .i64 g)) := fun w' hb => (hb.cell (p := ⟨b, off + 1, none⟩) (cell_lt h1)).trans h1
  have HF : Hid (∀ w', Below w.heap.size w.drew w' → Below w.heap.size w w') := fun w' hb => (Below.refl _ _).drew.trans hb
  clear hO
  have hwr : wrap64 (lgV v - g) = lgV v - g := by unfold wrap64; omega
  have hwi : IntKind.i64.wrap (lgV v - g) = lgV v - g := IntWalk.i64_in _ ⟨by omega, by omega⟩
  generalize lgV v = L at *
  go_enter Tryz.func284, Tryz.ntmps284
  go_upto_region 1 with fail
  go_region_with ((go_at_call 308; refine (CL.out _).mono ?_; rintro e w1 ⟨rfl, hb⟩; have hq := HB.out _ hb; have HFF := HF.out _ hb; clear hb))
  all_goals
    go_wp2
    go_ret
    exact ⟨rfl, by assumption⟩
end Go.Proofs.YtbhcklkbckacpaaGreatDoor

/-
  Package ot: the next items of the next part, taken.
-/
namespace Go.Proofs.YtbhcklkbckacpaaGreatDoor
open Go.RowKit

structure RV where
  ao : Option Addr
  n : Nat
  cap : Nat
  vs : List PV
  g : Nat
def prC (r s : RV) : List Value := [.slice r.ao r.n r.cap, .int .i64 r.g, .slice s.ao s.n s.cap, .int .i64 s.g]
def RV.ok (w : World) (r : RV) : Prop := Ops w r.ao r.n r.cap r.vs
def pieceV (v : PV) (g q : Nat) : PV := if v.kind = 2 then { v with ao := v.ao.map (fun a => a.add (g * 3)), m := q, cap := v.cap - g, items := (v.items.drop g).take q } else { v with n := q }
theorem pieceV_pt (v : PV) (g q : Nat) : (pieceV v g q).pt = Ac.piece v.pt g q := by
  unfold pieceV Ac.piece PV.pt
  split
  · rfl
  · rfl
def tailA (ao : Option Addr) (cap : Nat) : Option Addr := if cap = 1 then ao else ao.map (fun a => a.add 7)
def RV.next (r : RV) (v : PV) (t : List PV) (q : Nat) : RV := if ((r.g + q : Nat) : Int) = lgV v then ⟨tailA r.ao r.cap, r.n - 1, r.cap - 1, t, 0⟩ else ⟨r.ao, r.n, r.cap, v :: t, r.g + q⟩
theorem add_off (b off k : Nat) : (⟨b, off, none⟩ : Addr).add k = ⟨b, off + k, none⟩ := by unfold Addr.add; split <;> simp_all
theorem Pvt.piece {w : World} {v : PV} (h : Pvt w v) {g q : Nat} (h1 : 1 ≤ q) (hl : v.kind = 2 → g + q ≤ v.m) : Pvt w (pieceV v g q) := by
  unfold pieceV
  by_cases k : v.kind = 2
  · rw [if_pos k]
    have hl := hl k
    obtain ⟨ib, io, e, hA⟩ := h.doc.lies (by omega)
    have hr := h.doc.room
    have hb := h.doc.big
    have hlen := h.doc.len
    refine ⟨⟨fun x hx => h.doc.fit x (List.mem_of_mem_drop (List.mem_of_mem_take hx)), by simp; omega, by simp only; omega, by simp only; omega, fun _ => ⟨ib, io + g * 3, ?_, hA.part g q⟩⟩, h.fit⟩
    simp only
    rw [e, Option.map_some, add_off]
  · rw [if_neg k]
    exact ⟨h.doc, h.fit⟩
theorem Ops.tail {w : World} {ao : Option Addr} {n cap : Nat} {v : PV} {t : List PV} (h : Ops w ao n cap (v :: t)) : Ops w (tailA ao cap) (n - 1) (cap - 1) t := by
  have hl := h.len
  rw [List.length_cons] at hl
  have hr := h.row.room
  have hb := h.row.big
  refine ⟨⟨by rw [pvCells_len]; congr 1; omega, by omega, by omega, fun hn => ?_⟩, fun u hu => h.pts u (List.mem_cons_of_mem _ hu)⟩
  obtain ⟨b, off, e, hc⟩ := h.row.lies (by omega)
  refine ⟨b, off + 7, ?_, fun j u hj => ?_⟩
  · unfold tailA
    rw [if_neg (by omega), e, Option.map_some, add_off]
  · have := hc (7 + j) u (by rw [pvCells_cons, show 7 + j = j + 1 + 1 + 1 + 1 + 1 + 1 + 1 by omega]; exact hj)
    rw [← Nat.add_assoc] at this
    exact this
theorem RV.next_ok {w : World} {r : RV} {v : PV} {t : List PV} (h : Ops w r.ao r.n r.cap (v :: t)) (q : Nat) : RV.ok w (r.next v t q) := by
  unfold RV.next RV.ok
  split
  · exact h.tail
  · exact h
theorem wrap_add {g q gq : Nat} (h : g + q = gq) (hb : gq ≤ 1000) : wrap64 ((g : Int) + (q : Int)) = (gq : Int) ∧ IntKind.i64.wrap ((g : Int) + (q : Int)) = (gq : Int) := by
  rw [show (g : Int) + (q : Int) = (gq : Int) by omega]
  exact ⟨by unfold wrap64; omega, IntWalk.i64_in _ ⟨by omega, by omega⟩⟩
theorem elemLP : Tryz.prog.elem 43 = 162 := by kernel_rfl
theorem under_lp : Tryz.prog.underlying 43 = some (.slice (Tryz.prog.elem 43)) := by kernel_rfl
theorem elemLI : Tryz.prog.elem 33 = 39 := by kernel_rfl
theorem under_li : Tryz.prog.underlying 33 = some (.slice (Tryz.prog.elem 33)) := by kernel_rfl
theorem slice_tail (b off n cap : Nat) (hn : 0 < n) (w : World) : (Instr.slice 43 (.slice (some ⟨b, off, none⟩) n cap) (some (.int .i64 1)) none none).run Tryz.prog w = .ok (.slice (tailA (some ⟨b, off, none⟩) cap) (n - 1) (cap - 1)) w := by
  rw [run_slice_l (P := Tryz.prog) (w := w) 43 _ n cap under_lp .i64 (1 : Int) (by omega) (by omega), elemLP, Tryz.sizeOf162 w]
  rfl
theorem slice_li (b off n cap i k : Nat) (hi : i < k) (hk : k ≤ n) (hc : n ≤ cap) (w : World) : (Instr.slice 33 (.slice (some ⟨b, off, none⟩) n cap) (some (.int .i64 i)) (some (.int .i64 k)) none).run Tryz.prog w = .ok (.slice (some ⟨b, off + i * 3, none⟩) (k - i) (cap - i)) w := by
  rw [run_slice_lh (P := Tryz.prog) (w := w) 33 _ n cap under_li .i64 .i64 (i : Int) (k : Int) (by omega) (by omega) (by omega), elemLI, Tryz.sizeOf39 w]
  simp only [Result.andThen, Int.toNat_natCast]
  congr 1
  unfold sliced
  rw [if_neg (by omega)]
  simp only [Option.map_some, add_off]
structure Tk3 (w0 w : World) (b : Nat) (cs : List Value) (u : PV) : Prop where
  rb : Blk w w0.heap.size (pvC pv0) 162
  pb : Blk w (w0.heap.size + 1) (pvC u) 162
  cb : Blk w b cs 272
  kept : Kept w0 w [b]
theorem Tk3.start {w : World} {b : Nat} {cs : List Value} (h : Blk w b cs 272) (v : PV) : Tk3 w (boxp v (boxp pv0 w)) b cs v :=
  ⟨(boxp_blk pv0 w).alloc _, by have := boxp_blk v (boxp pv0 w); rw [boxp_size] at this; exact this, (h.alloc _).alloc _, ((Kept.refl w [b]).alloc _).alloc _⟩
theorem Tk3.own {w0 w : World} {b : Nat} {cs : List Value} {u : PV} (h : Tk3 w0 w b cs u) (hb : b < w0.heap.size) (j : Nat) (x : Value) {u' : PV} (e : (pvC u).set j x = pvC u') : Tk3 w0 (w.setCell ⟨w0.heap.size + 1, j, none⟩ x) b cs u' :=
  ⟨h.rb.other _ _ (by simp), by have := h.pb.set j x; rw [e] at this; exact this, h.cb.other _ _ (by simp; omega), h.kept.setCell _ _ (.inr (by simp))⟩
theorem Tk3.pair {w0 w : World} {b : Nat} {cs : List Value} {u : PV} (h : Tk3 w0 w b cs u) (hb : b < w0.heap.size) (j : Nat) (x : Value) : Tk3 w0 (w.setCell ⟨b, j, none⟩ x) b (cs.set j x) u :=
  ⟨h.rb.other _ _ (by simp; omega), h.pb.other _ _ (by simp; omega), h.cb.set j x, h.kept.setCell _ _ (.inl (by simp))⟩
theorem Tk3.drew {w0 w : World} {b : Nat} {cs : List Value} {u : PV} (h : Tk3 w0 w b cs u) : Tk3 w0 w.drew b cs u := ⟨h.rb, h.pb, h.cb, h.kept.drew⟩
theorem Tk3.under {w0 w w' : World} {b : Nat} {cs : List Value} {u : PV} (h : Tk3 w0 w b cs u) (hb : Below w.heap.size w w') : Tk3 w0 w' b cs u :=
  ⟨(hb.block _ h.rb.lt).trans h.rb, (hb.block _ h.pb.lt).trans h.pb, (hb.block _ h.cb.lt).trans h.cb, h.kept.trans ((kept_of_below hb).mono (fun x hx => by cases hx))⟩
theorem putP_kept (w : World) (g : Nat) (k : PV) (S : List Nat) (h : g ∈ S) : Kept w (putP w g k) S := by
  unfold putP
  exact (((((((Kept.refl w S).setCell _ _ (.inl h)).setCell _ _ (.inl h)).setCell _ _ (.inl h)).setCell _ _ (.inl h)).setCell _ _ (.inl h)).setCell _ _ (.inl h)).setCell _ _ (.inl h)
theorem Tk3.done {w0 w : World} {b : Nat} {cs : List Value} {u : PV} (h : Tk3 w0 w b cs u) (hb : b < w0.heap.size) (k : PV) : Blk (putP w w0.heap.size k) w0.heap.size (pvC k) 162 ∧ Blk (putP w w0.heap.size k) b cs 272 ∧ Kept w0 (putP w w0.heap.size k) [b] := by
  refine ⟨putP_blk h.rb, ?_, h.kept.trans_new (putP_kept w _ k [w0.heap.size] (by simp)) (fun x hx => by rw [List.mem_singleton.1 hx]; exact .inr (Nat.le_refl _))⟩
  exact (putP_kept w w0.heap.size k [w0.heap.size] (by simp)).blk h.cb (by simp; omega)
end Go.Proofs.YtbhcklkbckacpaaGreatDoor
