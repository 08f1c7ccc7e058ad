/-
  Package ot: what is left to do of each of two parts for the same items, once the other one is done.
-/
import Derived.Test.YtaigleblmbblcaaDoorUq
import Derived.ChangeKeysEq
import Derived.Deep.RegionHeld3
namespace Go.Proofs.YtaigleblmbblcaaDoor
open Go.RowKit

theorem guardK : Tryd.prog.eqGuardType Tryd.prog.depth 108 = false := by kernel_rfl
theorem infoK : ∃ i, Tryd.prog.info? 3 = some i := by
  have h : (Tryd.prog.info? 3).isSome = true := by kernel_rfl
  exact Option.isSome_iff_exists.1 h
theorem cellsK : Tryd.prog.cellsOf 3 = 1 := by kernel_rfl
theorem eql_kinds (a b c d : Int) (w : World) : (binOp .eql 108 (.agg #[.int .i64 a, .int .i64 b]) (.agg #[.int .i64 c, .int .i64 d])).run Tryd.prog w = .ok (.bool ((a == c) && (b == d))) w := by
  obtain ⟨i, hi⟩ := infoK
  have hu := Tryd.underlying108
  have hv := Tryd.underlying3
  rw [run_eql_struct, run_equalIn_array w 9999 _ _ hu hi, cellsK]
  simp [Op.eqItems, List.range, List.range.loop, go_sem, hv, part]
  by_cases h1 : a = c <;> by_cases h2 : b = d <;> simp [h1, h2]
def box0 (w : World) : World := w.alloc (.cells #[] 55)
theorem box0_below (w : World) : Below w.heap.size w (box0 w) := (Below.refl _ _).alloc (Nat.le_refl _) _
theorem box0_size (w : World) : (box0 w).heap.size = w.heap.size + 1 := World.size_alloc ..
/-- A slice that was laid since. -/
def Fresh (w : World) (ao : Option Addr) (n : Nat) : Prop := ∀ a, n ≠ 0 → ao = some a → w.heap.size ≤ a.block
theorem fresh_zero (w : World) (ao : Option Addr) : Fresh w ao 0 := fun _ h _ => absurd rfl h
theorem fresh_some {w : World} {g n : Nat} (h : w.heap.size ≤ g) : Fresh w (some ⟨g, 0, none⟩) n := fun a _ e => by cases e; exact h
theorem Row.kept {w w' : World} {ao : Option Addr} {n cap sz : Nat} {cs : List Value} {S : List Nat} (h : Row w ao n cap sz cs) (hs : 0 < sz) (hk : Kept w w' S) (hn : ∀ a, n ≠ 0 → ao = some a → a.block ∉ S) : Row w' ao n cap sz cs :=
  ⟨h.len, h.room, h.big, fun hm => by
    obtain ⟨b, off, e, hc⟩ := h.lies hm
    have hl : 0 < cs.length := by rw [h.len]; exact Nat.mul_pos (Nat.pos_of_ne_zero hm) hs
    have h0 := hc 0 cs[0] (List.getElem?_eq_getElem hl)
    have he := hk.block b (cell_lt h0) (hn _ hm e)
    exact ⟨b, off, e, fun j u hu => (World.cell?_of_block (w := w) he).trans (hc j u hu)⟩⟩
/-- Two operations in a block. -/
def boxo (w : World) : World := w.alloc (.cells #[.slice none 0 0, .slice none 0 0] 42)
def behXV (p q : PV) : List PV := if q.kind = 1 then [p] else []
def behYV (p q : PV) : List PV := if p.kind = 1 then (if q.kind = 1 then [yieldV q p] else [q]) else []
theorem ops_one {w : World} {v : PV} (h : Pvt w v) : Ops (boxp v w) (some ⟨w.heap.size, 0, none⟩) 1 1 [v] := by
  have hB := boxp_blk v w
  refine ⟨⟨rfl, Nat.le_refl _, by decide, fun _ => ⟨_, 0, rfl, fun j u hu => ?_⟩⟩, fun u hu => ?_⟩
  · rw [Nat.zero_add]
    rw [pvCells_one] at hu
    exact (hB.cell j).trans hu
  · rw [List.mem_singleton.1 hu]
    exact h.below (boxp_below v w)
theorem boxo_blk (w : World) : Blk (boxo w) w.heap.size [.slice none 0 0, .slice none 0 0] 42 := Blk.new w _ _
theorem boxo_below (w : World) : Below w.heap.size w (boxo w) := (Below.refl _ _).alloc (Nat.le_refl _) _
theorem pp_cells {w : World} {b : Nat} {p q : PV} (h : Blk w b (ppC p q) 93) : w.cell? ⟨b, 0, none⟩ = some (.int .i64 p.kind) ∧ w.cell? ⟨b, 1, none⟩ = some (.int .i64 p.n) ∧ w.cell? ⟨b, 2, none⟩ = some (.slice p.ao p.m p.cap) ∧ w.cell? ⟨b, 3, none⟩ = some (.int .i64 p.set) ∧ w.cell? ⟨b, 4, none⟩ = some (.int .i64 p.clr) ∧ w.cell? ⟨b, 5, none⟩ = some (.bool p.goes) ∧ w.cell? ⟨b, 6, none⟩ = some (.string p.link) ∧ w.cell? ⟨b, 7, none⟩ = some (.int .i64 q.kind) ∧ w.cell? ⟨b, 8, none⟩ = some (.int .i64 q.n) ∧ w.cell? ⟨b, 9, none⟩ = some (.slice q.ao q.m q.cap) ∧ w.cell? ⟨b, 10, none⟩ = some (.int .i64 q.set) ∧ w.cell? ⟨b, 11, none⟩ = some (.int .i64 q.clr) ∧ w.cell? ⟨b, 12, none⟩ = some (.bool q.goes) ∧ w.cell? ⟨b, 13, none⟩ = some (.string q.link) :=
  ⟨h.cell 0, h.cell 1, h.cell 2, h.cell 3, h.cell 4, h.cell 5, h.cell 6, h.cell 7, h.cell 8, h.cell 9, h.cell 10, h.cell 11, h.cell 12, h.cell 13⟩
/-- The two parts, and the result's block. -/
structure Bq (w0 w : World) (p q : PV) (x y : Value) : Prop where
  pb : Blk w w0.heap.size (ppC p q) 93
  rb : Blk w (w0.heap.size + 1) [x, y] 42
  blw : Below w0.heap.size w0 w
theorem Bq.start (p q : PV) (w : World) : Bq w (boxo (boxq p q w)) p q (.slice none 0 0) (.slice none 0 0) := by
  refine ⟨(boxq_blk p q w).alloc _, ?_, (boxq_below p q w).trans ((boxo_below _).mono (by rw [boxq_size]; omega))⟩
  have := boxo_blk (boxq p q w)
  rw [boxq_size] at this
  exact this
theorem Bq.under {w0 w w' : World} {p q : PV} {x y : Value} (h : Bq w0 w p q x y) (hb : Below w.heap.size w w') : Bq w0 w' p q x y :=
  ⟨(hb.block _ h.pb.lt).trans h.pb, (hb.block _ h.rb.lt).trans h.rb, h.blw.trans (hb.mono h.blw.size)⟩

def set2 (w : World) (R : Nat) (x y : Value) : World := (w.setCell ⟨R, 0, none⟩ x).setCell ⟨R, 1, none⟩ y
theorem set2_size (w : World) (R : Nat) (x y : Value) : (set2 w R x y).heap.size = w.heap.size := by simp [set2]
theorem Bq.set2 {w0 w : World} {p q : PV} {x y : Value} (h : Bq w0 w p q x y) (x' y' : Value) : Bq w0 (set2 w (w0.heap.size + 1) x' y') p q x' y' :=
  ⟨(h.pb.other _ _ (by simp)).other _ _ (by simp), (h.rb.set 0 x').set 1 y', (h.blw.setCell (by simp) _).setCell (by simp) _⟩
theorem szO2 (x y : Value) : (Tryd.prog.info? 42).map (·.size) = some [x, y].toArray.size := by
  have h : (Tryd.prog.info? 42).map (·.size) = some 2 := by kernel_rfl
  exact h
theorem ret_oo {fn : Func} {p : Tmp} {x y : Value} {w : World} {g : Nat} (h : fn.results = #[.cell p 42]) (tmps : Array Value) (hp : tmps.getD p undef = .pointer (some ⟨g, 0, none⟩)) (hB : Blk w g [x, y] 42) : (results fn tmps).run Tryd.prog w = .ok (.agg #[x, y]) w :=
  results_cell_row h tmps w g 42 [x, y].toArray (0, 0) _ hp hB Tryd.underlying42 rfl (szO2 x y)
theorem ops_zero (w : World) (ao : Option Addr) : Ops w ao 0 0 [] := ⟨⟨rfl, Nat.le_refl _, by decide, fun h => absurd rfl h⟩, fun v hv => absurd hv (by simp)⟩
theorem yieldV_pvt {w : World} {q : PV} (h : Pvt w q) (p : PV) : Pvt w (yieldV q p) := ⟨h.doc, by show (if p.goes then (⟨#[]⟩ : ByteArray) else q.link).size ≤ _; split; exact Nat.zero_le _; exact h.fit⟩
theorem ops_blk {w : World} {g : Nat} {v : PV} (hB : Blk w g (pvC v) 55) (h : Pvt w v) : Ops w (some ⟨g, 0, none⟩) 1 1 [v] := by
  refine ⟨⟨rfl, Nat.le_refl _, by decide, fun _ => ⟨_, 0, rfl, fun j u hu => ?_⟩⟩, fun u hu => ?_⟩
  · rw [Nat.zero_add]
    rw [pvCells_one] at hu
    exact (hB.cell j).trans hu
  · rw [List.mem_singleton.1 hu]
    exact h
/-- One of them is laid behind the result, the other one behind that. -/
theorem Bq.two {w0 w : World} {p q : PV} {x y : Value} (h : Bq w0 w p q x y) (u v : PV) (x' y' : Value) (hu : Pvt w0 u) (hv : Pvt w0 v) :
    Bq w0 (boxp v (boxp u (Go.Proofs.YtaigleblmbblcaaDoor.set2 w (w0.heap.size + 1) x' y'))) p q x' y' ∧ Ops (boxp v (boxp u (Go.Proofs.YtaigleblmbblcaaDoor.set2 w (w0.heap.size + 1) x' y'))) (some ⟨w.heap.size, 0, none⟩) 1 1 [u] ∧ Ops (boxp v (boxp u (Go.Proofs.YtaigleblmbblcaaDoor.set2 w (w0.heap.size + 1) x' y'))) (some ⟨w.heap.size + 1, 0, none⟩) 1 1 [v] := by
  have h2 := h.set2 x' y'
  have hz := set2_size w (w0.heap.size + 1) x' y'
  have h3 := h2.under (boxp_below u _)
  have h4 := h3.under (boxp_below v _)
  have o1 := (ops_one (hu.below h2.blw)).below (boxp_below v (boxp u (Go.Proofs.YtaigleblmbblcaaDoor.set2 w (w0.heap.size + 1) x' y')))
  have o2 := ops_one (hv.below h3.blw)
  rw [hz] at o1
  rw [boxp_size, hz] at o2
  exact ⟨h4, o1, o2⟩
theorem Bq.one {w0 w : World} {p q : PV} {x y : Value} (h : Bq w0 w p q x y) (v : PV) (x' y' : Value) (hv : Pvt w0 v) :
    Bq w0 (boxp v (Go.Proofs.YtaigleblmbblcaaDoor.set2 w (w0.heap.size + 1) x' y')) p q x' y' ∧ Ops (boxp v (Go.Proofs.YtaigleblmbblcaaDoor.set2 w (w0.heap.size + 1) x' y')) (some ⟨w.heap.size, 0, none⟩) 1 1 [v] := by
  have h2 := h.set2 x' y'
  have o2 := ops_one (hv.below h2.blw)
  rw [set2_size] at o2
  exact ⟨h2.under (boxp_below v _), o2⟩

set_option maxRecDepth 100000 in
set_option maxHeartbeats 3200000 in
theorem beh_kk (pn : Int) (pao : Option Addr) (pm pcap : Nat) (pit : List It) (pst pcl : Int) (pgs : Bool) (plk : ByteArray) (qn : Int) (qao : Option Addr) (qm qcap : Nat) (qit : List It) (qst qcl : Int) (qgs : Bool) (qlk : ByteArray) (w : World)
    (hp : Pvt w ⟨1, pn, pao, pm, pcap, pit, pst, pcl, pgs, plk⟩) (hq : Pvt w ⟨1, qn, qao, qm, qcap, qit, qst, qcl, qgs, qlk⟩) (h1 : Ac.m4 pst) (h2 : Ac.m4 pcl) (h3 : Ac.m4 qst) (h4 : Ac.m4 qcl) :
    Calls Tryd.prog 47 #[.agg #[.int .i64 1, .int .i64 pn, .slice pao pm pcap, .int .i64 pst, .int .i64 pcl, .bool pgs, .string plk, .int .i64 1, .int .i64 qn, .slice qao qm qcap, .int .i64 qst, .int .i64 qcl, .bool qgs, .string qlk]] w fun e w' => (∃ g0 g1, e = .returned (.agg #[.slice (some ⟨g0, 0, none⟩) 1 1, .slice (some ⟨g1, 0, none⟩) 1 1]) ∧ Ops w' (some ⟨g0, 0, none⟩) 1 1 [⟨1, pn, pao, pm, pcap, pit, pst, pcl, pgs, plk⟩] ∧ Ops w' (some ⟨g1, 0, none⟩) 1 1 [yieldV ⟨1, qn, qao, qm, qcap, qit, qst, qcl, qgs, qlk⟩ ⟨1, pn, pao, pm, pcap, pit, pst, pcl, pgs, plk⟩] ∧ w.heap.size ≤ g0 ∧ w.heap.size ≤ g1) ∧ Below w.heap.size w w' := by
  have HT : Hid (Bq w (boxo (boxq ⟨1, pn, pao, pm, pcap, pit, pst, pcl, pgs, plk⟩ ⟨1, qn, qao, qm, qcap, qit, qst, qcl, qgs, qlk⟩ w)) ⟨1, pn, pao, pm, pcap, pit, pst, pcl, pgs, plk⟩ ⟨1, qn, qao, qm, qcap, qit, qst, qcl, qgs, qlk⟩ (.slice none 0 0) (.slice none 0 0)) := Bq.start _ _ w
  have CY : Hid (∀ w', Calls Tryd.prog 62 #[.agg #[.int .i64 1, .int .i64 qn, .slice qao qm qcap, .int .i64 qst, .int .i64 qcl, .bool qgs, .string qlk], .agg #[.int .i64 1, .int .i64 pn, .slice pao pm pcap, .int .i64 pst, .int .i64 pcl, .bool pgs, .string plk]] w' fun e w'' => e = .returned (.agg #[.int .i64 (yieldV ⟨1, qn, qao, qm, qcap, qit, qst, qcl, qgs, qlk⟩ ⟨1, pn, pao, pm, pcap, pit, pst, pcl, pgs, plk⟩).kind, .int .i64 (yieldV ⟨1, qn, qao, qm, qcap, qit, qst, qcl, qgs, qlk⟩ ⟨1, pn, pao, pm, pcap, pit, pst, pcl, pgs, plk⟩).n, .slice (yieldV ⟨1, qn, qao, qm, qcap, qit, qst, qcl, qgs, qlk⟩ ⟨1, pn, pao, pm, pcap, pit, pst, pcl, pgs, plk⟩).ao (yieldV ⟨1, qn, qao, qm, qcap, qit, qst, qcl, qgs, qlk⟩ ⟨1, pn, pao, pm, pcap, pit, pst, pcl, pgs, plk⟩).m (yieldV ⟨1, qn, qao, qm, qcap, qit, qst, qcl, qgs, qlk⟩ ⟨1, pn, pao, pm, pcap, pit, pst, pcl, pgs, plk⟩).cap, .int .i64 (yieldV ⟨1, qn, qao, qm, qcap, qit, qst, qcl, qgs, qlk⟩ ⟨1, pn, pao, pm, pcap, pit, pst, pcl, pgs, plk⟩).set, .int .i64 (yieldV ⟨1, qn, qao, qm, qcap, qit, qst, qcl, qgs, qlk⟩ ⟨1, pn, pao, pm, pcap, pit, pst, pcl, pgs, plk⟩).clr, .bool (yieldV ⟨1, qn, qao, qm, qcap, qit, qst, qcl, qgs, qlk⟩ ⟨1, pn, pao, pm, pcap, pit, pst, pcl, pgs, plk⟩).goes, .string (yieldV ⟨1, qn, qao, qm, qcap, qit, qst, qcl, qgs, qlk⟩ ⟨1, pn, pao, pm, pcap, pit, pst, pcl, pgs, plk⟩).link]) ∧ Below w'.heap.size w' w'') := fun w' => yield_any ⟨1, qn, qao, qm, qcap, qit, qst, qcl, qgs, qlk⟩ ⟨1, pn, pao, pm, pcap, pit, pst, pcl, pgs, plk⟩ w' h3 h4 h1 h2
  have HY : Hid (Pvt w (yieldV ⟨1, qn, qao, qm, qcap, qit, qst, qcl, qgs, qlk⟩ ⟨1, pn, pao, pm, pcap, pit, pst, pcl, pgs, plk⟩)) := yieldV_pvt hq _
  have HP : Hid (Pvt w ⟨1, pn, pao, pm, pcap, pit, pst, pcl, pgs, plk⟩) := hp
  have hek := eql_kinds 1 1 1 1
  have hgk := guardK
  clear hp hq h1 h2 h3 h4
  generalize yieldV ⟨1, qn, qao, qm, qcap, qit, qst, qcl, qgs, qlk⟩ ⟨1, pn, pao, pm, pcap, pit, pst, pcl, pgs, plk⟩ = y at *
  go_enter Tryd.func47, Tryd.ntmps47
  go_upto_region 1 with fail
  change Code.wp Tryd.prog _ _ _ (boxo (boxq ⟨1, pn, pao, pm, pcap, pit, pst, pcl, pgs, plk⟩ ⟨1, qn, qao, qm, qcap, qit, qst, qcl, qgs, qlk⟩ w))
  generalize boxo (boxq ⟨1, pn, pao, pm, pcap, pit, pst, pcl, pgs, plk⟩ ⟨1, qn, qao, qm, qcap, qit, qst, qcl, qgs, qlk⟩ w) = W at *
  have c0 : W.cell? ⟨w.heap.size, 0, none⟩ = some (.int .i64 1) := HT.out.pb.cell 0
  have c1 : W.cell? ⟨w.heap.size, 1, none⟩ = some (.int .i64 pn) := HT.out.pb.cell 1
  have c2 : W.cell? ⟨w.heap.size, 2, none⟩ = some (.slice pao pm pcap) := HT.out.pb.cell 2
  have c3 : W.cell? ⟨w.heap.size, 3, none⟩ = some (.int .i64 pst) := HT.out.pb.cell 3
  have c4 : W.cell? ⟨w.heap.size, 4, none⟩ = some (.int .i64 pcl) := HT.out.pb.cell 4
  have c5 : W.cell? ⟨w.heap.size, 5, none⟩ = some (.bool pgs) := HT.out.pb.cell 5
  have c6 : W.cell? ⟨w.heap.size, 6, none⟩ = some (.string plk) := HT.out.pb.cell 6
  have c7 : W.cell? ⟨w.heap.size, 7, none⟩ = some (.int .i64 1) := HT.out.pb.cell 7
  have c8 : W.cell? ⟨w.heap.size, 8, none⟩ = some (.int .i64 qn) := HT.out.pb.cell 8
  have c9 : W.cell? ⟨w.heap.size, 9, none⟩ = some (.slice qao qm qcap) := HT.out.pb.cell 9
  have c10 : W.cell? ⟨w.heap.size, 10, none⟩ = some (.int .i64 qst) := HT.out.pb.cell 10
  have c11 : W.cell? ⟨w.heap.size, 11, none⟩ = some (.int .i64 qcl) := HT.out.pb.cell 11
  have c12 : W.cell? ⟨w.heap.size, 12, none⟩ = some (.bool qgs) := HT.out.pb.cell 12
  have c13 : W.cell? ⟨w.heap.size, 13, none⟩ = some (.string qlk) := HT.out.pb.cell 13
  have r0 : W.cell? ⟨w.heap.size + 1, 0, none⟩ = some (.slice none 0 0) := HT.out.rb.cell 0
  have r1 : W.cell? ⟨w.heap.size + 1, 1, none⟩ = some (.slice none 0 0) := HT.out.rb.cell 1
  have f0 := HT.out.rb.frozen 0
  have f1 := HT.out.rb.frozen 1
  have hz : w.heap.size + 1 < W.heap.size := HT.out.rb.lt
  have hz0 : w.heap.size < W.heap.size := by omega
  go_upto_region 3 with fail
  go_region_held3 (fun w' => w'.cell? ⟨w.heap.size, 0, none⟩ = some (.int .i64 1) ∧ w'.cell? ⟨w.heap.size, 1, none⟩ = some (.int .i64 pn) ∧ w'.cell? ⟨w.heap.size, 2, none⟩ = some (.slice pao pm pcap) ∧ w'.cell? ⟨w.heap.size, 3, none⟩ = some (.int .i64 pst) ∧ w'.cell? ⟨w.heap.size, 4, none⟩ = some (.int .i64 pcl) ∧ w'.cell? ⟨w.heap.size, 5, none⟩ = some (.bool pgs) ∧ w'.cell? ⟨w.heap.size, 6, none⟩ = some (.string plk) ∧ w'.cell? ⟨w.heap.size, 7, none⟩ = some (.int .i64 1) ∧ w'.cell? ⟨w.heap.size, 8, none⟩ = some (.int .i64 qn) ∧ w'.cell? ⟨w.heap.size, 9, none⟩ = some (.slice qao qm qcap) ∧ w'.cell? ⟨w.heap.size, 10, none⟩ = some (.int .i64 qst) ∧ w'.cell? ⟨w.heap.size, 11, none⟩ = some (.int .i64 qcl) ∧ w'.cell? ⟨w.heap.size, 12, none⟩ = some (.bool qgs) ∧ w'.cell? ⟨w.heap.size, 13, none⟩ = some (.string qlk)) (first | go_keep | exact pp_cells ((((HT1.pb.other _ _ (by simp)).other _ _ (by simp)).alloc _).alloc _) | exact pp_cells (((HT1.pb.other _ _ (by simp)).other _ _ (by simp)).alloc _) | exact pp_cells ((HT1.pb.other _ _ (by simp)).other _ _ (by simp)) | exact pp_cells (HT1.pb.alloc _) | exact pp_cells ((HT1.pb.alloc _).alloc _) | exact ⟨d0, d1, d2, d3, d4, d5, d6, d7, d8, d9, d10, d11, d12, d13⟩ | exact ⟨c0, c1, c2, c3, c4, c5, c6, c7, c8, c9, c10, c11, c12, c13⟩) ((go_at_call 62; refine (CY.out _).mono ?_; rintro e w1 ⟨rfl, hb⟩; have HB1 : Below W.heap.size W w1 := (by first | exact (Below.refl W.heap.size W).drew.trans hb | exact ((Below.refl W.heap.size W).drew.alloc (Nat.le_refl _) _).trans (hb.mono (by simp))); have HT1 := HT.out.under HB1; have d0 : w1.cell? ⟨w.heap.size, 0, none⟩ = some (.int .i64 1) := HT1.pb.cell 0; have d1 : w1.cell? ⟨w.heap.size, 1, none⟩ = some (.int .i64 pn) := HT1.pb.cell 1; have d2 : w1.cell? ⟨w.heap.size, 2, none⟩ = some (.slice pao pm pcap) := HT1.pb.cell 2; have d3 : w1.cell? ⟨w.heap.size, 3, none⟩ = some (.int .i64 pst) := HT1.pb.cell 3; have d4 : w1.cell? ⟨w.heap.size, 4, none⟩ = some (.int .i64 pcl) := HT1.pb.cell 4; have d5 : w1.cell? ⟨w.heap.size, 5, none⟩ = some (.bool pgs) := HT1.pb.cell 5; have d6 : w1.cell? ⟨w.heap.size, 6, none⟩ = some (.string plk) := HT1.pb.cell 6; have d7 : w1.cell? ⟨w.heap.size, 7, none⟩ = some (.int .i64 1) := HT1.pb.cell 7; have d8 : w1.cell? ⟨w.heap.size, 8, none⟩ = some (.int .i64 qn) := HT1.pb.cell 8; have d9 : w1.cell? ⟨w.heap.size, 9, none⟩ = some (.slice qao qm qcap) := HT1.pb.cell 9; have d10 : w1.cell? ⟨w.heap.size, 10, none⟩ = some (.int .i64 qst) := HT1.pb.cell 10; have d11 : w1.cell? ⟨w.heap.size, 11, none⟩ = some (.int .i64 qcl) := HT1.pb.cell 11; have d12 : w1.cell? ⟨w.heap.size, 12, none⟩ = some (.bool qgs) := HT1.pb.cell 12; have d13 : w1.cell? ⟨w.heap.size, 13, none⟩ = some (.string qlk) := HT1.pb.cell 13; have s0 : w1.cell? ⟨w.heap.size + 1, 0, none⟩ = some (.slice none 0 0) := HT1.rb.cell 0; have s1 : w1.cell? ⟨w.heap.size + 1, 1, none⟩ = some (.slice none 0 0) := HT1.rb.cell 1; have t0 := HT1.rb.frozen 0; have t1 := HT1.rb.frozen 1; have hz2 : w.heap.size + 1 < w1.heap.size := HT1.rb.lt; have hz3 : w.heap.size < w1.heap.size := by omega))
  · obtain ⟨k1, k2⟩ := HT1.one y (.slice (some ⟨W.heap.size, 0, none⟩) 1 1) (.slice (some ⟨w1.heap.size, 0, none⟩) 1 1) HY.out
    have hB0 : Blk w1 W.heap.size (pvC ⟨1, pn, pao, pm, pcap, pit, pst, pcl, pgs, plk⟩) 55 := (hb.block _ (boxp_blk ⟨1, pn, pao, pm, pcap, pit, pst, pcl, pgs, plk⟩ W.drew).lt).trans (boxp_blk ⟨1, pn, pao, pm, pcap, pit, pst, pcl, pgs, plk⟩ W.drew)
    have k3 : Blk (boxp y (set2 w1 (w.heap.size + 1) (.slice (some ⟨W.heap.size, 0, none⟩) 1 1) (.slice (some ⟨w1.heap.size, 0, none⟩) 1 1))) W.heap.size (pvC ⟨1, pn, pao, pm, pcap, pit, pst, pcl, pgs, plk⟩) 55 := ((hB0.other ⟨w.heap.size + 1, 0, none⟩ (.slice (some ⟨W.heap.size, 0, none⟩) 1 1) (by simp; omega)).other ⟨w.heap.size + 1, 1, none⟩ (.slice (some ⟨w1.heap.size, 0, none⟩) 1 1) (by simp; omega)).alloc _
    clear hb HB1 HT1 hB0
    go_wp2
    change bodyPost Tryd.prog _ _ Exit.ret _ (boxp y (set2 w1 (w.heap.size + 1) (.slice (some ⟨W.heap.size, 0, none⟩) 1 1) (.slice (some ⟨w1.heap.size, 0, none⟩) 1 1)))
    exact bodyPost_ret (ret_oo rfl _ rfl k1.rb) rfl ⟨⟨_, _, rfl, ops_blk k3 (HP.out.below k1.blw), k2, by omega, by omega⟩, k1.blw⟩
  · obtain ⟨k1, k2, k3⟩ := HT1.two ⟨1, pn, pao, pm, pcap, pit, pst, pcl, pgs, plk⟩ y (.slice (some ⟨w1.heap.size, 0, none⟩) 1 1) (.slice (some ⟨w1.heap.size + 1, 0, none⟩) 1 1) HP.out HY.out
    clear hb HB1 HT1
    go_wp2
    change bodyPost Tryd.prog _ _ Exit.ret _ (boxp y (boxp ⟨1, pn, pao, pm, pcap, pit, pst, pcl, pgs, plk⟩ (set2 w1 (w.heap.size + 1) (.slice (some ⟨w1.heap.size, 0, none⟩) 1 1) (.slice (some ⟨w1.heap.size + 1, 0, none⟩) 1 1))))
    exact bodyPost_ret (ret_oo rfl _ rfl k1.rb) rfl ⟨⟨_, _, rfl, k2, k3, by omega, by omega⟩, k1.blw⟩
  · obtain ⟨k1, k2, k3⟩ := HT1.two y ⟨1, pn, pao, pm, pcap, pit, pst, pcl, pgs, plk⟩ (.slice (some ⟨w1.heap.size + 1, 0, none⟩) 1 1) (.slice (some ⟨w1.heap.size, 0, none⟩) 1 1) HY.out HP.out
    clear hb HB1 HT1
    go_wp2
    change bodyPost Tryd.prog _ _ Exit.ret _ (boxp ⟨1, pn, pao, pm, pcap, pit, pst, pcl, pgs, plk⟩ (boxp y (set2 w1 (w.heap.size + 1) (.slice (some ⟨w1.heap.size + 1, 0, none⟩) 1 1) (.slice (some ⟨w1.heap.size, 0, none⟩) 1 1))))
    exact bodyPost_ret (ret_oo rfl _ rfl k1.rb) rfl ⟨⟨_, _, rfl, k3, k2, by omega, by omega⟩, k1.blw⟩

set_option maxRecDepth 100000 in
set_option maxHeartbeats 3200000 in
theorem beh_kc (pn : Int) (pao : Option Addr) (pm pcap : Nat) (pit : List It) (pst pcl : Int) (pgs : Bool) (plk : ByteArray) (qn : Int) (qao : Option Addr) (qm qcap : Nat) (qit : List It) (qst qcl : Int) (qgs : Bool) (qlk : ByteArray) (w : World)
    (hq : Pvt w ⟨3, qn, qao, qm, qcap, qit, qst, qcl, qgs, qlk⟩) :
    Calls Tryd.prog 47 #[.agg #[.int .i64 1, .int .i64 pn, .slice pao pm pcap, .int .i64 pst, .int .i64 pcl, .bool pgs, .string plk, .int .i64 3, .int .i64 qn, .slice qao qm qcap, .int .i64 qst, .int .i64 qcl, .bool qgs, .string qlk]] w fun e w' => (∃ a0 g1, e = .returned (.agg #[.slice a0 0 0, .slice (some ⟨g1, 0, none⟩) 1 1]) ∧ Ops w' (some ⟨g1, 0, none⟩) 1 1 [⟨3, qn, qao, qm, qcap, qit, qst, qcl, qgs, qlk⟩] ∧ w.heap.size ≤ g1) ∧ Below w.heap.size w w' := by
  have HT : Hid (Bq w (boxo (boxq ⟨1, pn, pao, pm, pcap, pit, pst, pcl, pgs, plk⟩ ⟨3, qn, qao, qm, qcap, qit, qst, qcl, qgs, qlk⟩ w)) ⟨1, pn, pao, pm, pcap, pit, pst, pcl, pgs, plk⟩ ⟨3, qn, qao, qm, qcap, qit, qst, qcl, qgs, qlk⟩ (.slice none 0 0) (.slice none 0 0)) := Bq.start _ _ w
  have he1 := eql_kinds 1 3 1 1
  have he2 := eql_kinds 1 3 3 1
  have he3 := eql_kinds 1 3 1 3
  have hgk := guardK
  go_enter Tryd.func47, Tryd.ntmps47
  go_upto_region 1 with fail
  change Code.wp Tryd.prog _ _ _ (boxo (boxq ⟨1, pn, pao, pm, pcap, pit, pst, pcl, pgs, plk⟩ ⟨3, qn, qao, qm, qcap, qit, qst, qcl, qgs, qlk⟩ w))
  generalize boxo (boxq ⟨1, pn, pao, pm, pcap, pit, pst, pcl, pgs, plk⟩ ⟨3, qn, qao, qm, qcap, qit, qst, qcl, qgs, qlk⟩ w) = W at *
  have c0 : W.cell? ⟨w.heap.size, 0, none⟩ = some (.int .i64 1) := HT.out.pb.cell 0
  have c1 : W.cell? ⟨w.heap.size, 1, none⟩ = some (.int .i64 pn) := HT.out.pb.cell 1
  have c2 : W.cell? ⟨w.heap.size, 2, none⟩ = some (.slice pao pm pcap) := HT.out.pb.cell 2
  have c3 : W.cell? ⟨w.heap.size, 3, none⟩ = some (.int .i64 pst) := HT.out.pb.cell 3
  have c4 : W.cell? ⟨w.heap.size, 4, none⟩ = some (.int .i64 pcl) := HT.out.pb.cell 4
  have c5 : W.cell? ⟨w.heap.size, 5, none⟩ = some (.bool pgs) := HT.out.pb.cell 5
  have c6 : W.cell? ⟨w.heap.size, 6, none⟩ = some (.string plk) := HT.out.pb.cell 6
  have c7 : W.cell? ⟨w.heap.size, 7, none⟩ = some (.int .i64 3) := HT.out.pb.cell 7
  have c8 : W.cell? ⟨w.heap.size, 8, none⟩ = some (.int .i64 qn) := HT.out.pb.cell 8
  have c9 : W.cell? ⟨w.heap.size, 9, none⟩ = some (.slice qao qm qcap) := HT.out.pb.cell 9
  have c10 : W.cell? ⟨w.heap.size, 10, none⟩ = some (.int .i64 qst) := HT.out.pb.cell 10
  have c11 : W.cell? ⟨w.heap.size, 11, none⟩ = some (.int .i64 qcl) := HT.out.pb.cell 11
  have c12 : W.cell? ⟨w.heap.size, 12, none⟩ = some (.bool qgs) := HT.out.pb.cell 12
  have c13 : W.cell? ⟨w.heap.size, 13, none⟩ = some (.string qlk) := HT.out.pb.cell 13
  have r0 : W.cell? ⟨w.heap.size + 1, 0, none⟩ = some (.slice none 0 0) := HT.out.rb.cell 0
  have r1 : W.cell? ⟨w.heap.size + 1, 1, none⟩ = some (.slice none 0 0) := HT.out.rb.cell 1
  have f0 := HT.out.rb.frozen 0
  have f1 := HT.out.rb.frozen 1
  have hz : w.heap.size + 1 < W.heap.size := HT.out.rb.lt
  have hz0 : w.heap.size < W.heap.size := by omega
  go_wp2
  change bodyPost Tryd.prog _ _ Exit.ret _ (boxp ⟨3, qn, qao, qm, qcap, qit, qst, qcl, qgs, qlk⟩ (box0 (set2 W (w.heap.size + 1) (.slice (some ⟨W.heap.size, 0, none⟩) 0 0) (.slice (some ⟨W.heap.size + 1, 0, none⟩) 1 1))))
  have k1 := ((HT.out.set2 (.slice (some ⟨W.heap.size, 0, none⟩) 0 0) (.slice (some ⟨W.heap.size + 1, 0, none⟩) 1 1)).under (box0_below _)).under (boxp_below ⟨3, qn, qao, qm, qcap, qit, qst, qcl, qgs, qlk⟩ _)
  have k2 := boxp_blk ⟨3, qn, qao, qm, qcap, qit, qst, qcl, qgs, qlk⟩ (box0 (set2 W (w.heap.size + 1) (.slice (some ⟨W.heap.size, 0, none⟩) 0 0) (.slice (some ⟨W.heap.size + 1, 0, none⟩) 1 1)))
  rw [box0_size, set2_size] at k2
  exact bodyPost_ret (ret_oo rfl _ rfl k1.rb) rfl ⟨⟨_, _, rfl, ops_blk k2 (hq.below k1.blw), by omega⟩, k1.blw⟩

set_option maxRecDepth 100000 in
set_option maxHeartbeats 3200000 in
theorem beh_ck (pn : Int) (pao : Option Addr) (pm pcap : Nat) (pit : List It) (pst pcl : Int) (pgs : Bool) (plk : ByteArray) (qn : Int) (qao : Option Addr) (qm qcap : Nat) (qit : List It) (qst qcl : Int) (qgs : Bool) (qlk : ByteArray) (w : World)
    (hp : Pvt w ⟨3, pn, pao, pm, pcap, pit, pst, pcl, pgs, plk⟩) :
    Calls Tryd.prog 47 #[.agg #[.int .i64 3, .int .i64 pn, .slice pao pm pcap, .int .i64 pst, .int .i64 pcl, .bool pgs, .string plk, .int .i64 1, .int .i64 qn, .slice qao qm qcap, .int .i64 qst, .int .i64 qcl, .bool qgs, .string qlk]] w fun e w' => (∃ g0 a1, e = .returned (.agg #[.slice (some ⟨g0, 0, none⟩) 1 1, .slice a1 0 0]) ∧ Ops w' (some ⟨g0, 0, none⟩) 1 1 [⟨3, pn, pao, pm, pcap, pit, pst, pcl, pgs, plk⟩] ∧ w.heap.size ≤ g0) ∧ Below w.heap.size w w' := by
  have HT : Hid (Bq w (boxo (boxq ⟨3, pn, pao, pm, pcap, pit, pst, pcl, pgs, plk⟩ ⟨1, qn, qao, qm, qcap, qit, qst, qcl, qgs, qlk⟩ w)) ⟨3, pn, pao, pm, pcap, pit, pst, pcl, pgs, plk⟩ ⟨1, qn, qao, qm, qcap, qit, qst, qcl, qgs, qlk⟩ (.slice none 0 0) (.slice none 0 0)) := Bq.start _ _ w
  have he1 := eql_kinds 3 1 1 1
  have he2 := eql_kinds 3 1 3 1
  have hgk := guardK
  go_enter Tryd.func47, Tryd.ntmps47
  go_upto_region 1 with fail
  change Code.wp Tryd.prog _ _ _ (boxo (boxq ⟨3, pn, pao, pm, pcap, pit, pst, pcl, pgs, plk⟩ ⟨1, qn, qao, qm, qcap, qit, qst, qcl, qgs, qlk⟩ w))
  generalize boxo (boxq ⟨3, pn, pao, pm, pcap, pit, pst, pcl, pgs, plk⟩ ⟨1, qn, qao, qm, qcap, qit, qst, qcl, qgs, qlk⟩ w) = W at *
  have c0 : W.cell? ⟨w.heap.size, 0, none⟩ = some (.int .i64 3) := HT.out.pb.cell 0
  have c1 : W.cell? ⟨w.heap.size, 1, none⟩ = some (.int .i64 pn) := HT.out.pb.cell 1
  have c2 : W.cell? ⟨w.heap.size, 2, none⟩ = some (.slice pao pm pcap) := HT.out.pb.cell 2
  have c3 : W.cell? ⟨w.heap.size, 3, none⟩ = some (.int .i64 pst) := HT.out.pb.cell 3
  have c4 : W.cell? ⟨w.heap.size, 4, none⟩ = some (.int .i64 pcl) := HT.out.pb.cell 4
  have c5 : W.cell? ⟨w.heap.size, 5, none⟩ = some (.bool pgs) := HT.out.pb.cell 5
  have c6 : W.cell? ⟨w.heap.size, 6, none⟩ = some (.string plk) := HT.out.pb.cell 6
  have c7 : W.cell? ⟨w.heap.size, 7, none⟩ = some (.int .i64 1) := HT.out.pb.cell 7
  have c8 : W.cell? ⟨w.heap.size, 8, none⟩ = some (.int .i64 qn) := HT.out.pb.cell 8
  have c9 : W.cell? ⟨w.heap.size, 9, none⟩ = some (.slice qao qm qcap) := HT.out.pb.cell 9
  have c10 : W.cell? ⟨w.heap.size, 10, none⟩ = some (.int .i64 qst) := HT.out.pb.cell 10
  have c11 : W.cell? ⟨w.heap.size, 11, none⟩ = some (.int .i64 qcl) := HT.out.pb.cell 11
  have c12 : W.cell? ⟨w.heap.size, 12, none⟩ = some (.bool qgs) := HT.out.pb.cell 12
  have c13 : W.cell? ⟨w.heap.size, 13, none⟩ = some (.string qlk) := HT.out.pb.cell 13
  have r0 : W.cell? ⟨w.heap.size + 1, 0, none⟩ = some (.slice none 0 0) := HT.out.rb.cell 0
  have r1 : W.cell? ⟨w.heap.size + 1, 1, none⟩ = some (.slice none 0 0) := HT.out.rb.cell 1
  have f0 := HT.out.rb.frozen 0
  have f1 := HT.out.rb.frozen 1
  have hz : w.heap.size + 1 < W.heap.size := HT.out.rb.lt
  have hz0 : w.heap.size < W.heap.size := by omega
  go_wp2
  change bodyPost Tryd.prog _ _ Exit.ret _ (box0 (boxp ⟨3, pn, pao, pm, pcap, pit, pst, pcl, pgs, plk⟩ (set2 W (w.heap.size + 1) (.slice (some ⟨W.heap.size, 0, none⟩) 1 1) (.slice (some ⟨W.heap.size + 1, 0, none⟩) 0 0))))
  have k1 := ((HT.out.set2 (.slice (some ⟨W.heap.size, 0, none⟩) 1 1) (.slice (some ⟨W.heap.size + 1, 0, none⟩) 0 0)).under (boxp_below ⟨3, pn, pao, pm, pcap, pit, pst, pcl, pgs, plk⟩ _)).under (box0_below _)
  have k2 := (boxp_blk ⟨3, pn, pao, pm, pcap, pit, pst, pcl, pgs, plk⟩ (set2 W (w.heap.size + 1) (.slice (some ⟨W.heap.size, 0, none⟩) 1 1) (.slice (some ⟨W.heap.size + 1, 0, none⟩) 0 0))).alloc (.cells #[] 55)
  rw [set2_size] at k2
  exact bodyPost_ret (ret_oo rfl _ rfl k1.rb) rfl ⟨⟨_, _, rfl, ops_blk k2 (hp.below k1.blw), by omega⟩, k1.blw⟩

set_option maxRecDepth 100000 in
set_option maxHeartbeats 3200000 in
theorem beh_cc (pn : Int) (pao : Option Addr) (pm pcap : Nat) (pit : List It) (pst pcl : Int) (pgs : Bool) (plk : ByteArray) (qn : Int) (qao : Option Addr) (qm qcap : Nat) (qit : List It) (qst qcl : Int) (qgs : Bool) (qlk : ByteArray) (w : World)
     :
    Calls Tryd.prog 47 #[.agg #[.int .i64 3, .int .i64 pn, .slice pao pm pcap, .int .i64 pst, .int .i64 pcl, .bool pgs, .string plk, .int .i64 3, .int .i64 qn, .slice qao qm qcap, .int .i64 qst, .int .i64 qcl, .bool qgs, .string qlk]] w fun e w' => (e = .returned (.agg #[.slice none 0 0, .slice none 0 0])) ∧ Below w.heap.size w w' := by
  have HT : Hid (Bq w (boxo (boxq ⟨3, pn, pao, pm, pcap, pit, pst, pcl, pgs, plk⟩ ⟨3, qn, qao, qm, qcap, qit, qst, qcl, qgs, qlk⟩ w)) ⟨3, pn, pao, pm, pcap, pit, pst, pcl, pgs, plk⟩ ⟨3, qn, qao, qm, qcap, qit, qst, qcl, qgs, qlk⟩ (.slice none 0 0) (.slice none 0 0)) := Bq.start _ _ w
  have he1 := eql_kinds 3 3 1 1
  have he2 := eql_kinds 3 3 3 1
  have he3 := eql_kinds 3 3 1 3
  have hgk := guardK
  go_enter Tryd.func47, Tryd.ntmps47
  go_upto_region 1 with fail
  change Code.wp Tryd.prog _ _ _ (boxo (boxq ⟨3, pn, pao, pm, pcap, pit, pst, pcl, pgs, plk⟩ ⟨3, qn, qao, qm, qcap, qit, qst, qcl, qgs, qlk⟩ w))
  generalize boxo (boxq ⟨3, pn, pao, pm, pcap, pit, pst, pcl, pgs, plk⟩ ⟨3, qn, qao, qm, qcap, qit, qst, qcl, qgs, qlk⟩ w) = W at *
  have c0 : W.cell? ⟨w.heap.size, 0, none⟩ = some (.int .i64 3) := HT.out.pb.cell 0
  have c1 : W.cell? ⟨w.heap.size, 1, none⟩ = some (.int .i64 pn) := HT.out.pb.cell 1
  have c2 : W.cell? ⟨w.heap.size, 2, none⟩ = some (.slice pao pm pcap) := HT.out.pb.cell 2
  have c3 : W.cell? ⟨w.heap.size, 3, none⟩ = some (.int .i64 pst) := HT.out.pb.cell 3
  have c4 : W.cell? ⟨w.heap.size, 4, none⟩ = some (.int .i64 pcl) := HT.out.pb.cell 4
  have c5 : W.cell? ⟨w.heap.size, 5, none⟩ = some (.bool pgs) := HT.out.pb.cell 5
  have c6 : W.cell? ⟨w.heap.size, 6, none⟩ = some (.string plk) := HT.out.pb.cell 6
  have c7 : W.cell? ⟨w.heap.size, 7, none⟩ = some (.int .i64 3) := HT.out.pb.cell 7
  have c8 : W.cell? ⟨w.heap.size, 8, none⟩ = some (.int .i64 qn) := HT.out.pb.cell 8
  have c9 : W.cell? ⟨w.heap.size, 9, none⟩ = some (.slice qao qm qcap) := HT.out.pb.cell 9
  have c10 : W.cell? ⟨w.heap.size, 10, none⟩ = some (.int .i64 qst) := HT.out.pb.cell 10
  have c11 : W.cell? ⟨w.heap.size, 11, none⟩ = some (.int .i64 qcl) := HT.out.pb.cell 11
  have c12 : W.cell? ⟨w.heap.size, 12, none⟩ = some (.bool qgs) := HT.out.pb.cell 12
  have c13 : W.cell? ⟨w.heap.size, 13, none⟩ = some (.string qlk) := HT.out.pb.cell 13
  have r0 : W.cell? ⟨w.heap.size + 1, 0, none⟩ = some (.slice none 0 0) := HT.out.rb.cell 0
  have r1 : W.cell? ⟨w.heap.size + 1, 1, none⟩ = some (.slice none 0 0) := HT.out.rb.cell 1
  have f0 := HT.out.rb.frozen 0
  have f1 := HT.out.rb.frozen 1
  have hz : w.heap.size + 1 < W.heap.size := HT.out.rb.lt
  have hz0 : w.heap.size < W.heap.size := by omega
  go_wp2
  change bodyPost Tryd.prog _ _ Exit.ret _ (set2 W (w.heap.size + 1) (.slice none 0 0) (.slice none 0 0))
  have k1 := HT.out.set2 (.slice none 0 0) (.slice none 0 0)
  exact bodyPost_ret (ret_oo rfl _ rfl k1.rb) rfl ⟨rfl, k1.blw⟩

theorem beh_any (p q : PV) (w : World) (hp : Pvt w p) (hq : Pvt w q) (kp : p.kind = 1 ∨ p.kind = 3) (kq : q.kind = 1 ∨ q.kind = 3) (h1 : Ac.m4 p.set) (h2 : Ac.m4 p.clr) (h3 : Ac.m4 q.set) (h4 : Ac.m4 q.clr) :
    Calls Tryd.prog 47 #[.agg #[.int .i64 p.kind, .int .i64 p.n, .slice p.ao p.m p.cap, .int .i64 p.set, .int .i64 p.clr, .bool p.goes, .string p.link, .int .i64 q.kind, .int .i64 q.n, .slice q.ao q.m q.cap, .int .i64 q.set, .int .i64 q.clr, .bool q.goes, .string q.link]] w fun e w' => (∃ a0 n0 c0 a1 n1 c1, e = .returned (.agg #[.slice a0 n0 c0, .slice a1 n1 c1]) ∧ Ops w' a0 n0 c0 (behXV p q) ∧ Ops w' a1 n1 c1 (behYV p q) ∧ Fresh w a0 n0 ∧ Fresh w a1 n1) ∧ Below w.heap.size w w' := by
  obtain ⟨pk, pn, pao, pm, pcap, pit, pst, pcl, pgs, plk⟩ := p
  obtain ⟨qk, qn, qao, qm, qcap, qit, qst, qcl, qgs, qlk⟩ := q
  simp only at *
  rcases kp with rfl | rfl
  · rcases kq with rfl | rfl
    · refine (beh_kk pn pao pm pcap pit pst pcl pgs plk qn qao qm qcap qit qst qcl qgs qlk w hp hq h1 h2 h3 h4).mono ?_
      rintro e w' ⟨⟨g0, g1, he, o0, o1, f0, f1⟩, hb⟩
      exact ⟨⟨_, _, _, _, _, _, he, o0, o1, fresh_some f0, fresh_some f1⟩, hb⟩
    · refine (beh_kc pn pao pm pcap pit pst pcl pgs plk qn qao qm qcap qit qst qcl qgs qlk w hq).mono ?_
      rintro e w' ⟨⟨a0, g1, he, o1, f1⟩, hb⟩
      exact ⟨⟨_, _, _, _, _, _, he, ops_zero w' a0, o1, fresh_zero w _, fresh_some f1⟩, hb⟩
  · rcases kq with rfl | rfl
    · refine (beh_ck pn pao pm pcap pit pst pcl pgs plk qn qao qm qcap qit qst qcl qgs qlk w hp).mono ?_
      rintro e w' ⟨⟨g0, a1, he, o0, f0⟩, hb⟩
      exact ⟨⟨_, _, _, _, _, _, he, o0, ops_zero w' a1, fresh_some f0, fresh_zero w _⟩, hb⟩
    · refine (beh_cc pn pao pm pcap pit pst pcl pgs plk qn qao qm qcap qit qst qcl qgs qlk w).mono ?_
      rintro e w' ⟨he, hb⟩
      exact ⟨⟨_, _, _, _, _, _, he, ops_zero w' none, ops_zero w' none, fresh_zero w _, fresh_zero w _⟩, hb⟩
end Go.Proofs.YtaigleblmbblcaaDoor
