/-
  Package ot: the next items of the next part, taken.
-/
import Derived.Test.YtlhkomiiockaoaaDoorUa
namespace Go.Proofs.YtlhkomiiockaoaaDoor
open Go.RowKit

/-- What is left of an operation, in memory. -/
structure RV where
  ao : Option Addr
  n : Nat
  cap : Nat
  vs : List PV
  g : Nat
/-- A pair of them, in a block of its own. -/
def prC (r s : RV) : List Value := [.slice r.ao r.n r.cap, .int .i64 r.g, .slice s.ao s.n s.cap, .int .i64 s.g]
def RV.ok (w : World) (r : RV) : Prop := Ops w r.ao r.n r.cap r.vs
def pieceV (v : PV) (g q : Nat) : PV := if v.kind = 2 then { v with ao := v.ao.map (fun a => a.add (g * 3)), m := q, cap := v.cap - g, items := (v.items.drop g).take q } else { v with n := q }
theorem pieceV_pt (v : PV) (g q : Nat) : (pieceV v g q).pt = Ac.piece v.pt g q := by
  unfold pieceV Ac.piece PV.pt
  split
  · rfl
  · rfl
def tailA (ao : Option Addr) (cap : Nat) : Option Addr := if cap = 1 then ao else ao.map (fun a => a.add 7)
def RV.next (r : RV) (v : PV) (t : List PV) (q : Nat) : RV := if ((r.g + q : Nat) : Int) = lgV v then ⟨tailA r.ao r.cap, r.n - 1, r.cap - 1, t, 0⟩ else ⟨r.ao, r.n, r.cap, v :: t, r.g + q⟩
theorem add_off (b off k : Nat) : (⟨b, off, none⟩ : Addr).add k = ⟨b, off + k, none⟩ := by unfold Addr.add; split <;> simp_all
theorem Pvt.piece {w : World} {v : PV} (h : Pvt w v) {g q : Nat} (h1 : 1 ≤ q) (hl : v.kind = 2 → g + q ≤ v.m) : Pvt w (pieceV v g q) := by
  unfold pieceV
  by_cases k : v.kind = 2
  · rw [if_pos k]
    have hl := hl k
    obtain ⟨ib, io, e, hA⟩ := h.doc.lies (by omega)
    have hr := h.doc.room
    have hb := h.doc.big
    have hlen := h.doc.len
    refine ⟨⟨fun x hx => h.doc.fit x (List.mem_of_mem_drop (List.mem_of_mem_take hx)), by simp; omega, by simp only; omega, by simp only; omega, fun _ => ⟨ib, io + g * 3, ?_, hA.part g q⟩⟩, h.fit⟩
    simp only
    rw [e, Option.map_some, add_off]
  · rw [if_neg k]
    exact ⟨h.doc, h.fit⟩
theorem Ops.tail {w : World} {ao : Option Addr} {n cap : Nat} {v : PV} {t : List PV} (h : Ops w ao n cap (v :: t)) : Ops w (tailA ao cap) (n - 1) (cap - 1) t := by
  have hl := h.len
  rw [List.length_cons] at hl
  have hr := h.row.room
  have hb := h.row.big
  refine ⟨⟨by rw [pvCells_len]; congr 1; omega, by omega, by omega, fun hn => ?_⟩, fun u hu => h.pts u (List.mem_cons_of_mem _ hu)⟩
  obtain ⟨b, off, e, hc⟩ := h.row.lies (by omega)
  refine ⟨b, off + 7, ?_, fun j u hj => ?_⟩
  · unfold tailA
    rw [if_neg (by omega), e, Option.map_some, add_off]
  · have := hc (7 + j) u (by rw [pvCells_cons, show 7 + j = j + 1 + 1 + 1 + 1 + 1 + 1 + 1 by omega]; exact hj)
    rw [← Nat.add_assoc] at this
    exact this
theorem RV.next_ok {w : World} {r : RV} {v : PV} {t : List PV} (h : Ops w r.ao r.n r.cap (v :: t)) (q : Nat) : RV.ok w (r.next v t q) := by
  unfold RV.next RV.ok
  split
  · exact h.tail
  · exact h
theorem wrap_add {g q gq : Nat} (h : g + q = gq) (hb : gq ≤ 1000) : wrap64 ((g : Int) + (q : Int)) = (gq : Int) ∧ IntKind.i64.wrap ((g : Int) + (q : Int)) = (gq : Int) := by
  rw [show (g : Int) + (q : Int) = (gq : Int) by omega]
  exact ⟨by unfold wrap64; omega, IntWalk.i64_in _ ⟨by omega, by omega⟩⟩
theorem elemLP : Tryd.prog.elem 22 = 66 := by kernel_rfl
theorem under_lp : Tryd.prog.underlying 22 = some (.slice (Tryd.prog.elem 22)) := by kernel_rfl
theorem elemLI : Tryd.prog.elem 31 = 68 := by kernel_rfl
theorem under_li : Tryd.prog.underlying 31 = some (.slice (Tryd.prog.elem 31)) := by kernel_rfl
theorem slice_tail (b off n cap : Nat) (hn : 0 < n) (w : World) : (Instr.slice 22 (.slice (some ⟨b, off, none⟩) n cap) (some (.int .i64 1)) none none).run Tryd.prog w = .ok (.slice (tailA (some ⟨b, off, none⟩) cap) (n - 1) (cap - 1)) w := by
  rw [run_slice_l (P := Tryd.prog) (w := w) 22 _ n cap under_lp .i64 (1 : Int) (by omega) (by omega), elemLP, Tryd.sizeOf66 w]
  rfl
theorem slice_li (b off n cap i k : Nat) (hi : i < k) (hk : k ≤ n) (hc : n ≤ cap) (w : World) : (Instr.slice 31 (.slice (some ⟨b, off, none⟩) n cap) (some (.int .i64 i)) (some (.int .i64 k)) none).run Tryd.prog w = .ok (.slice (some ⟨b, off + i * 3, none⟩) (k - i) (cap - i)) w := by
  rw [run_slice_lh (P := Tryd.prog) (w := w) 31 _ n cap under_li .i64 .i64 (i : Int) (k : Int) (by omega) (by omega) (by omega), elemLI, Tryd.sizeOf68 w]
  simp only [Result.andThen, Int.toNat_natCast]
  congr 1
  unfold sliced
  rw [if_neg (by omega)]
  simp only [Option.map_some, add_off]
/-- A part that is taken: its result's block, its own, the pair's. -/
structure Tk3 (w0 w : World) (b : Nat) (cs : List Value) (u : PV) : Prop where
  rb : Blk w w0.heap.size (pvC pv0) 66
  pb : Blk w (w0.heap.size + 1) (pvC u) 66
  cb : Blk w b cs 58
  kept : Kept w0 w [b]
theorem Tk3.start {w : World} {b : Nat} {cs : List Value} (h : Blk w b cs 58) (v : PV) : Tk3 w (boxp v (boxp pv0 w)) b cs v :=
  ⟨(boxp_blk pv0 w).alloc _, by have := boxp_blk v (boxp pv0 w); rw [boxp_size] at this; exact this, (h.alloc _).alloc _, ((Kept.refl w [b]).alloc _).alloc _⟩
theorem Tk3.own {w0 w : World} {b : Nat} {cs : List Value} {u : PV} (h : Tk3 w0 w b cs u) (hb : b < w0.heap.size) (j : Nat) (x : Value) {u' : PV} (e : (pvC u).set j x = pvC u') : Tk3 w0 (w.setCell ⟨w0.heap.size + 1, j, none⟩ x) b cs u' :=
  ⟨h.rb.other _ _ (by simp), by have := h.pb.set j x; rw [e] at this; exact this, h.cb.other _ _ (by simp; omega), h.kept.setCell _ _ (.inr (by simp))⟩
theorem Tk3.pair {w0 w : World} {b : Nat} {cs : List Value} {u : PV} (h : Tk3 w0 w b cs u) (hb : b < w0.heap.size) (j : Nat) (x : Value) : Tk3 w0 (w.setCell ⟨b, j, none⟩ x) b (cs.set j x) u :=
  ⟨h.rb.other _ _ (by simp; omega), h.pb.other _ _ (by simp; omega), h.cb.set j x, h.kept.setCell _ _ (.inl (by simp))⟩
theorem Tk3.drew {w0 w : World} {b : Nat} {cs : List Value} {u : PV} (h : Tk3 w0 w b cs u) : Tk3 w0 w.drew b cs u := ⟨h.rb, h.pb, h.cb, h.kept.drew⟩
theorem Tk3.under {w0 w w' : World} {b : Nat} {cs : List Value} {u : PV} (h : Tk3 w0 w b cs u) (hb : Below w.heap.size w w') : Tk3 w0 w' b cs u :=
  ⟨(hb.block _ h.rb.lt).trans h.rb, (hb.block _ h.pb.lt).trans h.pb, (hb.block _ h.cb.lt).trans h.cb, h.kept.trans ((kept_of_below hb).mono (fun x hx => by cases hx))⟩
theorem putP_kept (w : World) (g : Nat) (k : PV) (S : List Nat) (h : g ∈ S) : Kept w (putP w g k) S := by
  unfold putP
  exact (((((((Kept.refl w S).setCell _ _ (.inl h)).setCell _ _ (.inl h)).setCell _ _ (.inl h)).setCell _ _ (.inl h)).setCell _ _ (.inl h)).setCell _ _ (.inl h)).setCell _ _ (.inl h)
theorem Tk3.done {w0 w : World} {b : Nat} {cs : List Value} {u : PV} (h : Tk3 w0 w b cs u) (hb : b < w0.heap.size) (k : PV) : Blk (putP w w0.heap.size k) w0.heap.size (pvC k) 66 ∧ Blk (putP w w0.heap.size k) b cs 58 ∧ Kept w0 (putP w w0.heap.size k) [b] := by
  refine ⟨putP_blk h.rb, ?_, h.kept.trans_new (putP_kept w _ k [w0.heap.size] (by simp)) (fun x hx => by rw [List.mem_singleton.1 hx]; exact .inr (Nat.le_refl _))⟩
  exact (putP_kept w w0.heap.size k [w0.heap.size] (by simp)).blk h.cb (by simp; omega)
end Go.Proofs.YtlhkomiiockaoaaDoor
