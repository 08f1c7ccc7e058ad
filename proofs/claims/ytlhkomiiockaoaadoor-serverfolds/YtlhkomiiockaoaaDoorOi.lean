/-
  Package op: Apply, of whatever document and operation.
-/
import Derived.Test.YtlhkomiiockaoaaDoorOh
import Derived.Test.YtlhkomiiockaoaaDoorPb
import Derived.Deep.RegionHeld3
namespace Go.Proofs.YtlhkomiiockaoaaDoor
open Go.RowKit

theorem elemD : Tryd.prog.elem 32 = 68 := by kernel_rfl
theorem under_doc : Tryd.prog.underlying 32 = some (.slice (Tryd.prog.elem 32)) := by kernel_rfl
theorem slice_d (b off n cap i k : Nat) (hi : i < k) (hk : k ≤ n) (hc : n ≤ cap) (w : World) : (Instr.slice 32 (.slice (some ⟨b, off, none⟩) n cap) (some (.int .i64 i)) (some (.int .i64 k)) none).run Tryd.prog w = .ok (.slice (some ⟨b, off + i * 3, none⟩) (k - i) (cap - i)) w := by
  rw [run_slice_lh (P := Tryd.prog) (w := w) 32 _ n cap under_doc .i64 .i64 (i : Int) (k : Int) (by omega) (by omega) (by omega), elemD, Tryd.sizeOf68 w]
  simp only [Result.andThen, Int.toNat_natCast]
  congr 1
  unfold sliced
  have e : (⟨b, off, none⟩ : Addr).add (i * 3) = ⟨b, off + i * 3, none⟩ := by unfold Addr.add; split <;> simp_all
  rw [if_neg (by omega)]
  simp only [Option.map_some, e]
theorem At.part {w : World} {b off : Nat} {l : List It} (h : At w b off l) (a q : Nat) : At w b (off + a * 3) ((l.drop a).take q) := by
  have hx : ∀ i (hi : i < ((l.drop a).take q).length), ∃ hj : a + i < l.length, ((l.drop a).take q)[i] = l[a + i] := fun i hi => by
    have h1 : i < (l.drop a).length := by have := List.length_take_le q (l.drop a); simp at hi; simp; omega
    refine ⟨by simp at h1; omega, ?_⟩
    rw [List.getElem_take, List.getElem_drop]
  refine ⟨fun i hi => ?_, fun i hi => ?_, fun i hi => ?_⟩
  · obtain ⟨hj, e⟩ := hx i hi
    rw [e, show off + a * 3 + i * 3 = off + (a + i) * 3 by omega]
    exact h.c _ hj
  · obtain ⟨hj, e⟩ := hx i hi
    rw [e, show off + a * 3 + i * 3 = off + (a + i) * 3 by omega]
    exact h.m _ hj
  · obtain ⟨hj, e⟩ := hx i hi
    rw [e, show off + a * 3 + i * 3 = off + (a + i) * 3 by omega]
    exact h.l _ hj

set_option maxRecDepth 100000 in
set_option maxHeartbeats 1600000 in
theorem next_any (A D b off n cap a q k : Nat) (w : World) (hA : Blk w A [.int .i64 a] 3) (hD : Blk w D [.slice (some ⟨b, off, none⟩) n cap] 32) (hne : D ≠ A) (hk : a + q = k) (hq : 0 < q) (hkn : k ≤ n) (h80 : n ≤ 80) (hcap : n ≤ cap) :
    Calls Tryd.prog 55 #[.int .i64 q, .pointer (some ⟨A, 0, none⟩), .pointer (some ⟨D, 0, none⟩)] w fun e w' => e = .returned (.slice (some ⟨b, off + a * 3, none⟩) q (cap - a)) ∧ w' = w.setCell ⟨A, 0, none⟩ (.int .i64 k) := by
  have a0 : w.cell? ⟨A, 0, none⟩ = some (.int .i64 a) := hA.cell 0
  have f0 := hA.frozen 0
  have HB2 : Hid (Blk (w.setCell ⟨A, 0, none⟩ (.int .i64 k)) A [.int .i64 k] 3) := hA.set 0 _
  have HD2 : Hid (Blk (w.setCell ⟨A, 0, none⟩ (.int .i64 k)) D [.slice (some ⟨b, off, none⟩) n cap] 32) := hD.other _ _ hne
  have hw1 : wrap64 ((a : Int) + (q : Int)) = (k : Int) := by unfold wrap64; omega
  have hw2 : wrap64 ((k : Int) - (q : Int)) = (a : Int) := by unfold wrap64; omega
  have hsl := slice_d b off n cap a k (by omega) hkn hcap
  have hqq : k - a = q := by omega
  rw [hqq] at hsl
  have HR : Hid (k ≤ 80) := by show _ ≤ _; omega
  clear hA hD hqq hk
  go_enter Tryd.func55, Tryd.ntmps55
  go_upto_region 2 with fail
  change Code.wp Tryd.prog _ _ _ (w.setCell ⟨A, 0, none⟩ (.int .i64 k))
  obtain ⟨W, hW⟩ : ∃ W, w.setCell ⟨A, 0, none⟩ (.int .i64 k) = W := ⟨_, rfl⟩
  rw [hW] at HB2 HD2 ⊢
  have a1 : W.cell? ⟨A, 0, none⟩ = some (.int .i64 k) := HB2.out.cell 0
  have d1 : W.cell? ⟨D, 0, none⟩ = some (.slice (some ⟨b, off, none⟩) n cap) := HD2.out.cell 0
  have HW : Hid (w.setCell ⟨A, 0, none⟩ (.int .i64 k) = W) := hW
  clear hW a0 f0
  go_wp2
  go_ret
  exact ⟨rfl, HW.out.symm⟩

/-- Where the loop of Apply stands. -/
structure ApI (w2 : World) (mv : Value) (s : List It × Nat) (wr : World) : Prop where
  own : wr.ownsRow (w2.heap.size + 1) 68 3 mv s.1.length (itCells s.1)
  atv : Blk wr w2.heap.size [.int .i64 s.2] 3
  blw : Below w2.heap.size w2 wr
  fit : Fit s.1
theorem ApI.lt {w2 : World} {mv : Value} {s : List It × Nat} {wr : World} (h : ApI w2 mv s wr) : w2.heap.size < wr.heap.size := h.atv.lt
theorem below_low {B : Nat} {w w' : World} (hB : B ≤ w.heap.size) (h : Below w.heap.size w w') : Below B w w' := h.mono hB
/-- Something is appended behind what may have been done below. -/
theorem ApI.push {w2 : World} {mv : Value} {s s' : List It × Nat} {wr w7 w8 : World} {mv' : Value} (h : ApI w2 mv s wr) (hat : Blk w7 w2.heap.size [.int .i64 s'.2] 3) (hb : Below w2.heap.size w2 w7)
    (hown : w8.ownsRow (w2.heap.size + 1) 68 3 mv' s'.1.length (itCells s'.1)) (hg : w7.grownBy w8 mv.ownBlock) (hf : Fit s'.1) : ApI w2 mv' s' w8 := by
  have hne : ∀ k, k < w2.heap.size + 1 → some k ≠ mv.ownBlock := fun k hk e => by have := ownBlk_ge h.own k e.symm; omega
  refine ⟨hown, (hg.block _ hat.lt (hne _ (Nat.lt_succ_self _))).trans hat, hb.trans ⟨hg.os, hg.tape, hg.output, hg.size, fun k hk => hg.block k (by have := hat.lt; omega) (hne k (by omega))⟩, hf⟩
theorem fit_app {l l' : List It} (h : Fit l) (h' : Fit l') : Fit (l ++ l') := fun x hx => by
  rcases List.mem_append.1 hx with hx | hx
  · exact h x hx
  · exact h' x hx
theorem fit_change {l : List It} (h : Fit l) (c : Ac.Ch) (hc : c.link.size ≤ 9223372036854775807) : Fit (l.map fun x => Ac.change x c) := fun x hx => by
  obtain ⟨y, hy, rfl⟩ := List.mem_map.1 hx
  unfold Ac.change
  simp only
  split
  · exact hc
  · exact h y hy
theorem fit_part {l : List It} (h : Fit l) (a q : Nat) : Fit ((l.drop a).take q) := fun x hx => h x (List.mem_of_mem_drop (List.mem_of_mem_take hx))
theorem m4_part {l : List It} (h : Ac.M4 l) (a q : Nat) : Ac.M4 ((l.drop a).take q) := fun x hx => h x (List.mem_of_mem_drop (List.mem_of_mem_take hx))

end Go.Proofs.YtlhkomiiockaoaaDoor
