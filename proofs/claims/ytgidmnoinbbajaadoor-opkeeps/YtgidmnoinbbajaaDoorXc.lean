/-
  slices.Grow of nothing, and slices.Concat of two lists of items.
-/
import Derived.Test.YtgidmnoinbbajaaDoorDy
import Derived.Test.YtgidmnoinbbajaaDoorMem
import Derived.Lib.AppendZeros
namespace Go.Proofs.YtgidmnoinbbajaaDoor
open Go.RowKit

theorem Tryd.info38 : (Tryd.prog.info? 38).map (fun i => (i.zero, i.size, i.bytes)) = some (some (.agg #[.int .u8 0, .int .i64 0, .string ⟨#[]⟩]), 3, 32) := by kernel_rfl

/-- An append whose run is known, in a region's list. -/
theorem wpList_of_append {P : Program} {w : World} {ops : Array Oper} {rest : List Oper} {o : Oper} {a : Act} {Q : Exit → Act → World → Prop} (hgd : o.guard = none) (s x : Operand) (ts : Array TypeId)
    (ho : o.op = .call { callee := .builtin .append, args := #[s, x], argTypes := ts }) (v u r : Value) (w' : World) (hs : a.eval s = v) (hx : a.eval x = u)
    (hr : (Builtin.append_ ts o.type #[v, u]).run P w = .ok r w') (h : wpList P ops Q rest (a.put o.dst r) w') : wpList P ops Q (o :: rest) a w :=
  wpList_plain hgd fun _ hK => by
    unfold Oper.wp execOp
    simp only [ho, resolve, invoke, builtin, Sem.run_bind, Sem.run_pure, Result.andThen_ok, List.map_toArray, List.map_cons, List.map_nil, hs, hx, hr]
    exact hK _ _ h
/-- What a new block of zero values is: a row of none. -/
theorem own_zeros (w : World) (zc : Array Value) (s cap : Nat) (hz : zc.size = 3) (h1 : s ≤ cap) (h2 : cap ≤ maxLen) :
    (w.drew.alloc (.cells (Builtin.zeroCells zc s ++ Builtin.zeroCells zc (cap - s)) 38)).ownsRow w.heap.size 38 3 (.slice (some ⟨w.heap.size, 0, none⟩) 0 cap) 0 [] := by
  refine ⟨rfl, .inr ⟨w.heap.size, cap, _, rfl, Nat.le_refl _, heap_alloc_new w.drew _, Nat.zero_le _, h2, ?_, by simp⟩⟩
  rw [Array.size_append, size_zeroCells, size_zeroCells, hz, ← Nat.add_mul]
  congr 1
  omega

theorem itCells_len : ∀ l : List It, (itCells l).length = l.length * 3
  | [] => rfl
  | x :: t => by
    show (itCells t).length + 1 + 1 + 1 = _
    rw [itCells_len t, List.length_cons, Nat.add_mul]
theorem itCells_app : ∀ l l' : List It, itCells (l ++ l') = itCells l ++ itCells l'
  | [], _ => rfl
  | x :: t, l' => by
    show _ :: _ :: _ :: itCells (t ++ l') = _
    rw [itCells_app t l']
    rfl
theorem itCells_one : ∀ l : List It, ∀ u ∈ itCells l, u.oneCell' = true
  | [], u, hu => by simp [itCells] at hu
  | x :: t, u, hu => by
    simp only [itCells, List.mem_cons] at hu
    rcases hu with rfl | rfl | rfl | hu
    · rfl
    · rfl
    · rfl
    · exact itCells_one t u hu
theorem at_cells {w : World} {b off : Nat} {l : List It} (h : At w b off l) (j : Nat) (u : Value) (hu : (itCells l)[j]? = some u) : w.cell? ((⟨b, off, none⟩ : Addr).add j) = some u := by
  have hadd : (⟨b, off, none⟩ : Addr).add j = ⟨b, off + j, none⟩ := by unfold Addr.add; split <;> simp_all
  rw [hadd]
  have hlt : j < l.length * 3 := by rw [← itCells_len]; exact (List.getElem?_eq_some_iff.1 hu).1
  have hi : j / 3 < l.length := by omega
  obtain ⟨h1, h2, h3⟩ := itCells_at l (j / 3) hi
  have hr : j = j / 3 * 3 ∨ j = j / 3 * 3 + 1 ∨ j = j / 3 * 3 + 2 := by omega
  rcases hr with e | e | e
  · rw [e, h1] at hu
    rw [e]
    exact (h.c _ hi).trans hu
  · rw [e, h2] at hu
    rw [e, ← Nat.add_assoc]
    exact (h.m _ hi).trans hu
  · rw [e, h3] at hu
    rw [e, ← Nat.add_assoc]
    exact (h.l _ hi).trans hu
/-- A row that is owned is a list of items. -/
theorem own_at {w : World} {B0 g cap n : Nat} {l : List It} (h : w.ownsRow B0 38 3 (.slice (some ⟨g, 0, none⟩) n cap) n (itCells l)) : At w g 0 l := by
  have hc : ∀ j u, (itCells l)[j]? = some u → w.cell? ⟨g, 0 + j, none⟩ = some u := fun j u hu => by
    have := h.cells (g := g) rfl j u hu
    have e : (⟨g, 0, none⟩ : Addr).add j = ⟨g, 0 + j, none⟩ := by unfold Addr.add; split <;> simp_all
    rw [e] at this
    exact this
  refine ⟨fun i hi => hc _ _ (itCells_at l i hi).1, fun i hi => ?_, fun i hi => ?_⟩
  · rw [Nat.add_assoc]; exact hc _ _ (itCells_at l i hi).2.1
  · rw [Nat.add_assoc]; exact hc _ _ (itCells_at l i hi).2.2

end Go.Proofs.YtgidmnoinbbajaaDoor
