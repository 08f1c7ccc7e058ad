/-
  The document that the laws' closed facts ask about, in memory.
-/
import Derived.Test.YtgidmnoinbbajaaDoorDe
namespace Go.Proofs.YtgidmnoinbbajaaDoor
open Go.RowKit

def smallDoc : List It := [⟨97, 0, ⟨#[]⟩⟩, ⟨98, 1, ⟨#[]⟩⟩, ⟨10, 1, ⟨#[]⟩⟩, ⟨60, 0, ⟨#[104, 116, 116, 112, 58, 38]⟩⟩, ⟨10, 2, ⟨#[]⟩⟩]
theorem small_check : Dc.check smallDoc = 0 := by decide +kernel
theorem small_check2 : Dc.check (smallDoc.take 2) = 4 := by decide +kernel
theorem small_plain : Dc.plain smallDoc = [97, 98, 10, 60, 10] := by decide +kernel
theorem small_runs : Dc.runs smallDoc = [0, 1, 2, 3, 4] := by decide +kernel

/-- The cells of a list of items. -/
def itCells : List It → List Value
  | [] => []
  | x :: t => .int .u8 x.c.toNat :: .int .i64 x.m :: .string x.l :: itCells t
theorem itCells_at : ∀ (l : List It) (i : Nat) (h : i < l.length), (itCells l)[i * 3]? = some (.int .u8 l[i].c.toNat) ∧ (itCells l)[i * 3 + 1]? = some (.int .i64 l[i].m) ∧ (itCells l)[i * 3 + 2]? = some (.string l[i].l)
  | [], _, h => by simp at h
  | x :: t, 0, _ => ⟨rfl, rfl, rfl⟩
  | x :: t, i + 1, h => by
    obtain ⟨h1, h2, h3⟩ := itCells_at t i (by simpa using h)
    have e : (i + 1) * 3 = i * 3 + 1 + 1 + 1 := by omega
    rw [e]
    exact ⟨h1, h2, h3⟩
theorem at_block {w : World} {b : Nat} {l : List It} {T : TypeId} {fr : Nat × Nat} (h : w.heap[b]? = some (.cells (itCells l).toArray T fr)) : At w b 0 l := by
  have hc : ∀ j, w.cell? ⟨b, j, none⟩ = (itCells l)[j]? := fun j => by
    unfold World.cell?
    rw [h]
    simp
  refine ⟨fun i hi => ?_, fun i hi => ?_, fun i hi => ?_⟩
  · rw [Nat.zero_add, hc]; exact (itCells_at l i hi).1
  · rw [Nat.zero_add, hc]; exact (itCells_at l i hi).2.1
  · rw [Nat.zero_add, hc]; exact (itCells_at l i hi).2.2
theorem At.take {w : World} {b off : Nat} {l : List It} (h : At w b off l) (k : Nat) : At w b off (l.take k) := by
  refine ⟨fun i hi => ?_, fun i hi => ?_, fun i hi => ?_⟩
  all_goals
    have h2 : i < l.length := by simp at hi; omega
    rw [List.getElem_take]
  · exact h.c i h2
  · exact h.m i h2
  · exact h.l i h2

set_option maxRecDepth 100000 in
theorem smalld_any (w : World) : Calls Tryd.prog 37 #[] w fun e w' => e = .returned (.slice (some ⟨w.heap.size, 0, none⟩) 5 5) ∧ w' = w.alloc (.cells (itCells smallDoc).toArray 38) := by
  go_enter Tryd.func37, Tryd.ntmps37
  go_wp2
  go_ret
  exact ⟨rfl, rfl⟩
theorem small_fit : Fit smallDoc := by unfold Fit; decide +kernel
theorem small_at (w : World) : Doc (w.alloc (.cells (itCells smallDoc).toArray 38)) (some ⟨w.heap.size, 0, none⟩) 5 5 smallDoc :=
  ⟨small_fit, rfl, Nat.le_refl _, by decide, fun _ => ⟨_, _, rfl, at_block (heap_alloc_new w _)⟩⟩
theorem smallD (w : World) : Calls Tryd.prog 37 #[] w fun e w' => e = .returned (.slice (some ⟨w.heap.size, 0, none⟩) 5 5) ∧ Doc w' (some ⟨w.heap.size, 0, none⟩) 5 5 smallDoc ∧ Below w.heap.size w w' :=
  (smalld_any w).mono fun _ _ ⟨he, hw⟩ => ⟨he, by rw [hw]; exact small_at w, by rw [hw]; exact (Below.refl _ _).alloc (Nat.le_refl _) _⟩
theorem Doc.take {w : World} {ao : Option Addr} {n cap : Nat} {l : List It} (h : Doc w ao n cap l) (k : Nat) (hk : k ≤ n) : Doc w ao k cap (l.take k) :=
  ⟨fun x hx => h.fit x (List.mem_of_mem_take hx), by rw [List.length_take, h.len]; omega, Nat.le_trans hk h.room, h.big, fun h0 => by obtain ⟨b, off, e, hA⟩ := h.lies (by omega); exact ⟨b, off, e, hA.take k⟩⟩

theorem own_below {w w' : World} {B n : Nat} {v : Value} {xs : List Value} (h : w.ownsRow B 3 1 v n xs) (hb : Below w.heap.size w w') : w'.ownsRow B 3 1 v n xs := by
  refine ⟨h.1, ?_⟩
  rcases h.2 with h2 | ⟨g, cap, cur, hv, hg, hh, r⟩
  · exact .inl h2
  · exact .inr ⟨g, cap, cur, hv, hg, (hb.block g (lt_of_block hh)).trans hh, r⟩

end Go.Proofs.YtgidmnoinbbajaaDoor
