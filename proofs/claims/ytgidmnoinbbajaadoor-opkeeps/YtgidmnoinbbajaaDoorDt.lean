/-
  doc.Plain of any list of items: its characters.
-/
import Derived.Test.YtgidmnoinbbajaaDoorDw
import Derived.Deep.RegionLaw
import Derived.Deep.AppendLies
import Derived.Laws.IdiomStrings
import Derived.Laws.BytesArg
namespace Go.Proofs.YtgidmnoinbbajaaDoor
open Go.RowKit

/-- A call that was begun in w0 has laid its argument d in a block, and a variable of type T in the next one: it holds a slice of the call's own, xs in it. -/
structure Txt (w0 : World) (d : Value) (T E : TypeId) (v : Value) (xs : List Value) (w : World) : Prop where
  below : Below w0.heap.size w0 w
  box : w.heap[w0.heap.size]? = some (.cells #[d] 23 (0, 0))
  var : w.heap[w0.heap.size + 1]? = some (.cells #[v] T (0, 0))
  own : w.ownsRow (w0.heap.size + 2) E 1 v xs.length xs
theorem ownBlock_ge {w : World} {base : Nat} {e : TypeId} {size : Nat} {v : Value} {n : Nat} {xs : List Value} (h : w.ownsRow base e size v n xs) : ∀ k, v.ownBlock = some k → base ≤ k := by
  intro k hk
  rcases h.2 with ⟨rfl, _⟩ | ⟨g, cap, cur, rfl, hg, _⟩
  · cases hk
  · simp [Value.ownBlock] at hk; omega
theorem Txt.size {w0 : World} {d : Value} {T E : TypeId} {v : Value} {xs : List Value} {w : World} (h : Txt w0 d T E v xs w) : w0.heap.size + 2 ≤ w.heap.size := lt_of_block h.var
theorem Txt.beneath {w0 : World} {d : Value} {T E : TypeId} {v : Value} {xs : List Value} {w w' : World} (h : Txt w0 d T E v xs w) (hb : Below w.heap.size w w') : Txt w0 d T E v xs w' := by
  have hs := h.size
  refine ⟨h.below.trans (hb.mono (by omega)), (hb.block _ (by omega)).trans h.box, (hb.block _ (by omega)).trans h.var, ?_⟩
  refine ⟨h.own.1, ?_⟩
  rcases h.own.2 with h2 | ⟨g, cap, cur, hv, hg, hh, r⟩
  · exact .inl h2
  · exact .inr ⟨g, cap, cur, hv, hg, (hb.block g (lt_of_block hh)).trans hh, r⟩
theorem Txt.keeps {w0 : World} {d : Value} {T E : TypeId} {v : Value} {xs : List Value} {w w1 w2 : World} (h : Txt w0 d T E v xs w) (hb : Below w.heap.size w w1) (hg : w1.grownBy w2 v.ownBlock) :
    w2.heap[w0.heap.size]? = some (.cells #[d] 23 (0, 0)) ∧ w2.heap[w0.heap.size + 1]? = some (.cells #[v] T (0, 0)) ∧ Below w0.heap.size w0 w2 := by
  have h1 := h.beneath hb
  have hs := h1.size
  have hne : ∀ k, k < w0.heap.size + 2 → some k ≠ v.ownBlock := fun k hk e => by have := ownBlock_ge h.own k e.symm; omega
  exact ⟨(hg.block _ (by omega) (hne _ (by omega))).trans h1.box, (hg.block _ (by omega) (hne _ (by omega))).trans h1.var, h1.below.trans ⟨hg.os, hg.tape, hg.output, hg.size, fun k hk => hg.block k (by omega) (hne k (by omega))⟩⟩
/-- Something is appended to what the variable holds. -/
theorem Txt.push {w0 : World} {d : Value} {T E : TypeId} {v v' : Value} {xs ys : List Value} {w w1 w2 : World} (h : Txt w0 d T E v xs w) (hb : Below w.heap.size w w1)
    (hown : w2.ownsRow (w0.heap.size + 2) E 1 v' ys.length ys) (hg : w1.grownBy w2 v.ownBlock) : Txt w0 d T E v' ys (w2.setCell ⟨w0.heap.size + 1, 0, none⟩ v') := by
  have h1 := h.beneath hb
  have hs := h1.size
  have hne : ∀ k, k < w0.heap.size + 2 → some k ≠ v.ownBlock := fun k hk e => by have := ownBlock_ge h.own k e.symm; omega
  have hx : w2.heap[w0.heap.size + 1]? = some (.cells #[v] T (0, 0)) := (hg.block _ (by omega) (hne _ (by omega))).trans h1.var
  refine ⟨?_, ?_, one_setCell hx, ?_⟩
  · refine (h1.below.trans ⟨hg.os, hg.tape, hg.output, hg.size, fun k hk => hg.block k (by omega) (hne k (by omega))⟩).setCell (by simp) _
  · rw [Below.heap_setCell _ _ _ _ (by simp)]
    exact (hg.block _ (by omega) (hne _ (by omega))).trans h1.box
  · exact ownsRow_setCell_below hown (by simp) _

theorem cell_far {w : World} {a p : Addr} {u v : Value} (h : w.cell? a = some v) (hne : a.block ≠ p.block) : (w.setCell p u).cell? a = some v :=
  (World.cell?_of_block (w := w) (Below.heap_setCell w p u a.block hne)).trans h

theorem Tryd.info5 : (Tryd.prog.info? 5).map (fun i => (i.zero, i.size, i.bytes)) = some (some (.int .u8 0), 1, 1) := by kernel_rfl

def cb (c : UInt8) : Value := .int .u8 c.toNat
theorem conv_own {B : Nat} {v : Value} {l : List UInt8} {w : World} (h : w.ownsRow B 5 1 v (l.map cb).length (l.map cb)) : (convert 119 9 v).run Tryd.prog w = .ok (.string (Go.Proofs.YtgidmnoinbbajaaDoor.B l)) w := by
  rw [List.length_map] at h
  rcases h.2 with ⟨rfl, h0⟩ | ⟨g, cap, cur, rfl, hrest⟩
  · obtain rfl : l = [] := List.length_eq_zero_iff.1 h0
    exact run_convert_bytes_nil w 119 5 Tryd.underlying119 Tryd.underlying5 0 0 9 Tryd.underlying9
  · refine run_convert_bytes_back w 119 9 5 ⟨g, 0, none⟩ cap l Tryd.underlying119 Tryd.underlying5 Tryd.underlying9 (fun j hj => ?_)
    exact h.cells (g := g) rfl j _ (by simp [cb, List.getElem?_eq_getElem hj])

namespace Dc
def plain (l : List It) : List UInt8 := if check l = 0 then l.map It.c else []
theorem check_ok {l : List It} (h : check l = 0) : l.length ≤ 80 := by
  by_cases h80 : 80 < l.length
  · rw [check_many h80] at h; cases h
  · omega
end Dc
/-- The world in which doc.Plain and doc.Runs call doc.walk. -/
def begun (w : World) (d : Value) (T : TypeId) : World := (w.alloc (.cells #[d] 23)).alloc (.cells #[.slice none 0 0] T)
theorem begun_txt (w : World) (d : Value) (T E : TypeId) : Txt w d T E (.slice none 0 0) [] (begun w d T) := by
  have h1 : (w.alloc (.cells #[d] 23)).heap[w.heap.size]? = some (.cells #[d] 23) := heap_alloc_new w _
  have h2 := heap_alloc_new (w.alloc (.cells #[d] 23)) (.cells #[.slice none 0 0] T)
  rw [World.size_alloc] at h2
  exact ⟨((Below.refl _ _).alloc (Nat.le_refl _) _).alloc (by simp) _, (Below.heap_alloc _ _ _ (by simp)).trans h1, h2, World.ownsRow_nil _ _ _ _⟩

end Go.Proofs.YtgidmnoinbbajaaDoor
