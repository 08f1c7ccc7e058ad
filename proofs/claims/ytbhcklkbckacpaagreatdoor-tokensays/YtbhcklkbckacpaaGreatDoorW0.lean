/-
  A buffer of bytes that a call owns, turned into a text.
-/
import Derived.Test.YtbhcklkbckacpaaGreatDoorAw0
import Derived.Laws.IdiomStrings
import Derived.Laws.BytesArg
namespace Go.Proofs.YtbhcklkbckacpaaGreatDoor
open Go.RowKit

theorem strCells_eq (s : ByteArray) : Lib.strCells s = s.data.toList.map b8 := rfl

/-- 'string(out)' of a buffer that is owned. -/
theorem conv_esc {B n : Nat} {v : Value} {l : List UInt8} {W0 w : World} (h : Lib.OwnBuf B 5 v n (l.map b8) W0 w) : (convert 22 9 v).run Tryz.prog w = .ok (.string ⟨l.toArray⟩) w := by
  obtain ⟨⟨hl, hv⟩, _, _⟩ := h
  have hn : n = l.length := by simpa using hl.symm
  subst hn
  have hown : w.ownsRowF B 5 1 v l.length (l.map b8) := ⟨hl, hv⟩
  rcases hv with ⟨rfl, h0⟩ | ⟨g, cap, cur, fz, rfl, hrest⟩
  · obtain rfl : l = [] := List.length_eq_zero_iff.1 h0
    exact run_convert_bytes_nil w 22 5 Tryz.underlying22 Tryz.underlying5 0 0 9 Tryz.underlying9
  · refine run_convert_bytes_back w 22 9 5 ⟨g, 0, none⟩ cap l Tryz.underlying22 Tryz.underlying5 Tryz.underlying9 (fun j hj => ?_)
    exact hown.cells (g := g) rfl j _ (by simp [b8, List.getElem?_eq_getElem hj])

theorem own_make {w w1 : World} {n : Nat} (h : w1.ownsRow w.heap.size 5 1 (.slice (some ⟨w.heap.size, 0, none⟩) 0 n) 0 []) (hg : w.grownBy w1 none) : Lib.OwnBuf w.heap.size 5 (.slice (some ⟨w.heap.size, 0, none⟩) 0 n) 0 [] w w1 :=
  ⟨World.ownsRowF_of h, (Below.refl _ _).grown hg (Nat.le_refl _) (fun k hk => by cases hk), hg.size⟩

theorem take_snoc (s : ByteArray) (k : Nat) (h : k < s.size) : s.data.toList.take (k + 1) = s.data.toList.take k ++ [s[k]] := by
  rw [List.take_succ_eq_append_getElem (by simpa using h)]; rfl

end Go.Proofs.YtbhcklkbckacpaaGreatDoor
