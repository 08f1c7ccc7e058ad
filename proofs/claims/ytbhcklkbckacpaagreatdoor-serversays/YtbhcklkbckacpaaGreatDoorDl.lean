/-
  From the reading of an argument as data to the items in memory.
-/
import Derived.Test.YtbhcklkbckacpaaGreatDoorM2
import Derived.Deep.Slices
import Derived.Deep.Strs
import Derived.Lib.SmallJoins
import Derived.ProofKit
namespace Go.Proofs.YtbhcklkbckacpaaGreatDoor
open Go.ChangeShapes Go.WideShapes Go.ChangeAt Go.WideMaps Go.WideElems Go.RowKit

theorem cells36 : Tryz.prog.cellsOf 39 = 3 := by kernel_rfl
theorem cells5 : Tryz.prog.cellsOf 5 = 1 := by kernel_rfl
theorem cells3 : Tryz.prog.cellsOf 3 = 1 := by kernel_rfl
theorem cells9 : Tryz.prog.cellsOf 9 = 1 := by kernel_rfl
theorem laidOut : laidOutB Tryz.prog = true := by kernel_rfl

theorem byte_of {n : Int} (h : (Lit.int .u8 n).wf = true) : ∃ c : UInt8, n = (c.toNat : Int) := by
  obtain ⟨h0, h1⟩ := bounds_u8 h
  exact ⟨UInt8.ofNat n.toNat, by rw [UInt8.toNat_ofNat']; omega⟩

section
variable {H : Type} {enc : TypeId × Value → H} {w : World} {base : Nat} {spare : Nat → Bool} {held : Bool}

theorem len3 {α : Type} (l : List α) (h : l.length = 3) : ∃ a b c, l = [a, b, c] := by
  match l, h with
  | [a, b, c], _ => exact ⟨a, b, c, rfl⟩
set_option maxRecDepth 100000 in
theorem item_of {fuel : Nat} {cs : List Value} {x : DataW H × List MemPlace} (h : DataW.trod enc Tryz.prog w base spare held fuel 39 cs = some x) :
    ∃ y : It, cs = [.int .u8 y.c.toNat, .int .i64 y.m, .string y.l] ∧ y.l.size ≤ 9223372036854775807 := by
  obtain ⟨y0, y1, y2, n, _, hl, h0, h1, h2⟩ := Deep.trod_struct3 Tryz.underlying39 h
  rw [cells36] at hl
  obtain ⟨a, b, c, rfl⟩ := len3 cs hl
  have h0' : DataW.trod enc Tryz.prog w base spare held n 5 (([a, b, c].drop 0).take (Tryz.prog.cellsOf 5)) = some y0 := h0
  have h1' : DataW.trod enc Tryz.prog w base spare held n 3 (([a, b, c].drop 1).take (Tryz.prog.cellsOf 3)) = some y1 := h1
  have h2' : DataW.trod enc Tryz.prog w base spare held n 9 (([a, b, c].drop 2).take (Tryz.prog.cellsOf 9)) = some y2 := h2
  rw [cells5] at h0'
  rw [cells3] at h1'
  rw [cells9] at h2'
  obtain ⟨n0, e0, _, w0⟩ := DataW.trod_int Tryz.underlying5 h0'
  obtain ⟨n1, e1, _, _⟩ := DataW.trod_int Tryz.underlying3 h1'
  obtain ⟨s, e2, _, hs⟩ := DataW.trod_string Tryz.underlying9 h2'
  simp at e0 e1 e2
  obtain ⟨k, hk⟩ := byte_of w0
  exact ⟨⟨k, n1, s⟩, by rw [e0, e1, e2, hk], hs⟩

theorem three_cells {a : Addr} {cs : List Value} {u0 u1 u2 : Value} (h : w.cells? base a 3 = some cs) (hc : cs = [u0, u1, u2]) : w.cell? a = some u0 ∧ w.cell? (a.add 1) = some u1 ∧ w.cell? (a.add 2) = some u2 := by
  unfold World.cells? at h
  split at h
  · subst hc
    have e0 : a.add 0 = a := rfl
    simp only [show List.range 3 = [0, 1, 2] from rfl, List.mapM_cons, List.mapM_nil, e0] at h
    cases h0 : w.cell? a with
    | none => rw [h0] at h; simp at h
    | some x0 =>
      cases h1 : w.cell? (a.add 1) with
      | none => rw [h0, h1] at h; simp at h
      | some x1 =>
        cases h2 : w.cell? (a.add 2) with
        | none => rw [h0, h1, h2] at h; simp at h
        | some x2 =>
          rw [h0, h1, h2] at h
          simp at h
          exact ⟨by rw [h.1], by rw [h.2.1], by rw [h.2.2]⟩
  · cases h

theorem open_doc {fuel : Nat} {t : TypeId} (ht : Tryz.prog.underlying t = some (.slice 39)) {ao : Option Addr} {n cap : Nat} {x : DataW H × List MemPlace} (h : DataW.trod enc Tryz.prog w base spare held fuel t [.slice ao n cap] = some x) :
    ∃ l, Doc w ao n cap l := by
  rcases Deep.open_slice ht h with ⟨hc, _⟩ | ⟨a, len, cap', m, k, D, Pl, hc, _, hl, hm, hmm, _, hx⟩
  · simp at hc
    obtain ⟨rfl, rfl, rfl⟩ := hc
    exact ⟨[], fun _ h => by simp at h, rfl, Nat.le_refl _, by decide, fun h => absurd rfl h⟩
  · simp at hc
    obtain ⟨rfl, rfl, rfl⟩ := hc
    have hnm : n ≤ m := by rw [hmm]; split <;> omega
    have ex : ∀ i, i < n → ∃ y : It, (w.cell? (a.add (i * 3)) = some (.int .u8 y.c.toNat) ∧ w.cell? (a.add (i * 3 + 1)) = some (.int .i64 y.m) ∧ w.cell? (a.add (i * 3 + 2)) = some (.string y.l)) ∧ y.l.size ≤ 9223372036854775807 := by
      intro i hi
      obtain ⟨cs, hcs, hd⟩ := hx i (by omega)
      rw [cells36] at hcs
      obtain ⟨y, hy, hs⟩ := item_of hd
      obtain ⟨c0, c1, c2⟩ := three_cells hcs hy
      rw [Deep.add_add] at c1 c2
      exact ⟨y, ⟨c0, c1, c2⟩, hs⟩
    have inh : Inhabited It := ⟨It.zero⟩
    obtain ⟨f, hf⟩ := Deep.choose_lt ex
    refine ⟨(List.range n).map f, ?_, by simp, hl, hm, ?_⟩
    · intro y hy
      obtain ⟨i, hi, rfl⟩ := List.mem_map.1 hy
      exact (hf i (List.mem_range.1 hi)).2
    · intro hn
      obtain ⟨b, off, spot⟩ := a
      have hspot : spot = none := by
        have := World.cell?_spot (hf 0 (by omega)).1.1
        simpa [Addr.add] using this
      subst hspot
      have hadd : ∀ j, (⟨b, off, none⟩ : Addr).add j = ⟨b, off + j, none⟩ := fun j => Go.WideShapes.add_plain ..
      refine ⟨b, off, rfl, fun i hi => ?_, fun i hi => ?_, fun i hi => ?_⟩
      all_goals
        have hi' : i < n := by simpa using hi
        have := (hf i hi').1
        simp only [hadd] at this
        simp only [List.getElem_map, List.getElem_range]
      · exact this.1
      · rw [Nat.add_assoc]; exact this.2.1
      · rw [Nat.add_assoc]; exact this.2.2
end
end Go.Proofs.YtbhcklkbckacpaaGreatDoor
