/-
  From the reading of an argument as data to the parts of an operation in memory.
-/
import Derived.Test.YtbhcklkbckacpaaGreatDoorDl
import Derived.Test.YtbhcklkbckacpaaGreatDoorM2
namespace Go.Proofs.YtbhcklkbckacpaaGreatDoor
open Go.ChangeShapes Go.WideShapes Go.ChangeAt Go.WideMaps Go.WideElems Go.RowKit

theorem cellsP : Tryz.prog.cellsOf 162 = 7 := by kernel_rfl
theorem cellsLI : Tryz.prog.cellsOf 33 = 1 := by kernel_rfl
theorem cellsBO : Tryz.prog.cellsOf 4 = 1 := by kernel_rfl
section
variable {H : Type} {enc : TypeId × Value → H} {w : World} {base : Nat} {spare : Nat → Bool} {held : Bool}
theorem len7 {α : Type} (l : List α) (h : l.length = 7) : ∃ a b c d e f g, l = [a, b, c, d, e, f, g] := by
  match l, h with
  | [a, b, c, d, e, f, g], _ => exact ⟨a, b, c, d, e, f, g, rfl⟩
theorem slice_form {fuel : Nat} {t e : TypeId} (ht : Tryz.prog.underlying t = some (.slice e)) {cs : List Value} {x : DataW H × List MemPlace} (h : DataW.trod enc Tryz.prog w base spare held fuel t cs = some x) : ∃ ao n cap, cs = [.slice ao n cap] := by
  rcases Deep.open_slice ht h with ⟨hc, _⟩ | ⟨a, len, cap', m, k, D, Pl, hc, _⟩
  · exact ⟨_, _, _, hc⟩
  · exact ⟨_, _, _, hc⟩
set_option maxRecDepth 100000 in
theorem part_of {fuel : Nat} {cs : List Value} {x : DataW H × List MemPlace} (h : DataW.trod enc Tryz.prog w base spare held fuel 162 cs = some x) :
    ∃ v : PV, cs = pvC v ∧ Pvt w v := by
  obtain ⟨xs, n, _, _, hl, hlen, hf⟩ := DataW.trod_struct Tryz.underlying162 h
  rw [cellsP] at hl
  obtain ⟨y0, y1, y2, y3, y4, y5, y6, rfl⟩ := len7 xs hlen
  obtain ⟨a0, a1, a2, a3, a4, a5, a6, rfl⟩ := len7 cs hl
  have h0 : DataW.trod enc Tryz.prog w base spare held n 3 (([a0, a1, a2, a3, a4, a5, a6].drop 0).take (Tryz.prog.cellsOf 3)) = some y0 := hf 0 _ rfl
  rw [cells3] at h0
  have h1 : DataW.trod enc Tryz.prog w base spare held n 3 (([a0, a1, a2, a3, a4, a5, a6].drop 1).take (Tryz.prog.cellsOf 3)) = some y1 := hf 1 _ rfl
  rw [cells3] at h1
  have h2 : DataW.trod enc Tryz.prog w base spare held n 33 (([a0, a1, a2, a3, a4, a5, a6].drop 2).take (Tryz.prog.cellsOf 33)) = some y2 := hf 2 _ rfl
  rw [cellsLI] at h2
  have h3 : DataW.trod enc Tryz.prog w base spare held n 3 (([a0, a1, a2, a3, a4, a5, a6].drop 3).take (Tryz.prog.cellsOf 3)) = some y3 := hf 3 _ rfl
  rw [cells3] at h3
  have h4 : DataW.trod enc Tryz.prog w base spare held n 3 (([a0, a1, a2, a3, a4, a5, a6].drop 4).take (Tryz.prog.cellsOf 3)) = some y4 := hf 4 _ rfl
  rw [cells3] at h4
  have h5 : DataW.trod enc Tryz.prog w base spare held n 4 (([a0, a1, a2, a3, a4, a5, a6].drop 5).take (Tryz.prog.cellsOf 4)) = some y5 := hf 5 _ rfl
  rw [cellsBO] at h5
  have h6 : DataW.trod enc Tryz.prog w base spare held n 9 (([a0, a1, a2, a3, a4, a5, a6].drop 6).take (Tryz.prog.cellsOf 9)) = some y6 := hf 6 _ rfl
  rw [cells9] at h6
  obtain ⟨n0, e0, _, _⟩ := DataW.trod_int Tryz.underlying3 h0
  obtain ⟨n1, e1, _, _⟩ := DataW.trod_int Tryz.underlying3 h1
  obtain ⟨n3, e3, _, _⟩ := DataW.trod_int Tryz.underlying3 h3
  obtain ⟨n4, e4, _, _⟩ := DataW.trod_int Tryz.underlying3 h4
  obtain ⟨b5, e5, _⟩ := DataW.trod_bool Tryz.underlying4 h5
  obtain ⟨s6, e6, _, hs6⟩ := DataW.trod_string Tryz.underlying9 h6
  have h2' : DataW.trod enc Tryz.prog w base spare held n 33 [a2] = some y2 := h2
  obtain ⟨ao, m, cap, e2⟩ := slice_form Tryz.underlying33 h2'
  rw [e2] at h2'
  obtain ⟨l, hD⟩ := open_doc Tryz.underlying33 h2'
  simp at e0 e1 e2 e3 e4 e5 e6
  exact ⟨⟨n0, n1, ao, m, cap, l, n3, n4, b5, s6⟩, by rw [e0, e1, e2, e3, e4, e5, e6]; rfl, hD, hs6⟩
theorem open_ops {fuel : Nat} {t : TypeId} (ht : Tryz.prog.underlying t = some (.slice 162)) {ao : Option Addr} {n cap : Nat} {x : DataW H × List MemPlace} (h : DataW.trod enc Tryz.prog w base spare held fuel t [.slice ao n cap] = some x) :
    ∃ vs, Ops w ao n cap vs := by
  rcases Deep.open_slice ht h with ⟨hc, _⟩ | ⟨a, len, cap', m, k, D, Pl, hc, _, hl, hm, hmm, _, hx⟩
  · simp at hc
    obtain ⟨rfl, rfl, rfl⟩ := hc
    exact ⟨[], Row.nil w 7, fun v hv => absurd hv (by simp)⟩
  · simp at hc
    obtain ⟨rfl, rfl, rfl⟩ := hc
    have hnm : n ≤ m := by rw [hmm]; split <;> omega
    have ex : ∀ i, i < n → ∃ v : PV, (∀ j, j < 7 → w.cell? (a.add (i * 7 + j)) = (pvC v)[j]?) ∧ Pvt w v := by
      intro i hi
      obtain ⟨cs, hcs, hd⟩ := hx i (by omega)
      rw [cellsP] at hcs
      obtain ⟨v, rfl, hv⟩ := part_of hd
      have hh := World.cells?_some hcs
      refine ⟨v, fun j hj => ?_, hv⟩
      rw [← Deep.add_add]
      exact hh.2.2 j hj
    have inh : Inhabited PV := ⟨⟨0, 0, none, 0, 0, [], 0, 0, false, ⟨#[]⟩⟩⟩
    obtain ⟨f, hf⟩ := Deep.choose_lt ex
    refine ⟨(List.range n).map f, ⟨by rw [pvCells_len]; simp, hl, hm, ?_⟩, ?_⟩
    · intro hn
      obtain ⟨b, off, spot⟩ := a
      have hspot : spot = none := by
        have := World.cell?_spot ((hf 0 (by omega)).1 0 (by decide) |>.trans rfl)
        simpa [Addr.add] using this
      subst hspot
      have hadd : ∀ j, (⟨b, off, none⟩ : Addr).add j = ⟨b, off + j, none⟩ := fun j => Go.WideShapes.add_plain ..
      refine ⟨b, off, rfl, fun j u hu => ?_⟩
      have hj : j < n * 7 := by
        have := (List.getElem?_eq_some_iff.1 hu).1
        rw [pvCells_len] at this
        simpa using this
      have hi : j / 7 < n := by omega
      have hr : j = j / 7 * 7 + j % 7 := by omega
      have hc := (hf (j / 7) hi).1 (j % 7) (Nat.mod_lt _ (by decide))
      rw [hadd, ← hr] at hc
      rw [hc]
      have hlen : j / 7 < ((List.range n).map f).length := by simpa using hi
      have hg : ((List.range n).map f)[j / 7] = f (j / 7) := by simp
      obtain ⟨q0, q1, q2, q3, q4, q5, q6⟩ := pvCells_at ((List.range n).map f) (j / 7) hlen
      rw [hg] at q0 q1 q2 q3 q4 q5 q6
      rw [← hu]
      have h7 : j % 7 < 7 := Nat.mod_lt _ (by decide)
      have hcase : j % 7 = 0 ∨ j % 7 = 1 ∨ j % 7 = 2 ∨ j % 7 = 3 ∨ j % 7 = 4 ∨ j % 7 = 5 ∨ j % 7 = 6 := by omega
      rcases hcase with e | e | e | e | e | e | e
      · rw [e, show (pvCells ((List.range n).map f))[j]? = (pvCells ((List.range n).map f))[j / 7 * 7]? from congrArg _ (by omega), q0]
        rfl
      · rw [e, show (pvCells ((List.range n).map f))[j]? = (pvCells ((List.range n).map f))[j / 7 * 7 + 1]? from congrArg _ (by omega), q1]
        rfl
      · rw [e, show (pvCells ((List.range n).map f))[j]? = (pvCells ((List.range n).map f))[j / 7 * 7 + 2]? from congrArg _ (by omega), q2]
        rfl
      · rw [e, show (pvCells ((List.range n).map f))[j]? = (pvCells ((List.range n).map f))[j / 7 * 7 + 3]? from congrArg _ (by omega), q3]
        rfl
      · rw [e, show (pvCells ((List.range n).map f))[j]? = (pvCells ((List.range n).map f))[j / 7 * 7 + 4]? from congrArg _ (by omega), q4]
        rfl
      · rw [e, show (pvCells ((List.range n).map f))[j]? = (pvCells ((List.range n).map f))[j / 7 * 7 + 5]? from congrArg _ (by omega), q5]
        rfl
      · rw [e, show (pvCells ((List.range n).map f))[j]? = (pvCells ((List.range n).map f))[j / 7 * 7 + 6]? from congrArg _ (by omega), q6]
        rfl
    · intro v hv
      obtain ⟨i, hi, rfl⟩ := List.mem_map.1 hv
      exact (hf i (List.mem_range.1 hi)).2
end
end Go.Proofs.YtbhcklkbckacpaaGreatDoor
