/-
  From the reading of an argument as data to an entry, and a server, in memory.
-/
import Derived.Test.YtbhcklkbckacpaaGreatDoorOy
import Derived.Test.YtbhcklkbckacpaaGreatDoorM9
namespace Go.Proofs.YtbhcklkbckacpaaGreatDoor
open Go.ChangeShapes Go.WideShapes Go.ChangeAt Go.WideMaps Go.WideElems Go.RowKit
theorem cellsE : Tryz.prog.cellsOf 46 = 3 := by kernel_rfl
theorem cellsS : Tryz.prog.cellsOf 42 = 3 := by kernel_rfl
theorem cellsO : Tryz.prog.cellsOf 44 = 1 := by kernel_rfl
theorem cellsD : Tryz.prog.cellsOf 34 = 1 := by kernel_rfl
theorem cellsLE : Tryz.prog.cellsOf 40 = 1 := by kernel_rfl
section
variable {H : Type} {enc : TypeId × Value → H} {w : World} {base : Nat} {spare : Nat → Bool} {held : Bool}
set_option maxRecDepth 100000 in
theorem entry_of {fuel : Nat} {cs : List Value} {x : DataW H × List MemPlace} (h : DataW.trod enc Tryz.prog w base spare held fuel 46 cs = some x) :
    ∃ v : EV, cs = evC v ∧ Ops w v.ao v.n v.cap v.vs := by
  obtain ⟨xs, n, _, _, hl, hlen, hf⟩ := DataW.trod_struct Tryz.underlying46 h
  rw [cellsE] at hl
  obtain ⟨y0, y1, y2, rfl⟩ := len3 xs hlen
  obtain ⟨a0, a1, a2, rfl⟩ := len3 cs hl
  have h0 : DataW.trod enc Tryz.prog w base spare held n 3 (([a0, a1, a2].drop 0).take (Tryz.prog.cellsOf 3)) = some y0 := hf 0 _ rfl
  rw [cells3] at h0
  have h1 : DataW.trod enc Tryz.prog w base spare held n 3 (([a0, a1, a2].drop 1).take (Tryz.prog.cellsOf 3)) = some y1 := hf 1 _ rfl
  rw [cells3] at h1
  have h2 : DataW.trod enc Tryz.prog w base spare held n 44 (([a0, a1, a2].drop 2).take (Tryz.prog.cellsOf 44)) = some y2 := hf 2 _ rfl
  rw [cellsO] at h2
  obtain ⟨n0, e0, _, _⟩ := DataW.trod_int Tryz.underlying3 h0
  obtain ⟨n1, e1, _, _⟩ := DataW.trod_int Tryz.underlying3 h1
  have h2' : DataW.trod enc Tryz.prog w base spare held n 44 [a2] = some y2 := h2
  obtain ⟨ao, m, cap, e2⟩ := slice_form Tryz.underlying44 h2'
  rw [e2] at h2'
  obtain ⟨vs, hO⟩ := open_ops Tryz.underlying44 h2'
  simp at e0 e1 e2
  exact ⟨⟨n0, n1, ao, m, cap, vs⟩, by rw [e0, e1, e2]; rfl, hO⟩
theorem open_ents {fuel : Nat} {t : TypeId} (ht : Tryz.prog.underlying t = some (.slice 46)) {ao : Option Addr} {n cap : Nat} {x : DataW H × List MemPlace} (h : DataW.trod enc Tryz.prog w base spare held fuel t [.slice ao n cap] = some x) :
    ∃ es, Ents w ao n cap es := by
  rcases Deep.open_slice ht h with ⟨hc, _⟩ | ⟨a, len, cap', m, k, D, Pl, hc, _, hl, hm, hmm, _, hx⟩
  · simp at hc
    obtain ⟨rfl, rfl, rfl⟩ := hc
    exact ⟨[], Ents.nil w⟩
  · simp at hc
    obtain ⟨rfl, rfl, rfl⟩ := hc
    have hnm : n ≤ m := by rw [hmm]; split <;> omega
    have ex : ∀ i, i < n → ∃ v : EV, (∀ j, j < 3 → w.cell? (a.add (i * 3 + j)) = (evC v)[j]?) ∧ Ops w v.ao v.n v.cap v.vs := by
      intro i hi
      obtain ⟨cs, hcs, hd⟩ := hx i (by omega)
      rw [cellsE] at hcs
      obtain ⟨v, rfl, hv⟩ := entry_of hd
      have hh := World.cells?_some hcs
      refine ⟨v, fun j hj => ?_, hv⟩
      rw [← Deep.add_add]
      exact hh.2.2 j hj
    have inh : Inhabited EV := ⟨⟨0, 0, none, 0, 0, []⟩⟩
    obtain ⟨f, hf⟩ := Deep.choose_lt ex
    refine ⟨(List.range n).map f, ⟨by rw [evCells_len]; simp, hl, hm, ?_⟩, ?_⟩
    · intro hn
      obtain ⟨b, off, spot⟩ := a
      have hspot : spot = none := by
        have := World.cell?_spot ((hf 0 (by omega)).1 0 (by decide) |>.trans rfl)
        simpa [Addr.add] using this
      subst hspot
      have hadd : ∀ j, (⟨b, off, none⟩ : Addr).add j = ⟨b, off + j, none⟩ := fun j => Go.WideShapes.add_plain ..
      refine ⟨b, off, rfl, fun j u hu => ?_⟩
      have hj : j < n * 3 := by
        have := (List.getElem?_eq_some_iff.1 hu).1
        rw [evCells_len] at this
        simpa using this
      have hi : j / 3 < n := by omega
      have hr : j = j / 3 * 3 + j % 3 := by omega
      have hc := (hf (j / 3) hi).1 (j % 3) (Nat.mod_lt _ (by decide))
      rw [hadd, ← hr] at hc
      rw [hc]
      have hlen : j / 3 < ((List.range n).map f).length := by simpa using hi
      have hg : ((List.range n).map f)[j / 3] = f (j / 3) := by simp
      have hq := evCells_at ((List.range n).map f) (j / 3) hlen (j % 3) (Nat.mod_lt _ (by decide))
      rw [hg, ← hr] at hq
      rw [← hq]
      exact hu
    · intro v hv
      obtain ⟨i, hi, rfl⟩ := List.mem_map.1 hv
      exact (hf i (List.mem_range.1 hi)).2
set_option maxRecDepth 100000 in
theorem server_of {fuel : Nat} {cs : List Value} {x : DataW H × List MemPlace} (h : DataW.trod enc Tryz.prog w base spare held fuel 42 cs = some x) :
    ∃ s : SV, cs = svC s ∧ Srv w s := by
  obtain ⟨xs, n, _, _, hl, hlen, hf⟩ := DataW.trod_struct Tryz.underlying42 h
  rw [cellsS] at hl
  obtain ⟨y0, y1, y2, rfl⟩ := len3 xs hlen
  obtain ⟨a0, a1, a2, rfl⟩ := len3 cs hl
  have h0 : DataW.trod enc Tryz.prog w base spare held n 34 (([a0, a1, a2].drop 0).take (Tryz.prog.cellsOf 34)) = some y0 := hf 0 _ rfl
  rw [cellsD] at h0
  have h1 : DataW.trod enc Tryz.prog w base spare held n 40 (([a0, a1, a2].drop 1).take (Tryz.prog.cellsOf 40)) = some y1 := hf 1 _ rfl
  rw [cellsLE] at h1
  have h2 : DataW.trod enc Tryz.prog w base spare held n 34 (([a0, a1, a2].drop 2).take (Tryz.prog.cellsOf 34)) = some y2 := hf 2 _ rfl
  rw [cellsD] at h2
  have h0' : DataW.trod enc Tryz.prog w base spare held n 34 [a0] = some y0 := h0
  have h1' : DataW.trod enc Tryz.prog w base spare held n 40 [a1] = some y1 := h1
  have h2' : DataW.trod enc Tryz.prog w base spare held n 34 [a2] = some y2 := h2
  obtain ⟨fa, fn, fc, e0⟩ := slice_form Tryz.underlying34 h0'
  obtain ⟨la, ln, lc, e1⟩ := slice_form Tryz.underlying40 h1'
  obtain ⟨na, nn, nc, e2⟩ := slice_form Tryz.underlying34 h2'
  rw [e0] at h0'
  rw [e1] at h1'
  rw [e2] at h2'
  obtain ⟨f, hF⟩ := open_doc Tryz.underlying34 h0'
  obtain ⟨es, hE⟩ := open_ents Tryz.underlying40 h1'
  obtain ⟨nw, hN⟩ := open_doc Tryz.underlying34 h2'
  simp at e0 e1 e2
  exact ⟨⟨fa, fn, fc, f, la, ln, lc, es, na, nn, nc, nw⟩, by rw [e0, e1, e2]; rfl, hF, hE, hN⟩
end
end Go.Proofs.YtbhcklkbckacpaaGreatDoor
