/-
  From the reading of an argument as data to a client, and a message, in memory.
-/
import Derived.Test.YtbhcklkbckacpaaDoorVo
import Derived.Test.YtbhcklkbckacpaaDoorYi
namespace Go.Proofs.YtbhcklkbckacpaaDoor
open Go.ChangeShapes Go.WideShapes Go.ChangeAt Go.WideMaps Go.WideElems Go.RowKit
theorem cellsCl : Tryd.prog.cellsOf 51 = 7 := by kernel_rfl
theorem cellsMs : Tryd.prog.cellsOf 53 = 4 := by kernel_rfl
theorem len2c {α : Type} (l : List α) (h : l.length = 2) : ∃ a b, l = [a, b] := by
  match l, h with
  | [a, b], _ => exact ⟨a, b, rfl⟩
theorem len4c {α : Type} (l : List α) (h : l.length = 4) : ∃ a b c d, l = [a, b, c, d] := by
  match l, h with
  | [a, b, c, d], _ => exact ⟨a, b, c, d, rfl⟩
section
variable {H : Type} {enc : TypeId × Value → H} {w : World} {base : Nat} {spare : Nat → Bool} {held : Bool}
set_option maxRecDepth 100000 in
theorem client_of {fuel : Nat} {cs : List Value} {x : DataW H × List MemPlace} (h : DataW.trod enc Tryd.prog w base spare held fuel 51 cs = some x) :
    ∃ c : CV, cs = cvC c ∧ Cli w c := by
  obtain ⟨xs, n, _, _, hl, hlen, hf⟩ := DataW.trod_struct Tryd.underlying51 h
  rw [cellsCl] at hl
  obtain ⟨y0, y1, y2, y3, y4, y5, y6, rfl⟩ := len7 xs hlen
  obtain ⟨a0, a1, a2, a3, a4, a5, a6, rfl⟩ := len7 cs hl
  have h0 : DataW.trod enc Tryd.prog w base spare held n 3 (([a0, a1, a2, a3, a4, a5, a6].drop 0).take (Tryd.prog.cellsOf 3)) = some y0 := hf 0 _ rfl
  rw [cells3] at h0
  have h0' : DataW.trod enc Tryd.prog w base spare held n 3 [a0] = some y0 := h0
  have h1 : DataW.trod enc Tryd.prog w base spare held n 32 (([a0, a1, a2, a3, a4, a5, a6].drop 1).take (Tryd.prog.cellsOf 32)) = some y1 := hf 1 _ rfl
  rw [cellsD] at h1
  have h1' : DataW.trod enc Tryd.prog w base spare held n 32 [a1] = some y1 := h1
  have h2 : DataW.trod enc Tryd.prog w base spare held n 32 (([a0, a1, a2, a3, a4, a5, a6].drop 2).take (Tryd.prog.cellsOf 32)) = some y2 := hf 2 _ rfl
  rw [cellsD] at h2
  have h2' : DataW.trod enc Tryd.prog w base spare held n 32 [a2] = some y2 := h2
  have h3 : DataW.trod enc Tryd.prog w base spare held n 3 (([a0, a1, a2, a3, a4, a5, a6].drop 3).take (Tryd.prog.cellsOf 3)) = some y3 := hf 3 _ rfl
  rw [cells3] at h3
  have h3' : DataW.trod enc Tryd.prog w base spare held n 3 [a3] = some y3 := h3
  have h4 : DataW.trod enc Tryd.prog w base spare held n 23 (([a0, a1, a2, a3, a4, a5, a6].drop 4).take (Tryd.prog.cellsOf 23)) = some y4 := hf 4 _ rfl
  rw [cellsO] at h4
  have h4' : DataW.trod enc Tryd.prog w base spare held n 23 [a4] = some y4 := h4
  have h5 : DataW.trod enc Tryd.prog w base spare held n 23 (([a0, a1, a2, a3, a4, a5, a6].drop 5).take (Tryd.prog.cellsOf 23)) = some y5 := hf 5 _ rfl
  rw [cellsO] at h5
  have h5' : DataW.trod enc Tryd.prog w base spare held n 23 [a5] = some y5 := h5
  have h6 : DataW.trod enc Tryd.prog w base spare held n 4 (([a0, a1, a2, a3, a4, a5, a6].drop 6).take (Tryd.prog.cellsOf 4)) = some y6 := hf 6 _ rfl
  rw [cellsBO] at h6
  have h6' : DataW.trod enc Tryd.prog w base spare held n 4 [a6] = some y6 := h6
  obtain ⟨n0, e0, _, _⟩ := DataW.trod_int Tryd.underlying3 h0'
  obtain ⟨n3, e3, _, _⟩ := DataW.trod_int Tryd.underlying3 h3'
  obtain ⟨b6, e6, _⟩ := DataW.trod_bool Tryd.underlying4 h6'
  obtain ⟨s1, m1, c1, e1⟩ := slice_form Tryd.underlying32 h1'
  rw [e1] at h1'
  obtain ⟨l1, hD1⟩ := open_doc Tryd.underlying32 h1'
  obtain ⟨s2, m2, c2, e2⟩ := slice_form Tryd.underlying32 h2'
  rw [e2] at h2'
  obtain ⟨l2, hD2⟩ := open_doc Tryd.underlying32 h2'
  obtain ⟨s4, m4, c4, e4⟩ := slice_form Tryd.underlying23 h4'
  rw [e4] at h4'
  obtain ⟨l4, hD4⟩ := open_ops Tryd.underlying23 h4'
  obtain ⟨s5, m5, c5, e5⟩ := slice_form Tryd.underlying23 h5'
  rw [e5] at h5'
  obtain ⟨l5, hD5⟩ := open_ops Tryd.underlying23 h5'
  simp at e0 e1 e2 e3 e4 e5 e6
  exact ⟨⟨n0, s1, m1, c1, l1, s2, m2, c2, l2, n3, s4, m4, c4, l4, s5, m5, c5, l5, b6⟩, by rw [e0, e1, e2, e3, e4, e5, e6]; rfl, hD1, hD2, hD4, hD5⟩
set_option maxRecDepth 100000 in
theorem message_of {fuel : Nat} {cs : List Value} {x : DataW H × List MemPlace} (h : DataW.trod enc Tryd.prog w base spare held fuel 53 cs = some x) :
    ∃ m : MV, cs = mgC m ∧ Ops w m.e.ao m.e.n m.e.cap m.e.vs := by
  obtain ⟨xs, n, _, _, hl, hlen, hf⟩ := DataW.trod_struct Tryd.underlying53 h
  rw [cellsMs] at hl
  obtain ⟨y0, y1, rfl⟩ := len2c xs hlen
  obtain ⟨a0, a1, a2, a3, rfl⟩ := len4c cs hl
  have h0 : DataW.trod enc Tryd.prog w base spare held n 3 (([a0, a1, a2, a3].drop 0).take (Tryd.prog.cellsOf 3)) = some y0 := hf 0 _ rfl
  rw [cells3] at h0
  have h1 : DataW.trod enc Tryd.prog w base spare held n 37 (([a0, a1, a2, a3].drop 1).take (Tryd.prog.cellsOf 37)) = some y1 := hf 1 _ rfl
  rw [cellsE] at h1
  have h0' : DataW.trod enc Tryd.prog w base spare held n 3 [a0] = some y0 := h0
  have h1' : DataW.trod enc Tryd.prog w base spare held n 37 [a1, a2, a3] = some y1 := h1
  obtain ⟨n0, e0, _, _⟩ := DataW.trod_int Tryd.underlying3 h0'
  obtain ⟨v, e1, hv⟩ := entry_of h1'
  simp at e0
  refine ⟨⟨n0, v⟩, ?_, hv⟩
  rw [e0, e1]
  rfl
set_option maxRecDepth 100000 in
theorem message_in {fuel : Nat} {cs : List Value} {x : DataW H × List MemPlace} (h : DataW.trod enc Tryd.prog w base spare held fuel 53 cs = some x) :
    ∃ m : MV, cs = mgC m ∧ (-9223372036854775808 ≤ m.mr ∧ m.mr ≤ 9223372036854775807) ∧ Ops w m.e.ao m.e.n m.e.cap m.e.vs := by
  obtain ⟨xs, n, _, _, hl, hlen, hf⟩ := DataW.trod_struct Tryd.underlying53 h
  rw [cellsMs] at hl
  obtain ⟨y0, y1, rfl⟩ := len2c xs hlen
  obtain ⟨a0, a1, a2, a3, rfl⟩ := len4c cs hl
  have h0 : DataW.trod enc Tryd.prog w base spare held n 3 (([a0, a1, a2, a3].drop 0).take (Tryd.prog.cellsOf 3)) = some y0 := hf 0 _ rfl
  rw [cells3] at h0
  have h1 : DataW.trod enc Tryd.prog w base spare held n 37 (([a0, a1, a2, a3].drop 1).take (Tryd.prog.cellsOf 37)) = some y1 := hf 1 _ rfl
  rw [cellsE] at h1
  have h0' : DataW.trod enc Tryd.prog w base spare held n 3 [a0] = some y0 := h0
  have h1' : DataW.trod enc Tryd.prog w base spare held n 37 [a1, a2, a3] = some y1 := h1
  obtain ⟨n0, e0, _, hw⟩ := DataW.trod_int Tryd.underlying3 h0'
  obtain ⟨v, e1, hv⟩ := entry_of h1'
  simp at e0
  have hw' : (decide ((IntKind.i64).min ≤ n0) && decide (n0 ≤ (IntKind.i64).max)) = true := hw
  have hmin : (IntKind.i64).min = -9223372036854775808 := by decide +kernel
  have hmax : (IntKind.i64).max = 9223372036854775807 := by decide +kernel
  rw [hmin, hmax, Bool.and_eq_true, decide_eq_true_eq, decide_eq_true_eq] at hw'
  refine ⟨⟨n0, v⟩, ?_, hw', hv⟩
  rw [e0, e1]
  rfl
end
end Go.Proofs.YtbhcklkbckacpaaDoor
