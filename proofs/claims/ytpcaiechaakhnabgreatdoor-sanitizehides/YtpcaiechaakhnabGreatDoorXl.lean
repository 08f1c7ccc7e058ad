/-
  From the rows' condition, that the four listed variables read as the listed data, to their cells in memory; and that a heap with those variables laid meets the condition.
-/
import Derived.Test.YtpcaiechaakhnabGreatDoorXq
import Derived.Test.YtpcaiechaakhnabGreatDoorRows
import Derived.ProofKit
import Derived.LaidMore
import Derived.Lay
import Derived.OpenShut
import Derived.Stop.Joined
namespace Go.Proofs.YtpcaiechaakhnabGreatDoor
open Go.ChangeShapes Go.WideShapes Go.ChangeAt Go.WideMaps Go.WideElems Go.RowKit

theorem own : ownKnob Tryz.prog.godebug = none := by kernel_rfl
/-- The rows' list of variables. -/
def laid4 : List (String × DataW Unit) := [("manyhands/escape.pairs", Rows.laid_manyhands_escape_pairs), ("manyhands/link.schemes", Rows.laid_manyhands_link_schemes), ("manyhands/export.blockNames", Rows.laid_manyhands_export_blockNames), ("manyhands/export.markNames", Rows.laid_manyhands_export_markNames)]
theorem gPairs : Tryz.prog.globalNamed "manyhands/escape.pairs" = some 7 := by kernel_rfl
theorem tPairs : (Tryz.prog.globals[7]?).map (·.type) = some 176 := by kernel_rfl
theorem gSch : Tryz.prog.globalNamed "manyhands/link.schemes" = some 8 := by kernel_rfl
theorem tSch : (Tryz.prog.globals[8]?).map (·.type) = some 200 := by kernel_rfl
theorem gBlk : Tryz.prog.globalNamed "manyhands/export.blockNames" = some 1 := by kernel_rfl
theorem tBlk : (Tryz.prog.globals[1]?).map (·.type) = some 96 := by kernel_rfl
theorem gMrk : Tryz.prog.globalNamed "manyhands/export.markNames" = some 2 := by kernel_rfl
theorem tMrk : (Tryz.prog.globals[2]?).map (·.type) = some 99 := by kernel_rfl
theorem c3 : Tryz.prog.cellsOf 3 = 1 := by kernel_rfl
theorem c5 : Tryz.prog.cellsOf 5 = 1 := by kernel_rfl
theorem c9 : Tryz.prog.cellsOf 9 = 1 := by kernel_rfl
theorem c80 : Tryz.prog.cellsOf 175 = 2 := by kernel_rfl
theorem c81 : Tryz.prog.cellsOf 176 = 8 := by kernel_rfl
theorem c108 : Tryz.prog.cellsOf 200 = 3 := by kernel_rfl
theorem c121 : Tryz.prog.cellsOf 96 = 4 := by kernel_rfl
theorem c123 : Tryz.prog.cellsOf 98 = 2 := by kernel_rfl
theorem c124 : Tryz.prog.cellsOf 99 = 4 := by kernel_rfl

/-- What is known of a variable that is laid. -/
def LaidAt (W : World) (n : String) (d : DataW Unit) : Prop :=
  ∃ g t cs fuel p, Tryz.prog.globalNamed n = some g ∧ (Tryz.prog.globals[g]?).map (·.type) = some t ∧ W.var? Tryz.prog n = some cs ∧ DataW.trod (fun _ => ()) Tryz.prog W 0 (fun _ => true) false fuel t cs.toList = some (d, p)
theorem vars_split {W : World} {n : String} {d : DataW Unit} {r : List (String × DataW Unit)} {ps : List MemPlace} (h : DataW.LaidVars Tryz.prog W ((n, d) :: r) ps) : LaidAt W n d ∧ ∃ q, DataW.LaidVars Tryz.prog W r q := by
  obtain ⟨g0, t0, cs0, f0, p0, q0, hg0, ht0, hv0, hd0, hr, _⟩ := h
  exact ⟨⟨g0, t0, cs0, f0, p0, hg0, ht0, hv0, hd0⟩, q0, hr⟩
theorem heap_of_var {W : World} {n : String} {g : Nat} {cs : Array Value} (hg : Tryz.prog.globalNamed n = some g) (h : W.var? Tryz.prog n = some cs) : ∃ t fr, W.heap[g]? = some (.cells cs t fr) := by
  simp only [World.var?, hg, Option.bind_some] at h
  split at h
  · rename_i cs' t fr hh
    simp at h
    subst h
    exact ⟨t, fr, hh⟩
  · cases h
theorem str_cell {W : World} {fuel : Nat} {cs : List Value} {l : List UInt8} {ps : List MemPlace}
    (h : DataW.trod (fun _ => ()) Tryz.prog W 0 (fun _ => true) false fuel 9 cs = some (.lit (.string l), ps)) : cs = [.string ⟨l.toArray⟩] := by
  obtain ⟨s, e, j, _⟩ := DataW.trod_string Tryz.underlying9 h
  simp at j
  rw [e, j.1]
theorem pair_cells {W : World} {fuel : Nat} {cs : List Value} {k : Int} {l : List UInt8} {ps : List MemPlace}
    (h : DataW.trod (fun _ => ()) Tryz.prog W 0 (fun _ => true) false fuel 175 cs = some (.agg [.lit (.int .u8 k), .lit (.string l)], ps)) : cs = [.int .u8 k, .string ⟨l.toArray⟩] := by
  obtain ⟨y0, y1, n, hx, hl, h0, h1⟩ := trod_struct2 Tryz.underlying175 h
  simp only [Prod.mk.injEq, DataW.agg.injEq, List.cons.injEq, and_true] at hx
  simp only [c5, c9] at h0 h1
  rw [c80] at hl
  match cs, hl with
  | [a, b], _ =>
    obtain ⟨k', e0, r0, _⟩ := DataW.trod_int Tryz.underlying5 h0
    obtain ⟨s', e1, r1, _⟩ := DataW.trod_string Tryz.underlying9 h1
    simp at e0 e1
    subst e0 e1
    rw [r0, r1] at hx
    simp at hx
    obtain ⟨⟨hk, hs⟩, _⟩ := hx
    subst hk
    have : s' = ⟨l.toArray⟩ := by rw [hs]
    rw [this]
theorem mark_cells {W : World} {fuel : Nat} {cs : List Value} {k : Int} {l : List UInt8} {ps : List MemPlace}
    (h : DataW.trod (fun _ => ()) Tryz.prog W 0 (fun _ => true) false fuel 98 cs = some (.agg [.lit (.int .i64 k), .lit (.string l)], ps)) : cs = [.int .i64 k, .string ⟨l.toArray⟩] := by
  obtain ⟨y0, y1, n, hx, hl, h0, h1⟩ := trod_struct2 Tryz.underlying98 h
  simp only [Prod.mk.injEq, DataW.agg.injEq, List.cons.injEq, and_true] at hx
  simp only [c3, c9] at h0 h1
  rw [c123] at hl
  match cs, hl with
  | [a, b], _ =>
    obtain ⟨k', e0, r0, _⟩ := DataW.trod_int Tryz.underlying3 h0
    obtain ⟨s', e1, r1, _⟩ := DataW.trod_string Tryz.underlying9 h1
    simp at e0 e1
    subst e0 e1
    rw [r0, r1] at hx
    simp at hx
    obtain ⟨⟨hk, hs⟩, _⟩ := hx
    subst hk
    have : s' = ⟨l.toArray⟩ := by rw [hs]
    rw [this]
theorem list3 {α : Type} (l : List α) (h : l.length = 3) (a b c : α) (h0 : (l.drop (0 * 1)).take 1 = [a]) (h1 : (l.drop (1 * 1)).take 1 = [b]) (h2 : (l.drop (2 * 1)).take 1 = [c]) : l = [a, b, c] := by
  match l, h with
  | [x0, x1, x2], _ => simp at h0 h1 h2; simp [h0, h1, h2]
theorem list4 {α : Type} (l : List α) (h : l.length = 4) (a b c d : α) (h0 : (l.drop (0 * 1)).take 1 = [a]) (h1 : (l.drop (1 * 1)).take 1 = [b]) (h2 : (l.drop (2 * 1)).take 1 = [c]) (h3 : (l.drop (3 * 1)).take 1 = [d]) : l = [a, b, c, d] := by
  match l, h with
  | [x0, x1, x2, x3], _ => simp at h0 h1 h2 h3; simp [h0, h1, h2, h3]
theorem list22 {α : Type} (l : List α) (h : l.length = 4) (a b c d : α) (h0 : (l.drop (0 * 2)).take 2 = [a, b]) (h1 : (l.drop (1 * 2)).take 2 = [c, d]) : l = [a, b, c, d] := by
  match l, h with
  | [x0, x1, x2, x3], _ => simp at h0 h1; simp [h0, h1]
theorem list8 {α : Type} (l : List α) (h : l.length = 8) (a b c d e f g i : α) (h0 : (l.drop (0 * 2)).take 2 = [a, b]) (h1 : (l.drop (1 * 2)).take 2 = [c, d]) (h2 : (l.drop (2 * 2)).take 2 = [e, f]) (h3 : (l.drop (3 * 2)).take 2 = [g, i]) : l = [a, b, c, d, e, f, g, i] := by
  match l, h with
  | [x0, x1, x2, x3, x4, x5, x6, x7], _ => simp at h0 h1 h2 h3; simp [h0, h1, h2, h3]

set_option maxRecDepth 100000 in
theorem pairs_of {W : World} (h : LaidAt W "manyhands/escape.pairs" Rows.laid_manyhands_escape_pairs) : Pairs W := by
  obtain ⟨g0, t0, cs0, f0, p0, hg0, ht0, hv0, hd0⟩ := h
  obtain rfl := Option.some.inj (gPairs.symm.trans hg0)
  obtain rfl := Option.some.inj (tPairs.symm.trans ht0)
  obtain ⟨xs, m1, rfl, hx1, hlen, hn4, hel⟩ := DataW.trod_array Tryz.underlying176 hd0
  simp only [Prod.mk.injEq, DataW.agg.injEq, Rows.laid_manyhands_escape_pairs] at hx1
  rw [c81] at hlen
  have e0 := hel 0 (by decide)
  have e1 := hel 1 (by decide)
  have e2 := hel 2 (by decide)
  have e3 := hel 3 (by decide)
  rw [c80] at e0 e1 e2 e3
  match xs, hn4, hx1, e0, e1, e2, e3 with
  | [(x0, q0), (x1, q1), (x2, q2), (x3, q3)], _, hx1, e0, e1, e2, e3 =>
    simp only [List.map_cons, List.map_nil, List.cons.injEq, and_true] at hx1
    obtain ⟨⟨r0, r1, r2, r3⟩, _⟩ := hx1
    subst r0 r1 r2 r3
    have hcs : cs0 = pcells := by
      apply Array.ext'
      rw [list8 cs0.toList hlen _ _ _ _ _ _ _ _ (pair_cells e0) (pair_cells e1) (pair_cells e2) (pair_cells e3)]
      rfl
    subst hcs
    exact heap_of_var gPairs hv0
set_option maxRecDepth 100000 in
theorem sch_of {W : World} (h : LaidAt W "manyhands/link.schemes" Rows.laid_manyhands_link_schemes) : Sch W := by
  obtain ⟨g0, t0, cs0, f0, p0, hg0, ht0, hv0, hd0⟩ := h
  obtain rfl := Option.some.inj (gSch.symm.trans hg0)
  obtain rfl := Option.some.inj (tSch.symm.trans ht0)
  obtain ⟨xs, m1, rfl, hx1, hlen, hn3, hel⟩ := DataW.trod_array Tryz.underlying200 hd0
  simp only [Prod.mk.injEq, DataW.agg.injEq, Rows.laid_manyhands_link_schemes] at hx1
  rw [c108] at hlen
  have e0 := hel 0 (by decide)
  have e1 := hel 1 (by decide)
  have e2 := hel 2 (by decide)
  rw [c9] at e0 e1 e2
  match xs, hn3, hx1, e0, e1, e2 with
  | [(x0, q0), (x1, q1), (x2, q2)], _, hx1, e0, e1, e2 =>
    simp only [List.map_cons, List.map_nil, List.cons.injEq, and_true] at hx1
    obtain ⟨⟨r0, r1, r2⟩, _⟩ := hx1
    subst r0 r1 r2
    have hcs : cs0 = scells := by
      apply Array.ext'
      rw [list3 cs0.toList hlen _ _ _ (str_cell e0) (str_cell e1) (str_cell e2)]
      rfl
    subst hcs
    exact heap_of_var gSch hv0
set_option maxRecDepth 100000 in
theorem blocks_of {W : World} (h : LaidAt W "manyhands/export.blockNames" Rows.laid_manyhands_export_blockNames) : Blocks W := by
  obtain ⟨g0, t0, cs0, f0, p0, hg0, ht0, hv0, hd0⟩ := h
  obtain rfl := Option.some.inj (gBlk.symm.trans hg0)
  obtain rfl := Option.some.inj (tBlk.symm.trans ht0)
  obtain ⟨xs, m1, rfl, hx1, hlen, hn4, hel⟩ := DataW.trod_array Tryz.underlying96 hd0
  simp only [Prod.mk.injEq, DataW.agg.injEq, Rows.laid_manyhands_export_blockNames] at hx1
  rw [c121] at hlen
  have e0 := hel 0 (by decide)
  have e1 := hel 1 (by decide)
  have e2 := hel 2 (by decide)
  have e3 := hel 3 (by decide)
  rw [c9] at e0 e1 e2 e3
  match xs, hn4, hx1, e0, e1, e2, e3 with
  | [(x0, q0), (x1, q1), (x2, q2), (x3, q3)], _, hx1, e0, e1, e2, e3 =>
    simp only [List.map_cons, List.map_nil, List.cons.injEq, and_true] at hx1
    obtain ⟨⟨r0, r1, r2, r3⟩, _⟩ := hx1
    subst r0 r1 r2 r3
    have hcs : cs0 = bcells := by
      apply Array.ext'
      rw [list4 cs0.toList hlen _ _ _ _ (str_cell e0) (str_cell e1) (str_cell e2) (str_cell e3)]
      rfl
    subst hcs
    exact heap_of_var gBlk hv0
set_option maxRecDepth 100000 in
theorem marks_of {W : World} (h : LaidAt W "manyhands/export.markNames" Rows.laid_manyhands_export_markNames) : Marks W := by
  obtain ⟨g0, t0, cs0, f0, p0, hg0, ht0, hv0, hd0⟩ := h
  obtain rfl := Option.some.inj (gMrk.symm.trans hg0)
  obtain rfl := Option.some.inj (tMrk.symm.trans ht0)
  obtain ⟨xs, m1, rfl, hx1, hlen, hn2, hel⟩ := DataW.trod_array Tryz.underlying99 hd0
  simp only [Prod.mk.injEq, DataW.agg.injEq, Rows.laid_manyhands_export_markNames] at hx1
  rw [c124] at hlen
  have e0 := hel 0 (by decide)
  have e1 := hel 1 (by decide)
  rw [c123] at e0 e1
  match xs, hn2, hx1, e0, e1 with
  | [(x0, q0), (x1, q1)], _, hx1, e0, e1 =>
    simp only [List.map_cons, List.map_nil, List.cons.injEq, and_true] at hx1
    obtain ⟨⟨r0, r1⟩, _⟩ := hx1
    subst r0 r1
    have hcs : cs0 = mcells := by
      apply Array.ext'
      rw [list22 cs0.toList hlen _ _ _ _ (mark_cells e0) (mark_cells e1)]
      rfl
    subst hcs
    exact heap_of_var gMrk hv0

theorem of_laid {W : World} (h : laidMetH Tryz.prog laid4 W) : Tabs W := by
  rw [MakeChecks.laidMetH_plain _ _ _ (by kernel_rfl)] at h
  obtain ⟨ps, h1, _⟩ := h
  obtain ⟨a1, q1, h2⟩ := vars_split h1
  obtain ⟨a2, q2, h3⟩ := vars_split h2
  obtain ⟨a3, q3, h4⟩ := vars_split h3
  obtain ⟨a4, q4, _⟩ := vars_split h4
  exact ⟨sch_of a2, pairs_of a1, blocks_of a3, marks_of a4⟩

theorem met4 (os : Os) (args : Array Value) : laidMetH Tryz.prog laid4 ((World.laidAll Tryz.prog os laid4).forCall (fun _ _ => 0) ⟨#[], args, []⟩).memory := by
  rw [MakeChecks.laidMetH_plain _ _ _ (by kernel_rfl)]
  exact laidMet_laidAll _ (by kernel_rfl) (by kernel_rfl)
end Go.Proofs.YtpcaiechaakhnabGreatDoor
