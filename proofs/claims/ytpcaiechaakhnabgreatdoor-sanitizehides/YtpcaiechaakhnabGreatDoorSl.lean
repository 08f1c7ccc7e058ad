/-
  The variables that the laws of stage 6 read, as their rows lay them.
-/
import Derived.Test.YtpcaiechaakhnabGreatDoorSi
import Derived.Test.YtpcaiechaakhnabGreatDoorXl
import Derived.Test.YtpcaiechaakhnabGreatDoorDl
import Derived.Test.YtpcaiechaakhnabGreatDoorTla
namespace Go.Proofs.YtpcaiechaakhnabGreatDoor
open Go.ChangeShapes Go.WideShapes Go.ChangeAt Go.WideMaps Go.WideElems Go.RowKit

theorem gBn : Tryz.prog.globalNamed "manyhands/sanitize.blockNames" = some 5 := by kernel_rfl
theorem tBn : (Tryz.prog.globals[5]?).map (·.type) = some 142 := by kernel_rfl
theorem gHn : Tryz.prog.globalNamed "manyhands/sanitize.hidingNames" = some 6 := by kernel_rfl
theorem tHn : (Tryz.prog.globals[6]?).map (·.type) = some 143 := by kernel_rfl
theorem cBn : Tryz.prog.cellsOf 141 = 2 := by kernel_rfl
theorem cBns : Tryz.prog.cellsOf 142 = 10 := by kernel_rfl
theorem cHns : Tryz.prog.cellsOf 143 = 9 := by kernel_rfl
theorem bn_cells {W : World} {fuel : Nat} {cs : List Value} {k : Int} {l : List UInt8} {ps : List MemPlace}
    (h : DataW.trod (fun _ => ()) Tryz.prog W 0 (fun _ => true) false fuel 141 cs = some (.agg [.lit (.string l), .lit (.int .i64 k)], ps)) : cs = [.string ⟨l.toArray⟩, .int .i64 k] := by
  obtain ⟨y0, y1, n, hx, hl, h0, h1⟩ := trod_struct2 Tryz.underlying141 h
  simp only [Prod.mk.injEq, DataW.agg.injEq, List.cons.injEq, and_true] at hx
  simp only [c3, c9] at h0 h1
  rw [cBn] at hl
  match cs, hl with
  | [a, b], _ =>
    obtain ⟨s', e0, r0, _⟩ := DataW.trod_string Tryz.underlying9 h0
    obtain ⟨k', e1, r1, _⟩ := DataW.trod_int Tryz.underlying3 h1
    simp at e0 e1
    subst e0 e1
    rw [r0, r1] at hx
    simp at hx
    obtain ⟨⟨hs, hk⟩, _⟩ := hx
    subst hk
    have : s' = ⟨l.toArray⟩ := by rw [hs]
    rw [this]
theorem list10 {α : Type} (l : List α) (h : l.length = 10) (a0 a1 a2 a3 a4 a5 a6 a7 a8 a9 : α) (h0 : (l.drop (0 * 2)).take 2 = [a0, a1]) (h1 : (l.drop (1 * 2)).take 2 = [a2, a3]) (h2 : (l.drop (2 * 2)).take 2 = [a4, a5]) (h3 : (l.drop (3 * 2)).take 2 = [a6, a7]) (h4 : (l.drop (4 * 2)).take 2 = [a8, a9]) : l = [a0, a1, a2, a3, a4, a5, a6, a7, a8, a9] := by
  match l, h with
  | [x0, x1, x2, x3, x4, x5, x6, x7, x8, x9], _ => simp at h0 h1 h2 h3 h4; simp [h0, h1, h2, h3, h4]
theorem list9 {α : Type} (l : List α) (h : l.length = 9) (a0 a1 a2 a3 a4 a5 a6 a7 a8 : α) (h0 : (l.drop (0 * 1)).take 1 = [a0]) (h1 : (l.drop (1 * 1)).take 1 = [a1]) (h2 : (l.drop (2 * 1)).take 1 = [a2]) (h3 : (l.drop (3 * 1)).take 1 = [a3]) (h4 : (l.drop (4 * 1)).take 1 = [a4]) (h5 : (l.drop (5 * 1)).take 1 = [a5]) (h6 : (l.drop (6 * 1)).take 1 = [a6]) (h7 : (l.drop (7 * 1)).take 1 = [a7]) (h8 : (l.drop (8 * 1)).take 1 = [a8]) : l = [a0, a1, a2, a3, a4, a5, a6, a7, a8] := by
  match l, h with
  | [x0, x1, x2, x3, x4, x5, x6, x7, x8], _ => simp at h0 h1 h2 h3 h4 h5 h6 h7 h8; simp [h0, h1, h2, h3, h4, h5, h6, h7, h8]
set_option maxRecDepth 100000 in
theorem bn_of {W : World} (h : LaidAt W "manyhands/sanitize.blockNames" Rows.laid_manyhands_sanitize_blockNames) : Bn W := by
  obtain ⟨g0, t0, cs0, f0, p0, hg0, ht0, hv0, hd0⟩ := h
  obtain rfl := Option.some.inj (gBn.symm.trans hg0)
  obtain rfl := Option.some.inj (tBn.symm.trans ht0)
  obtain ⟨xs, m1, rfl, hx1, hlen, hnn, hel⟩ := DataW.trod_array Tryz.underlying142 hd0
  simp only [Prod.mk.injEq, DataW.agg.injEq, Rows.laid_manyhands_sanitize_blockNames] at hx1
  rw [cBns] at hlen
  have e0 := hel 0 (by decide)
  have e1 := hel 1 (by decide)
  have e2 := hel 2 (by decide)
  have e3 := hel 3 (by decide)
  have e4 := hel 4 (by decide)
  rw [cBn] at e0 e1 e2 e3 e4
  match xs, hnn, hx1, e0, e1, e2, e3, e4 with
  | [(x0, q0), (x1, q1), (x2, q2), (x3, q3), (x4, q4)], _, hx1, e0, e1, e2, e3, e4 =>
    simp only [List.map_cons, List.map_nil, List.cons.injEq, and_true] at hx1
    obtain ⟨⟨r0, r1, r2, r3, r4⟩, _⟩ := hx1
    subst r0 r1 r2 r3 r4
    have hcs : cs0 = bncells := by
      apply Array.ext'
      rw [list10 cs0.toList hlen _ _ _ _ _ _ _ _ _ _ (bn_cells e0) (bn_cells e1) (bn_cells e2) (bn_cells e3) (bn_cells e4)]
      rfl
    subst hcs
    exact heap_of_var gBn hv0
set_option maxRecDepth 100000 in
theorem hn_of {W : World} (h : LaidAt W "manyhands/sanitize.hidingNames" Rows.laid_manyhands_sanitize_hidingNames) : Hn W := by
  obtain ⟨g0, t0, cs0, f0, p0, hg0, ht0, hv0, hd0⟩ := h
  obtain rfl := Option.some.inj (gHn.symm.trans hg0)
  obtain rfl := Option.some.inj (tHn.symm.trans ht0)
  obtain ⟨xs, m1, rfl, hx1, hlen, hnn, hel⟩ := DataW.trod_array Tryz.underlying143 hd0
  simp only [Prod.mk.injEq, DataW.agg.injEq, Rows.laid_manyhands_sanitize_hidingNames] at hx1
  rw [cHns] at hlen
  have e0 := hel 0 (by decide)
  have e1 := hel 1 (by decide)
  have e2 := hel 2 (by decide)
  have e3 := hel 3 (by decide)
  have e4 := hel 4 (by decide)
  have e5 := hel 5 (by decide)
  have e6 := hel 6 (by decide)
  have e7 := hel 7 (by decide)
  have e8 := hel 8 (by decide)
  rw [c9] at e0 e1 e2 e3 e4 e5 e6 e7 e8
  match xs, hnn, hx1, e0, e1, e2, e3, e4, e5, e6, e7, e8 with
  | [(x0, q0), (x1, q1), (x2, q2), (x3, q3), (x4, q4), (x5, q5), (x6, q6), (x7, q7), (x8, q8)], _, hx1, e0, e1, e2, e3, e4, e5, e6, e7, e8 =>
    simp only [List.map_cons, List.map_nil, List.cons.injEq, and_true] at hx1
    obtain ⟨⟨r0, r1, r2, r3, r4, r5, r6, r7, r8⟩, _⟩ := hx1
    subst r0 r1 r2 r3 r4 r5 r6 r7 r8
    have hcs : cs0 = hncells := by
      apply Array.ext'
      rw [list9 cs0.toList hlen _ _ _ _ _ _ _ _ _ (str_cell e0) (str_cell e1) (str_cell e2) (str_cell e3) (str_cell e4) (str_cell e5) (str_cell e6) (str_cell e7) (str_cell e8)]
      rfl
    subst hcs
    exact heap_of_var gHn hv0

/-- The rows' list of variables. -/
def laid8 : List (String × DataW Unit) := [("unicode/utf8.acceptRanges", Rows.laid_unicode_utf8_acceptRanges), ("manyhands/escape.pairs", Rows.laid_manyhands_escape_pairs), ("manyhands/link.schemes", Rows.laid_manyhands_link_schemes), ("manyhands/export.blockNames", Rows.laid_manyhands_export_blockNames), ("manyhands/export.markNames", Rows.laid_manyhands_export_markNames), ("manyhands/sanitize.blockNames", Rows.laid_manyhands_sanitize_blockNames), ("manyhands/sanitize.hidingNames", Rows.laid_manyhands_sanitize_hidingNames), ("unicode/utf8.first", Rows.laid_unicode_utf8_first)]
theorem of_laid8 {W : World} (h : laidMetH Tryz.prog laid8 W) (hsh : W.ShapedOpen Tryz.prog) : Tz W := by
  rw [MakeChecks.laidMetH_plain _ _ _ (by kernel_rfl)] at h
  obtain ⟨ps, h1, _⟩ := h
  obtain ⟨_, q1, h2⟩ := vars_split h1
  obtain ⟨a2, q2, h3⟩ := vars_split h2
  obtain ⟨a3, q3, h4⟩ := vars_split h3
  obtain ⟨a4, q4, h5⟩ := vars_split h4
  obtain ⟨a5, q5, h6⟩ := vars_split h5
  obtain ⟨a6, q6, h7⟩ := vars_split h6
  obtain ⟨a7, q7, _⟩ := vars_split h7
  exact ⟨⟨sch_of a3, pairs_of a2, blocks_of a4, marks_of a5⟩, bn_of a6, hn_of a7, mxl_of_shaped hsh⟩
theorem met8 (os : Os) (args : Array Value) : laidMetH Tryz.prog laid8 ((World.laidAll Tryz.prog os laid8).forCall (fun _ _ => 0) ⟨#[], args, []⟩).memory := by
  rw [MakeChecks.laidMetH_plain _ _ _ (by kernel_rfl)]
  exact laidMet_laidAll _ (by kernel_rfl) (by kernel_rfl)
end Go.Proofs.YtpcaiechaakhnabGreatDoor
