/-
  From the rows' condition, that the variable 'pairs' reads as the listed datum, to its cells in memory; and that the heap which the program's own initialisers leave meets the condition.
-/
import Derived.Test.YtmifcioccnmlaaaDoorAw
import Derived.ProofKit
import Derived.LaidMore
import Derived.OpenShut
import Derived.Stop.Joined
namespace Go.Proofs.YtmifcioccnmlaaaDoor
open Go.ChangeShapes Go.WideShapes Go.ChangeAt Go.WideMaps Go.WideElems Go.RowKit

/-- The rows' list of variables. -/
def laid1 : List (String × DataW Unit) := [("manyhands/escape.pairs", Rows.laid_manyhands_escape_pairs)]

theorem own : ownKnob Tryd.prog.godebug = none := by kernel_rfl
theorem gPairs : Tryd.prog.globalNamed "manyhands/escape.pairs" = some 0 := by kernel_rfl
theorem tPairs : (Tryd.prog.globals[0]?).map (·.type) = some 81 := by kernel_rfl
theorem c5 : Tryd.prog.cellsOf 5 = 1 := by kernel_rfl
theorem c9 : Tryd.prog.cellsOf 9 = 1 := by kernel_rfl
theorem c39 : Tryd.prog.cellsOf 80 = 2 := by kernel_rfl
theorem c40 : Tryd.prog.cellsOf 81 = 8 := by kernel_rfl

theorem door_met (os : Os) (args : Array Value) : laidMetH Tryd.prog laid1 ((World.doorLaid Tryd.prog 400 os).forCall (fun _ _ => 0) ⟨#[], args, []⟩).memory :=
  laidMetH_of_parts3 (fuel := 8) (laidMet_of_run' 8 (by kernel_rfl) (by kernel_rfl)) (by kernel_rfl) (by kernel_rfl)

theorem pair_cells {H : Type} {enc : TypeId × Value → H} {W : World} {base fuel : Nat} {spare : Nat → Bool} {held : Bool} {cs : List Value} {k : Int} {l : List UInt8} {ps : List MemPlace}
    (h : DataW.trod enc Tryd.prog W base spare held fuel 80 cs = some (.agg [.lit (.int .u8 k), .lit (.string l)], ps)) : cs = [.int .u8 k, .string ⟨l.toArray⟩] := by
  obtain ⟨y0, y1, n, hx, hl, h0, h1⟩ := trod_struct2 Tryd.underlying80 h
  simp only [Prod.mk.injEq, DataW.agg.injEq, List.cons.injEq, and_true] at hx
  simp only [c5, c9] at h0 h1
  rw [c39] at hl
  match cs, hl with
  | [a, b], _ =>
    obtain ⟨k', e0, r0, _⟩ := DataW.trod_int Tryd.underlying5 h0
    obtain ⟨s', e1, r1, _⟩ := DataW.trod_string Tryd.underlying9 h1
    simp at e0 e1
    subst e0 e1
    rw [r0, r1] at hx
    simp at hx
    obtain ⟨⟨hk, hs⟩, _⟩ := hx
    subst hk
    have : s' = ⟨l.toArray⟩ := by rw [hs]
    rw [this]

theorem list8 {α : Type} (l : List α) (h : l.length = 8) (a b c d e f g i : α) (h0 : (l.drop (0 * 2)).take 2 = [a, b]) (h1 : (l.drop (1 * 2)).take 2 = [c, d]) (h2 : (l.drop (2 * 2)).take 2 = [e, f]) (h3 : (l.drop (3 * 2)).take 2 = [g, i]) : l = [a, b, c, d, e, f, g, i] := by
  match l, h with
  | [x0, x1, x2, x3, x4, x5, x6, x7], _ => simp at h0 h1 h2 h3; simp [h0, h1, h2, h3]

set_option maxRecDepth 100000 in
theorem of_laid {W : World} (h : laidMetH Tryd.prog laid1 W) : Pairs W := by
  rw [MakeChecks.laidMetH_plain _ _ _ (by kernel_rfl)] at h
  obtain ⟨ps, ⟨g0, t0, cs0, f0, p0, q0, hg0, ht0, hv0, hd0, _⟩, _, _⟩ := h
  obtain rfl := Option.some.inj (gPairs.symm.trans hg0)
  obtain rfl := Option.some.inj (tPairs.symm.trans ht0)
  obtain ⟨xs, m1, rfl, hx1, hlen, hn4, hel⟩ := DataW.trod_array Tryd.underlying81 hd0
  simp only [Prod.mk.injEq, DataW.agg.injEq, Rows.laid_manyhands_escape_pairs] at hx1
  rw [c40] at hlen
  have e0 := hel 0 (by decide)
  have e1 := hel 1 (by decide)
  have e2 := hel 2 (by decide)
  have e3 := hel 3 (by decide)
  rw [c39] at e0 e1 e2 e3
  match xs, hn4, hx1, e0, e1, e2, e3 with
  | [(x0, q0), (x1, q1), (x2, q2), (x3, q3)], _, hx1, e0, e1, e2, e3 =>
    simp only [List.map_cons, List.map_nil, List.cons.injEq, and_true] at hx1
    obtain ⟨⟨r0, r1, r2, r3⟩, _⟩ := hx1
    subst r0 r1 r2 r3
    have k0 := pair_cells e0
    have k1 := pair_cells e1
    have k2 := pair_cells e2
    have k3 := pair_cells e3
    have hall := list8 cs0.toList hlen _ _ _ _ _ _ _ _ k0 k1 k2 k3
    have hcs : cs0 = pcells := by
      apply Array.ext'
      rw [hall]
      rfl
    subst hcs
    simp only [World.var?, hg0, Option.bind_some] at hv0
    split at hv0
    · rename_i cs t fr hh
      simp at hv0
      subst hv0
      exact ⟨t, fr, hh⟩
    · cases hv0
end Go.Proofs.YtmifcioccnmlaaaDoor
