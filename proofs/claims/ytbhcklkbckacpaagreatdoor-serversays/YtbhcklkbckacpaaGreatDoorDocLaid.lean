/-
  From the rows' condition, that the listed variables read as the listed data, to the cells of 'schemes' in memory; and that a heap with those variables laid meets the condition.
-/
import Derived.Test.YtbhcklkbckacpaaGreatDoorM2
import Derived.Test.YtbhcklkbckacpaaGreatDoorRows
import Derived.ProofKit
import Derived.LaidMore
import Derived.Lay
import Derived.OpenShut
import Derived.Stop.Joined
namespace Go.Proofs.YtbhcklkbckacpaaGreatDoor
open Go.ChangeShapes Go.WideShapes Go.ChangeAt Go.WideMaps Go.WideElems Go.RowKit

theorem own : ownKnob Tryz.prog.godebug = none := by kernel_rfl
def laid1 : List (String × DataW Unit) := [("manyhands/link.schemes", Rows.laid_manyhands_link_schemes)]
theorem gSch : Tryz.prog.globalNamed "manyhands/link.schemes" = some 8 := by kernel_rfl
theorem tSch : (Tryz.prog.globals[8]?).map (·.type) = some 380 := by kernel_rfl
theorem c9 : Tryz.prog.cellsOf 9 = 1 := by kernel_rfl
theorem c79 : Tryz.prog.cellsOf 380 = 3 := by kernel_rfl

theorem str_cell {W : World} {fuel : Nat} {cs : List Value} {l : List UInt8} {ps : List MemPlace}
    (h : DataW.trod (fun _ => ()) Tryz.prog W 0 (fun _ => true) false fuel 9 cs = some (.lit (.string l), ps)) : cs = [.string ⟨l.toArray⟩] := by
  obtain ⟨s, e, j, _⟩ := DataW.trod_string Tryz.underlying9 h
  simp at j
  rw [e, j.1]
theorem list3 {α : Type} (l : List α) (h : l.length = 3) (a b c : α) (h0 : (l.drop (0 * 1)).take 1 = [a]) (h1 : (l.drop (1 * 1)).take 1 = [b]) (h2 : (l.drop (2 * 1)).take 1 = [c]) : l = [a, b, c] := by
  match l, h with
  | [x0, x1, x2], _ => simp at h0 h1 h2; simp [h0, h1, h2]

set_option maxRecDepth 100000 in
theorem of_vars {W : World} {l : List (String × DataW Unit)} {ps : List MemPlace} (h : DataW.LaidVars Tryz.prog W (("manyhands/link.schemes", Rows.laid_manyhands_link_schemes) :: l) ps) : Sch W := by
  obtain ⟨g0, t0, cs0, f0, p0, q0, hg0, ht0, hv0, hd0, _⟩ := h
  obtain rfl := Option.some.inj (gSch.symm.trans hg0)
  obtain rfl := Option.some.inj (tSch.symm.trans ht0)
  obtain ⟨xs, m1, rfl, hx1, hlen, hn3, hel⟩ := DataW.trod_array Tryz.underlying380 hd0
  simp only [Prod.mk.injEq, DataW.agg.injEq, Rows.laid_manyhands_link_schemes] at hx1
  rw [c79] at hlen
  have e0 := hel 0 (by decide)
  have e1 := hel 1 (by decide)
  have e2 := hel 2 (by decide)
  rw [c9] at e0 e1 e2
  match xs, hn3, hx1, e0, e1, e2 with
  | [(x0, q0), (x1, q1), (x2, q2)], _, hx1, e0, e1, e2 =>
    simp only [List.map_cons, List.map_nil, List.cons.injEq, and_true] at hx1
    obtain ⟨⟨r0, r1, r2⟩, _⟩ := hx1
    subst r0 r1 r2
    have k0 := str_cell e0
    have k1 := str_cell e1
    have k2 := str_cell e2
    have hcs : cs0 = scells := by
      apply Array.ext'
      rw [list3 cs0.toList hlen _ _ _ k0 k1 k2]
      rfl
    subst hcs
    simp only [World.var?, hg0, Option.bind_some] at hv0
    split at hv0
    · rename_i cs t fr hh
      simp at hv0
      subst hv0
      exact ⟨t, fr, hh⟩
    · cases hv0

theorem of_laid {W : World} (h : laidMetH Tryz.prog laid1 W) : Sch W := by
  rw [MakeChecks.laidMetH_plain _ _ _ (by kernel_rfl)] at h
  obtain ⟨ps, h1, _⟩ := h
  exact of_vars h1

theorem met1 (os : Os) (args : Array Value) : laidMetH Tryz.prog laid1 ((World.laidAll Tryz.prog os laid1).forCall (fun _ _ => 0) ⟨#[], args, []⟩).memory := by
  rw [MakeChecks.laidMetH_plain _ _ _ (by kernel_rfl)]
  exact laidMet_laidAll _ (by kernel_rfl) (by kernel_rfl)
end Go.Proofs.YtbhcklkbckacpaaGreatDoor
