/-
  Texts of this proof, one behind the other.
-/
import Derived.Test.YtbhcklkbckacpaaGreatDoorG5
import Derived.Deep.Slices
import Derived.Deep.Strs
import Derived.Lib.SmallJoins
import Derived.ProofKit
import Derived.Test.YtbhcklkbckacpaaGreatDoorXq
import Derived.Test.YtbhcklkbckacpaaGreatDoorRows
import Derived.LaidMore
import Derived.Lay
import Derived.OpenShut
import Derived.Stop.Joined
import Derived.Test.YtbhcklkbckacpaaGreatDoorG3
import Derived.HandedShaped
import Derived.Shelf.Vars
import Derived.SizedLaws
import Derived.Test.YtbhcklkbckacpaaGreatDoorG13
import Derived.Lib.LaidTab

/-
  From the reading of an argument as data to the items in memory.
-/
namespace Go.Proofs.YtbhcklkbckacpaaGreatDoor
open Go.ChangeShapes Go.WideShapes Go.ChangeAt Go.WideMaps Go.WideElems Go.RowKit

section
variable {H : Type} {enc : TypeId × Value → H} {w : World} {base : Nat} {spare : Nat → Bool} {held : Bool}

end
end Go.Proofs.YtbhcklkbckacpaaGreatDoor

/-
  From the rows' condition, that the four listed variables read as the listed data, to their cells in memory; and that a heap with those variables laid meets the condition.
-/
namespace Go.Proofs.YtbhcklkbckacpaaGreatDoor
open Go.ChangeShapes Go.WideShapes Go.ChangeAt Go.WideMaps Go.WideElems Go.RowKit

theorem own : ownKnob Tryz.prog.godebug = none := by kernel_rfl
theorem gPairs : Tryz.prog.globalNamed "manyhands/escape.pairs" = some 7 := by kernel_rfl
theorem tPairs : (Tryz.prog.globals[7]?).map (·.type) = some 343 := by kernel_rfl
theorem gSch : Tryz.prog.globalNamed "manyhands/link.schemes" = some 8 := by kernel_rfl
theorem tSch : (Tryz.prog.globals[8]?).map (·.type) = some 380 := by kernel_rfl
theorem gBlk : Tryz.prog.globalNamed "manyhands/export.blockNames" = some 2 := by kernel_rfl
theorem tBlk : (Tryz.prog.globals[2]?).map (·.type) = some 257 := by kernel_rfl
theorem gMrk : Tryz.prog.globalNamed "manyhands/export.markNames" = some 3 := by kernel_rfl
theorem tMrk : (Tryz.prog.globals[3]?).map (·.type) = some 260 := by kernel_rfl
theorem c3 : Tryz.prog.cellsOf 3 = 1 := by kernel_rfl
theorem c5 : Tryz.prog.cellsOf 5 = 1 := by kernel_rfl
theorem c9 : Tryz.prog.cellsOf 9 = 1 := by kernel_rfl
theorem c80 : Tryz.prog.cellsOf 342 = 2 := by kernel_rfl
theorem c81 : Tryz.prog.cellsOf 343 = 8 := by kernel_rfl
theorem c108 : Tryz.prog.cellsOf 380 = 3 := by kernel_rfl
theorem c121 : Tryz.prog.cellsOf 257 = 4 := by kernel_rfl
theorem c123 : Tryz.prog.cellsOf 259 = 2 := by kernel_rfl
theorem c124 : Tryz.prog.cellsOf 260 = 4 := by kernel_rfl

def LaidAt (W : World) (n : String) (d : DataW Unit) : Prop :=
  ∃ g t cs fuel p, Tryz.prog.globalNamed n = some g ∧ (Tryz.prog.globals[g]?).map (·.type) = some t ∧ W.var? Tryz.prog n = some cs ∧ DataW.trod (fun _ => ()) Tryz.prog W 0 (fun _ => true) false fuel t cs.toList = some (d, p)
theorem vars_split {W : World} {n : String} {d : DataW Unit} {r : List (String × DataW Unit)} {ps : List MemPlace} (h : DataW.LaidVars Tryz.prog W ((n, d) :: r) ps) : LaidAt W n d ∧ ∃ q, DataW.LaidVars Tryz.prog W r q := by
  obtain ⟨g0, t0, cs0, f0, p0, q0, hg0, ht0, hv0, hd0, hr, _⟩ := h
  exact ⟨⟨g0, t0, cs0, f0, p0, hg0, ht0, hv0, hd0⟩, q0, hr⟩
theorem heap_of_var {W : World} {n : String} {g : Nat} {cs : Array Value} (hg : Tryz.prog.globalNamed n = some g) (h : W.var? Tryz.prog n = some cs) : ∃ t fr, W.heap[g]? = some (.cells cs t fr) := by
  simp only [World.var?, hg, Option.bind_some] at h
  split at h
  · rename_i cs' t fr hh
    simp at h
    subst h
    exact ⟨t, fr, hh⟩
  · cases h
theorem str_cell {W : World} {fuel : Nat} {cs : List Value} {l : List UInt8} {ps : List MemPlace}
    (h : DataW.trod (fun _ => ()) Tryz.prog W 0 (fun _ => true) false fuel 9 cs = some (.lit (.string l), ps)) : cs = [.string ⟨l.toArray⟩] := by
  obtain ⟨s, e, j, _⟩ := DataW.trod_string Tryz.underlying9 h
  simp at j
  rw [e, j.1]
theorem pair_cells {W : World} {fuel : Nat} {cs : List Value} {k : Int} {l : List UInt8} {ps : List MemPlace}
    (h : DataW.trod (fun _ => ()) Tryz.prog W 0 (fun _ => true) false fuel 342 cs = some (.agg [.lit (.int .u8 k), .lit (.string l)], ps)) : cs = [.int .u8 k, .string ⟨l.toArray⟩] := by
  obtain ⟨y0, y1, n, hx, hl, h0, h1⟩ := trod_struct2 Tryz.underlying342 h
  simp only [Prod.mk.injEq, DataW.agg.injEq, List.cons.injEq, and_true] at hx
  simp only [c5, c9] at h0 h1
  rw [c80] at hl
  match cs, hl with
  | [a, b], _ =>
    obtain ⟨k', e0, r0, _⟩ := DataW.trod_int Tryz.underlying5 h0
    obtain ⟨s', e1, r1, _⟩ := DataW.trod_string Tryz.underlying9 h1
    simp at e0 e1
    subst e0 e1
    rw [r0, r1] at hx
    simp at hx
    obtain ⟨⟨hk, hs⟩, _⟩ := hx
    subst hk
    have : s' = ⟨l.toArray⟩ := by rw [hs]
    rw [this]
theorem mark_cells {W : World} {fuel : Nat} {cs : List Value} {k : Int} {l : List UInt8} {ps : List MemPlace}
    (h : DataW.trod (fun _ => ()) Tryz.prog W 0 (fun _ => true) false fuel 259 cs = some (.agg [.lit (.int .i64 k), .lit (.string l)], ps)) : cs = [.int .i64 k, .string ⟨l.toArray⟩] := by
  obtain ⟨y0, y1, n, hx, hl, h0, h1⟩ := trod_struct2 Tryz.underlying259 h
  simp only [Prod.mk.injEq, DataW.agg.injEq, List.cons.injEq, and_true] at hx
  simp only [c3, c9] at h0 h1
  rw [c123] at hl
  match cs, hl with
  | [a, b], _ =>
    obtain ⟨k', e0, r0, _⟩ := DataW.trod_int Tryz.underlying3 h0
    obtain ⟨s', e1, r1, _⟩ := DataW.trod_string Tryz.underlying9 h1
    simp at e0 e1
    subst e0 e1
    rw [r0, r1] at hx
    simp at hx
    obtain ⟨⟨hk, hs⟩, _⟩ := hx
    subst hk
    have : s' = ⟨l.toArray⟩ := by rw [hs]
    rw [this]
theorem list3 {α : Type} (l : List α) (h : l.length = 3) (a b c : α) (h0 : (l.drop (0 * 1)).take 1 = [a]) (h1 : (l.drop (1 * 1)).take 1 = [b]) (h2 : (l.drop (2 * 1)).take 1 = [c]) : l = [a, b, c] := by
  match l, h with
  | [x0, x1, x2], _ => simp at h0 h1 h2; simp [h0, h1, h2]
theorem list4 {α : Type} (l : List α) (h : l.length = 4) (a b c d : α) (h0 : (l.drop (0 * 1)).take 1 = [a]) (h1 : (l.drop (1 * 1)).take 1 = [b]) (h2 : (l.drop (2 * 1)).take 1 = [c]) (h3 : (l.drop (3 * 1)).take 1 = [d]) : l = [a, b, c, d] := by
  match l, h with
  | [x0, x1, x2, x3], _ => simp at h0 h1 h2 h3; simp [h0, h1, h2, h3]
theorem list22 {α : Type} (l : List α) (h : l.length = 4) (a b c d : α) (h0 : (l.drop (0 * 2)).take 2 = [a, b]) (h1 : (l.drop (1 * 2)).take 2 = [c, d]) : l = [a, b, c, d] := by
  match l, h with
  | [x0, x1, x2, x3], _ => simp at h0 h1; simp [h0, h1]
theorem list8 {α : Type} (l : List α) (h : l.length = 8) (a b c d e f g i : α) (h0 : (l.drop (0 * 2)).take 2 = [a, b]) (h1 : (l.drop (1 * 2)).take 2 = [c, d]) (h2 : (l.drop (2 * 2)).take 2 = [e, f]) (h3 : (l.drop (3 * 2)).take 2 = [g, i]) : l = [a, b, c, d, e, f, g, i] := by
  match l, h with
  | [x0, x1, x2, x3, x4, x5, x6, x7], _ => simp at h0 h1 h2 h3; simp [h0, h1, h2, h3]

set_option maxRecDepth 100000 in
theorem pairs_of {W : World} (h : LaidAt W "manyhands/escape.pairs" Rows.laid_manyhands_escape_pairs) : Pairs W := by
  obtain ⟨g0, t0, cs0, f0, p0, hg0, ht0, hv0, hd0⟩ := h
  obtain rfl := Option.some.inj (gPairs.symm.trans hg0)
  obtain rfl := Option.some.inj (tPairs.symm.trans ht0)
  obtain ⟨xs, m1, rfl, hx1, hlen, hn4, hel⟩ := DataW.trod_array Tryz.underlying343 hd0
  simp only [Prod.mk.injEq, DataW.agg.injEq, Rows.laid_manyhands_escape_pairs] at hx1
  rw [c81] at hlen
  have e0 := hel 0 (by decide)
  have e1 := hel 1 (by decide)
  have e2 := hel 2 (by decide)
  have e3 := hel 3 (by decide)
  rw [c80] at e0 e1 e2 e3
  match xs, hn4, hx1, e0, e1, e2, e3 with
  | [(x0, q0), (x1, q1), (x2, q2), (x3, q3)], _, hx1, e0, e1, e2, e3 =>
    simp only [List.map_cons, List.map_nil, List.cons.injEq, and_true] at hx1
    obtain ⟨⟨r0, r1, r2, r3⟩, _⟩ := hx1
    subst r0 r1 r2 r3
    have hcs : cs0 = pcells := by
      apply Array.ext'
      rw [list8 cs0.toList hlen _ _ _ _ _ _ _ _ (pair_cells e0) (pair_cells e1) (pair_cells e2) (pair_cells e3)]
      rfl
    subst hcs
    exact heap_of_var gPairs hv0
set_option maxRecDepth 100000 in
theorem sch_of {W : World} (h : LaidAt W "manyhands/link.schemes" Rows.laid_manyhands_link_schemes) : Sch W := by
  obtain ⟨g0, t0, cs0, f0, p0, hg0, ht0, hv0, hd0⟩ := h
  obtain rfl := Option.some.inj (gSch.symm.trans hg0)
  obtain rfl := Option.some.inj (tSch.symm.trans ht0)
  obtain ⟨xs, m1, rfl, hx1, hlen, hn3, hel⟩ := DataW.trod_array Tryz.underlying380 hd0
  simp only [Prod.mk.injEq, DataW.agg.injEq, Rows.laid_manyhands_link_schemes] at hx1
  rw [c108] at hlen
  have e0 := hel 0 (by decide)
  have e1 := hel 1 (by decide)
  have e2 := hel 2 (by decide)
  rw [c9] at e0 e1 e2
  match xs, hn3, hx1, e0, e1, e2 with
  | [(x0, q0), (x1, q1), (x2, q2)], _, hx1, e0, e1, e2 =>
    simp only [List.map_cons, List.map_nil, List.cons.injEq, and_true] at hx1
    obtain ⟨⟨r0, r1, r2⟩, _⟩ := hx1
    subst r0 r1 r2
    have hcs : cs0 = scells := by
      apply Array.ext'
      rw [list3 cs0.toList hlen _ _ _ (str_cell e0) (str_cell e1) (str_cell e2)]
      rfl
    subst hcs
    exact heap_of_var gSch hv0
set_option maxRecDepth 100000 in
theorem blocks_of {W : World} (h : LaidAt W "manyhands/export.blockNames" Rows.laid_manyhands_export_blockNames) : Blocks W := by
  obtain ⟨g0, t0, cs0, f0, p0, hg0, ht0, hv0, hd0⟩ := h
  obtain rfl := Option.some.inj (gBlk.symm.trans hg0)
  obtain rfl := Option.some.inj (tBlk.symm.trans ht0)
  obtain ⟨xs, m1, rfl, hx1, hlen, hn4, hel⟩ := DataW.trod_array Tryz.underlying257 hd0
  simp only [Prod.mk.injEq, DataW.agg.injEq, Rows.laid_manyhands_export_blockNames] at hx1
  rw [c121] at hlen
  have e0 := hel 0 (by decide)
  have e1 := hel 1 (by decide)
  have e2 := hel 2 (by decide)
  have e3 := hel 3 (by decide)
  rw [c9] at e0 e1 e2 e3
  match xs, hn4, hx1, e0, e1, e2, e3 with
  | [(x0, q0), (x1, q1), (x2, q2), (x3, q3)], _, hx1, e0, e1, e2, e3 =>
    simp only [List.map_cons, List.map_nil, List.cons.injEq, and_true] at hx1
    obtain ⟨⟨r0, r1, r2, r3⟩, _⟩ := hx1
    subst r0 r1 r2 r3
    have hcs : cs0 = bcells := by
      apply Array.ext'
      rw [list4 cs0.toList hlen _ _ _ _ (str_cell e0) (str_cell e1) (str_cell e2) (str_cell e3)]
      rfl
    subst hcs
    exact heap_of_var gBlk hv0
set_option maxRecDepth 100000 in
theorem marks_of {W : World} (h : LaidAt W "manyhands/export.markNames" Rows.laid_manyhands_export_markNames) : Marks W := by
  obtain ⟨g0, t0, cs0, f0, p0, hg0, ht0, hv0, hd0⟩ := h
  obtain rfl := Option.some.inj (gMrk.symm.trans hg0)
  obtain rfl := Option.some.inj (tMrk.symm.trans ht0)
  obtain ⟨xs, m1, rfl, hx1, hlen, hn2, hel⟩ := DataW.trod_array Tryz.underlying260 hd0
  simp only [Prod.mk.injEq, DataW.agg.injEq, Rows.laid_manyhands_export_markNames] at hx1
  rw [c124] at hlen
  have e0 := hel 0 (by decide)
  have e1 := hel 1 (by decide)
  rw [c123] at e0 e1
  match xs, hn2, hx1, e0, e1 with
  | [(x0, q0), (x1, q1)], _, hx1, e0, e1 =>
    simp only [List.map_cons, List.map_nil, List.cons.injEq, and_true] at hx1
    obtain ⟨⟨r0, r1⟩, _⟩ := hx1
    subst r0 r1
    have hcs : cs0 = mcells := by
      apply Array.ext'
      rw [list22 cs0.toList hlen _ _ _ _ (mark_cells e0) (mark_cells e1)]
      rfl
    subst hcs
    exact heap_of_var gMrk hv0

end Go.Proofs.YtbhcklkbckacpaaGreatDoor

/-
  From the row's condition, that the variable 'pairs' of package escape reads as listed, to its cells in memory; from the reading of an argument to its bytes; the wrap of a row, with the world's shape kept for the contract.
-/
namespace Go.Proofs.YtbhcklkbckacpaaGreatDoor
open Go.ChangeShapes Go.WideShapes Go.ChangeAt Go.WideMaps Go.WideElems Go.RowKit

theorem ownT : ownKnob Tryz.prog.godebug = none := by kernel_rfl
theorem cU8 : Tryz.prog.cellsOf 5 = 1 := by kernel_rfl
theorem laidOutT : laidOutB Tryz.prog = true := by kernel_rfl
theorem mxl_of_shaped {W : World} (h : W.ShapedOpen Tryz.prog) : Mxl W :=
  cell_of_shapedOpen_int (g := 1) (t := 3) (zero := #[.int .i64 0]) h (of_decide_eq_true (by kernel_rfl)) (by kernel_rfl) rfl (by kernel_rfl) (by kernel_rfl) Tryz.underlying3
theorem wrap_kept {H : Type} {enc : TypeId × Value → H} {C : Checked} {os : Os} {f : FuncId} {fn : Func} {s : ChangeSpec} {X : World → Array Value → Prop}
    (hX : ∀ (w w' : World) (args : Array Value), w.heap = w'.heap → X w args → X w' args)
    (own : ownKnob C.prog.godebug = none) (started : os.Started) (noInit : C.prog.inits.idxOf? f = none) (hfn : C.prog.funcs[f]? = some fn)
    (witness : ∃ (w : World) (tape : Tape) (i : Input), w.os = os ∧ (w.forCall tape i).Shaped C.prog ∧ i.vars = [] ∧ Input.okWide C.prog (w.forCall tape i) .any w.heap.size f i ∧
      ((s.pre enc C.prog fn [] false (w.forCall tape i).memory i.args ∧ X (w.forCall tape i).memory i.args) ∧ sizedMet enc C.prog fn (OpenSpec.ofChange s) false (w.forCall tape i).memory i.args) ∧ Assume.holds {} C.prog (lone (Frame.enter C.prog f i.args .normal) [] (w.forCall tape i)))
    (contract : ∀ (W : World) (base : Nat) (args : Array Value) (ds gs : List (DataW H)) (before : List MemPlace),
      (∀ (j : Nat) t v, fn.params[j]? = some t → args[j]? = some v → Value.okWide C.prog W .any base t v) →
      DataW.Whole enc C.prog fn.params.toList s.vars false W args.toList ds gs before → (DataW.weightsEach C.prog (fn.params.toList ++ s.plain.varTypes C.prog) (ds ++ gs)).all (· ≤ reachBytes) = true → W.ShapedOpen C.prog → X W args →
      Calls C.prog f args W fun e W' => ∃ v, e = .returned v ∧ s.post enc C.prog fn false true false false W args v W') :
    ReturnsInHanded {} C os f .any (fun w args => (s.pre enc C.prog fn [] false w args ∧ X w args) ∧ sizedMet enc C.prog fn (OpenSpec.ofChange s) false w args) (s.post enc C.prog fn false true false false) := by
  refine returnsInHanded_of_calls own started noInit witness ?_
  intro w tape i _ hsh _ hok hpre hholds
  obtain ⟨_, _, _, fn', hfn', _, _, _, _, hval⟩ := hok
  have e : fn' = fn := Option.some.inj (hfn'.symm.trans hfn)
  subst e
  obtain ⟨⟨⟨ds, gs, before, hw, hc⟩, hx⟩, hz⟩ := hpre
  have hw' := DataW.Whole.of_heap (w' := w.forCall tape i) (by rfl) hw
  refine (contract (w.forCall tape i) w.heap.size i.args ds gs before hval hw' (hz.weights hw) hsh (hX _ _ _ (by rfl) hx)).mono fun e W' ⟨v, he, hp⟩ => ?_
  subst he
  exact ChangeSpec.post_blind hp

theorem byte8_of {n : Int} (h : (Lit.int .u8 n).wf = true) : ∃ c : UInt8, n = (c.toNat : Int) := by
  obtain ⟨h0, h1⟩ := bounds_u8 h
  exact ⟨UInt8.ofNat n.toNat, by rw [UInt8.toNat_ofNat']; omega⟩
section
variable {H : Type} {enc : TypeId × Value → H} {w : World} {base : Nat} {spare : Nat → Bool} {held : Bool}
theorem open_bytes {fuel : Nat} {t : TypeId} (ht : Tryz.prog.underlying t = some (.slice 5)) {ao : Option Addr} {n cap : Nat} {x : DataW H × List MemPlace} (h : DataW.trod enc Tryz.prog w base spare held fuel t [.slice ao n cap] = some x) :
    (∃ l, Byt w ao n cap l) ∧ (n = 0 ∨ ∃ el sp, x.1 = .slice el sp ∧ n ≤ el.length + sp.length) := by
  rcases Deep.open_slice1 ht cU8 h with ⟨hc, _⟩ | ⟨a, len, cap', m, k, V, D, Pl, hc, _, hl, hm, hmm, hxx, hx⟩
  · simp at hc
    obtain ⟨rfl, rfl, rfl⟩ := hc
    exact ⟨⟨[], Row.nil w 1⟩, .inl rfl⟩
  · simp at hc
    obtain ⟨rfl, rfl, rfl⟩ := hc
    have hnm : n ≤ m := by rw [hmm]; split <;> omega
    refine ⟨?_, .inr ⟨_, _, by rw [hxx], by simp⟩⟩
    have ex : ∀ i, i < n → ∃ c : UInt8, w.cell? (a.add i) = some (.int .u8 c.toNat) := by
      intro i hi
      obtain ⟨h1, h2⟩ := hx i (by omega)
      obtain ⟨k', e0, _, w0⟩ := DataW.trod_int Tryz.underlying5 h2
      obtain ⟨c, hcc⟩ := byte8_of w0
      simp at e0
      exact ⟨c, by rw [h1, e0, hcc]⟩
    obtain ⟨f, hf⟩ := Deep.choose_lt ex
    refine ⟨(List.range n).map f, by simp, hl, by unfold maxLen at hm; exact hm, fun hn => ?_⟩
    obtain ⟨b, off, spot⟩ := a
    have hspot : spot = none := by
      have := World.cell?_spot (hf 0 (by omega))
      simpa [Addr.add] using this
    subst hspot
    refine ⟨b, off, rfl, fun j u hu => ?_⟩
    have hj : j < n := by
      have := (List.getElem?_eq_some_iff.1 hu).1
      simpa using this
    have hadd : (⟨b, off, none⟩ : Addr).add j = ⟨b, off + j, none⟩ := Go.WideShapes.add_plain ..
    have := hf j hj
    rw [hadd] at this
    rw [this, ← hu]
    simp [b8, hj]
end
end Go.Proofs.YtbhcklkbckacpaaGreatDoor

/-
  The variables that the laws of stage 6 read, as their rows lay them.
-/
namespace Go.Proofs.YtbhcklkbckacpaaGreatDoor
open Go.ChangeShapes Go.WideShapes Go.ChangeAt Go.WideMaps Go.WideElems Go.RowKit

theorem gBn : Tryz.prog.globalNamed "manyhands/sanitize.blockNames" = some 5 := by kernel_rfl
theorem tBn : (Tryz.prog.globals[5]?).map (·.type) = some 294 := by kernel_rfl
theorem gHn : Tryz.prog.globalNamed "manyhands/sanitize.hidingNames" = some 6 := by kernel_rfl
theorem tHn : (Tryz.prog.globals[6]?).map (·.type) = some 295 := by kernel_rfl
theorem cBn : Tryz.prog.cellsOf 293 = 2 := by kernel_rfl
theorem cBns : Tryz.prog.cellsOf 294 = 10 := by kernel_rfl
theorem cHns : Tryz.prog.cellsOf 295 = 9 := by kernel_rfl
theorem bn_cells {W : World} {fuel : Nat} {cs : List Value} {k : Int} {l : List UInt8} {ps : List MemPlace}
    (h : DataW.trod (fun _ => ()) Tryz.prog W 0 (fun _ => true) false fuel 293 cs = some (.agg [.lit (.string l), .lit (.int .i64 k)], ps)) : cs = [.string ⟨l.toArray⟩, .int .i64 k] := by
  obtain ⟨y0, y1, n, hx, hl, h0, h1⟩ := trod_struct2 Tryz.underlying293 h
  simp only [Prod.mk.injEq, DataW.agg.injEq, List.cons.injEq, and_true] at hx
  simp only [c3, c9] at h0 h1
  rw [cBn] at hl
  match cs, hl with
  | [a, b], _ =>
    obtain ⟨s', e0, r0, _⟩ := DataW.trod_string Tryz.underlying9 h0
    obtain ⟨k', e1, r1, _⟩ := DataW.trod_int Tryz.underlying3 h1
    simp at e0 e1
    subst e0 e1
    rw [r0, r1] at hx
    simp at hx
    obtain ⟨⟨hs, hk⟩, _⟩ := hx
    subst hk
    have : s' = ⟨l.toArray⟩ := by rw [hs]
    rw [this]
theorem list10 {α : Type} (l : List α) (h : l.length = 10) (a0 a1 a2 a3 a4 a5 a6 a7 a8 a9 : α) (h0 : (l.drop (0 * 2)).take 2 = [a0, a1]) (h1 : (l.drop (1 * 2)).take 2 = [a2, a3]) (h2 : (l.drop (2 * 2)).take 2 = [a4, a5]) (h3 : (l.drop (3 * 2)).take 2 = [a6, a7]) (h4 : (l.drop (4 * 2)).take 2 = [a8, a9]) : l = [a0, a1, a2, a3, a4, a5, a6, a7, a8, a9] := by
  match l, h with
  | [x0, x1, x2, x3, x4, x5, x6, x7, x8, x9], _ => simp at h0 h1 h2 h3 h4; simp [h0, h1, h2, h3, h4]
theorem list9 {α : Type} (l : List α) (h : l.length = 9) (a0 a1 a2 a3 a4 a5 a6 a7 a8 : α) (h0 : (l.drop (0 * 1)).take 1 = [a0]) (h1 : (l.drop (1 * 1)).take 1 = [a1]) (h2 : (l.drop (2 * 1)).take 1 = [a2]) (h3 : (l.drop (3 * 1)).take 1 = [a3]) (h4 : (l.drop (4 * 1)).take 1 = [a4]) (h5 : (l.drop (5 * 1)).take 1 = [a5]) (h6 : (l.drop (6 * 1)).take 1 = [a6]) (h7 : (l.drop (7 * 1)).take 1 = [a7]) (h8 : (l.drop (8 * 1)).take 1 = [a8]) : l = [a0, a1, a2, a3, a4, a5, a6, a7, a8] := by
  match l, h with
  | [x0, x1, x2, x3, x4, x5, x6, x7, x8], _ => simp at h0 h1 h2 h3 h4 h5 h6 h7 h8; simp [h0, h1, h2, h3, h4, h5, h6, h7, h8]
set_option maxRecDepth 100000 in
theorem bn_of {W : World} (h : LaidAt W "manyhands/sanitize.blockNames" Rows.laid_manyhands_sanitize_blockNames) : Bn W := by
  obtain ⟨g0, t0, cs0, f0, p0, hg0, ht0, hv0, hd0⟩ := h
  obtain rfl := Option.some.inj (gBn.symm.trans hg0)
  obtain rfl := Option.some.inj (tBn.symm.trans ht0)
  obtain ⟨xs, m1, rfl, hx1, hlen, hnn, hel⟩ := DataW.trod_array Tryz.underlying294 hd0
  simp only [Prod.mk.injEq, DataW.agg.injEq, Rows.laid_manyhands_sanitize_blockNames] at hx1
  rw [cBns] at hlen
  have e0 := hel 0 (by decide)
  have e1 := hel 1 (by decide)
  have e2 := hel 2 (by decide)
  have e3 := hel 3 (by decide)
  have e4 := hel 4 (by decide)
  rw [cBn] at e0 e1 e2 e3 e4
  match xs, hnn, hx1, e0, e1, e2, e3, e4 with
  | [(x0, q0), (x1, q1), (x2, q2), (x3, q3), (x4, q4)], _, hx1, e0, e1, e2, e3, e4 =>
    simp only [List.map_cons, List.map_nil, List.cons.injEq, and_true] at hx1
    obtain ⟨⟨r0, r1, r2, r3, r4⟩, _⟩ := hx1
    subst r0 r1 r2 r3 r4
    have hcs : cs0 = bncells := by
      apply Array.ext'
      rw [list10 cs0.toList hlen _ _ _ _ _ _ _ _ _ _ (bn_cells e0) (bn_cells e1) (bn_cells e2) (bn_cells e3) (bn_cells e4)]
      rfl
    subst hcs
    exact heap_of_var gBn hv0
set_option maxRecDepth 100000 in
theorem hn_of {W : World} (h : LaidAt W "manyhands/sanitize.hidingNames" Rows.laid_manyhands_sanitize_hidingNames) : Hn W := by
  obtain ⟨g0, t0, cs0, f0, p0, hg0, ht0, hv0, hd0⟩ := h
  obtain rfl := Option.some.inj (gHn.symm.trans hg0)
  obtain rfl := Option.some.inj (tHn.symm.trans ht0)
  obtain ⟨xs, m1, rfl, hx1, hlen, hnn, hel⟩ := DataW.trod_array Tryz.underlying295 hd0
  simp only [Prod.mk.injEq, DataW.agg.injEq, Rows.laid_manyhands_sanitize_hidingNames] at hx1
  rw [cHns] at hlen
  have e0 := hel 0 (by decide)
  have e1 := hel 1 (by decide)
  have e2 := hel 2 (by decide)
  have e3 := hel 3 (by decide)
  have e4 := hel 4 (by decide)
  have e5 := hel 5 (by decide)
  have e6 := hel 6 (by decide)
  have e7 := hel 7 (by decide)
  have e8 := hel 8 (by decide)
  rw [c9] at e0 e1 e2 e3 e4 e5 e6 e7 e8
  match xs, hnn, hx1, e0, e1, e2, e3, e4, e5, e6, e7, e8 with
  | [(x0, q0), (x1, q1), (x2, q2), (x3, q3), (x4, q4), (x5, q5), (x6, q6), (x7, q7), (x8, q8)], _, hx1, e0, e1, e2, e3, e4, e5, e6, e7, e8 =>
    simp only [List.map_cons, List.map_nil, List.cons.injEq, and_true] at hx1
    obtain ⟨⟨r0, r1, r2, r3, r4, r5, r6, r7, r8⟩, _⟩ := hx1
    subst r0 r1 r2 r3 r4 r5 r6 r7 r8
    have hcs : cs0 = hncells := by
      apply Array.ext'
      rw [list9 cs0.toList hlen _ _ _ _ _ _ _ _ _ (str_cell e0) (str_cell e1) (str_cell e2) (str_cell e3) (str_cell e4) (str_cell e5) (str_cell e6) (str_cell e7) (str_cell e8)]
      rfl
    subst hcs
    exact heap_of_var gHn hv0

end Go.Proofs.YtbhcklkbckacpaaGreatDoor

/-
  From the row's condition, that ten package variables read as listed, to their cells in memory.
-/
namespace Go.Proofs.YtbhcklkbckacpaaGreatDoor
open Go.ChangeShapes Go.WideShapes Go.ChangeAt Go.WideMaps Go.WideElems Go.RowKit
theorem gAs : Tryz.prog.globalNamed "strings.asciiSpace" = some 0 := by kernel_rfl
theorem tAs : (Tryz.prog.globals[0]?).map (·.type) = some 182 := by kernel_rfl
theorem cAs : Tryz.prog.cellsOf 182 = 256 := by kernel_rfl
theorem dAs : (Rows.laid_strings_asciiSpace : DataW Unit) = Lib.tabData .u8 Lib.asciiSpaceTab := by kernel_rfl
theorem ascii_of {W : World} (h : LaidAt W "strings.asciiSpace" Rows.laid_strings_asciiSpace) : Lib.TabIs Tryz.prog W "strings.asciiSpace" .u8 Lib.asciiSpaceTab := by
  obtain ⟨g, t, cs, fuel, p, hg, ht, hv, hd⟩ := h
  obtain rfl := Option.some.inj (gAs.symm.trans hg)
  obtain rfl := Option.some.inj (tAs.symm.trans ht)
  rw [dAs] at hd
  have hc := Lib.cells_of_tab Tryz.underlying182 Tryz.underlying5 cU8 cAs hd
  unfold Lib.TabIs
  rw [hv, ← hc]
theorem tab_below {W W' : World} (h : Lib.TabIs Tryz.prog W "strings.asciiSpace" .u8 Lib.asciiSpaceTab) (hb : Below W.heap.size W W') : Lib.TabIs Tryz.prog W' "strings.asciiSpace" .u8 Lib.asciiSpaceTab := by
  obtain ⟨t, fr, hh⟩ := heap_of_var gAs h
  unfold Lib.TabIs
  simp only [World.var?, gAs, Option.bind_some]
  rw [(hb.block _ (Array.getElem?_eq_some_iff.1 hh).1).trans hh]
def laid10 : List (String × DataW Unit) := [("unicode/utf8.acceptRanges", Rows.laid_unicode_utf8_acceptRanges), ("unicode.White_Space", Rows.laid_unicode_White_Space), ("strings.asciiSpace", Rows.laid_strings_asciiSpace), ("manyhands/escape.pairs", Rows.laid_manyhands_escape_pairs), ("manyhands/link.schemes", Rows.laid_manyhands_link_schemes), ("manyhands/export.blockNames", Rows.laid_manyhands_export_blockNames), ("manyhands/export.markNames", Rows.laid_manyhands_export_markNames), ("manyhands/sanitize.blockNames", Rows.laid_manyhands_sanitize_blockNames), ("manyhands/sanitize.hidingNames", Rows.laid_manyhands_sanitize_hidingNames), ("unicode/utf8.first", Rows.laid_unicode_utf8_first)]
theorem of_laid10 {W : World} (h : laidMetH Tryz.prog laid10 W) (hsh : W.ShapedOpen Tryz.prog) : Tz W ∧ Lib.TabIs Tryz.prog W "strings.asciiSpace" .u8 Lib.asciiSpaceTab := by
  rw [MakeChecks.laidMetH_plain _ _ _ (by kernel_rfl)] at h
  obtain ⟨ps, h1, _⟩ := h
  obtain ⟨_, q0, h1⟩ := vars_split h1
  obtain ⟨_, q1, h1⟩ := vars_split h1
  obtain ⟨a1, q1', h2⟩ := vars_split h1
  obtain ⟨a2, q2, h3⟩ := vars_split h2
  obtain ⟨a3, q3, h4⟩ := vars_split h3
  obtain ⟨a4, q4, h5⟩ := vars_split h4
  obtain ⟨a5, q5, h6⟩ := vars_split h5
  obtain ⟨a6, q6, h7⟩ := vars_split h6
  obtain ⟨a7, q7, _⟩ := vars_split h7
  exact ⟨⟨⟨sch_of a3, pairs_of a2, blocks_of a4, marks_of a5⟩, bn_of a6, hn_of a7, mxl_of_shaped hsh⟩, ascii_of a1⟩
theorem met10 (os : Os) (args : Array Value) : laidMetH Tryz.prog laid10 ((World.laidAll Tryz.prog os laid10).forCall (fun _ _ => 0) ⟨#[], args, []⟩).memory := by
  rw [MakeChecks.laidMetH_plain _ _ _ (by kernel_rfl)]
  exact laidMet_laidAll _ (by kernel_rfl) (by kernel_rfl)
end Go.Proofs.YtbhcklkbckacpaaGreatDoor
