/-
  From the row's condition, that the variable 'pairs' of package escape reads as listed, to its cells in memory; from the reading of an argument to its bytes; the wrap of a row, with the world's shape kept for the contract.
-/
import Derived.Test.YtbhcklkbckacpaaGreatDoorTn
import Derived.Test.YtbhcklkbckacpaaGreatDoorRows
import Derived.ProofKit
import Derived.LaidMore
import Derived.Lay
import Derived.OpenShut
import Derived.Stop.Joined
import Derived.HandedShaped
import Derived.Shelf.Vars
import Derived.Deep.Slices
import Derived.SizedLaws
namespace Go.Proofs.YtbhcklkbckacpaaGreatDoor
open Go.ChangeShapes Go.WideShapes Go.ChangeAt Go.WideMaps Go.WideElems Go.RowKit

theorem ownT : ownKnob Tryz.prog.godebug = none := by kernel_rfl
/-- The row's list of variables. -/
def laidP : List (String × DataW Unit) := [("manyhands/escape.pairs", Rows.laid_manyhands_escape_pairs)]
theorem gPairsT : Tryz.prog.globalNamed "manyhands/escape.pairs" = some 7 := by kernel_rfl
theorem tPairsT : (Tryz.prog.globals[7]?).map (·.type) = some 343 := by kernel_rfl
theorem cU8 : Tryz.prog.cellsOf 5 = 1 := by kernel_rfl
theorem bU8 : Tryz.prog.bytesOf 5 = 1 := by kernel_rfl
theorem cStr : Tryz.prog.cellsOf 9 = 1 := by kernel_rfl
theorem cPair : Tryz.prog.cellsOf 342 = 2 := by kernel_rfl
theorem cPairs : Tryz.prog.cellsOf 343 = 8 := by kernel_rfl
theorem laidOutT : laidOutB Tryz.prog = true := by kernel_rfl
theorem pairT_cells {W : World} {fuel : Nat} {cs : List Value} {k : Int} {l : List UInt8} {ps : List MemPlace}
    (h : DataW.trod (fun _ => ()) Tryz.prog W 0 (fun _ => true) false fuel 342 cs = some (.agg [.lit (.int .u8 k), .lit (.string l)], ps)) : cs = [.int .u8 k, .string ⟨l.toArray⟩] := by
  obtain ⟨y0, y1, n, hx, hl, h0, h1⟩ := trod_struct2 Tryz.underlying342 h
  simp only [Prod.mk.injEq, DataW.agg.injEq, List.cons.injEq, and_true] at hx
  simp only [cU8, cStr] at h0 h1
  rw [cPair] at hl
  match cs, hl with
  | [a, b], _ =>
    obtain ⟨k', e0, r0, _⟩ := DataW.trod_int Tryz.underlying5 h0
    obtain ⟨s', e1, r1, _⟩ := DataW.trod_string Tryz.underlying9 h1
    simp at e0 e1
    subst e0 e1
    rw [r0, r1] at hx
    simp at hx
    obtain ⟨⟨hk, hs⟩, _⟩ := hx
    subst hk
    have : s' = ⟨l.toArray⟩ := by rw [hs]
    rw [this]
theorem list8T {α : Type} (l : List α) (h : l.length = 8) (a b c d e f g i : α) (h0 : (l.drop (0 * 2)).take 2 = [a, b]) (h1 : (l.drop (1 * 2)).take 2 = [c, d]) (h2 : (l.drop (2 * 2)).take 2 = [e, f]) (h3 : (l.drop (3 * 2)).take 2 = [g, i]) : l = [a, b, c, d, e, f, g, i] := by
  match l, h with
  | [x0, x1, x2, x3, x4, x5, x6, x7], _ => simp at h0 h1 h2 h3; simp [h0, h1, h2, h3]
set_option maxRecDepth 100000 in
theorem of_laidP {W : World} (h : laidMetH Tryz.prog laidP W) : Pairs W := by
  rw [MakeChecks.laidMetH_plain _ _ _ (by kernel_rfl)] at h
  obtain ⟨ps, h1, _⟩ := h
  obtain ⟨g0, t0, cs0, f0, p0, q0, hg0, ht0, hv0, hd0, hr, _⟩ := h1
  obtain rfl := Option.some.inj (gPairsT.symm.trans hg0)
  obtain rfl := Option.some.inj (tPairsT.symm.trans ht0)
  obtain ⟨xs, m1, rfl, hx1, hlen, hn4, hel⟩ := DataW.trod_array Tryz.underlying343 hd0
  simp only [Prod.mk.injEq, DataW.agg.injEq, Rows.laid_manyhands_escape_pairs] at hx1
  rw [cPairs] at hlen
  have e0 := hel 0 (by decide)
  have e1 := hel 1 (by decide)
  have e2 := hel 2 (by decide)
  have e3 := hel 3 (by decide)
  rw [cPair] at e0 e1 e2 e3
  match xs, hn4, hx1, e0, e1, e2, e3 with
  | [(x0, q0), (x1, q1), (x2, q2), (x3, q3)], _, hx1, e0, e1, e2, e3 =>
    simp only [List.map_cons, List.map_nil, List.cons.injEq, and_true] at hx1
    obtain ⟨⟨r0, r1, r2, r3⟩, _⟩ := hx1
    subst r0 r1 r2 r3
    have hcs : cs0 = pcells := by
      apply Array.ext'
      rw [list8T cs0.toList hlen _ _ _ _ _ _ _ _ (pairT_cells e0) (pairT_cells e1) (pairT_cells e2) (pairT_cells e3)]
      rfl
    subst hcs
    simp only [World.var?, gPairsT, Option.bind_some] at hv0
    split at hv0
    · rename_i cs' t fr hh
      simp at hv0
      subst hv0
      exact ⟨t, fr, hh⟩
    · cases hv0
theorem metP (os : Os) (args : Array Value) : laidMetH Tryz.prog laidP ((World.laidAll Tryz.prog os laidP).forCall (fun _ _ => 0) ⟨#[], args, []⟩).memory := by
  rw [MakeChecks.laidMetH_plain _ _ _ (by kernel_rfl)]
  exact laidMet_laidAll _ (by kernel_rfl) (by kernel_rfl)
theorem mxl_of_shaped {W : World} (h : W.ShapedOpen Tryz.prog) : Mxl W :=
  cell_of_shapedOpen_int (g := 1) (t := 3) (zero := #[.int .i64 0]) h (of_decide_eq_true (by kernel_rfl)) (by kernel_rfl) rfl (by kernel_rfl) (by kernel_rfl) Tryz.underlying3
theorem env_of {W : World} (hp : Pairs W) (hm : Mxl W) : Env W W.heap.size := by
  obtain ⟨m, h⟩ := hm
  exact ⟨hp, ⟨m, h⟩, ⟨hp.pos, World.block_lt_of_cell? _ _ h⟩, Nat.le_refl _⟩

theorem wrap_kept {H : Type} {enc : TypeId × Value → H} {C : Checked} {os : Os} {f : FuncId} {fn : Func} {s : ChangeSpec} {X : World → Array Value → Prop}
    (hX : ∀ (w w' : World) (args : Array Value), w.heap = w'.heap → X w args → X w' args)
    (own : ownKnob C.prog.godebug = none) (started : os.Started) (noInit : C.prog.inits.idxOf? f = none) (hfn : C.prog.funcs[f]? = some fn)
    (witness : ∃ (w : World) (tape : Tape) (i : Input), w.os = os ∧ (w.forCall tape i).Shaped C.prog ∧ i.vars = [] ∧ Input.okWide C.prog (w.forCall tape i) .any w.heap.size f i ∧
      ((s.pre enc C.prog fn [] false (w.forCall tape i).memory i.args ∧ X (w.forCall tape i).memory i.args) ∧ sizedMet enc C.prog fn (OpenSpec.ofChange s) false (w.forCall tape i).memory i.args) ∧ Assume.holds {} C.prog (lone (Frame.enter C.prog f i.args .normal) [] (w.forCall tape i)))
    (contract : ∀ (W : World) (base : Nat) (args : Array Value) (ds gs : List (DataW H)) (before : List MemPlace),
      (∀ (j : Nat) t v, fn.params[j]? = some t → args[j]? = some v → Value.okWide C.prog W .any base t v) →
      DataW.Whole enc C.prog fn.params.toList s.vars false W args.toList ds gs before → (DataW.weightsEach C.prog (fn.params.toList ++ s.plain.varTypes C.prog) (ds ++ gs)).all (· ≤ reachBytes) = true → W.ShapedOpen C.prog → X W args →
      Calls C.prog f args W fun e W' => ∃ v, e = .returned v ∧ s.post enc C.prog fn false true false false W args v W') :
    ReturnsInHanded {} C os f .any (fun w args => (s.pre enc C.prog fn [] false w args ∧ X w args) ∧ sizedMet enc C.prog fn (OpenSpec.ofChange s) false w args) (s.post enc C.prog fn false true false false) := by
  refine returnsInHanded_of_calls own started noInit witness ?_
  intro w tape i _ hsh _ hok hpre hholds
  obtain ⟨_, _, _, fn', hfn', _, _, _, _, hval⟩ := hok
  have e : fn' = fn := Option.some.inj (hfn'.symm.trans hfn)
  subst e
  obtain ⟨⟨⟨ds, gs, before, hw, hc⟩, hx⟩, hz⟩ := hpre
  have hw' := DataW.Whole.of_heap (w' := w.forCall tape i) (by rfl) hw
  refine (contract (w.forCall tape i) w.heap.size i.args ds gs before hval hw' (hz.weights hw) hsh (hX _ _ _ (by rfl) hx)).mono fun e W' ⟨v, he, hp⟩ => ?_
  subst he
  exact ChangeSpec.post_blind hp

theorem byte8_of {n : Int} (h : (Lit.int .u8 n).wf = true) : ∃ c : UInt8, n = (c.toNat : Int) := by
  obtain ⟨h0, h1⟩ := bounds_u8 h
  exact ⟨UInt8.ofNat n.toNat, by rw [UInt8.toNat_ofNat']; omega⟩
section
variable {H : Type} {enc : TypeId × Value → H} {w : World} {base : Nat} {spare : Nat → Bool} {held : Bool}
theorem open_bytes {fuel : Nat} {t : TypeId} (ht : Tryz.prog.underlying t = some (.slice 5)) {ao : Option Addr} {n cap : Nat} {x : DataW H × List MemPlace} (h : DataW.trod enc Tryz.prog w base spare held fuel t [.slice ao n cap] = some x) :
    (∃ l, Byt w ao n cap l) ∧ (n = 0 ∨ ∃ el sp, x.1 = .slice el sp ∧ n ≤ el.length + sp.length) := by
  rcases Deep.open_slice1 ht cU8 h with ⟨hc, _⟩ | ⟨a, len, cap', m, k, V, D, Pl, hc, _, hl, hm, hmm, hxx, hx⟩
  · simp at hc
    obtain ⟨rfl, rfl, rfl⟩ := hc
    exact ⟨⟨[], Row.nil w 1⟩, .inl rfl⟩
  · simp at hc
    obtain ⟨rfl, rfl, rfl⟩ := hc
    have hnm : n ≤ m := by rw [hmm]; split <;> omega
    refine ⟨?_, .inr ⟨_, _, by rw [hxx], by simp⟩⟩
    have ex : ∀ i, i < n → ∃ c : UInt8, w.cell? (a.add i) = some (.int .u8 c.toNat) := by
      intro i hi
      obtain ⟨h1, h2⟩ := hx i (by omega)
      obtain ⟨k', e0, _, w0⟩ := DataW.trod_int Tryz.underlying5 h2
      obtain ⟨c, hcc⟩ := byte8_of w0
      simp at e0
      exact ⟨c, by rw [h1, e0, hcc]⟩
    obtain ⟨f, hf⟩ := Deep.choose_lt ex
    refine ⟨(List.range n).map f, by simp, hl, by unfold maxLen at hm; exact hm, fun hn => ?_⟩
    obtain ⟨b, off, spot⟩ := a
    have hspot : spot = none := by
      have := World.cell?_spot (hf 0 (by omega))
      simpa [Addr.add] using this
    subst hspot
    refine ⟨b, off, rfl, fun j u hu => ?_⟩
    have hj : j < n := by
      have := (List.getElem?_eq_some_iff.1 hu).1
      simpa using this
    have hadd : (⟨b, off, none⟩ : Addr).add j = ⟨b, off + j, none⟩ := Go.WideShapes.add_plain ..
    have := hf j hj
    rw [hadd] at this
    rw [this, ← hu]
    simp [b8, hj]
end
end Go.Proofs.YtbhcklkbckacpaaGreatDoor
