/-
  DocSays: whatever two lists of items and whatever item it is called with, the law returns true and leaves them as they were: doc.Check, doc.Item, doc.Items, doc.Same, doc.Plain and doc.Runs answer what chapter 3 says, errors too, and the closed fact of the law holds.
  Conditions: the tied card's own: the package variable 'schemes' of package link (tied to the program's text in the pruned copy of the project; nothing is said of its other packages, commands or tests) reads as listed; of 'internal/bytealg.MaxLen' nothing is asked. The statement is the full one, 'Rows.DocSaysCardSaid'.
-/
import Derived.Test.YtmifcioccnmlaaaDoorDs
import Derived.Test.YtmifcioccnmlaaaDoorDl
import Derived.Test.YtmifcioccnmlaaaDoorDocLaid
import Derived.Test.YtmifcioccnmlaaaDoorTie
import Derived.Test.YtmifcioccnmlaaaDoorCards
import Derived.SevenTiedAt
namespace Go.Proofs.YtmifcioccnmlaaaDoor
open Go.ChangeShapes Go.WideShapes Go.ChangeAt Go.WideMaps Go.WideElems Go.RowKit

set_option maxRecDepth 100000 in
theorem dsays_lifted (os : Os) (started : os.Started) (H : Type) (enc : TypeId × Value → H) :
    ReturnsInHanded {} Tryd.checked os 9 .any (fun w args => (Rows.docSaysSpec.pre enc Tryd.prog Tryd.f9 [] false w args ∧ laidMetH Tryd.prog laid1 w) ∧ sizedMet enc Tryd.prog Tryd.f9 (OpenSpec.ofChange Rows.docSaysSpec) false w args)
      (Rows.docSaysSpec.post enc Tryd.prog Tryd.f9 false true false false) := by
  refine returnsInHanded_of_change_and (C := Tryd.checked) (X := fun w _ => laidMetH Tryd.prog laid1 w) (fun _ _ _ hh h => h.of_heap hh) own started (by kernel_rfl) Tryd.func9
    (ChangeSpec.witness_shaped (enc := enc) (C := Tryd.checked) (os := os) (X := fun w _ => laidMetH Tryd.prog laid1 w) false (World.laidAll Tryd.prog os laid1) #[.slice none 0 0, .slice none 0 0, .agg #[.int .u8 0, .int .i64 0, .string ⟨#[]⟩]] 8 (World.laidAll_os _ _ _) (World.shaped_of_ZipB (by kernel_rfl) (by kernel_rfl)) (by kernel_rfl) (by kernel_rfl) (by kernel_rfl) (met1 os _)) ?_
  intro W base args ds gs before hval0 hW _ _ hL _
  have hval : ∀ (j : Nat) t v, Tryd.f9.params[j]? = some t → args[j]? = some v → Value.okWide Tryd.prog W .any base t v := hval0
  have hW' := hW
  obtain ⟨p, q, hA0, hV, rfl, hfz, hnd⟩ := hW
  have hA : DataW.TrodAll enc Tryd.prog W 0 (fun _ => true) true Tryd.f9.params.toList args.toList ds p := hA0
  rw [Tryd.params9] at hA hval
  obtain ⟨v0, v1, v2, d0, d1, d2, p0, p1, p2, rfl, rfl, rfl, h0, h1, h2⟩ := trodAll_three hA
  obtain ⟨rfl, rfl⟩ := trodVars_none hV
  obtain ⟨a0, n0, c0, rfl⟩ := okWide_slice Tryd.underlying34 (hval 0 34 v0 rfl rfl)
  obtain ⟨a1, n1, c1, rfl⟩ := okWide_slice Tryd.underlying34 (hval 1 34 v1 rfl rfl)
  obtain ⟨x, hx, hxl⟩ : ∃ x : It, v2 = .agg #[.int .u8 x.c.toNat, .int .i64 x.m, .string x.l] ∧ x.l.size ≤ 9223372036854775807 := by
    obtain ⟨u0, u1, u2, y0, y1, y2, k, rfl, _, _, t0, t1, t2⟩ := Joins.open_agg3 Tryd.underlying36 (by kernel_rfl) cells36 (hval 2 36 v2 rfl rfl) h2
    obtain ⟨m0, e0, _, w0⟩ := DataW.trod_int Tryd.underlying5 t0
    obtain ⟨m1, e1, _, _⟩ := DataW.trod_int Tryd.underlying3 t1
    obtain ⟨s, e2, _, hs⟩ := DataW.trod_string Tryd.underlying9 t2
    simp at e0 e1 e2
    obtain ⟨k, hk⟩ := byte_of w0
    exact ⟨⟨k, m1, s⟩, by rw [e0, e1, e2, hk], hs⟩
  subst hx
  have hlt : ∀ y ∈ p0 ++ p1 ++ p2, y.block < W.heap.size := fun y hy => by simpa using hW'.lt y (by simpa using hy)
  clear hA0 hval0
  simp only [List.append_nil] at hW'
  have D0 : ∃ l, Doc W a0 n0 c0 l := by obtain ⟨fuel, hf⟩ := h0; exact open_doc Tryd.underlying34 (by simpa [Value.cells] using hf)
  have D1 : ∃ l, Doc W a1 n1 c1 l := by obtain ⟨fuel, hf⟩ := h1; exact open_doc Tryd.underlying34 (by simpa [Value.cells] using hf)
  obtain ⟨l0, D0⟩ := D0
  obtain ⟨l1, D1⟩ := D1
  refine (says_any a0 a1 n0 c0 n1 c1 l0 l1 x W D0 D1 (of_laid hL) hxl).mono fun e W' ⟨he, hb⟩ => ?_
  subst he
  refine ⟨_, rfl, _, _, _, [], p0 ++ (p1 ++ p2), [], hW', trodAll_mk1 (shut_bool Tryd.underlying4 _), ?_, rfl, hb.frame _, fun h => by cases h⟩
  exact trodAll_mk3 (Below.trod laidOut (by kernel_rfl) (of_decide_eq_true (by kernel_rfl)) h0 hb (fun y hy => hlt y (by simp [hy]))) (Below.trod laidOut (by kernel_rfl) (of_decide_eq_true (by kernel_rfl)) h1 hb (fun y hy => hlt y (by simp [hy]))) (Below.trod laidOut (by kernel_rfl) (of_decide_eq_true (by kernel_rfl)) h2 hb (fun y hy => hlt y (by simp [hy])))

theorem dsays_holds : Rows.DocSaysSaid :=
  OpenClaim.holds_of_wide 9 Tryd.f9 rfl rfl rfl rfl rfl rfl rfl ⟨rfl, rfl, rfl, rfl, rfl⟩ rfl rfl rfl rfl rfl (by kernel_rfl) Tryd.func9 (by kernel_rfl)
    (of_decide_eq_true (by kernel_rfl)) (by unfold Func.isWrapper; first | (rw [if_pos (by decide +kernel)]; kernel_rfl) | (rw [if_neg (by decide +kernel)]; exact ⟨rfl, rfl⟩))
    (fun os started H enc _ => dsays_lifted os started H enc)

/-- The statement. -/
theorem docSays_holds : Rows.DocSaysCardSaid :=
  Claim7.holds_tied_plain_at .later [] [.data] true (true, "57fdae7372712f74ebac48dfdcb286222327ff5b76c3c8d7a5ef6dd1e80d22a0") true
    dsays_holds (fun _ h => by cases h) (by kernel_rfl) (fun _ h => by cases h) docSays_row_tie rfl ⟨rfl, rfl⟩ (by kernel_rfl) rfl
    (fun f fn hf hfn => by
      obtain rfl : f = 9 := Option.some.inj ((show Tryd.prog.funcNamed "manyhands/manyhandslaw.DocSays" = some 9 by kernel_rfl).symm.trans hf) |>.symm
      obtain rfl : fn = Tryd.f9 := (Option.some.inj (Tryd.func9.symm.trans hfn)).symm
      exact ⟨by kernel_rfl, fun j t ht => by
        rw [Tryd.params9] at ht
        have hm : t ∈ [34, 34, 36] := by simpa using Array.mem_of_getElem? ht
        have hall : ([34, 34, 36].all fun u => !Tryd.prog.wantsStandIn u) = true := by kernel_rfl
        exact (show Tryd.prog.wantsStandIn t = false by simpa using List.all_eq_true.1 hall t hm)⟩)
    (by kernel_rfl)
#print axioms docSays_holds
end Go.Proofs.YtmifcioccnmlaaaDoor
