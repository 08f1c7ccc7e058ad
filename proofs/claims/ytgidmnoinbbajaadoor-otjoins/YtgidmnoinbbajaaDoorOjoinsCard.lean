/-
  OtJoins: whatever document and operations it is called with, the law returns true and leaves them as they were: two operations, joined, do what the one and then the other one does, or have too many parts; joined three in either way are the same; and the closed fact of the law holds.
  Conditions: the tied card's own: the package variable 'schemes' of package link (tied to the program's text in the pruned copy of the project; nothing is said of its other packages, commands or tests) reads as listed; of 'internal/bytealg.MaxLen' nothing is asked. The statement is the full one, 'Rows.OtJoinsCardSaid'.
-/
import Derived.Test.YtgidmnoinbbajaaDoorUo
import Derived.Test.YtgidmnoinbbajaaDoorOy
import Derived.Test.YtgidmnoinbbajaaDoorDocLaid
import Derived.Test.YtgidmnoinbbajaaDoorTie
import Derived.Test.YtgidmnoinbbajaaDoorCards
import Derived.SevenTiedAt
import Derived.Carry
namespace Go.Proofs.YtgidmnoinbbajaaDoor
open Go.ChangeShapes Go.WideShapes Go.ChangeAt Go.WideMaps Go.WideElems Go.RowKit

set_option maxRecDepth 100000 in
theorem ojoins_lifted (os : Os) (started : os.Started) (H : Type) (enc : TypeId × Value → H) :
    ReturnsInHanded {} Tryd.checked os 8 .any (fun w args => (Rows.otJoinsSpec.pre enc Tryd.prog Tryd.f8 [] false w args ∧ laidMetH Tryd.prog laid1 w) ∧ sizedMet enc Tryd.prog Tryd.f8 (OpenSpec.ofChange Rows.otJoinsSpec) false w args)
      (Rows.otJoinsSpec.post enc Tryd.prog Tryd.f8 false true false false) := by
  refine returnsInHanded_of_change_and (C := Tryd.checked) (X := fun w _ => laidMetH Tryd.prog laid1 w) (fun _ _ _ hh h => h.of_heap hh) own started (by kernel_rfl) Tryd.func8
    (ChangeSpec.witness_shaped (enc := enc) (C := Tryd.checked) (os := os) (X := fun w _ => laidMetH Tryd.prog laid1 w) false (World.laidAll Tryd.prog os laid1) #[.slice none 0 0, .slice none 0 0, .slice none 0 0, .slice none 0 0] 8 (World.laidAll_os _ _ _) (World.shaped_of_ZipB (by kernel_rfl) (by kernel_rfl)) (by kernel_rfl) (by kernel_rfl) (by kernel_rfl) (met1 os _)) ?_
  intro W base args ds gs before hval0 hW _ _ hL _
  have hval : ∀ (j : Nat) t v, Tryd.f8.params[j]? = some t → args[j]? = some v → Value.okWide Tryd.prog W .any base t v := hval0
  have hW' := hW
  obtain ⟨p, q, hA0, hV, rfl, hfz, hnd⟩ := hW
  have hA : DataW.TrodAll enc Tryd.prog W 0 (fun _ => true) true Tryd.f8.params.toList args.toList ds p := hA0
  rw [Tryd.params8] at hA hval
  obtain ⟨v0, v1, v2, v3, d0, d1, d2, d3, p0, p1, p2, p3, rfl, rfl, rfl, h0, h1, h2, h3⟩ := trodAll_four hA
  obtain ⟨rfl, rfl⟩ := trodVars_none hV
  obtain ⟨a0, n0, c0, rfl⟩ := okWide_slice Tryd.underlying23 (hval 0 23 v0 rfl rfl)
  obtain ⟨a1, n1, c1, rfl⟩ := okWide_slice Tryd.underlying25 (hval 1 25 v1 rfl rfl)
  obtain ⟨a2, n2, c2, rfl⟩ := okWide_slice Tryd.underlying25 (hval 2 25 v2 rfl rfl)
  obtain ⟨a3, n3, c3, rfl⟩ := okWide_slice Tryd.underlying25 (hval 3 25 v3 rfl rfl)
  have hlt : ∀ y ∈ p0 ++ (p1 ++ (p2 ++ p3)), y.block < W.heap.size := fun y hy => by simpa using hW'.lt y (by simpa using hy)
  clear hA0 hval0
  simp only [List.append_nil] at hW'
  have D0 : ∃ l, Doc W a0 n0 c0 l := by obtain ⟨fuel, hf⟩ := h0; exact open_doc Tryd.underlying23 (by simpa [Value.cells] using hf)
  have D1 : ∃ l, Ops W a1 n1 c1 l := by obtain ⟨fuel, hf⟩ := h1; exact open_ops Tryd.underlying25 (by simpa [Value.cells] using hf)
  have D2 : ∃ l, Ops W a2 n2 c2 l := by obtain ⟨fuel, hf⟩ := h2; exact open_ops Tryd.underlying25 (by simpa [Value.cells] using hf)
  have D3 : ∃ l, Ops W a3 n3 c3 l := by obtain ⟨fuel, hf⟩ := h3; exact open_ops Tryd.underlying25 (by simpa [Value.cells] using hf)
  obtain ⟨l0, D0⟩ := D0
  obtain ⟨l1, D1⟩ := D1
  obtain ⟨l2, D2⟩ := D2
  obtain ⟨l3, D3⟩ := D3
  refine (joins_any a0 a1 a2 a3 n0 c0 n1 c1 n2 c2 n3 c3 l0 l1 l2 l3 W D0 D1 D2 D3 (of_laid hL)).mono fun e W' ⟨he, hb⟩ => ?_
  subst he
  refine ⟨_, rfl, _, _, _, [], p0 ++ (p1 ++ (p2 ++ p3)), [], hW', trodAll_mk1 (shut_bool Tryd.underlying4 _), ?_, rfl, hb.frame _, fun h => by cases h⟩
  exact trodAll_mk4 (Below.trod laidOut (by kernel_rfl) (of_decide_eq_true (by kernel_rfl)) h0 hb (fun y hy => hlt y (by simp [hy]))) (Below.trod laidOut (by kernel_rfl) (of_decide_eq_true (by kernel_rfl)) h1 hb (fun y hy => hlt y (by simp [hy]))) (Below.trod laidOut (by kernel_rfl) (of_decide_eq_true (by kernel_rfl)) h2 hb (fun y hy => hlt y (by simp [hy]))) (Below.trod laidOut (by kernel_rfl) (of_decide_eq_true (by kernel_rfl)) h3 hb (fun y hy => hlt y (by simp [hy])))

theorem ojoins_holds : Rows.OtJoinsSaid :=
  OpenClaim.holds_of_wide 8 Tryd.f8 rfl rfl rfl rfl rfl rfl rfl ⟨rfl, rfl, rfl, rfl, rfl⟩ rfl rfl rfl rfl rfl (by kernel_rfl) Tryd.func8 (by kernel_rfl)
    (of_decide_eq_true (by kernel_rfl)) (by unfold Func.isWrapper; first | (rw [if_pos (by decide +kernel)]; kernel_rfl) | (rw [if_neg (by decide +kernel)]; exact ⟨rfl, rfl⟩))
    (fun os started H enc _ => ojoins_lifted os started H enc)

/-- The statement. -/
theorem otJoins_holds : Rows.OtJoinsCardSaid :=
  Claim7.holds_tied_plain_at .later [] [.data] true (true, "350823bcb66cded8c4aa60ac086b6b97c4b9560c9d38007a79e4b603dadb914f") false
    ojoins_holds (fun _ h => by cases h) (by kernel_rfl) (fun _ h => by cases h) otJoins_row_tie rfl ⟨rfl, rfl⟩ (by kernel_rfl) rfl
    (fun f fn hf hfn => by
      obtain rfl : f = 8 := Option.some.inj ((show Tryd.prog.funcNamed "manyhands/manyhandslaw.OtJoins" = some 8 by kernel_rfl).symm.trans hf) |>.symm
      obtain rfl : fn = Tryd.f8 := (Option.some.inj (Tryd.func8.symm.trans hfn)).symm
      exact ⟨by kernel_rfl, fun j t ht => by
        rw [Tryd.params8] at ht
        have hm : t ∈ [23, 25, 25, 25] := by simpa using Array.mem_of_getElem? ht
        have hall : ([23, 25, 25, 25].all fun u => !Tryd.prog.wantsStandIn u) = true := by kernel_rfl
        exact (show Tryd.prog.wantsStandIn t = false by simpa using List.all_eq_true.1 hall t hm)⟩)
    (by kernel_rfl)
#print axioms otJoins_holds
end Go.Proofs.YtgidmnoinbbajaaDoor
