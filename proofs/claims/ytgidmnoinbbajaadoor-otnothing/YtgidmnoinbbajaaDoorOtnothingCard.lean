/-
  OtNothing: whatever operation it is called with, the law returns true and leaves them as they were: behind, and joined with, one that keeps all, on either side, a right operation is as it was, made tidy; and the closed fact of the law holds.
  Conditions: the tied card's own: the package variable 'schemes' of package link (tied to the program's text in the pruned copy of the project; nothing is said of its other packages, commands or tests) reads as listed; of 'internal/bytealg.MaxLen' nothing is asked. The statement is the full one, 'Rows.OtNothingCardSaid'.
-/
import Derived.Test.YtgidmnoinbbajaaDoorUp
import Derived.Test.YtgidmnoinbbajaaDoorOy
import Derived.Test.YtgidmnoinbbajaaDoorDocLaid
import Derived.Test.YtgidmnoinbbajaaDoorTie
import Derived.Test.YtgidmnoinbbajaaDoorCards
import Derived.SevenTiedAt
namespace Go.Proofs.YtgidmnoinbbajaaDoor
open Go.ChangeShapes Go.WideShapes Go.ChangeAt Go.WideMaps Go.WideElems Go.RowKit

set_option maxRecDepth 100000 in
theorem otnothing_lifted (os : Os) (started : os.Started) (H : Type) (enc : TypeId × Value → H) :
    ReturnsInHanded {} Tryd.checked os 9 .any (fun w args => (Rows.otNothingSpec.pre enc Tryd.prog Tryd.f9 [] false w args ∧ laidMetH Tryd.prog laid1 w) ∧ sizedMet enc Tryd.prog Tryd.f9 (OpenSpec.ofChange Rows.otNothingSpec) false w args)
      (Rows.otNothingSpec.post enc Tryd.prog Tryd.f9 false true false false) := by
  refine returnsInHanded_of_change_and (C := Tryd.checked) (X := fun w _ => laidMetH Tryd.prog laid1 w) (fun _ _ _ hh h => h.of_heap hh) own started (by kernel_rfl) Tryd.func9
    (ChangeSpec.witness_shaped (enc := enc) (C := Tryd.checked) (os := os) (X := fun w _ => laidMetH Tryd.prog laid1 w) false (World.laidAll Tryd.prog os laid1) #[.slice none 0 0] 8 (World.laidAll_os _ _ _) (World.shaped_of_ZipB (by kernel_rfl) (by kernel_rfl)) (by kernel_rfl) (by kernel_rfl) (by kernel_rfl) (met1 os _)) ?_
  intro W base args ds gs before hval0 hW _ _ hL _
  have hval : ∀ (j : Nat) t v, Tryd.f9.params[j]? = some t → args[j]? = some v → Value.okWide Tryd.prog W .any base t v := hval0
  have hW' := hW
  obtain ⟨p, q, hA0, hV, rfl, hfz, hnd⟩ := hW
  have hA : DataW.TrodAll enc Tryd.prog W 0 (fun _ => true) true Tryd.f9.params.toList args.toList ds p := hA0
  rw [Tryd.params9] at hA hval
  obtain ⟨v0, d0, rfl, rfl, h0⟩ := trodAll_one hA
  obtain ⟨rfl, rfl⟩ := trodVars_none hV
  obtain ⟨a0, n0, c0, rfl⟩ := okWide_slice Tryd.underlying25 (hval 0 25 v0 rfl rfl)
  have hlt : ∀ y ∈ p, y.block < W.heap.size := fun y hy => by simpa using hW'.lt y (by simpa using hy)
  clear hA0 hval0
  simp only [List.append_nil] at hW'
  have D0 : ∃ l, Ops W a0 n0 c0 l := by obtain ⟨fuel, hf⟩ := h0; exact open_ops Tryd.underlying25 (by simpa [Value.cells] using hf)
  obtain ⟨l0, D0⟩ := D0
  refine (otnothing_any a0 n0 c0 l0 W D0 (of_laid hL)).mono fun e W' ⟨he, hb⟩ => ?_
  subst he
  refine ⟨_, rfl, _, _, _, [], p, [], hW', trodAll_mk1 (shut_bool Tryd.underlying4 _), ?_, rfl, hb.frame _, fun h => by cases h⟩
  exact trodAll_mk1 (Below.trod laidOut (by kernel_rfl) (of_decide_eq_true (by kernel_rfl)) h0 hb (fun y hy => hlt y (by simp [hy])))

theorem otnothing_holds : Rows.OtNothingSaid :=
  OpenClaim.holds_of_wide 9 Tryd.f9 rfl rfl rfl rfl rfl rfl rfl ⟨rfl, rfl, rfl, rfl, rfl⟩ rfl rfl rfl rfl rfl (by kernel_rfl) Tryd.func9 (by kernel_rfl)
    (of_decide_eq_true (by kernel_rfl)) (by unfold Func.isWrapper; first | (rw [if_pos (by decide +kernel)]; kernel_rfl) | (rw [if_neg (by decide +kernel)]; exact ⟨rfl, rfl⟩))
    (fun os started H enc _ => otnothing_lifted os started H enc)

/-- The statement. -/
theorem otNothing_holds : Rows.OtNothingCardSaid :=
  Claim7.holds_tied_plain_at .later [] [.data] true (true, "350823bcb66cded8c4aa60ac086b6b97c4b9560c9d38007a79e4b603dadb914f") false
    otnothing_holds (fun _ h => by cases h) (by kernel_rfl) (fun _ h => by cases h) otNothing_row_tie rfl ⟨rfl, rfl⟩ (by kernel_rfl) rfl
    (fun f fn hf hfn => by
      obtain rfl : f = 9 := Option.some.inj ((show Tryd.prog.funcNamed "manyhands/manyhandslaw.OtNothing" = some 9 by kernel_rfl).symm.trans hf) |>.symm
      obtain rfl : fn = Tryd.f9 := (Option.some.inj (Tryd.func9.symm.trans hfn)).symm
      exact ⟨by kernel_rfl, fun j t ht => by
        rw [Tryd.params9] at ht
        have hm : t ∈ [25] := by simpa using Array.mem_of_getElem? ht
        have hall : ([25].all fun u => !Tryd.prog.wantsStandIn u) = true := by kernel_rfl
        exact (show Tryd.prog.wantsStandIn t = false by simpa using List.all_eq_true.1 hall t hm)⟩)
    (by kernel_rfl)
#print axioms otNothing_holds
end Go.Proofs.YtgidmnoinbbajaaDoor
