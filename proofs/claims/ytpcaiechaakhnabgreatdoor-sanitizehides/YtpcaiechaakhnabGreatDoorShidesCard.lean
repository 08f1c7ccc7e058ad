/-
  SanitizeHides: whatever three texts it is called with, the law returns true: behind a text without tags and a tag that means nothing, what stands in what is hidden doesn't matter to what sanitize.Page makes, as long as it doesn't end it, and neither do other tags; and the closed fact of the law holds.
  Conditions: the tied card's own: the package variables 'pairs' of package escape, 'schemes' of package link, 'blockNames' and 'markNames' of package export, 'blockNames' and 'hidingNames' of package sanitize (tied to the program's text in the pruned copy of the project; nothing is said of its other packages, commands or tests), 'utf8.acceptRanges' and 'utf8.first' read as listed; of 'internal/bytealg.MaxLen' nothing is asked. The statement is the full one, 'Rows.SanitizeHidesCardSaid'.
-/
import Derived.Test.YtpcaiechaakhnabGreatDoorSo
import Derived.Test.YtpcaiechaakhnabGreatDoorSl
import Derived.Test.YtpcaiechaakhnabGreatDoorTie
import Derived.Test.YtpcaiechaakhnabGreatDoorCards
import Derived.SevenTiedAt
namespace Go.Proofs.YtpcaiechaakhnabGreatDoor
open Go.ChangeShapes Go.WideShapes Go.ChangeAt Go.WideMaps Go.WideElems Go.RowKit
open Go.ChangeMaps (open_string shut_string)

set_option maxRecDepth 100000 in
theorem shides_lifted (os : Os) (started : os.Started) (H : Type) (enc : TypeId × Value → H) :
    ReturnsInHanded {} Tryz.checked os 6 .any (fun w args => (Rows.sanitizeHidesSpec.pre enc Tryz.prog Tryz.f6 [] false w args ∧ laidMetH Tryz.prog laid8 w) ∧ sizedMet enc Tryz.prog Tryz.f6 (OpenSpec.ofChange Rows.sanitizeHidesSpec) false w args)
      (Rows.sanitizeHidesSpec.post enc Tryz.prog Tryz.f6 false true false false) := by
  refine wrap_kept (C := Tryz.checked) (X := fun w _ => laidMetH Tryz.prog laid8 w) (fun _ _ _ hh h => h.of_heap hh) ownT started (by kernel_rfl) Tryz.func6
    (ChangeSpec.witness_shaped (enc := enc) (C := Tryz.checked) (os := os) (X := fun w _ => laidMetH Tryz.prog laid8 w) false (World.laidAll Tryz.prog os laid8) #[.string ⟨#[]⟩, .string ⟨#[]⟩, .string ⟨#[]⟩] 8 (World.laidAll_os _ _ _) (World.shaped_of_ZipB (by kernel_rfl) (by kernel_rfl)) (by kernel_rfl) (by kernel_rfl) (by kernel_rfl) (met8 os _)) ?_
  intro W base args ds gs before hval0 hW hsz0 hsh hL
  have hval : ∀ (j : Nat) t v, Tryz.f6.params[j]? = some t → args[j]? = some v → Value.okWide Tryz.prog W .any base t v := hval0
  have hsz : (DataW.weightsEach Tryz.prog (Tryz.f6.params.toList ++ Rows.sanitizeHidesSpec.plain.varTypes Tryz.prog) (ds ++ gs)).all (· ≤ reachBytes) = true := hsz0
  have hW' := hW
  obtain ⟨p, q, hA0, hV, rfl, hfz, hnd⟩ := hW
  have hA : DataW.TrodAll enc Tryz.prog W 0 (fun _ => true) true Tryz.f6.params.toList args.toList ds p := hA0
  rw [Tryz.params6] at hA hval hsz
  obtain ⟨v0, v1, v2, d0, d1, d2, p0, p1, p2, rfl, rfl, rfl, h0, h1, h2⟩ := trodAll_three hA
  obtain ⟨rfl, rfl⟩ := trodVars_none hV
  obtain ⟨s0, rfl, rfl, rfl, hs0⟩ := open_string Tryz.underlying9 (hval 0 9 v0 rfl rfl) h0
  obtain ⟨s1, rfl, rfl, rfl, hs1⟩ := open_string Tryz.underlying9 (hval 1 9 v1 rfl rfl) h1
  obtain ⟨s2, rfl, rfl, rfl, hs2⟩ := open_string Tryz.underlying9 (hval 2 9 v2 rfl rfl) h2
  have b0 := sized_string hsz (j := 0) (t := 9) rfl rfl
  have b2 := sized_string hsz (j := 2) (t := 9) rfl rfl
  unfold reachBytes at b0 b2
  clear hA0 hval0 hsz0 hsz
  simp only [List.append_nil] at hW'
  have hC := hides_law s0.data.toList s1.data.toList s2.data.toList W (of_laid8 hL hsh) (by omega)
  rw [B_of, B_of, B_of] at hC
  refine hC.mono fun e W' ⟨he, hb⟩ => ?_
  subst he
  exact ⟨_, rfl, _, _, _, [], [], [], hW', trodAll_mk1 (shut_bool Tryz.underlying4 _), trodAll_mk3 (shut_string Tryz.underlying9 hs0) (shut_string Tryz.underlying9 hs1) (shut_string Tryz.underlying9 hs2), rfl, hb.frame _, fun h => by cases h⟩

theorem shides_holds : Rows.SanitizeHidesSaid :=
  OpenClaim.holds_of_wide 6 Tryz.f6 rfl rfl rfl rfl rfl rfl rfl ⟨rfl, rfl, rfl, rfl, rfl⟩ rfl rfl rfl rfl rfl (by kernel_rfl) Tryz.func6 (by kernel_rfl)
    (of_decide_eq_true (by kernel_rfl)) (by unfold Func.isWrapper; first | (rw [if_pos (by decide +kernel)]; kernel_rfl) | (rw [if_neg (by decide +kernel)]; exact ⟨rfl, rfl⟩))
    (fun os started H enc _ => shides_lifted os started H enc)

/-- The statement. -/
theorem sanitizeHides_holds : Rows.SanitizeHidesCardSaid :=
  Claim7.holds_tied_plain_at .later [] [.data, .data, .data, .data, .data, .data, .data, .pinned] true (true, "a0aa9e31b2a4d5f320e01a36e410776cb97a7deca3065e1ce471e6158d1092bf") true
    shides_holds (fun _ h => by cases h) (by kernel_rfl) (fun _ h => by cases h) sanitizeHides_row_tie rfl ⟨rfl, rfl⟩ (by kernel_rfl) rfl
    (fun f fn hf hfn => by
      obtain rfl : f = 6 := Option.some.inj ((show Tryz.prog.funcNamed "manyhands/manyhandslaw.SanitizeHides" = some 6 by kernel_rfl).symm.trans hf) |>.symm
      obtain rfl : fn = Tryz.f6 := (Option.some.inj (Tryz.func6.symm.trans hfn)).symm
      exact ⟨by kernel_rfl, fun j t ht => by
        rw [Tryz.params6] at ht
        have hm : t ∈ [9, 9, 9] := by simpa using Array.mem_of_getElem? ht
        have hall : ([9, 9, 9].all fun u => !Tryz.prog.wantsStandIn u) = true := by kernel_rfl
        exact (show Tryz.prog.wantsStandIn t = false by simpa using List.all_eq_true.1 hall t hm)⟩)
    (by kernel_rfl)
#print axioms sanitizeHides_holds
end Go.Proofs.YtpcaiechaakhnabGreatDoor
