/-
  TokenSafe: whatever list of items it is called with, the law returns true and leaves it as it was: of what export.Page writes of a document token.Page finds its own tags alone, in order, with links that one may be led to, and texts that are, one behind the other, its characters; and the closed fact of the law holds.
  Conditions: the tied card's own: the package variables 'pairs' of package escape, 'schemes' of package link, 'blockNames' and 'markNames' of package export (tied to the program's text in the pruned copy of the project; nothing is said of its other packages, commands or tests), 'utf8.acceptRanges' and 'utf8.first' read as listed; of 'internal/bytealg.MaxLen' nothing is asked. The statement is the full one, 'Rows.TokenSafeCardSaid'.
-/
import Derived.Test.YtdlacdoakkklaabDoorTsa
import Derived.Test.YtdlacdoakkklaabDoorTla
import Derived.Test.YtdlacdoakkklaabDoorDl
import Derived.Test.YtdlacdoakkklaabDoorXl
import Derived.Test.YtdlacdoakkklaabDoorTie
import Derived.Test.YtdlacdoakkklaabDoorCards
import Derived.SevenTiedAt
namespace Go.Proofs.YtdlacdoakkklaabDoor
open Go.ChangeShapes Go.WideShapes Go.ChangeAt Go.WideMaps Go.WideElems Go.RowKit

/-- The row's list of variables. -/
def laid6 : List (String × DataW Unit) := [("unicode/utf8.acceptRanges", Rows.laid_unicode_utf8_acceptRanges), ("manyhands/escape.pairs", Rows.laid_manyhands_escape_pairs), ("manyhands/link.schemes", Rows.laid_manyhands_link_schemes), ("manyhands/export.blockNames", Rows.laid_manyhands_export_blockNames), ("manyhands/export.markNames", Rows.laid_manyhands_export_markNames), ("unicode/utf8.first", Rows.laid_unicode_utf8_first)]
theorem of_laid6 {W : World} (h : laidMetH Tryd.prog laid6 W) : Tabs W := by
  rw [MakeChecks.laidMetH_plain _ _ _ (by kernel_rfl)] at h
  obtain ⟨ps, h1, _⟩ := h
  obtain ⟨_, q1, h2⟩ := vars_split h1
  obtain ⟨a2, q2, h3⟩ := vars_split h2
  obtain ⟨a3, q3, h4⟩ := vars_split h3
  obtain ⟨a4, q4, h5⟩ := vars_split h4
  obtain ⟨a5, q5, _⟩ := vars_split h5
  exact ⟨sch_of a3, pairs_of a2, blocks_of a4, marks_of a5⟩
theorem met6 (os : Os) (args : Array Value) : laidMetH Tryd.prog laid6 ((World.laidAll Tryd.prog os laid6).forCall (fun _ _ => 0) ⟨#[], args, []⟩).memory := by
  rw [MakeChecks.laidMetH_plain _ _ _ (by kernel_rfl)]
  exact laidMet_laidAll _ (by kernel_rfl) (by kernel_rfl)

set_option maxRecDepth 100000 in
theorem tsafe_lifted (os : Os) (started : os.Started) (H : Type) (enc : TypeId × Value → H) :
    ReturnsInHanded {} Tryd.checked os 3 .any (fun w args => (Rows.tokenSafeSpec.pre enc Tryd.prog Tryd.f3 [] false w args ∧ laidMetH Tryd.prog laid6 w) ∧ sizedMet enc Tryd.prog Tryd.f3 (OpenSpec.ofChange Rows.tokenSafeSpec) false w args)
      (Rows.tokenSafeSpec.post enc Tryd.prog Tryd.f3 false true false false) := by
  refine wrap_kept (C := Tryd.checked) (X := fun w _ => laidMetH Tryd.prog laid6 w) (fun _ _ _ hh h => h.of_heap hh) ownT started (by kernel_rfl) Tryd.func3
    (ChangeSpec.witness_shaped (enc := enc) (C := Tryd.checked) (os := os) (X := fun w _ => laidMetH Tryd.prog laid6 w) false (World.laidAll Tryd.prog os laid6) #[.slice none 0 0] 8 (World.laidAll_os _ _ _) (World.shaped_of_ZipB (by kernel_rfl) (by kernel_rfl)) (by kernel_rfl) (by kernel_rfl) (by kernel_rfl) (met6 os _)) ?_
  intro W base args ds gs before hval0 hW _ hsh hL
  have hval : ∀ (j : Nat) t v, Tryd.f3.params[j]? = some t → args[j]? = some v → Value.okWide Tryd.prog W .any base t v := hval0
  have hW' := hW
  obtain ⟨p, q, hA0, hV, rfl, hfz, hnd⟩ := hW
  have hA : DataW.TrodAll enc Tryd.prog W 0 (fun _ => true) true Tryd.f3.params.toList args.toList ds p := hA0
  rw [Tryd.params3] at hA hval
  obtain ⟨v0, d0, rfl, rfl, h0⟩ := trodAll_one hA
  obtain ⟨rfl, rfl⟩ := trodVars_none hV
  obtain ⟨a0, n0, c0, rfl⟩ := okWide_slice Tryd.underlying23 (hval 0 23 v0 rfl rfl)
  have hlt : ∀ y ∈ p, y.block < W.heap.size := fun y hy => by simpa using hW'.lt y (by simpa using hy)
  clear hA0 hval0
  simp only [List.append_nil] at hW'
  have D0 : ∃ l, Doc W a0 n0 c0 l := by obtain ⟨fuel, hf⟩ := h0; exact open_doc Tryd.underlying23 (by simpa [Value.cells] using hf)
  obtain ⟨l0, D0⟩ := D0
  refine (tsafe_any a0 n0 c0 l0 W D0 (of_laid6 hL) (env_of (of_laid6 hL).pairs (mxl_of_shaped hsh))).mono fun e W' ⟨he, hb⟩ => ?_
  subst he
  refine ⟨_, rfl, _, _, _, [], p, [], hW', trodAll_mk1 (shut_bool Tryd.underlying4 _), ?_, rfl, hb.frame _, fun h => by cases h⟩
  exact trodAll_mk1 (Below.trod laidOutT (by kernel_rfl) (of_decide_eq_true (by kernel_rfl)) h0 hb hlt)

theorem tsafe_holds : Rows.TokenSafeSaid :=
  OpenClaim.holds_of_wide 3 Tryd.f3 rfl rfl rfl rfl rfl rfl rfl ⟨rfl, rfl, rfl, rfl, rfl⟩ rfl rfl rfl rfl rfl (by kernel_rfl) Tryd.func3 (by kernel_rfl)
    (of_decide_eq_true (by kernel_rfl)) (by unfold Func.isWrapper; first | (rw [if_pos (by decide +kernel)]; kernel_rfl) | (rw [if_neg (by decide +kernel)]; exact ⟨rfl, rfl⟩))
    (fun os started H enc _ => tsafe_lifted os started H enc)

/-- The statement. -/
theorem tokenSafe_holds : Rows.TokenSafeCardSaid :=
  Claim7.holds_tied_plain_at .later [] [.data, .data, .data, .data, .data, .pinned] true (true, "d1082068973a1716174f5b3f4e206b378946e059352f5d98fc0c548ea29fc802") false
    tsafe_holds (fun _ h => by cases h) (by kernel_rfl) (fun _ h => by cases h) tokenSafe_row_tie rfl ⟨rfl, rfl⟩ (by kernel_rfl) rfl
    (fun f fn hf hfn => by
      obtain rfl : f = 3 := Option.some.inj ((show Tryd.prog.funcNamed "manyhands/manyhandslaw.TokenSafe" = some 3 by kernel_rfl).symm.trans hf) |>.symm
      obtain rfl : fn = Tryd.f3 := (Option.some.inj (Tryd.func3.symm.trans hfn)).symm
      exact ⟨by kernel_rfl, fun j t ht => by
        rw [Tryd.params3] at ht
        have hm : t ∈ [23] := by simpa using Array.mem_of_getElem? ht
        have hall : ([23].all fun u => !Tryd.prog.wantsStandIn u) = true := by kernel_rfl
        exact (show Tryd.prog.wantsStandIn t = false by simpa using List.all_eq_true.1 hall t hm)⟩)
    (by kernel_rfl)
#print axioms tokenSafe_holds
end Go.Proofs.YtdlacdoakkklaabDoor
