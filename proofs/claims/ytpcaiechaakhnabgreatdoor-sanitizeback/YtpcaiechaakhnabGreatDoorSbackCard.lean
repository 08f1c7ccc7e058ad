/-
  SanitizeBack: whatever bytes and whatever list of items it is called with, the law returns true and leaves them as they were: what sanitize.Page makes of a page is a document, what export.Page writes of a document is read as itself by sanitize.Page, and so what is made of a page, written, and read again; and the closed fact of the law holds.
  Conditions: the tied card's own: the package variables 'pairs' of package escape, 'schemes' of package link, 'blockNames' and 'markNames' of package export, 'blockNames' and 'hidingNames' of package sanitize (tied to the program's text in the pruned copy of the project; nothing is said of its other packages, commands or tests), 'utf8.acceptRanges' and 'utf8.first' read as listed; of 'internal/bytealg.MaxLen' nothing is asked. The statement is the full one, 'Rows.SanitizeBackCardSaid'.
-/
import Derived.Test.YtpcaiechaakhnabGreatDoorSk
import Derived.Test.YtpcaiechaakhnabGreatDoorSl
import Derived.Test.YtpcaiechaakhnabGreatDoorTie
import Derived.Test.YtpcaiechaakhnabGreatDoorCards
import Derived.SevenTiedAt
namespace Go.Proofs.YtpcaiechaakhnabGreatDoor
open Go.ChangeShapes Go.WideShapes Go.ChangeAt Go.WideMaps Go.WideElems Go.RowKit

set_option maxRecDepth 100000 in
theorem sback_lifted (os : Os) (started : os.Started) (H : Type) (enc : TypeId × Value → H) :
    ReturnsInHanded {} Tryz.checked os 5 .any (fun w args => (Rows.sanitizeBackSpec.pre enc Tryz.prog Tryz.f5 [] false w args ∧ laidMetH Tryz.prog laid8 w) ∧ sizedMet enc Tryz.prog Tryz.f5 (OpenSpec.ofChange Rows.sanitizeBackSpec) false w args)
      (Rows.sanitizeBackSpec.post enc Tryz.prog Tryz.f5 false true false false) := by
  refine wrap_kept (C := Tryz.checked) (X := fun w _ => laidMetH Tryz.prog laid8 w) (fun _ _ _ hh h => h.of_heap hh) ownT started (by kernel_rfl) Tryz.func5
    (ChangeSpec.witness_shaped (enc := enc) (C := Tryz.checked) (os := os) (X := fun w _ => laidMetH Tryz.prog laid8 w) false (World.laidAll Tryz.prog os laid8) #[.slice none 0 0, .slice none 0 0] 8 (World.laidAll_os _ _ _) (World.shaped_of_ZipB (by kernel_rfl) (by kernel_rfl)) (by kernel_rfl) (by kernel_rfl) (by kernel_rfl) (met8 os _)) ?_
  intro W base args ds gs before hval0 hW _ hsh hL
  have hval : ∀ (j : Nat) t v, Tryz.f5.params[j]? = some t → args[j]? = some v → Value.okWide Tryz.prog W .any base t v := hval0
  have hW' := hW
  obtain ⟨p, q, hA0, hV, rfl, hfz, hnd⟩ := hW
  have hA : DataW.TrodAll enc Tryz.prog W 0 (fun _ => true) true Tryz.f5.params.toList args.toList ds p := hA0
  rw [Tryz.params5] at hA hval
  obtain ⟨v0, v1, d0, d1, p0, p1, rfl, rfl, rfl, h0, h1⟩ := trodAll_two hA
  obtain ⟨rfl, rfl⟩ := trodVars_none hV
  obtain ⟨a0, n0, c0, rfl⟩ := okWide_slice Tryz.underlying22 (hval 0 22 v0 rfl rfl)
  obtain ⟨a1, n1, c1, rfl⟩ := okWide_slice Tryz.underlying34 (hval 1 34 v1 rfl rfl)
  have hlt : ∀ y ∈ p0 ++ p1, y.block < W.heap.size := fun y hy => by simpa using hW'.lt y (by simpa using hy)
  clear hA0 hval0
  simp only [List.append_nil] at hW'
  have D0 : (∃ l, Byt W a0 n0 c0 l) ∧ (n0 = 0 ∨ ∃ el sp, d0 = .slice el sp ∧ n0 ≤ el.length + sp.length) := by obtain ⟨fuel, hf⟩ := h0; exact open_bytes Tryz.underlying22 (by simpa [Value.cells] using hf)
  have D1 : ∃ l, Doc W a1 n1 c1 l := by obtain ⟨fuel, hf⟩ := h1; exact open_doc Tryz.underlying34 (by simpa [Value.cells] using hf)
  obtain ⟨⟨l0, B0⟩, _⟩ := D0
  obtain ⟨l1, D1⟩ := D1
  refine (back_any a0 a1 n0 c0 n1 c1 l0 l1 W B0 D1 (of_laid8 hL hsh)).mono fun e W' ⟨he, hb⟩ => ?_
  subst he
  refine ⟨_, rfl, _, _, _, [], p0 ++ p1, [], hW', trodAll_mk1 (shut_bool Tryz.underlying4 _), ?_, rfl, hb.frame _, fun h => by cases h⟩
  exact trodAll_mk2 (Below.trod laidOutT (by kernel_rfl) (of_decide_eq_true (by kernel_rfl)) h0 hb (fun y hy => hlt y (by simp [hy]))) (Below.trod laidOutT (by kernel_rfl) (of_decide_eq_true (by kernel_rfl)) h1 hb (fun y hy => hlt y (by simp [hy])))

theorem sback_holds : Rows.SanitizeBackSaid :=
  OpenClaim.holds_of_wide 5 Tryz.f5 rfl rfl rfl rfl rfl rfl rfl ⟨rfl, rfl, rfl, rfl, rfl⟩ rfl rfl rfl rfl rfl (by kernel_rfl) Tryz.func5 (by kernel_rfl)
    (of_decide_eq_true (by kernel_rfl)) (by unfold Func.isWrapper; first | (rw [if_pos (by decide +kernel)]; kernel_rfl) | (rw [if_neg (by decide +kernel)]; exact ⟨rfl, rfl⟩))
    (fun os started H enc _ => sback_lifted os started H enc)

/-- The statement. -/
theorem sanitizeBack_holds : Rows.SanitizeBackCardSaid :=
  Claim7.holds_tied_plain_at .later [] [.data, .data, .data, .data, .data, .data, .data, .pinned] true (true, "a0aa9e31b2a4d5f320e01a36e410776cb97a7deca3065e1ce471e6158d1092bf") true
    sback_holds (fun _ h => by cases h) (by kernel_rfl) (fun _ h => by cases h) sanitizeBack_row_tie rfl ⟨rfl, rfl⟩ (by kernel_rfl) rfl
    (fun f fn hf hfn => by
      obtain rfl : f = 5 := Option.some.inj ((show Tryz.prog.funcNamed "manyhands/manyhandslaw.SanitizeBack" = some 5 by kernel_rfl).symm.trans hf) |>.symm
      obtain rfl : fn = Tryz.f5 := (Option.some.inj (Tryz.func5.symm.trans hfn)).symm
      exact ⟨by kernel_rfl, fun j t ht => by
        rw [Tryz.params5] at ht
        have hm : t ∈ [22, 34] := by simpa using Array.mem_of_getElem? ht
        have hall : ([22, 34].all fun u => !Tryz.prog.wantsStandIn u) = true := by kernel_rfl
        exact (show Tryz.prog.wantsStandIn t = false by simpa using List.all_eq_true.1 hall t hm)⟩)
    (by kernel_rfl)
#print axioms sanitizeBack_holds
end Go.Proofs.YtpcaiechaakhnabGreatDoor
