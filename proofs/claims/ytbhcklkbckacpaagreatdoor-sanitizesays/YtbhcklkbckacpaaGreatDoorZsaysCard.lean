/-
  SanitizeSays: whatever list of bytes it is called with, the law returns true and leaves it as it was: sanitize.Page makes of any page the document that the document's own reckoning makes, errors too; and the closed fact of the law holds.
  Conditions: the tied card's own: the package variables that the row lists (tied to the program's text in the pruned copy of the project; nothing is said of its other packages, commands or tests) read as listed; of 'internal/bytealg.MaxLen' nothing is asked. The statement is the full one, 'Rows.SanitizeSaysCardSaid'.
-/
import Derived.Test.YtbhcklkbckacpaaGreatDoorZs
import Derived.Test.YtbhcklkbckacpaaGreatDoorG14
import Derived.Test.YtbhcklkbckacpaaGreatDoorTie
import Derived.Test.YtbhcklkbckacpaaGreatDoorCards
import Derived.Test.YtbhcklkbckacpaaGreatDoorZsaysCardF
import Derived.SevenTiedAt
namespace Go.Proofs.YtbhcklkbckacpaaGreatDoor
open Go.ChangeShapes Go.WideShapes Go.ChangeAt Go.WideMaps Go.WideElems Go.RowKit

set_option maxRecDepth 100000 in
theorem zsays_lifted (os : Os) (started : os.Started) (H : Type) (enc : TypeId × Value → H) :
    ReturnsInHanded {} Tryz.checked os 4 .any (fun w args => (Rows.sanitizeSaysSpec.pre enc Tryz.prog Tryz.f4 [] false w args ∧ laidMetH Tryz.prog laid10 w) ∧ sizedMet enc Tryz.prog Tryz.f4 (OpenSpec.ofChange Rows.sanitizeSaysSpec) false w args)
      (Rows.sanitizeSaysSpec.post enc Tryz.prog Tryz.f4 false true false false) := by
  refine wrap_kept (C := Tryz.checked) (X := fun w _ => laidMetH Tryz.prog laid10 w) (fun _ _ _ hh h => h.of_heap hh) ownT started (by kernel_rfl) Tryz.func4
    (ChangeSpec.witness_shaped (enc := enc) (C := Tryz.checked) (os := os) (X := fun w _ => laidMetH Tryz.prog laid10 w) false (World.laidAll Tryz.prog os laid10) #[.slice none 0 0] 8 (World.laidAll_os _ _ _) (World.shaped_of_ZipB (by kernel_rfl) (by kernel_rfl)) (by kernel_rfl) (by kernel_rfl) (by kernel_rfl) (met10 os _)) ?_
  intro W base args ds gs before hval0 hW _ hsh hL
  have hval : ∀ (j : Nat) t v, Tryz.f4.params[j]? = some t → args[j]? = some v → Value.okWide Tryz.prog W .any base t v := hval0
  have hW' := hW
  obtain ⟨p, q, hA0, hV, rfl, hfz, hnd⟩ := hW
  have hA : DataW.TrodAll enc Tryz.prog W 0 (fun _ => true) true Tryz.f4.params.toList args.toList ds p := hA0
  rw [Tryz.params4] at hA hval
  obtain ⟨v0, d0, rfl, rfl, h0⟩ := trodAll_one hA
  obtain ⟨rfl, rfl⟩ := trodVars_none hV
  obtain ⟨a0, n0, c0, rfl⟩ := okWide_slice Tryz.underlying22 (hval 0 22 v0 rfl rfl)
  have hlt : ∀ y ∈ p, y.block < W.heap.size := fun y hy => by simpa using hW'.lt y (by simpa using hy)
  clear hA0 hval0
  simp only [List.append_nil] at hW'
  have D0 : (∃ l, Byt W a0 n0 c0 l) ∧ (n0 = 0 ∨ ∃ el sp, d0 = .slice el sp ∧ n0 ≤ el.length + sp.length) := by obtain ⟨fuel, hf⟩ := h0; exact open_bytes Tryz.underlying22 (by simpa [Value.cells] using hf)
  obtain ⟨⟨l0, B0⟩, _⟩ := D0
  refine (zsays_any a0 n0 c0 l0 W B0 (of_laid10 hL hsh).1 (fun w' hb => tab_below (of_laid10 hL hsh).2 hb)).mono fun e W' ⟨he, hb⟩ => ?_
  subst he
  refine ⟨_, rfl, _, _, _, [], p, [], hW', trodAll_mk1 (shut_bool Tryz.underlying4 _), ?_, rfl, hb.frame _, fun h => by cases h⟩
  exact trodAll_mk1 (Below.trod laidOutT (by kernel_rfl) (of_decide_eq_true (by kernel_rfl)) h0 hb hlt)

theorem zsays_holds : Rows.SanitizeSaysSaid :=
  OpenClaim.holds_of_wide 4 Tryz.f4 rfl rfl rfl rfl rfl rfl rfl ⟨rfl, rfl, rfl, rfl, rfl⟩ rfl rfl rfl rfl rfl (by kernel_rfl) Tryz.func4 zsays_jf
    (of_decide_eq_true (by kernel_rfl)) (by unfold Func.isWrapper; first | (rw [if_pos (by decide +kernel)]; kernel_rfl) | (rw [if_neg (by decide +kernel)]; exact ⟨rfl, rfl⟩))
    (fun os started H enc _ => zsays_lifted os started H enc)

theorem sanitizeSays_holds : Rows.SanitizeSaysCardSaid :=
  Claim7.holds_tied_plain_at .later [] [.data, .listed, .data, .data, .data, .data, .data, .data, .data, .pinned] true (true, "82d97f48944c5f9f30ab22310f317914aea937d8e5cea6f0706545cc9ef9aff8") true
    zsays_holds (fun _ h => by cases h) (by kernel_rfl) (fun _ h => by cases h) sanitizeSays_row_tie rfl ⟨rfl, rfl⟩ zsays_mi rfl
    (fun f fn hf hfn => by
      obtain rfl : f = 4 := Option.some.inj ((show Tryz.prog.funcNamed "manyhands/manyhandslaw.SanitizeSays" = some 4 by kernel_rfl).symm.trans hf) |>.symm
      obtain rfl : fn = Tryz.f4 := (Option.some.inj (Tryz.func4.symm.trans hfn)).symm
      exact ⟨zsays_lk, fun j t ht => by
        rw [Tryz.params4] at ht
        have hm : t ∈ [22] := by simpa using Array.mem_of_getElem? ht
        have hall : ([22].all fun u => !Tryz.prog.wantsStandIn u) = true := by kernel_rfl
        exact (show Tryz.prog.wantsStandIn t = false by simpa using List.all_eq_true.1 hall t hm)⟩)
    zsays_gb
#print axioms sanitizeSays_holds
end Go.Proofs.YtbhcklkbckacpaaGreatDoor
