/-
  ServerOrder: whatever server, revision and entry it is called with, the law returns true and leaves them as they were: an operation that is taken on an elder revision is what it was, turned behind all since, and makes what was made, with all of those turned behind it; and the closed fact of the law holds.
  Conditions: the tied card's own: the package variable 'schemes' of package link (tied to the program's text in the pruned copy of the project; nothing is said of its other packages, commands or tests) reads as listed; of 'internal/bytealg.MaxLen' nothing is asked. The statement is the full one, 'Rows.ServerOrderCardSaid'.
-/
import Derived.Test.YtbhcklkbckacpaaDoorVm
import Derived.Test.YtbhcklkbckacpaaDoorVo
import Derived.Test.YtbhcklkbckacpaaDoorDocLaid
import Derived.Test.YtbhcklkbckacpaaDoorTie
import Derived.Test.YtbhcklkbckacpaaDoorCards
import Derived.SevenTiedAt
namespace Go.Proofs.YtbhcklkbckacpaaDoor
open Go.ChangeShapes Go.WideShapes Go.ChangeAt Go.WideMaps Go.WideElems Go.RowKit

set_option maxRecDepth 100000 in
theorem sorder_lifted (os : Os) (started : os.Started) (H : Type) (enc : TypeId × Value → H) :
    ReturnsInHanded {} Tryd.checked os 5 .any (fun w args => (Rows.serverOrderSpec.pre enc Tryd.prog Tryd.f5 [] false w args ∧ laidMetH Tryd.prog laid1 w) ∧ sizedMet enc Tryd.prog Tryd.f5 (OpenSpec.ofChange Rows.serverOrderSpec) false w args)
      (Rows.serverOrderSpec.post enc Tryd.prog Tryd.f5 false true false false) := by
  refine returnsInHanded_of_change_and (C := Tryd.checked) (X := fun w _ => laidMetH Tryd.prog laid1 w) (fun _ _ _ hh h => h.of_heap hh) own started (by kernel_rfl) Tryd.func5
    (ChangeSpec.witness_shaped (enc := enc) (C := Tryd.checked) (os := os) (X := fun w _ => laidMetH Tryd.prog laid1 w) false (World.laidAll Tryd.prog os laid1) #[.agg #[.slice none 0 0, .slice none 0 0, .slice none 0 0], .int .i64 0, .agg #[.int .i64 0, .int .i64 0, .slice none 0 0]] 8 (World.laidAll_os _ _ _) (World.shaped_of_ZipB (by kernel_rfl) (by kernel_rfl)) (by kernel_rfl) (by kernel_rfl) (by kernel_rfl) (met1 os _)) ?_
  intro W base args ds gs before hval0 hW _ _ hL _
  have hval : ∀ (j : Nat) t v, Tryd.f5.params[j]? = some t → args[j]? = some v → Value.okWide Tryd.prog W .any base t v := hval0
  have hW' := hW
  obtain ⟨p, q, hA0, hV, rfl, hfz, hnd⟩ := hW
  have hA : DataW.TrodAll enc Tryd.prog W 0 (fun _ => true) true Tryd.f5.params.toList args.toList ds p := hA0
  rw [Tryd.params5] at hA hval
  obtain ⟨v0, v1, v2, d0, d1, d2, p0, p1, p2, rfl, rfl, rfl, h0, h1, h2⟩ := trodAll_three hA
  obtain ⟨rfl, rfl⟩ := trodVars_none hV
  obtain ⟨c0, rfl, -⟩ := okWide_struct Tryd.underlying35 (hval 0 35 v0 rfl rfl)
  obtain ⟨rev, rfl⟩ := okWide_int Tryd.underlying3 (hval 1 3 v1 rfl rfl)
  obtain ⟨c2, rfl, -⟩ := okWide_struct Tryd.underlying37 (hval 2 37 v2 rfl rfl)
  have hlt : ∀ y ∈ p0 ++ (p1 ++ p2), y.block < W.heap.size := fun y hy => by simpa using hW'.lt y (by simpa using hy)
  clear hA0 hval0
  simp only [List.append_nil] at hW'
  have D0 : ∃ s : SV, c0.toList = svC s ∧ Srv W s := by obtain ⟨fuel, hf⟩ := h0; exact server_of (by simpa [Value.cells] using hf)
  have D2 : ∃ x : EV, c2.toList = evC x ∧ Ops W x.ao x.n x.cap x.vs := by obtain ⟨fuel, hf⟩ := h2; exact entry_of (by simpa [Value.cells] using hf)
  obtain ⟨s, e0, hV0⟩ := D0
  obtain ⟨x, e2, hO2⟩ := D2
  obtain rfl : c0 = (svC s).toArray := by rw [← e0]
  obtain rfl : c2 = (evC x).toArray := by rw [← e2]
  refine (order_any s rev x W hV0 hO2 (of_laid hL)).mono fun e W' ⟨he, hb⟩ => ?_
  subst he
  refine ⟨_, rfl, _, _, _, [], p0 ++ (p1 ++ p2), [], hW', trodAll_mk1 (shut_bool Tryd.underlying4 _), ?_, rfl, hb.frame _, fun h => by cases h⟩
  exact trodAll_mk3 (Below.trod laidOut (by kernel_rfl) (of_decide_eq_true (by kernel_rfl)) h0 hb (fun y hy => hlt y (by simp [hy]))) (Below.trod laidOut (by kernel_rfl) (of_decide_eq_true (by kernel_rfl)) h1 hb (fun y hy => hlt y (by simp [hy]))) (Below.trod laidOut (by kernel_rfl) (of_decide_eq_true (by kernel_rfl)) h2 hb (fun y hy => hlt y (by simp [hy])))

theorem sorder_holds : Rows.ServerOrderSaid :=
  OpenClaim.holds_of_wide 5 Tryd.f5 rfl rfl rfl rfl rfl rfl rfl ⟨rfl, rfl, rfl, rfl, rfl⟩ rfl rfl rfl rfl rfl (by kernel_rfl) Tryd.func5 (by kernel_rfl)
    (of_decide_eq_true (by kernel_rfl)) (by unfold Func.isWrapper; first | (rw [if_pos (by decide +kernel)]; kernel_rfl) | (rw [if_neg (by decide +kernel)]; exact ⟨rfl, rfl⟩))
    (fun os started H enc _ => sorder_lifted os started H enc)

/-- The statement. -/
theorem serverOrder_holds : Rows.ServerOrderCardSaid :=
  Claim7.holds_tied_plain_at .later [] [.data] true (true, "70d93c832a877de0c20ee0526120d6896ccb693c8b37930e851df2a5b0b167f1") false
    sorder_holds (fun _ h => by cases h) (by kernel_rfl) (fun _ h => by cases h) serverOrder_row_tie rfl ⟨rfl, rfl⟩ (by kernel_rfl) rfl
    (fun f fn hf hfn => by
      obtain rfl : f = 5 := Option.some.inj ((show Tryd.prog.funcNamed "manyhands/manyhandslaw.ServerOrder" = some 5 by kernel_rfl).symm.trans hf) |>.symm
      obtain rfl : fn = Tryd.f5 := (Option.some.inj (Tryd.func5.symm.trans hfn)).symm
      exact ⟨by kernel_rfl, fun j t ht => by
        rw [Tryd.params5] at ht
        have hm : t ∈ [35, 3, 37] := by simpa using Array.mem_of_getElem? ht
        have hall : ([35, 3, 37].all fun u => !Tryd.prog.wantsStandIn u) = true := by kernel_rfl
        exact (show Tryd.prog.wantsStandIn t = false by simpa using List.all_eq_true.1 hall t hm)⟩)
    (by kernel_rfl)
#print axioms serverOrder_holds
end Go.Proofs.YtbhcklkbckacpaaDoor
