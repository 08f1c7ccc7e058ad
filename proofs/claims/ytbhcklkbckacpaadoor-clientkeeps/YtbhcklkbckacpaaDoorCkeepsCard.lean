/-
  ClientKeeps: whatever client, operation, number and message it is called with, the law returns true and leaves them as they were: a client stays one, whatever it does, or hears; its own operations are done at once; what it hears from others leaves its own done, turned, or given up; and the closed fact of the law holds.
  Conditions: the tied card's own: the package variable 'schemes' of package link (tied to the program's text in the pruned copy of the project; nothing is said of its other packages, commands or tests) reads as listed; of 'internal/bytealg.MaxLen' nothing is asked. The statement is the full one, 'Rows.ClientKeepsCardSaid'.
-/
import Derived.Test.YtbhcklkbckacpaaDoorYl
import Derived.Test.YtbhcklkbckacpaaDoorYo
import Derived.Test.YtbhcklkbckacpaaDoorDocLaid
import Derived.Test.YtbhcklkbckacpaaDoorTie
import Derived.Test.YtbhcklkbckacpaaDoorCards
import Derived.SevenTiedAt
import Derived.Carry
namespace Go.Proofs.YtbhcklkbckacpaaDoor
open Go.ChangeShapes Go.WideShapes Go.ChangeAt Go.WideMaps Go.WideElems Go.RowKit

set_option maxRecDepth 100000 in
theorem ckeeps_lifted (os : Os) (started : os.Started) (H : Type) (enc : TypeId × Value → H) :
    ReturnsInHanded {} Tryd.checked os 6 .any (fun w args => (Rows.clientKeepsSpec.pre enc Tryd.prog Tryd.f6 [] false w args ∧ laidMetH Tryd.prog laid1 w) ∧ sizedMet enc Tryd.prog Tryd.f6 (OpenSpec.ofChange Rows.clientKeepsSpec) false w args)
      (Rows.clientKeepsSpec.post enc Tryd.prog Tryd.f6 false true false false) := by
  refine returnsInHanded_of_change_and (C := Tryd.checked) (X := fun w _ => laidMetH Tryd.prog laid1 w) (fun _ _ _ hh h => h.of_heap hh) own started (by kernel_rfl) Tryd.func6
    (ChangeSpec.witness_shaped (enc := enc) (C := Tryd.checked) (os := os) (X := fun w _ => laidMetH Tryd.prog laid1 w) false (World.laidAll Tryd.prog os laid1) #[.agg #[.int .i64 0, .slice none 0 0, .slice none 0 0, .int .i64 0, .slice none 0 0, .slice none 0 0, .bool false], .slice none 0 0, .int .i64 0, .agg #[.int .i64 0, .int .i64 0, .int .i64 0, .slice none 0 0]] 8 (World.laidAll_os _ _ _) (World.shaped_of_ZipB (by kernel_rfl) (by kernel_rfl)) (by kernel_rfl) (by kernel_rfl) (by kernel_rfl) (met1 os _)) ?_
  intro W base args ds gs before hval0 hW _ _ hL _
  have hval : ∀ (j : Nat) t v, Tryd.f6.params[j]? = some t → args[j]? = some v → Value.okWide Tryd.prog W .any base t v := hval0
  have hW' := hW
  obtain ⟨p, q, hA0, hV, rfl, hfz, hnd⟩ := hW
  have hA : DataW.TrodAll enc Tryd.prog W 0 (fun _ => true) true Tryd.f6.params.toList args.toList ds p := hA0
  rw [Tryd.params6] at hA hval
  obtain ⟨v0, v1, v2, v3, d0, d1, d2, d3, p0, p1, p2, p3, rfl, rfl, rfl, h0, h1, h2, h3⟩ := trodAll_four hA
  obtain ⟨rfl, rfl⟩ := trodVars_none hV
  obtain ⟨c0, rfl, -⟩ := okWide_struct Tryd.underlying51 (hval 0 51 v0 rfl rfl)
  obtain ⟨a1, n1, c1, rfl⟩ := okWide_slice Tryd.underlying23 (hval 1 23 v1 rfl rfl)
  obtain ⟨i2, rfl⟩ := okWide_int Tryd.underlying3 (hval 2 3 v2 rfl rfl)
  obtain ⟨c3, rfl, -⟩ := okWide_struct Tryd.underlying53 (hval 3 53 v3 rfl rfl)
  have hlt : ∀ y ∈ p0 ++ (p1 ++ (p2 ++ p3)), y.block < W.heap.size := fun y hy => by simpa using hW'.lt y (by simpa using hy)
  clear hA0 hval0
  simp only [List.append_nil] at hW'
  have D0 : ∃ x : CV, c0.toList = cvC x ∧ Cli W x := by obtain ⟨fuel, hf⟩ := h0; exact client_of (by simpa [Value.cells] using hf)
  have D1 : ∃ l, Ops W a1 n1 c1 l := by obtain ⟨fuel, hf⟩ := h1; exact open_ops Tryd.underlying23 (by simpa [Value.cells] using hf)
  have D3 : ∃ x : MV, c3.toList = mgC x ∧ Ops W x.e.ao x.e.n x.e.cap x.e.vs := by obtain ⟨fuel, hf⟩ := h3; exact message_of (by simpa [Value.cells] using hf)
  obtain ⟨x0, e0, D0⟩ := D0
  obtain rfl : c0 = (cvC x0).toArray := by rw [← e0]
  obtain ⟨l1, D1⟩ := D1
  obtain ⟨x3, e3, D3⟩ := D3
  obtain rfl : c3 = (mgC x3).toArray := by rw [← e3]
  refine (keepsK_any x0 a1 n1 c1 l1 i2 x3 W D0 D1 D3 (of_laid hL)).mono fun e W' ⟨he, hb⟩ => ?_
  subst he
  refine ⟨_, rfl, _, _, _, [], p0 ++ (p1 ++ (p2 ++ p3)), [], hW', trodAll_mk1 (shut_bool Tryd.underlying4 _), ?_, rfl, hb.frame _, fun h => by cases h⟩
  exact trodAll_mk4 (Below.trod laidOut (by kernel_rfl) (of_decide_eq_true (by kernel_rfl)) h0 hb (fun y hy => hlt y (by simp [hy]))) (Below.trod laidOut (by kernel_rfl) (of_decide_eq_true (by kernel_rfl)) h1 hb (fun y hy => hlt y (by simp [hy]))) (Below.trod laidOut (by kernel_rfl) (of_decide_eq_true (by kernel_rfl)) h2 hb (fun y hy => hlt y (by simp [hy]))) (Below.trod laidOut (by kernel_rfl) (of_decide_eq_true (by kernel_rfl)) h3 hb (fun y hy => hlt y (by simp [hy])))

theorem ckeeps_holds : Rows.ClientKeepsSaid :=
  OpenClaim.holds_of_wide 6 Tryd.f6 rfl rfl rfl rfl rfl rfl rfl ⟨rfl, rfl, rfl, rfl, rfl⟩ rfl rfl rfl rfl rfl (by kernel_rfl) Tryd.func6 (by kernel_rfl)
    (of_decide_eq_true (by kernel_rfl)) (by unfold Func.isWrapper; first | (rw [if_pos (by decide +kernel)]; kernel_rfl) | (rw [if_neg (by decide +kernel)]; exact ⟨rfl, rfl⟩))
    (fun os started H enc _ => ckeeps_lifted os started H enc)

/-- The statement. -/
theorem clientKeeps_holds : Rows.ClientKeepsCardSaid :=
  Claim7.holds_tied_plain_at .later [] [.data] true (true, "70d93c832a877de0c20ee0526120d6896ccb693c8b37930e851df2a5b0b167f1") false
    ckeeps_holds (fun _ h => by cases h) (by kernel_rfl) (fun _ h => by cases h) clientKeeps_row_tie rfl ⟨rfl, rfl⟩ (by kernel_rfl) rfl
    (fun f fn hf hfn => by
      obtain rfl : f = 6 := Option.some.inj ((show Tryd.prog.funcNamed "manyhands/manyhandslaw.ClientKeeps" = some 6 by kernel_rfl).symm.trans hf) |>.symm
      obtain rfl : fn = Tryd.f6 := (Option.some.inj (Tryd.func6.symm.trans hfn)).symm
      exact ⟨by kernel_rfl, fun j t ht => by
        rw [Tryd.params6] at ht
        have hm : t ∈ [51, 23, 3, 53] := by simpa using Array.mem_of_getElem? ht
        have hall : ([51, 23, 3, 53].all fun u => !Tryd.prog.wantsStandIn u) = true := by kernel_rfl
        exact (show Tryd.prog.wantsStandIn t = false by simpa using List.all_eq_true.1 hall t hm)⟩)
    (by kernel_rfl)
#print axioms clientKeeps_holds
end Go.Proofs.YtbhcklkbckacpaaDoor
