/-
  The closed fact 'kept': it is so.
-/
import Derived.Test.YtmifcioccnmlaaaDoorDv
import Derived.Test.YtmifcioccnmlaaaDoorDy
namespace Go.Proofs.YtmifcioccnmlaaaDoor
open Go.RowKit

/-- Two slices of the call's own that hold the same numbers. -/
theorem ints_same (v v' : Value) (B B' : Nat) (p : List Nat) (w : World) (h : w.ownsRow B 3 1 v p.length (p.map ci)) (h' : w.ownsRow B' 3 1 v' p.length (p.map ci)) (hp : p.length ≤ 80) :
    Calls Tryd.prog 43 #[v, v'] w fun e w' => e = .returned (.bool true) ∧ ∃ q, w' = w.drewN q := by
  have cells : ∀ {B g cap : Nat} {v : Value}, v = .slice (some ⟨g, 0, none⟩) p.length cap → w.ownsRow B 3 1 v p.length (p.map ci) → ∀ j, j < (p.map fun (k : Nat) => (k : Int)).length → w.cell? ⟨g, 0 + j, none⟩ = some (.int .i64 ((p.map fun (k : Nat) => (k : Int)).getD j 0)) := by
    intro B g cap v hv ho j hj
    have hj' : j < p.length := by simpa using hj
    have := ho.cells (g := g) (by rw [hv]; rfl) j (ci p[j]) (by simp [hj'])
    have e : (⟨g, 0, none⟩ : Addr).add j = ⟨g, 0 + j, none⟩ := by unfold Addr.add; split <;> simp_all
    rw [e] at this
    rw [this]
    simp [ci, List.getD, hj']
  by_cases h0 : p.length = 0
  · have sh : ∀ {B : Nat} {v : Value}, w.ownsRow B 3 1 v p.length (p.map ci) → ∃ a c, v = .slice a 0 c := by
      intro B v ho
      rcases ho.2 with ⟨rfl, _⟩ | ⟨g, cap, cur, rfl, _⟩
      · exact ⟨_, _, rfl⟩
      · rw [h0]; exact ⟨_, _, rfl⟩
    obtain ⟨a, c, rfl⟩ := sh h
    obtain ⟨a', c', rfl⟩ := sh h'
    exact (Tryd.slices_Equal_int_empty a a' c 0 c' w (by decide)).mono fun _ _ ⟨he, hw⟩ => ⟨he, 0, hw⟩
  · obtain ⟨g, cap, hv, _⟩ := h.form (by omega)
    obtain ⟨g', cap', hv', _⟩ := h'.form (by omega)
    have c1 := cells hv h
    have c2 := cells hv' h'
    rw [hv, hv']
    have := Tryd.slices_Equal_int g 0 p.length cap g' 0 p.length cap' (p.map fun (k : Nat) => (k : Int)) (p.map fun (k : Nat) => (k : Int)) w (by simp) (by simp) (by omega) (by omega) c1 c2
    refine this.mono fun _ _ ⟨he, hw⟩ => ⟨?_, hw⟩
    rw [he, beq_self_eq_true]

theorem five_own (w : World) : (w.alloc (.cells #[.int .i64 0, .int .i64 1, .int .i64 2, .int .i64 3, .int .i64 4] 3)).ownsRow w.heap.size 3 1 (.slice (some ⟨w.heap.size, 0, none⟩) 5 5) ([0, 1, 2, 3, 4] : List Nat).length (([0, 1, 2, 3, 4] : List Nat).map ci) :=
  ⟨rfl, .inr ⟨w.heap.size, 5, _, rfl, Nat.le_refl _, heap_alloc_new w _, Nat.le_refl _, by decide, rfl, rfl⟩⟩
set_option maxRecDepth 100000 in
set_option maxHeartbeats 1600000 in
theorem kept_any (w : World) (hS : Sch w) : Calls Tryd.prog 35 #[] w fun e w' => e = .returned (.bool true) ∧ Below w.heap.size w w' := by
  have HS : Hid (Sch w) := hS
  clear hS
  have CP : Hid (∀ ao w, Doc w ao 5 5 smallDoc → Sch w → Calls Tryd.prog 32 #[.slice ao 5 5] w fun e w' => e = .returned (.tuple #[.string ⟨#[97, 98, 10, 60, 10]⟩, .int .i64 0]) ∧ Below w.heap.size w w') := fun ao w hD hS => by
    have := plain_any ao 5 5 smallDoc w hD hS
    rw [small_plain, small_check] at this
    exact this
  have CR : Hid (∀ ao w, Doc w ao 5 5 smallDoc → Sch w → Calls Tryd.prog 33 #[.slice ao 5 5] w fun e w' => (∃ v, e = .returned (.tuple #[v, .int .i64 0]) ∧ w'.ownsRow w.heap.size 3 1 v ([0, 1, 2, 3, 4] : List Nat).length (([0, 1, 2, 3, 4] : List Nat).map ci)) ∧ Below w.heap.size w w') := fun ao w hD hS => by
    have := runs_any ao 5 5 smallDoc w hD hS
    rw [small_runs, small_check] at this
    exact this
  have CC : Hid (∀ ao w, Doc w ao 5 5 smallDoc → Sch w → Calls Tryd.prog 36 #[.slice ao 2 5] w fun e w' => e = .returned (.int .i64 4) ∧ Below w.heap.size w w') := fun ao w hD hS => by
    have := check_any ao 2 5 (smallDoc.take 2) w (hD.take 2 (by decide)) hS
    rw [small_check2] at this
    exact this
  go_enter Tryd.func35, Tryd.ntmps35
  go_wp2_with fail
  refine (smallD _).mono ?_
  rintro e w1 ⟨rfl, hd, hb⟩
  have H1 : Hid (Below w.heap.size w w1) := hb
  have D1 : Hid (Doc w1 (some ⟨w.heap.size, 0, none⟩) 5 5 smallDoc) := hd
  have S1 : Hid (Sch w1) := HS.out.below hb
  clear hb hd
  go_wp2_with fail
  refine (CP.out _ _ D1.out S1.out).mono ?_
  rintro e w2 ⟨rfl, hb⟩
  have H2 : Hid (Below w.heap.size w w2) := H1.out.trans (hb.mono H1.out.size)
  have S2 : Hid (Sch w2) := S1.out.below hb
  clear hb D1
  go_wp2_with fail
  refine (smallD _).mono ?_
  rintro e w3 ⟨rfl, hd, hb⟩
  have H3 : Hid (Below w.heap.size w w3) := H2.out.trans (hb.mono H2.out.size)
  have D3 : Hid (Doc w3 (some ⟨w2.heap.size, 0, none⟩) 5 5 smallDoc) := hd
  have S3 : Hid (Sch w3) := S2.out.below hb
  clear hb hd
  go_wp2_with fail
  refine (CR.out _ _ D3.out S3.out).mono ?_
  rintro e w4 ⟨⟨v, rfl, ho⟩, hb⟩
  have H4 : Hid (Below w.heap.size w w4) := H3.out.trans (hb.mono H3.out.size)
  have S4 : Hid (Sch w4) := S3.out.below hb
  have O4 : Hid (w4.ownsRow w3.heap.size 3 1 v ([0, 1, 2, 3, 4] : List Nat).length (([0, 1, 2, 3, 4] : List Nat).map ci)) := ho
  clear hb D3 ho
  go_wp2_with fail
  have hb5 : Below w4.heap.size w4 (w4.alloc (.cells #[.int .i64 0, .int .i64 1, .int .i64 2, .int .i64 3, .int .i64 4] 3)) := (Below.refl _ _).alloc (Nat.le_refl _) _
  refine (ints_same v _ _ _ [0, 1, 2, 3, 4] _ (own_below O4.out hb5) (five_own w4) (by decide)).mono ?_
  rintro e w6 ⟨rfl, q, hw6⟩
  have hb6 : Below w4.heap.size w4 w6 := by rw [hw6]; exact hb5.trans ⟨rfl, rfl, rfl, Nat.le_refl _, fun _ _ => rfl⟩
  have H6 : Hid (Below w.heap.size w w6) := H4.out.trans (hb6.mono H4.out.size)
  have S6 : Hid (Sch w6) := S4.out.below hb6
  clear hb5 hb6 hw6 O4
  go_wp2_with fail
  refine (smallD _).mono ?_
  rintro e w7 ⟨rfl, hd, hb⟩
  have H7 : Hid (Below w.heap.size w w7) := H6.out.trans (hb.mono H6.out.size)
  have D7 : Hid (Doc w7 (some ⟨w6.heap.size, 0, none⟩) 5 5 smallDoc) := hd
  have S7 : Hid (Sch w7) := S6.out.below hb
  clear hb hd
  go_wp2_with fail
  refine (CC.out _ _ D7.out S7.out).mono ?_
  rintro e w8 ⟨rfl, hb⟩
  have H8 : Hid (Below w.heap.size w w8) := H7.out.trans (hb.mono H7.out.size)
  clear hb
  go_wp2
  go_ret
  exact ⟨rfl, H8.out⟩
end Go.Proofs.YtmifcioccnmlaaaDoor
