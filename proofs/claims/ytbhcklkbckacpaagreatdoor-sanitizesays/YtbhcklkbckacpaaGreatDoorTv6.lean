/-
  The reference's isLetter.
-/
import Derived.Test.YtbhcklkbckacpaaGreatDoorG2
import Derived.Deep.RegionHeldLaw
import Derived.Deep.RegionHeld3
namespace Go.Proofs.YtbhcklkbckacpaaGreatDoor
open Go.RowKit
theorem bel_al {w W : World} (h : Below w.heap.size w W) (o : Obj) : Below w.heap.size w (W.alloc o) := h.alloc h.size o
theorem bel_dr {w W : World} (h : Below w.heap.size w W) : Below w.heap.size w W.drew := h.drew
theorem bel_tr {w W W' : World} (h : Below w.heap.size w W) (hb : Below W.heap.size W W') : Below w.heap.size w W' := h.trans (hb.mono h.size)

set_option maxRecDepth 100000 in
set_option maxHeartbeats 6400000 in
theorem rlet_mid (c : UInt8) (w : World) (hne : (Lk.small1 c == c) = true) (f1 : decide (97 ≤ (c.toNat : Int)) = true) (f2 : decide ((c.toNat : Int) ≤ 122) = true) : Calls Tryz.prog 58 #[.int .u8 c.toNat] w fun e w' => e = .returned (.bool true) ∧ Below w.heap.size w w' := by
  have HS : Hid (∀ w, Calls Tryz.prog 60 #[.string ⟨#[c]⟩] w fun e w' => e = .returned (.string ⟨#[Lk.small1 c]⟩) ∧ Below w.heap.size w w') := fun w => Small_any ⟨#[c]⟩ w (show (1 : Nat) ≤ _ by decide)
  have hcv : ∀ (g : Nat) (W : World), W.cell? ⟨g, 0, none⟩ = some (.int .u8 c.toNat) → (convert 22 9 (.slice (some ⟨g, 0, none⟩) 1 1)).run Tryz.prog W = .ok (.string ⟨#[c]⟩) W := fun g W h => conv_one c g W h
  have hb0 : Below w.heap.size w w := Below.refl _ _
  go_enter Tryz.func58, Tryz.ntmps58
  go_wp2
  go_region_held_law (fun w' => Below w.heap.size w w') (repeat (first | assumption | apply bel_dr | apply bel_al | (refine bel_tr ?_ (by assumption)))) (first | (go_at_call 60; refine (HS.out _).mono ?_; rintro e w1 ⟨rfl, hb⟩; have e4 := fun (g : Nat) (h : _) => conv_one c g w1 (cell_under h hb)))
  all_goals
    go_wp2
    go_ret
    exact ⟨rfl, by assumption⟩
set_option maxRecDepth 100000 in
set_option maxHeartbeats 6400000 in
theorem rlet_hi (c : UInt8) (w : World) (hne : (Lk.small1 c == c) = true) (f1 : decide (97 ≤ (c.toNat : Int)) = true) (f2 : decide ((c.toNat : Int) ≤ 122) = false) : Calls Tryz.prog 58 #[.int .u8 c.toNat] w fun e w' => e = .returned (.bool false) ∧ Below w.heap.size w w' := by
  have HS : Hid (∀ w, Calls Tryz.prog 60 #[.string ⟨#[c]⟩] w fun e w' => e = .returned (.string ⟨#[Lk.small1 c]⟩) ∧ Below w.heap.size w w') := fun w => Small_any ⟨#[c]⟩ w (show (1 : Nat) ≤ _ by decide)
  have hcv : ∀ (g : Nat) (W : World), W.cell? ⟨g, 0, none⟩ = some (.int .u8 c.toNat) → (convert 22 9 (.slice (some ⟨g, 0, none⟩) 1 1)).run Tryz.prog W = .ok (.string ⟨#[c]⟩) W := fun g W h => conv_one c g W h
  have hb0 : Below w.heap.size w w := Below.refl _ _
  go_enter Tryz.func58, Tryz.ntmps58
  go_wp2
  go_region_held_law (fun w' => Below w.heap.size w w') (repeat (first | assumption | apply bel_dr | apply bel_al | (refine bel_tr ?_ (by assumption)))) (first | (go_at_call 60; refine (HS.out _).mono ?_; rintro e w1 ⟨rfl, hb⟩; have e4 := fun (g : Nat) (h : _) => conv_one c g w1 (cell_under h hb)))
  all_goals
    go_wp2
    go_ret
    exact ⟨rfl, by assumption⟩

end Go.Proofs.YtbhcklkbckacpaaGreatDoor
