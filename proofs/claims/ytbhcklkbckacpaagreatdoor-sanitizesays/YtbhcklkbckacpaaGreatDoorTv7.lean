/-
  The reference's isLetter of a capital letter.
-/
import Derived.Test.YtbhcklkbckacpaaGreatDoorG2
namespace Go.Proofs.YtbhcklkbckacpaaGreatDoor
open Go.RowKit

attribute [local go_sem] undef in
set_option maxRecDepth 100000 in
set_option maxHeartbeats 3200000 in
theorem rletter_up (c d : UInt8) (w : World) (hd : Hid (Lk.small1 c = d)) (hne : (d == c) = false) : Calls Tryz.prog 58 #[.int .u8 c.toNat] w fun e w' => e = .returned (.bool true) ∧ Below w.heap.size w w' := by
  have HS : Hid (∀ w, Calls Tryz.prog 60 #[.string ⟨#[c]⟩] w fun e w' => e = .returned (.string ⟨#[d]⟩) ∧ Below w.heap.size w w') := fun w => by rw [← hd.out]; exact Small_any ⟨#[c]⟩ w (show (1 : Nat) ≤ _ by decide)
  have k0 : (w.alloc (.cells #[.int .u8 c.toNat] 5)).cell? ⟨w.heap.size, 0, none⟩ = some (.int .u8 c.toNat) := (Blk.new w [.int .u8 c.toNat] 5).cell 0
  have k1 : ((w.alloc (.cells #[.int .u8 c.toNat] 5)).alloc (.cells #[.int .u8 c.toNat] 5)).cell? ⟨w.heap.size, 0, none⟩ = some (.int .u8 c.toNat) := ((Blk.new w [.int .u8 c.toNat] 5).alloc (.cells #[.int .u8 c.toNat] 5)).cell 0
  have k2 : ((w.alloc (.cells #[.int .u8 c.toNat] 5)).alloc (.cells #[.int .u8 c.toNat] 5)).cell? ⟨w.heap.size + 1, 0, none⟩ = some (.int .u8 c.toNat) := (Blk.newAt (w.alloc (.cells #[.int .u8 c.toNat] 5)) (w.heap.size + 1) [.int .u8 c.toNat] 5 (by simp)).cell 0
  have K0 : Hid ((w.alloc (.cells #[.int .u8 c.toNat] 5)).cell? ⟨w.heap.size, 0, none⟩ = some (.int .u8 c.toNat)) := k0
  have K1 : Hid (((w.alloc (.cells #[.int .u8 c.toNat] 5)).alloc (.cells #[.int .u8 c.toNat] 5)).cell? ⟨w.heap.size, 0, none⟩ = some (.int .u8 c.toNat)) := k1
  have K2 : Hid (((w.alloc (.cells #[.int .u8 c.toNat] 5)).alloc (.cells #[.int .u8 c.toNat] 5)).cell? ⟨w.heap.size + 1, 0, none⟩ = some (.int .u8 c.toNat)) := k2
  have e1 := conv_one c w.heap.size (w.alloc (.cells #[.int .u8 c.toNat] 5)).drew k0
  have e2 := conv_one c w.heap.size ((w.alloc (.cells #[.int .u8 c.toNat] 5)).alloc (.cells #[.int .u8 c.toNat] 5)).drew k1
  have e3 := conv_one c (w.heap.size + 1) ((w.alloc (.cells #[.int .u8 c.toNat] 5)).alloc (.cells #[.int .u8 c.toNat] 5)).drew k2
  have H1 : Hid (Below w.heap.size w (w.alloc (.cells #[.int .u8 c.toNat] 5))) := (Below.refl _ _).alloc (Nat.le_refl _) _
  have H2 : Hid (Below w.heap.size w ((w.alloc (.cells #[.int .u8 c.toNat] 5)).alloc (.cells #[.int .u8 c.toNat] 5))) := H1.out.alloc (by simp) _
  clear k0 k1 k2
  go_enter Tryz.func58, Tryz.ntmps58
  go_wp2
  first
  | go_region_with (go_at_call 60; refine (HS.out _).mono ?_; rintro e w1 ⟨rfl, hb⟩; first | (have HB : Hid (Below w.heap.size w w1) := H1.out.trans ((Below.refl _ _).drew.trans (hb.mono (by simp))); have e4 := conv_one c w.heap.size w1 (cell_under K0.out (((Below.refl _ _).drew).trans hb)); have e5 := conv_one c w1.heap.size (w1.alloc (.cells #[.int .u8 c.toNat] 5)) ((Blk.new w1 [.int .u8 c.toNat] 5).cell 0)) | (have HB : Hid (Below w.heap.size w w1) := H2.out.trans ((Below.refl _ _).drew.trans (hb.mono (by simp; omega))); have e4 := conv_one c w.heap.size w1 (cell_under K1.out (((Below.refl _ _).drew).trans hb)); have e5 := conv_one c (w.heap.size + 1) w1 (cell_under K2.out (((Below.refl _ _).drew).trans hb))); clear hb)
  | fail
  all_goals
    go_wp2
    go_ret
    first | exact ⟨rfl, HB.out⟩ | exact ⟨rfl, HB.out.alloc HB.out.size _⟩
end Go.Proofs.YtbhcklkbckacpaaGreatDoor
