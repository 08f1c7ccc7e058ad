/-
  doc.walk, with whatever is called at each place.
-/
import Derived.Test.YtdlacdoakkklaabDoorDx
namespace Go.Proofs.YtdlacdoakkklaabDoor
open Go.RowKit

set_option maxRecDepth 100000 in
set_option maxHeartbeats 1600000 in
theorem walk_any (ao : Option Addr) (n cap : Nat) (l : List It) (F : FuncId) (c1 c2 : Value) (Inv : Nat → World → Prop) (w : World) (hF : F = 25 ∨ F = 29) (hD : Doc w ao n cap l) (hS : Sch w)
    (h0 : Dc.check l = 0 → ∀ w', Below w.heap.size w w' → Inv 0 w')
    (hstep : ∀ k wr, k < n → Inv k wr → Calls Tryd.prog F #[.int .i64 k, c1, c2] wr fun e w' => e = .returned (.tuple #[]) ∧ Inv (k + 1) w') :
    Calls Tryd.prog 24 #[.slice ao n cap, .func (.func F) #[] #[c1, c2]] w fun e w' => e = .returned (.int .i64 (Dc.check l)) ∧ (Dc.check l = 0 → Inv n w') ∧ (Dc.check l ≠ 0 → Below w.heap.size w w') := by
  have CK : Hid (Calls Tryd.prog 46 #[.slice ao n cap] w fun e w' => e = .returned (.int .i64 (Dc.check l)) ∧ Below w.heap.size w w') := check_any ao n cap l w hD hS
  have hcap := hD.room
  have hbig := hD.big
  clear hD hS
  have H0 : Hid (Dc.check l = 0 → ∀ w', Below w.heap.size w w' → Inv 0 w') := h0
  have HS : Hid (∀ k wr, k < n → Inv k wr → Calls Tryd.prog F #[.int .i64 k, c1, c2] wr fun e w' => e = .returned (.tuple #[]) ∧ Inv (k + 1) w') := hstep
  have HF : Hid (F = 25 ∨ F = 29) := hF
  clear h0 hstep hF
  obtain ⟨r, hr⟩ : ∃ r, Dc.check l = r := ⟨_, rfl⟩
  rw [hr] at CK H0 ⊢
  clear hr
  by_cases hz : r = 0
  · subst hz
    have H0z : Hid (∀ w', Below w.heap.size w w' → Inv 0 w') := H0.out rfl
    clear H0
    go_enter Tryd.func24, Tryd.ntmps24
    go_wp2_with fail
    refine CK.out.mono ?_
    rintro e w1 ⟨rfl, hb⟩
    have HI : Hid (Inv 0 w1) := H0z.out w1 hb
    clear hb
    go_wp2
    go_loopw [14] (fun i wr => ∃ k : Nat, k ≤ n ∧ i = .int .i64 k ∧ Inv k wr) (fun i _ => n - (intOf i).toNat)
    case atStart => exact ⟨0, Nat.zero_le _, rfl, HI.out⟩
    case round =>
      obtain ⟨k, hk, rfl, hinv⟩ := hrel
      have HK : Hid (Inv k wr) := hinv
      clear hinv
      by_cases hlt : k < n
      · rcases HF.out with rfl | rfl
        all_goals
          go_wp2_with fail
          refine (HS.out k wr hlt HK.out).mono ?_
          rintro e w2 ⟨rfl, hi⟩
          have HK2 : Hid (Inv (k + 1) w2) := hi
          clear hi
          go_wp2
          go_roundw
          case rel => exact ⟨k + 1, by omega, by go_num, HK2.out⟩
          case measure => simp [intOf]; omega
      · obtain rfl : k = n := by omega
        go_wp2
        go_ret
        exact ⟨rfl, fun _ => HK.out, fun h => absurd rfl h⟩
  · go_enter Tryd.func24, Tryd.ntmps24
    go_wp2_with fail
    refine CK.out.mono ?_
    rintro e w1 ⟨rfl, hb⟩
    have HB : Hid (Below w.heap.size w w1) := hb
    clear hb
    go_wp2
    go_ret
    exact ⟨rfl, fun h => absurd h hz, fun _ => HB.out⟩
end Go.Proofs.YtdlacdoakkklaabDoor
