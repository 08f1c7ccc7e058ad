/-
  slices.Equal at two slices of ints that hold the same numbers, each over cells: the call returns true, and the world is as it was but for draws.
-/
import Derived.Test.YtdolnompcbloaaaRows
import Derived.WalkKit
import Derived.WalkLawsBesides
import Derived.Deep.QuietTactic
import Derived.BigQuiet
import Derived.Deep.Draws
namespace Go.Proofs.Ytdolnompcbloaaa
open Go.RowKit

set_option maxHeartbeats 400000 in
theorem equal_any (zs : List Int) (n c1 c2 b1 b2 : Nat) (w : World) (hn : n ≤ 1000)
    (h1 : ∀ k : Nat, k < n → w.cell? ⟨b1, k, none⟩ = some (.int .i64 (zs.getD k 0)))
    (h2 : ∀ k : Nat, k < n → w.cell? ⟨b2, k, none⟩ = some (.int .i64 (zs.getD k 0))) :
    Calls Try.prog 4 #[.slice (some ⟨b1, 0, none⟩) n c1, .slice (some ⟨b2, 0, none⟩) n c2] w fun e w' => e = .returned (.bool true) ∧ ∃ m, w' = w.drewN m := by
  go_enter Try.func4, Try.ntmps4
  go_wp2
  go_loopw [13] (fun i w' => ∃ k m : Nat, k ≤ n ∧ i = .int .i64 k ∧ w' = w.drewN m) (fun i _ => n - (intOf i).toNat)
  case atStart => exact ⟨0, 0, Nat.zero_le _, rfl, rfl⟩
  case round =>
    obtain ⟨k, m, hk, rfl, rfl⟩ := hrel
    by_cases hlt : k < n
    · have g1 := h1 k hlt
      have g2 := h2 k hlt
      go_wp2
      go_quiet (fail)
      go_wp2
      go_roundw
      case rel => exact ⟨k + 1, _, by omega, by go_num, rfl⟩
      case measure => simp [intOf]; omega
    · go_wp2
      go_ret
      exact ⟨rfl, m, rfl⟩
end Go.Proofs.Ytdolnompcbloaaa
