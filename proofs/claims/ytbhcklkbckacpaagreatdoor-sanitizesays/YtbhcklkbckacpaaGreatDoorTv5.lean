/-
  The reference's isLetter.
-/
import Derived.Test.YtbhcklkbckacpaaGreatDoorTv2
import Derived.Test.YtbhcklkbckacpaaGreatDoorTv6
import Derived.Test.YtbhcklkbckacpaaGreatDoorTv7
namespace Go.Proofs.YtbhcklkbckacpaaGreatDoor
open Go.RowKit
theorem rletter_any (c : UInt8) (w : World) : Calls Tryz.prog 58 #[.int .u8 c.toNat] w fun e w' => e = .returned (.bool (Tk.letter c)) ∧ Below w.heap.size w w' := by
  have hl : Tk.letter c = ((decide (97 ≤ c.toNat) && decide (c.toNat ≤ 122)) || (decide (65 ≤ c.toNat) && decide (c.toNat ≤ 90))) := by
    unfold Tk.letter
    simp only [UInt8.le_iff_toNat_le]
    rfl
  rw [hl]
  by_cases h0 : 65 ≤ c.toNat ∧ c.toNat ≤ 90
  · have hne : (Lk.small1 c == c) = false := by
      rw [beq_eq_false_iff_ne]
      intro e
      have := small_toNat c h0.1 h0.2
      rw [e] at this
      omega
    have e : ((decide (97 ≤ c.toNat) && decide (c.toNat ≤ 122)) || (decide (65 ≤ c.toNat) && decide (c.toNat ≤ 90))) = true := by simp [h0.1, h0.2]
    rw [e]
    exact rletter_up c _ w rfl hne
  · have hne : (Lk.small1 c == c) = true := by rw [small_not c h0]; simp
    have h0' : (decide (65 ≤ c.toNat) && decide (c.toNat ≤ 90)) = false := by simp; omega
    rw [h0', Bool.or_false]
    by_cases h1 : 97 ≤ c.toNat
    · by_cases h2 : c.toNat ≤ 122
      · rw [decide_eq_true h1, decide_eq_true h2]
        exact rlet_mid c w hne (by simp; omega) (by simp; omega)
      · rw [decide_eq_true h1, decide_eq_false h2]
        exact rlet_hi c w hne (by simp; omega) (by simp; omega)
    · rw [decide_eq_false h1]
      exact rletter_lo c w h0 (by simp; omega)
end Go.Proofs.YtbhcklkbckacpaaGreatDoor
