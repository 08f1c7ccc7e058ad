/-
  The reference's Turned, of whatever operations.
-/
import Derived.Test.YtbhcklkbckacpaaGreatDoorQf
namespace Go.Proofs.YtbhcklkbckacpaaGreatDoor
open Go.RowKit
theorem turnedR_any (ao ao' : Option Addr) (n cap n' cap' : Nat) (vs vs' : List PV) (w : World) (hO : Ops w ao n cap vs) (hO' : Ops w ao' n' cap' vs') :
    Calls Tryz.prog 93 #[.slice ao n cap, .slice ao' n' cap'] w fun e w' => TurnP (Ac.trnX (vs.map PV.pt) (vs'.map PV.pt)) (Ac.trnY (vs.map PV.pt) (vs'.map PV.pt)) (Ac.trnE (vs.map PV.pt) (vs'.map PV.pt)) e w' ∧ Below w.heap.size w w' := by
  unfold Ac.trnX Ac.trnY Ac.trnE
  by_cases h1 : Ac.fst2 (vs.map PV.pt) (vs'.map PV.pt) = 0
  · rw [if_pos h1]
    by_cases h2 : Ac.nd (vs.map PV.pt) = Ac.nd (vs'.map PV.pt)
    · rw [if_pos h2]
      exact turnedR_main ao ao' n cap n' cap' vs vs' w hO hO' h1 h2
    · rw [if_neg h2, if_neg (show ¬ (6 : Int) = 0 by decide), if_neg (show ¬ (6 : Int) = 0 by decide)]
      refine (turnedR_base ao ao' n cap n' cap' vs vs' w hO hO' h1 h2).mono ?_
      rintro e w' ⟨rfl, hb⟩
      exact ⟨turnP_nil _ _, hb⟩
  · rw [if_neg h1, if_neg h1, if_neg h1]
    refine (turnedR_bad ao ao' n cap n' cap' vs vs' w hO hO' h1).mono ?_
    rintro e w' ⟨rfl, hb⟩
    exact ⟨turnP_nil _ _, hb⟩
end Go.Proofs.YtbhcklkbckacpaaGreatDoor
