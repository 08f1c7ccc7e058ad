/-
  OpSays: any operation is checked, measured, done, made tidy, held against another one, as the reference says.
-/
import Derived.Test.YtbhcklkbckacpaaGreatDoorRh
namespace Go.Proofs.YtbhcklkbckacpaaGreatDoor
open Go.RowKit

theorem appliedR_any (ao ao' : Option Addr) (n cap n' cap' : Nat) (l : List It) (vs : List PV) (w : World) (hD : Doc w ao n cap l) (hO : Ops w ao' n' cap' vs) :
    Calls Tryz.prog 82 #[.slice ao n cap, .slice ao' n' cap'] w fun e w' => (∃ a c, e = .returned (.tuple #[.slice a (Ac.done l (vs.map PV.pt)).length c, .int .i64 (Ac.fitE l (vs.map PV.pt))]) ∧ Doc w' a (Ac.done l (vs.map PV.pt)).length c (Ac.done l (vs.map PV.pt))) ∧ Below w.heap.size w w' := by
  unfold Ac.done
  by_cases h : Ac.fitE l (vs.map PV.pt) = 0
  · rw [if_pos h, h]
    exact appliedR_ok ao ao' n cap n' cap' l vs w hD hO h
  · rw [if_neg h]
    refine (appliedR_bad ao ao' n cap n' cap' l vs w hD hO h).mono ?_
    rintro e w' ⟨he, hb⟩
    exact ⟨⟨none, 0, he, doc_none w'⟩, hb⟩
end Go.Proofs.YtbhcklkbckacpaaGreatDoor
