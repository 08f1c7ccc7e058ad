/- A part. -/
import Derived.Test.YtbhcklkbckacpaaGreatDoorRh
namespace Go.Proofs.YtbhcklkbckacpaaGreatDoor
open Go.RowKit
theorem zh (ao ao' : Option Addr) (n cap n' cap' : Nat) (l:List It) (vs:List PV) (w:World) (hD:Doc w ao n cap l) (hO:Ops w ao' n' cap' vs) :
  Calls Tryz.prog 82 #[.slice ao n cap,.slice ao' n' cap'] w fun e w' => (∃ a c,e=.returned (.tuple #[.slice a (Ac.done l (vs.map PV.pt)).length c,.int .i64 (Ac.fitE l (vs.map PV.pt))])∧Doc w' a (Ac.done l (vs.map PV.pt)).length c (Ac.done l (vs.map PV.pt)))∧Below w.heap.size w w' := by
 unfold Ac.done
 by_cases h:Ac.fitE l (vs.map PV.pt)=0
 ·rw[if_pos h,h]
  exact q6f ao ao' n cap n' cap' l vs w hD hO h
 ·rw[if_neg h]
  refine (q5m ao ao' n cap n' cap' l vs w hD hO h).mono ?_
  rintro e w' ⟨he,hb⟩
  exact ⟨⟨none,0,he,j8 w'⟩,hb⟩
end Go.Proofs.YtbhcklkbckacpaaGreatDoor
