/- A part. -/
import Derived.Test.YtbhcklkbckacpaaGreatDoorQh
import Derived.Test.YtbhcklkbckacpaaGreatDoorUm
namespace Go.Proofs.YtbhcklkbckacpaaGreatDoor
open Go.RowKit
theorem q0y (ao ao' : Option Addr) (n cap n' cap' : Nat) (vs vs' : List PV) (w:World) (hO:Ops w ao n cap vs) (hO' : Ops w ao' n' cap' vs') :
  Calls Tryz.prog 93 #[.slice ao n cap,.slice ao' n' cap'] w fun e w' => q4h (Ac.trnX (vs.map PV.pt) (vs'.map PV.pt)) (Ac.trnY (vs.map PV.pt) (vs'.map PV.pt)) (Ac.trnE (vs.map PV.pt) (vs'.map PV.pt)) e w' ∧ Below w.heap.size w w' := by
 unfold Ac.trnX Ac.trnY Ac.trnE
 by_cases h1:Ac.fst2 (vs.map PV.pt) (vs'.map PV.pt)=0
 ·rw[if_pos h1]
  by_cases h2:Ac.nd (vs.map PV.pt)=Ac.nd (vs'.map PV.pt)
  ·rw[if_pos h2]
   exact q4m ao ao' n cap n' cap' vs vs' w hO hO' h1 h2
  ·rw[if_neg h2,if_neg (show ¬ (6:Int)=0 by decide),if_neg (show ¬ (6:Int)=0 by decide)]
   refine (q4n ao ao' n cap n' cap' vs vs' w hO hO' h1 h2).mono ?_
   rintro e w' ⟨rfl,hb⟩
   exact ⟨q2i _ _,hb⟩
 ·rw[if_neg h1,if_neg h1,if_neg h1]
  refine (q5t ao ao' n cap n' cap' vs vs' w hO hO' h1).mono ?_
  rintro e w' ⟨rfl,hb⟩
  exact ⟨q2i _ _,hb⟩
theorem q2u (ao ao' : Option Addr) (n cap n' cap' : Nat) (vs vs' : List PV) (w:World) (hO:Ops w ao n cap vs) (hO' : Ops w ao' n' cap' vs') :
  Calls Tryz.prog 100 #[.slice ao n cap,.slice ao' n' cap'] w fun e w' => q4i (Ac.jonX (vs.map PV.pt) (vs'.map PV.pt)) (Ac.jonE (vs.map PV.pt) (vs'.map PV.pt)) e w' ∧ Below w.heap.size w w' := by
 unfold Ac.jonX Ac.jonE
 by_cases h1:Ac.fst2 (vs.map PV.pt) (vs'.map PV.pt)=0
 ·rw[if_pos h1]
  by_cases h2:Ac.lv (vs.map PV.pt)=Ac.nd (vs'.map PV.pt)
  ·rw[if_pos h2]
   exact q59 ao ao' n cap n' cap' vs vs' w hO hO' h1 h2
  ·rw[if_neg h2,if_neg (show ¬ (6:Int)=0 by decide)]
   refine (q5a ao ao' n cap n' cap' vs vs' w hO hO' h1 h2).mono ?_
   rintro e w' ⟨rfl,hb⟩
   exact ⟨xy _ _,hb⟩
 ·rw[if_neg h1,if_neg h1]
  refine (q68 ao ao' n cap n' cap' vs vs' w hO hO' h1).mono ?_
  rintro e w' ⟨rfl,hb⟩
  exact ⟨xy _ _,hb⟩
end Go.Proofs.YtbhcklkbckacpaaGreatDoor
