/-
  Chapter 10: clients, and how they lie in memory.
-/
import Derived.Test.YtbhcklkbckacpaaGreatDoorVh1
namespace Go.Proofs.YtbhcklkbckacpaaGreatDoor
open Go.RowKit
namespace Kl
structure Cl where
  rev : Int
  base : List It
  now : List It
  seq : Int
  sent : List Ac.Pt
  held : List Ac.Pt
  jo : Bool
def same (a b : Cl) : Bool := (a.rev == b.rev) && ((a.seq == b.seq) && ((a.jo == b.jo) && (Dc.same a.base b.base && (Dc.same a.now b.now && (Ac.sameO a.sent b.sent && Ac.sameO a.held b.held)))))
def none : Cl := ⟨0, [], [], 0, [], [], false⟩
end Kl
theorem kept_g (w : World) (g j : Nat) (v : Value) : Kept w (w.setCell ⟨g, j, none⟩ v) [g] := kept_set _ _ _ _ _ (by simp)
theorem Kept.of_below {w w' : World} {S : List Nat} (h : Below w.heap.size w w') : Kept w w' S := ⟨h.os, h.tape, h.output, h.size, fun k hk _ => h.block k hk⟩
end Go.Proofs.YtbhcklkbckacpaaGreatDoor
