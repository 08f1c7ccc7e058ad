/-
  OpKeeps: what an operation makes of a document is one; made tidy it does the same.
-/
import Derived.Test.YtaigleblmbblcaaGreatDoorM7
import Derived.Deep.RegionHeld3
namespace Go.Proofs.YtaigleblmbblcaaGreatDoor
open Go.RowKit

end Go.Proofs.YtaigleblmbblcaaGreatDoor
