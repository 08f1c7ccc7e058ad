/-
  OpKeeps: what an operation makes of a document is one; made tidy it does the same.
-/
import Derived.Test.YtbhcklkbckacpaaDoorG5
import Derived.Deep.RegionHeld3
namespace Go.Proofs.YtbhcklkbckacpaaDoor
open Go.RowKit

end Go.Proofs.YtbhcklkbckacpaaDoor
