/-
  OpKeeps: what an operation makes of a document is one; made tidy it does the same.
-/
import Derived.Test.YtlhkomiiockaoaaDoorOq
import Derived.Deep.RegionHeld3
namespace Go.Proofs.YtlhkomiiockaoaaDoor
open Go.RowKit

end Go.Proofs.YtlhkomiiockaoaaDoor
