/-
  The reference's CheckItem and CheckItems: as doc.Item and doc.Items have it.
-/
import Derived.Test.YtdlacdoakkklaabDoorDi
namespace Go.Proofs.YtdlacdoakkklaabDoor
open Go.RowKit

end Go.Proofs.YtdlacdoakkklaabDoor
