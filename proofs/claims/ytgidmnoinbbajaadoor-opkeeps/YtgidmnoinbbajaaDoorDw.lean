/-
  doc.walk, with whatever is called at each place.
-/
import Derived.Test.YtgidmnoinbbajaaDoorDx
namespace Go.Proofs.YtgidmnoinbbajaaDoor
open Go.RowKit

end Go.Proofs.YtgidmnoinbbajaaDoor
