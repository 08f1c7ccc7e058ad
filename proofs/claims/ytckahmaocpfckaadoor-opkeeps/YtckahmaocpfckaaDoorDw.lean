/-
  doc.walk, with whatever is called at each place.
-/
import Derived.Test.YtckahmaocpfckaaDoorDx
namespace Go.Proofs.YtckahmaocpfckaaDoor
open Go.RowKit

end Go.Proofs.YtckahmaocpfckaaDoor
