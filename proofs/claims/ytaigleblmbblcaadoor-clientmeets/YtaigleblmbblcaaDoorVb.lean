/-
  Package server: entries checked, held against each other, handed on one by one.
-/
import Derived.Test.YtaigleblmbblcaaDoorVa
namespace Go.Proofs.YtaigleblmbblcaaDoor
open Go.RowKit

end Go.Proofs.YtaigleblmbblcaaDoor
