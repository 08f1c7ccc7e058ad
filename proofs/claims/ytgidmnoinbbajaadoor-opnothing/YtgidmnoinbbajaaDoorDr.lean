/-
  doc.turns: whether an item is of another run than the one ahead of it.
-/
import Derived.Test.YtgidmnoinbbajaaDoorDt
import Derived.Deep.RegionHeld3
namespace Go.Proofs.YtgidmnoinbbajaaDoor
open Go.RowKit

def It.zero : It := ⟨0, 0, ⟨#[]⟩⟩
namespace Dc
def turns (a x : It) : Bool := ends a || ends x || (x.m != a.m) || !(x.l.toList == a.l.toList)
end Dc

end Go.Proofs.YtgidmnoinbbajaaDoor
