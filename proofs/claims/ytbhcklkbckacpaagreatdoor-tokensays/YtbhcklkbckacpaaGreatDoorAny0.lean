/-
  A byte of a text.
-/
import Derived.Test.YtbhcklkbckacpaaGreatDoorShelf
import Derived.WalkKit
import Derived.WalkLawsBesides
import Derived.Deep.QuietTactic
import Derived.BigQuiet
import Derived.Deep.Draws
import Derived.Deep.LoopGhost
import Derived.Handy
import Derived.WalkMore
import Derived.Laws.RangeAny
import Derived.Lib.OthersKept
namespace Go.Proofs.YtbhcklkbckacpaaGreatDoor
open Go.RowKit

theorem run_index_at (s : ByteArray) (k : Nat) (h : k < s.size) (w : World) : (Instr.index 9 (.string s) (.int .i64 k)).run Tryz.prog w = .ok (.int .u8 (s[k]'h).toNat) w := by
  have ht := Tryz.underlying9
  simp [go_sem, ht, h]
end Go.Proofs.YtbhcklkbckacpaaGreatDoor
