/-
  Chapter 8's promises on parts: two operations, done in either order, each turned behind the other one, make the same; joined they do what the one and then the other one does; who keeps all turns nothing.
-/
import Derived.Test.YtbhcklkbckacpaaGreatDoorPh
namespace Go.Proofs.YtbhcklkbckacpaaGreatDoor
open Go.RowKit
namespace Ac
theorem done_is {d : List It} {o : List Pt} (h : fitE d o = 0) : ap (acts o) d = some (done d o) ∧ Dc.check (done d o) = 0 ∧ (done d o).length = lv o := by
  obtain ⟨hd, hr, hn, hl⟩ := fit_0 h
  obtain ⟨h1, h2, _⟩ := made_doc hd hr hn hl
  unfold done
  rw [if_pos h]
  exact ⟨mk_some hr hn, h1, h2⟩
/- Who keeps all. -/
end Ac
end Go.Proofs.YtbhcklkbckacpaaGreatDoor
