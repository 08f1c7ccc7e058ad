/-
  Facts about the row of ServerSays that are reckoned by the kernel, one by one.
-/
import Derived.Test.YtbhcklkbckacpaaGreatDoorTie
import Derived.Test.YtbhcklkbckacpaaGreatDoorCards
import Derived.SevenTiedAt
import Derived.JoinedOf
namespace Go.Proofs.YtbhcklkbckacpaaGreatDoor
theorem ssays_f1 : (Rows.serverSaysRow.inPlace == Tryz.pinned.checked.prog.inPlace 5) = true := by kernel_rfl
theorem ssays_f2 : (Rows.serverSaysRow.unfollowed == Tryz.pinned.checked.prog.unfollowed 5) = true := by kernel_rfl
theorem ssays_f3 : (Rows.serverSaysRow.recurses == Tryz.pinned.checked.prog.recurses 5) = true := by kernel_rfl
theorem ssays_f4 : (Rows.serverSaysRow.named == Tryz.pinned.checked.prog.varsNamed 5) = true := by kernel_rfl
theorem ssays_f5 : laidOutB Tryz.pinned.checked.prog = true := by kernel_rfl
theorem ssays_f6 : mapsRowed Tryz.pinned.checked.prog = true := by kernel_rfl
theorem ssays_jf : joinedFacts Tryz.pinned.checked.prog 5 Tryz.f5 Rows.serverSaysSpec Rows.serverSaysRow = true := by
  unfold joinedFacts
  rw [ssays_f1, ssays_f2, ssays_f3, ssays_f4, ssays_f5, ssays_f6]
  kernel_rfl
theorem ssays_lk : true = Tryz.pinned.checked.prog.looks [] := by kernel_rfl
theorem ssays_gb : false = Rows.serverSaysRow.goesBy Tryz.pinned.checked.prog := by kernel_rfl
theorem ssays_mi : Tryz.pinned.checked.prog.mainIs = some ((true, "82d97f48944c5f9f30ab22310f317914aea937d8e5cea6f0706545cc9ef9aff8").fst, (true, "82d97f48944c5f9f30ab22310f317914aea937d8e5cea6f0706545cc9ef9aff8").snd.toList) := by kernel_rfl
end Go.Proofs.YtbhcklkbckacpaaGreatDoor
