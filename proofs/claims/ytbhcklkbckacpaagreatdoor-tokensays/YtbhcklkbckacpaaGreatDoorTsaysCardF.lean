/-
  Facts about the row of TokenSays that are reckoned by the kernel, one by one.
-/
import Derived.Test.YtbhcklkbckacpaaGreatDoorTie
import Derived.Test.YtbhcklkbckacpaaGreatDoorCards
import Derived.SevenTiedAt
import Derived.JoinedOf
namespace Go.Proofs.YtbhcklkbckacpaaGreatDoor
theorem tsays_f1 : (Rows.tokenSaysRow.inPlace == Tryz.pinned.checked.prog.inPlace 3) = true := by kernel_rfl
theorem tsays_f2 : (Rows.tokenSaysRow.unfollowed == Tryz.pinned.checked.prog.unfollowed 3) = true := by kernel_rfl
theorem tsays_f3 : (Rows.tokenSaysRow.recurses == Tryz.pinned.checked.prog.recurses 3) = true := by kernel_rfl
theorem tsays_f4 : (Rows.tokenSaysRow.named == Tryz.pinned.checked.prog.varsNamed 3) = true := by kernel_rfl
theorem tsays_f5 : laidOutB Tryz.pinned.checked.prog = true := by kernel_rfl
theorem tsays_f6 : mapsRowed Tryz.pinned.checked.prog = true := by kernel_rfl
theorem tsays_jf : joinedFacts Tryz.pinned.checked.prog 3 Tryz.f3 Rows.tokenSaysSpec Rows.tokenSaysRow = true := by
  unfold joinedFacts
  rw [tsays_f1, tsays_f2, tsays_f3, tsays_f4, tsays_f5, tsays_f6]
  kernel_rfl
theorem tsays_lk : true = Tryz.pinned.checked.prog.looks [] := by kernel_rfl
theorem tsays_gb : false = Rows.tokenSaysRow.goesBy Tryz.pinned.checked.prog := by kernel_rfl
theorem tsays_mi : Tryz.pinned.checked.prog.mainIs = some ((true, "82d97f48944c5f9f30ab22310f317914aea937d8e5cea6f0706545cc9ef9aff8").fst, (true, "82d97f48944c5f9f30ab22310f317914aea937d8e5cea6f0706545cc9ef9aff8").snd.toList) := by kernel_rfl
end Go.Proofs.YtbhcklkbckacpaaGreatDoor
