/-
  Facts about the row of SanitizeSays that are reckoned by the kernel, one by one.
-/
import Derived.Test.YtbhcklkbckacpaaGreatDoorTie
import Derived.Test.YtbhcklkbckacpaaGreatDoorCards
import Derived.SevenTiedAt
import Derived.JoinedOf
namespace Go.Proofs.YtbhcklkbckacpaaGreatDoor
theorem zsays_f1 : (Rows.sanitizeSaysRow.inPlace == Tryz.pinned.checked.prog.inPlace 4) = true := by kernel_rfl
theorem zsays_f2 : (Rows.sanitizeSaysRow.unfollowed == Tryz.pinned.checked.prog.unfollowed 4) = true := by kernel_rfl
theorem zsays_f3 : (Rows.sanitizeSaysRow.recurses == Tryz.pinned.checked.prog.recurses 4) = true := by kernel_rfl
theorem zsays_f4 : (Rows.sanitizeSaysRow.named == Tryz.pinned.checked.prog.varsNamed 4) = true := by kernel_rfl
theorem zsays_f5 : laidOutB Tryz.pinned.checked.prog = true := by kernel_rfl
theorem zsays_f6 : mapsRowed Tryz.pinned.checked.prog = true := by kernel_rfl
theorem zsays_jf : joinedFacts Tryz.pinned.checked.prog 4 Tryz.f4 Rows.sanitizeSaysSpec Rows.sanitizeSaysRow = true := by
  unfold joinedFacts
  rw [zsays_f1, zsays_f2, zsays_f3, zsays_f4, zsays_f5, zsays_f6]
  kernel_rfl
theorem zsays_lk : true = Tryz.pinned.checked.prog.looks [] := by kernel_rfl
theorem zsays_gb : false = Rows.sanitizeSaysRow.goesBy Tryz.pinned.checked.prog := by kernel_rfl
theorem zsays_mi : Tryz.pinned.checked.prog.mainIs = some ((true, "82d97f48944c5f9f30ab22310f317914aea937d8e5cea6f0706545cc9ef9aff8").fst, (true, "82d97f48944c5f9f30ab22310f317914aea937d8e5cea6f0706545cc9ef9aff8").snd.toList) := by kernel_rfl
end Go.Proofs.YtbhcklkbckacpaaGreatDoor
