/-
  Facts about the row of ClientSays that are reckoned by the kernel, one by one.
-/
import Derived.Test.YtbhcklkbckacpaaGreatDoorTie
import Derived.Test.YtbhcklkbckacpaaGreatDoorCards
import Derived.SevenTiedAt
import Derived.JoinedOf
namespace Go.Proofs.YtbhcklkbckacpaaGreatDoor
theorem csays_f1:(Rows.clientSaysRow.inPlace == Tryz.pinned.checked.prog.inPlace 6)=true:=by kernel_rfl
theorem csays_f2:(Rows.clientSaysRow.unfollowed == Tryz.pinned.checked.prog.unfollowed 6)=true:=by kernel_rfl
theorem csays_f3:(Rows.clientSaysRow.recurses == Tryz.pinned.checked.prog.recurses 6)=true:=by kernel_rfl
theorem csays_f4:(Rows.clientSaysRow.named == Tryz.pinned.checked.prog.varsNamed 6)=true:=by kernel_rfl
theorem csays_f5:laidOutB Tryz.pinned.checked.prog=true:=by kernel_rfl
theorem csays_f6:mapsRowed Tryz.pinned.checked.prog=true:=by kernel_rfl
theorem csays_jf:joinedFacts Tryz.pinned.checked.prog 6 Tryz.f6 Rows.clientSaysSpec Rows.clientSaysRow=true:=by
 unfold joinedFacts
 rw[csays_f1,csays_f2,csays_f3,csays_f4,csays_f5,csays_f6]
 kernel_rfl
theorem csays_lk:true=Tryz.pinned.checked.prog.looks []:=by kernel_rfl
theorem csays_gb:false=Rows.clientSaysRow.goesBy Tryz.pinned.checked.prog:=by kernel_rfl
theorem csays_mi:Tryz.pinned.checked.prog.mainIs=some ((true, "82d97f48944c5f9f30ab22310f317914aea937d8e5cea6f0706545cc9ef9aff8").fst,(true, "82d97f48944c5f9f30ab22310f317914aea937d8e5cea6f0706545cc9ef9aff8").snd.toList):=by kernel_rfl
end Go.Proofs.YtbhcklkbckacpaaGreatDoor
