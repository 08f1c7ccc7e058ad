/- A part. -/
import Derived.Test.YtbhcklkbckacpaaGreatDoorTie
import Derived.Test.YtbhcklkbckacpaaGreatDoorCards
import Derived.SevenTiedAt
import Derived.JoinedOf
namespace Go.Proofs.YtbhcklkbckacpaaGreatDoor
theorem qc7:(Rows.clientSaysRow.inPlace == Tryz.pinned.checked.prog.inPlace 6)=true:=by kernel_rfl
theorem qc6:(Rows.clientSaysRow.unfollowed == Tryz.pinned.checked.prog.unfollowed 6)=true:=by kernel_rfl
theorem qc5:(Rows.clientSaysRow.recurses == Tryz.pinned.checked.prog.recurses 6)=true:=by kernel_rfl
theorem qc4:(Rows.clientSaysRow.named == Tryz.pinned.checked.prog.varsNamed 6)=true:=by kernel_rfl
theorem qc3:laidOutB Tryz.pinned.checked.prog=true:=by kernel_rfl
theorem qc2:mapsRowed Tryz.pinned.checked.prog=true:=by kernel_rfl
theorem qc0:joinedFacts Tryz.pinned.checked.prog 6 Tryz.f6 Rows.clientSaysSpec Rows.clientSaysRow=true:=by
 unfold joinedFacts
 rw[qc7,qc6,qc5,qc4,qc3,qc2]
 kernel_rfl
theorem qbz:true=Tryz.pinned.checked.prog.looks []:=by kernel_rfl
theorem qc1:false=Rows.clientSaysRow.goesBy Tryz.pinned.checked.prog:=by kernel_rfl
theorem qby:Tryz.pinned.checked.prog.mainIs=some ((true, "82d97f48944c5f9f30ab22310f317914aea937d8e5cea6f0706545cc9ef9aff8").fst,(true, "82d97f48944c5f9f30ab22310f317914aea937d8e5cea6f0706545cc9ef9aff8").snd.toList):=by kernel_rfl
end Go.Proofs.YtbhcklkbckacpaaGreatDoor
