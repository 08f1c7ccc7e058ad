/-
  Facts about the row of WorldMeets that are reckoned by the kernel, one by one.
-/
import Derived.Test.YthddphjghgdalaaGreatDoorP0
import Derived.Test.YthddphjghgdalaaGreatDoorTie
import Derived.Test.YthddphjghgdalaaGreatDoorCards
import Derived.SevenTiedAt
import Derived.JoinedOf
namespace Go.Proofs.YthddphjghgdalaaGreatDoor
open Go.Proofs.Tryz
theorem GG:(Rows.worldMeetsRow.inPlace == Tryz.pinned.checked.prog.inPlace 4)=true:=by kernel_rfl
theorem GF:(Rows.worldMeetsRow.unfollowed == Tryz.pinned.checked.prog.unfollowed 4)=true:=by kernel_rfl
theorem GD:(Rows.worldMeetsRow.recurses == Tryz.pinned.checked.prog.recurses 4)=true:=by kernel_rfl
theorem GC:(Rows.worldMeetsRow.named == Tryz.pinned.checked.prog.varsNamed 4)=true:=by kernel_rfl
theorem GB:laidOutB Tryz.pinned.checked.prog=true:=by kernel_rfl
theorem GA:mapsRowed Tryz.pinned.checked.prog=true:=by kernel_rfl
theorem F8:joinedFacts Tryz.pinned.checked.prog 4 Tryz.f4 Rows.worldMeetsSpec Rows.worldMeetsRow=true:=by
 unfold joinedFacts;rw[GG,GF,GD,GC,GB,GA];kernel_rfl
theorem F7:false=Tryz.pinned.checked.prog.looks []:=by kernel_rfl
theorem F9:false=Rows.worldMeetsRow.goesBy Tryz.pinned.checked.prog:=by kernel_rfl
theorem F6:Tryz.pinned.checked.prog.mainIs=some ((true, "c98cc06c3afee6af8be172c0f36aeef9a006c53ee95c49d329b53689307d84ca").fst,(true, "c98cc06c3afee6af8be172c0f36aeef9a006c53ee95c49d329b53689307d84ca").snd.toList):=by kernel_rfl
