/-
  Facts about the row of WorldHolds that are reckoned by the kernel, one by one.
-/
import Derived.Test.YthddphjghgdalaaGreatDoorP0
import Derived.Test.YthddphjghgdalaaGreatDoorTie
import Derived.Test.YthddphjghgdalaaGreatDoorCards
import Derived.SevenTiedAt
import Derived.JoinedOf
namespace Go.Proofs.YthddphjghgdalaaGreatDoor
open Go.Proofs.Tryz
theorem GU:(Rows.worldHoldsRow.inPlace == Tryz.pinned.checked.prog.inPlace 5)=true:=by kernel_rfl
theorem GS:(Rows.worldHoldsRow.unfollowed == Tryz.pinned.checked.prog.unfollowed 5)=true:=by kernel_rfl
theorem GR:(Rows.worldHoldsRow.recurses == Tryz.pinned.checked.prog.recurses 5)=true:=by kernel_rfl
theorem GQ:(Rows.worldHoldsRow.named == Tryz.pinned.checked.prog.varsNamed 5)=true:=by kernel_rfl
theorem GP:laidOutB Tryz.pinned.checked.prog=true:=by kernel_rfl
theorem GO:mapsRowed Tryz.pinned.checked.prog=true:=by kernel_rfl
theorem GM:joinedFacts Tryz.pinned.checked.prog 5 Tryz.f5 Rows.worldHoldsSpec Rows.worldHoldsRow=true:=by
 unfold joinedFacts;rw[GU,GS,GR,GQ,GP,GO];kernel_rfl
theorem GL:false=Tryz.pinned.checked.prog.looks []:=by kernel_rfl
theorem GN:false=Rows.worldHoldsRow.goesBy Tryz.pinned.checked.prog:=by kernel_rfl
theorem GK:Tryz.pinned.checked.prog.mainIs=some ((true, "c98cc06c3afee6af8be172c0f36aeef9a006c53ee95c49d329b53689307d84ca").fst,(true, "c98cc06c3afee6af8be172c0f36aeef9a006c53ee95c49d329b53689307d84ca").snd.toList):=by kernel_rfl
