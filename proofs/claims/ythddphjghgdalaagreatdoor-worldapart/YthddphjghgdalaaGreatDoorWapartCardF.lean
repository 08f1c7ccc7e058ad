/-
  Facts about the row of WorldApart that are reckoned by the kernel, one by one.
-/
import Derived.Test.YthddphjghgdalaaGreatDoorP0
import Derived.Test.YthddphjghgdalaaGreatDoorTie
import Derived.Test.YthddphjghgdalaaGreatDoorCards
import Derived.SevenTiedAt
import Derived.JoinedOf
namespace Go.Proofs.YthddphjghgdalaaGreatDoor
open Go.Proofs.Tryz
theorem Gf:(Rows.worldApartRow.inPlace == Tryz.pinned.checked.prog.inPlace 3)=true:=by kernel_rfl
theorem Ge:(Rows.worldApartRow.unfollowed == Tryz.pinned.checked.prog.unfollowed 3)=true:=by kernel_rfl
theorem Gc:(Rows.worldApartRow.recurses == Tryz.pinned.checked.prog.recurses 3)=true:=by kernel_rfl
theorem Gb:(Rows.worldApartRow.named == Tryz.pinned.checked.prog.varsNamed 3)=true:=by kernel_rfl
theorem Ga:laidOutB Tryz.pinned.checked.prog=true:=by kernel_rfl
theorem GZ:mapsRowed Tryz.pinned.checked.prog=true:=by kernel_rfl
theorem GX:joinedFacts Tryz.pinned.checked.prog 3 Tryz.f3 Rows.worldApartSpec Rows.worldApartRow=true:=by
 unfold joinedFacts;rw[Gf,Ge,Gc,Gb,Ga,GZ];kernel_rfl
theorem GW:false=Tryz.pinned.checked.prog.looks []:=by kernel_rfl
theorem GY:false=Rows.worldApartRow.goesBy Tryz.pinned.checked.prog:=by kernel_rfl
theorem GV:Tryz.pinned.checked.prog.mainIs=some ((true, "c98cc06c3afee6af8be172c0f36aeef9a006c53ee95c49d329b53689307d84ca").fst,(true, "c98cc06c3afee6af8be172c0f36aeef9a006c53ee95c49d329b53689307d84ca").snd.toList):=by kernel_rfl
