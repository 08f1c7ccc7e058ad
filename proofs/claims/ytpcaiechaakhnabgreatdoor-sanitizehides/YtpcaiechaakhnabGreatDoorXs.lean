/-
  The closed fact 'exported', and the law ExportSays: it returns true at whatever list of items.
-/
import Derived.Test.YtpcaiechaakhnabGreatDoorXq
namespace Go.Proofs.YtpcaiechaakhnabGreatDoor
open Go.RowKit

def smallPage : List UInt8 := [60, 104, 49, 62, 97, 60, 98, 62, 98, 60, 47, 98, 62, 60, 47, 104, 49, 62, 60, 117, 108, 62, 60, 108, 105, 62, 60, 97, 32, 104, 114, 101].append [102, 61, 34, 104, 116, 116, 112, 58, 38, 97, 109, 112, 59, 34, 62, 38, 108, 116, 59, 60, 47, 97, 62, 60, 47, 108, 105, 62, 60, 47, 117, 108, 62]
theorem small_page : Dc.page smallDoc = smallPage := by decide +kernel

end Go.Proofs.YtpcaiechaakhnabGreatDoor
