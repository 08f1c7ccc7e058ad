/- A part. -/
import Derived.Test.YtbhcklkbckacpaaGreatDoorM10
import Derived.Test.YtbhcklkbckacpaaGreatDoorM6
import Derived.Deep.RegionHeld3
namespace Go.Proofs.YtbhcklkbckacpaaGreatDoor
open Go.RowKit
def o3P (c:UInt8):List Ac.Pt:=[⟨1,1,[],0,0,false,⟨#[]⟩⟩,⟨2,0,[⟨c,0,⟨#[]⟩⟩],0,0,false,⟨#[]⟩⟩,⟨1,4,[],0,0,false,⟨#[]⟩⟩]
def tX:List Ac.Pt:=Ac.trnX (o3P 120) (o3P 121)
def tY:List Ac.Pt:=Ac.trnY (o3P 120) (o3P 121)
end Go.Proofs.YtbhcklkbckacpaaGreatDoor
