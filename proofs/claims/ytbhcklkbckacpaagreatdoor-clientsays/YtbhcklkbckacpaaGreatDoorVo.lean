/- A part. -/
import Derived.Test.YtbhcklkbckacpaaGreatDoorOy
import Derived.Test.YtbhcklkbckacpaaGreatDoorM10
namespace Go.Proofs.YtbhcklkbckacpaaGreatDoor
open Go.ChangeShapes Go.WideShapes Go.ChangeAt Go.WideMaps Go.WideElems Go.RowKit
theorem qct:Tryz.prog.cellsOf 46=3:=by kernel_rfl
theorem q9w:Tryz.prog.cellsOf 44=1:=by kernel_rfl
theorem qcu:Tryz.prog.cellsOf 34=1:=by kernel_rfl
section
variable {H:Type} {enc:TypeId × Value→H} {w:World} {base:Nat} {spare:Nat→Bool} {held:Bool}
set_option maxRecDepth 100000 in
theorem qbw {fuel:Nat} {cs:List Value} {x:DataW H × List MemPlace} (h:DataW.trod enc Tryz.prog w base spare held fuel 46 cs=some x) :
  ∃ v:EV,cs=evC v∧Ops w v.ao v.n v.cap v.vs:=by
 obtain ⟨xs,n,_,_,hl,hlen,hf⟩:=DataW.trod_struct Tryz.underlying46 h
 rw[qct] at hl
 obtain ⟨y0,y1,y2,rfl⟩:=len3 xs hlen
 obtain ⟨a0,a1,a2,rfl⟩:=len3 cs hl
 have h0:DataW.trod enc Tryz.prog w base spare held n 3 (([a0,a1,a2].drop 0).take (Tryz.prog.cellsOf 3))=some y0:=hf 0 _ rfl
 rw[q0v] at h0
 have h1:DataW.trod enc Tryz.prog w base spare held n 3 (([a0,a1,a2].drop 1).take (Tryz.prog.cellsOf 3))=some y1:=hf 1 _ rfl
 rw[q0v] at h1
 have h2:DataW.trod enc Tryz.prog w base spare held n 44 (([a0,a1,a2].drop 2).take (Tryz.prog.cellsOf 44))=some y2:=hf 2 _ rfl
 rw[q9w] at h2
 obtain ⟨n0,e0,_,_⟩:=DataW.trod_int Tryz.underlying3 h0
 obtain ⟨n1,e1,_,_⟩:=DataW.trod_int Tryz.underlying3 h1
 have h2' : DataW.trod enc Tryz.prog w base spare held n 44 [a2]=some y2:=h2
 obtain ⟨ao,m,cap,e2⟩:=xk Tryz.underlying44 h2'
 rw[e2] at h2'
 obtain ⟨vs,hO⟩:=q26 Tryz.underlying44 h2'
 simp at e0 e1 e2
 exact ⟨⟨n0,n1,ao,m,cap,vs⟩,by rw[e0,e1,e2];rfl,hO⟩
end
end Go.Proofs.YtbhcklkbckacpaaGreatDoor
