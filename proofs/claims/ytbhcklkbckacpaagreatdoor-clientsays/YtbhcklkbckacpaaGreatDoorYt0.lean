/- A part. -/
import Derived.Test.YtbhcklkbckacpaaGreatDoorYq
import Derived.Test.YtbhcklkbckacpaaGreatDoorYi
namespace Go.Proofs.YtbhcklkbckacpaaGreatDoor
open Go.RowKit
structure HrR (w:World) (c:CV) (m:MV) (wx:World):Prop where
 k:KAt wx (w.heap.size) c
 b:Blk wx (w.heap.size+1) (mgC m) 62
 r:Blk wx (w.heap.size+2) (cvC cv0) 60
 o:Ops wx m.e.ao m.e.n m.e.cap m.e.vs
 blw:Below w.heap.size w wx
theorem HrR.under {w:World} {c:CV} {m:MV} {wx wy:World} (h:HrR w c m wx) (hb:Below wx.heap.size wx wy):HrR w c m wy :=
 ⟨h.k.below hb,(hb.block _ h.b.lt).trans h.b,(hb.block _ h.r.lt).trans h.r,h.o.below hb,h.blw.trans (hb.mono h.blw.size)⟩
theorem HrR.set {w:World} {c c' : CV} {m:MV} {wx:World} {j:Nat} {v:Value} (h:HrR w c m wx) (hk:KAt (wx.setCell ⟨w.heap.size,j,none⟩ v) (w.heap.size) c'):HrR w c' m (wx.setCell ⟨w.heap.size,j,none⟩ v) :=
 ⟨hk,(qh wx _ _ _).blk h.b (by simp),(qh wx _ _ _).blk h.r (by simp),h.o.keptK h.k.blk (qh ..),h.blw.setCell (Nat.le_refl _) _⟩
theorem HrR.put {w:World} {c t:CV} {m:MV} {wx:World} (h:HrR w c m wx) (ht:Cli wx t):HrR w t m (putK wx (w.heap.size) t) :=
 ⟨KAt.put h.k.blk ht,(qq wx _ _).blk h.b (by simp),(qq wx _ _).blk h.r (by simp),h.o.keptK h.k.blk (qq _ _ _),h.blw.trans ((qq wx (w.heap.size) t).low (by have:=h.k.blk.lt;omega))⟩
theorem HrR.fin {w:World} {c t:CV} {m:MV} {wx:World} (h:HrR w c m wx) (ht:Cli wx t):Cli (putK wx (w.heap.size+2) t) t∧Blk (putK wx (w.heap.size+2) t) (w.heap.size+2) (cvC t) 60∧Below w.heap.size w (putK wx (w.heap.size+2) t) :=
 ⟨ht.keptK h.r (qq _ _ _),zo h.r,h.blw.trans (((qq wx (w.heap.size+2) t).low (by have:=h.r.lt;omega)).mono (by omega))⟩
structure Like (c:CV) (o:List Ac.Pt) (D:List It) (x:CV):Prop where
 rev:x.rev=c.rev+1
 base:x.base=D
 seq:x.seq=c.seq
 jo:x.jo=c.jo
theorem Like.gv {c:CV} {o:List Ac.Pt} {D:List It} {x:CV} (h:Like c o D x) (hD:Ac.done c.base o=D):Kl.gv x.cl=Kl.gv (Kl.adv c.cl o):=by
 show (⟨x.rev,x.base,x.base,x.seq,[],[],x.jo⟩:Kl.Cl)=⟨c.rev+1,Ac.done c.base o,Ac.done c.base o,c.seq,[],[],c.jo⟩
 rw[h.rev,h.base,h.seq,h.jo,hD]
end Go.Proofs.YtbhcklkbckacpaaGreatDoor
