/- A part. -/
import Derived.Test.YthddphjghgdalaaGreatDoorP19
set_option maxRecDepth 100000
set_option maxHeartbeats 6400000
namespace Go.Proofs.YthddphjghgdalaaGreatDoor
open Go.RowKit Go.Proofs.Tryz
structure UN (W:World) (g:Nat) (c1:CV) (S H:List Ac.Pt) (E:Int) (b:Nat) (a:Option Addr) (n k:Nat) (us:List PV) (a':Option Addr) (n' k':Nat) (vs:List PV) (wx:World):Prop where
 aM:Blk wx b [.slice a n k,.slice a' n' k'] 111
 hk:jK wx g c1
 ops:E=0->ae wx a n k us/\ae wx a' n' k' vs/\us.map PV.pt=S/\vs.map PV.pt=H
 bf:Below W.heap.size W wx
 off:b≠g
theorem Jn{W b:World}{g:Nat}{o:CV}{S H:List Ac.Pt}{E:Int}{a:Option Addr}{n k:Nat}{us:List PV}{l:Option Addr}{f i:Nat}{e:List PV}(m:jK W g o)(d:Below W.heap.size W b)(c:E=0->ae b a n k us/\ae b l f i e/\us.map PV.pt=S/\e.map PV.pt=H):
  UN W g o S H E b.heap.size a n k us l f i e (jH a l n k f i b):=
 ⟨oB ..,(m.below d).below (eY ..),fun h=>⟨(c h).1.below (eY ..),(c h).2.1.below (eY ..),(c h).2.2.1,(c h).2.2.2⟩,d.trans ((eY ..).mono d.size),by have:=m.aM.lt;have:=d.size;omega⟩
theorem Jl{W i d:World}{g:Nat}{u:CV}{S H:List Ac.Pt}{E:Int}{a:Option Addr}{n k:Nat}{us:List PV}{p:Option Addr}{l m:Nat}{q:List PV}(s:jK W g u)(t:Blk i W.heap.size [.slice none 0 0,.slice none 0 0] 111)(f:Below W.heap.size W i)(r:Below i.heap.size i d)(o:E=0->ae d a n k us/\ae d p l m q/\us.map PV.pt=S/\q.map PV.pt=H):
  UN W g u S H E W.heap.size a n k us p l m q ((d.setCell ⟨W.heap.size,0,none⟩ (.slice a n k)).setCell ⟨W.heap.size,1,none⟩ (.slice p l m)):=by
 have e:Blk d W.heap.size [.slice none 0 0,.slice none 0 0] 111:=(r.block _ t.lt).trans t;have b:Kept d ((d.setCell ⟨W.heap.size,0,none⟩ (.slice a n k)).setCell ⟨W.heap.size,1,none⟩ (.slice p l m)) [W.heap.size]:=(aP ..).trans (aP ..);have c:=(s.below f).below r;have v:=s.aM.lt;exact⟨(e.set 0 _).set 1 _,⟨b.aM c.aM (by simp;omega),c.ia.base.gP e rfl b,c.ia.now.gP e rfl b,c.ia.aJ.gP e rfl b,c.ia.held.gP e rfl b⟩,fun h=>⟨(o h).1.gP e rfl b,(o h).2.1.gP e rfl b,(o h).2.2.1,(o h).2.2.2⟩,((f.trans (r.mono f.size)).setCell (UZ _) _).setCell (UZ _) _,by omega⟩
theorem L1{W w':World}{O:Obj}(h:Below (W.drew.alloc O).heap.size (W.drew.alloc O) w'):Below W.heap.size W w':=by
 have a:=((VE W.heap.size W).drew).alloc (by rw[XE];exact UZ _) O;exact a.trans (h.mono a.size)
theorem B5(W a:World)(b:a.heap.size=W.heap.size):Blk (a.alloc (.cells #[.slice none 0 0,.slice none 0 0] 111)) W.heap.size [.slice none 0 0,.slice none 0 0] 111:=Blk.newAt _ _ _ _ b
theorem vl(g:Nat)(c:CV)(oa:Option Addr)(on oc:Nat)(us:List PV)(w:World)(hK:jK w g c)(hO:ae w oa on oc us)(hS:df w)(hR:Kl.Rc c.cl):
  Calls prog 119 #[.pointer (some ⟨g,0,none⟩),.slice oa on oc] w fun e w'=>e=.returned (.tuple #[])/\(∃T,jK w' g T/\T.cl=Kl.fW c.cl (us.map PV.pt))/\Kept w w' [g]:=by
 have CA:=hId (sL g c oa on oc us w hK hO hS hR.lo hR.hi);have ag:=hId hK;have HO:=hId hO;have am:=hId hS;clear hK hO hS hR;obtain⟨C,hC⟩:∃C,Kl.fW c.cl (us.map PV.pt)=C:=⟨_,rfl⟩;have HC:=hId hC;rw[hC];clear hC;by_cases hz:Ac.ag c.base (us.map PV.pt)=0
 ·have ah:=hId hz;rw[hz,VC rfl]at CA;clear hz;have Y:Hd ((if Kl.Bm (us.map PV.pt) (c.aJ.map PV.pt) (c.held.map PV.pt)=0 then(if Kl.pS (Ac.done c.base (us.map PV.pt)) (Kl.tY (us.map PV.pt) (c.aJ.map PV.pt)) (Kl.Fp (us.map PV.pt) (c.aJ.map PV.pt) (c.held.map PV.pt))=0 then(⟨c.rev+1,Ac.done c.base (us.map PV.pt),Kl.Ds (Ac.done c.base (us.map PV.pt)) (Kl.tY (us.map PV.pt) (c.aJ.map PV.pt)) (Kl.Fp (us.map PV.pt) (c.aJ.map PV.pt) (c.held.map PV.pt)),c.seq,Kl.tY (us.map PV.pt) (c.aJ.map PV.pt),Kl.Fp (us.map PV.pt) (c.aJ.map PV.pt) (c.held.map PV.pt),c.jo⟩:Kl.Cl)else Kl.gv (Kl.vq c.cl (us.map PV.pt)))else Kl.gv (Kl.vq c.cl (us.map PV.pt)))=C):=by
   have:=HC.o;unfold Kl.fW at this;rw[VC (show Ac.ag c.cl.base (us.map PV.pt)=0 from ah.o)]at this;exact this
  clear HC;go_enter func119,ntmps119
  go_wp2_with fail
  refine CA.o.mono ?_
  rintro e W⟨rfl,⟨d,t,u⟩,f⟩;have Z:=hId u;have p:=hId t;have J:=hId f;obtain⟨i1,i2,i3,i4,i5,i6,i7⟩:=ET u;have HI:Hd (d.rev=c.rev+1/\d.base=Ac.done c.base (us.map PV.pt)/\d.seq=c.seq/\d.jo=c.jo):=⟨i1,i2,i4,i7⟩;have aj:=hId (Ar ah.o (by have:=t.ia.base;rw[i2]at this;exact this));have an:=hId (HO.o.bA ag.o.aM f);have a7:=hId (am.o.bA ag.o.aM f);have CB:Hd (∀w',Below W.heap.size W w'->Calls prog 145 #[.slice oa on oc,.agg #[.slice d.sa d.sn d.sc,.slice d.ha d.hn d.hc]] w' fun e o=>TX (Kl.tY (us.map PV.pt) (c.aJ.map PV.pt)) (Kl.Fp (us.map PV.pt) (c.aJ.map PV.pt) (c.held.map PV.pt)) (Kl.Bm (us.map PV.pt) (c.aJ.map PV.pt) (c.held.map PV.pt)) e o/\Below w'.heap.size w' o):=fun w' i=>by
   have:=MP oa on oc us d.sa d.ha d.sn d.sc d.hn d.hc d.aJ d.held w' (an.o.below i) (p.o.ia.aJ.below i) (p.o.ia.held.below i) (a7.o.below i);rw[i5,i6]at this;exact this
  clear u t f CA i1 i2 i3 i4 i5 i6 i7;generalize Kl.Bm (us.map PV.pt) (c.aJ.map PV.pt) (c.held.map PV.pt)=E at*;generalize Kl.tY (us.map PV.pt) (c.aJ.map PV.pt)=S at*;generalize Kl.Fp (us.map PV.pt) (c.aJ.map PV.pt) (c.held.map PV.pt)=H at*;have V:Hd (∀w',Below W.heap.size W w'->w'.cell? ⟨g,4,none⟩=some (.slice d.sa d.sn d.sc)/\w'.cell? ⟨g,5,none⟩=some (.slice d.ha d.hn d.hc)):=fun w' i=>by
   have h:=(p.o.below i).aM;exact⟨h.cell 4,h.cell 5⟩
  obtain⟨p4,p5⟩:=V.o W (VE _ _);have CG:Hd (∀w',jK w' g d->Calls prog 117 #[.pointer (some ⟨g,0,none⟩)] w' fun e o=>e=.returned (.tuple #[])/\(∃T,jK o g T/\T.cl=Kl.gv (Kl.vq c.cl (us.map PV.pt)))/\Kept w' o [g]):=fun w' hk=>(pH g d w' hk aj.o).mono fun e o⟨h1,⟨T,h2,h3,_⟩,h4⟩=>⟨h1,⟨T,h2,by rw[h3,Z.o]⟩,h4⟩;have au:=p.o.aM.lt;go_upto_region 1 with fail
  go_cut [4,5]from 11 to 24 (fun lp v wx=>v=.int .i64 E/\∃b a n k xs N L M K,lp=.pointer (some ⟨b,0,none⟩)/\UN W g d S H E b a n k xs N L M K wx)
  case first=>
   go_region_with (go_at_call 145;(with_reducible_and_instances refine(CB.o _ ?_).mono ?_);(first|exact(VE _ _).drew|exact((VE W.heap.size W).drew).alloc (by rw[XE];exact UZ _) _);rintro e y⟨⟨a,n,k,xs,N,L,M,K,rfl,P⟩,i⟩;(first|(have G:Below W.heap.size W y:=cT i)|(have G:Below W.heap.size W y:=L1 i;have O:Blk y W.heap.size [.slice none 0 0,.slice none 0 0] 111:=(i.block _ (B5 W W.drew (XE _)).lt).trans (B5 W W.drew (XE _));have z0:=O.c0;have z1:=O.c1;have y0:=O.frozen 0;have y1:=O.frozen 1));have aa:Hd (E=0->ae y a n k xs/\ae y N L M K/\xs.map PV.pt=S/\K.map PV.pt=H):=P;obtain⟨ar,aq⟩:=V.o _ G;clear P)
   all_goals
    first|go_meet|(go_wp2_with fail;go_meet)
    case rel=>first|exact⟨rfl,y.heap.size,a,n,k,xs,N,L,M,K,rfl,Jn p.o G aa.o⟩|exact⟨rfl,W.heap.size,a,n,k,xs,N,L,M,K,rfl,Jl p.o (B5 W W.drew (XE _)) (((VE W.heap.size W).drew).alloc (by rw[XE];exact UZ _) _) i aa.o⟩
  case rest=>
   obtain⟨rfl,b,a,n,k,xs,N,L,M,K,rfl,a0⟩:=hcut;generalize wc=wb at*;have l:=hId a0;clear a0 CB V p4 p5;have af:=hId (J.o.trans (Kept.dA l.o.bf));by_cases hE:E=0
   ·obtain⟨a5,a4,a3,a2⟩:=l.o.ops hE;have ac:=hId a5;have ab:=hId a4;have a9:=hId a3;have a8:=hId a2;have ai:Hd ((if Kl.pS (Ac.done c.base (us.map PV.pt)) S H=0 then(⟨c.rev+1,Ac.done c.base (us.map PV.pt),Kl.Ds (Ac.done c.base (us.map PV.pt)) S H,c.seq,S,H,c.jo⟩:Kl.Cl)else Kl.gv (Kl.vq c.cl (us.map PV.pt)))=C):=by have:=Y.o;rw[VC hE]at this;exact this
    clear a5 a4 a3 a2 Y;subst hE;have CD:Hd (∀w',Below wb.heap.size wb w'->Calls prog 62 #[.slice d.ba d.bn d.bc,.agg #[.slice a n k,.slice N L M]] w' fun e o=>(∃q m r,e=.returned (.tuple #[.slice q m r,.int .i64 (Kl.pS (Ac.done c.base (us.map PV.pt)) S H)])/\(Kl.pS (Ac.done c.base (us.map PV.pt)) S H=0->cy o q m r (Kl.Ds (Ac.done c.base (us.map PV.pt)) S H)))/\Below w'.heap.size w' o):=fun w' i=>by
     have:=As d.ba d.bn d.bc d.base a N n k L M xs K w' (l.o.hk.ia.base.below i) (ac.o.below i) (ab.o.below i) ((a7.o.below l.o.bf).below i) aj.o;rw[a9.o,a8.o,HI.o.2.1]at this;exact this
    generalize Kl.pS (Ac.done c.base (us.map PV.pt)) S H=F at*;generalize Kl.Ds (Ac.done c.base (us.map PV.pt)) S H=D at*;have p1:=IK l.o.hk.aM;obtain⟨z0,z1⟩:=wz l.o.aM;go_upto_region 4 with fail
    go_cut [6,5]from 29 to 37 (fun nv v wx=>v=.int .i64 F/\∃q m r,nv=.slice q m r/\(F=0->cy wx q m r D)/\Below wb.heap.size wb wx)
    case first=>
     go_region_with (go_at_call 62;(with_reducible_and_instances refine(CD.o _ ?_).mono ?_);exact(VE _ _).drew;rintro e y⟨⟨q,m,r,rfl,hd⟩,i⟩;have G:Below wb.heap.size wb y:=cT i;have ao:Hd (F=0->cy y q m r D):=hd;clear hd i)
     all_goals
      first|go_meet|(go_wp2_with fail;go_meet)
      case rel=>exact⟨rfl,q,m,r,rfl,ao.o,G⟩
    case rest=>
     obtain⟨rfl,q,m,r,rfl,hd,i⟩:=hcut;have HD:=hId hd;have x:=hId (l.o.hk.below i);have ad:=hId (af.o.trans (Kept.dA i));have al:=hId (ac.o.below i);have ak:=hId (ab.o.below i);have ap:Hd (Blk wc b [.slice a n k,.slice N L M] 111):=(i.block _ l.o.aM.lt).trans l.o.aM;clear hd i p1 z0 z1 CD;by_cases hF:F=0
     ·have s:Hd ((⟨c.rev+1,Ac.done c.base (us.map PV.pt),D,c.seq,S,H,c.jo⟩:Kl.Cl)=C):=by have:=ai.o;rw[VC hF]at this;exact this
      have Q:=HD.o hF;subst hF;have U:=x.o.lh a n k xs al.o;have a1:=U.mo N L M K (ak.o.bA x.o.aM (aP ..));have B:=hId (a1.kM q m r D ((Q.bA x.o.aM (aP ..)).bA U.aM (aP ..)));obtain⟨z0,z1⟩:=wz ap.o;obtain⟨-,-,p2,-,p4,p5⟩:=N5 x.o.aM;obtain⟨-,-,f2,-,f4,f5⟩:=So x.o.aM;clear Q U a1;go_wp2_with fail
      go_region
      all_goals
       go_wp2
       go_end0
       refine⟨rfl,⟨_,B.o.below (VE _ _).drew,?_⟩,(((ad.o.trans (aP ..)).trans (aP ..)).trans (aP ..)).drew⟩
       rw[<-s.o];show(⟨d.rev,d.base,D,d.seq,xs.map PV.pt,K.map PV.pt,d.jo⟩:Kl.Cl)=_
       rw[HI.o.1,HI.o.2.1,HI.o.2.2.1,HI.o.2.2.2,a9.o,a8.o]
     ·have a6:(F !=0)=true:=by simp[hF]
      have s:Hd (Kl.gv (Kl.vq c.cl (us.map PV.pt))=C):=by have:=ai.o;rw[VD hF]at this;exact this
      go_wp2_with fail
      refine(CG.o _ x.o).mono ?_
      rintro e y⟨rfl,⟨c9,z,A⟩,f⟩;have B:=hId z;have X:=hId (A.trans s.o);have I:=hId (ad.o.trans f);clear z A f;go_wp2
      refine VL (results_none rfl _ _ _) rfl ?_
      exact⟨rfl,⟨c9,B.o,X.o⟩,I.o⟩
   ·have a6:(E !=0)=true:=by simp[hE]
    have s:Hd (Kl.gv (Kl.vq c.cl (us.map PV.pt))=C):=by have:=Y.o;rw[VD hE]at this;exact this
    go_wp2_with fail
    refine(CG.o _ l.o.hk).mono ?_
    rintro e y⟨rfl,⟨c9,z,A⟩,f⟩;have B:=hId z;have X:=hId (A.trans s.o);have I:=hId (af.o.trans f);clear z A f;go_wp2
    refine VL (results_none rfl _ _ _) rfl ?_
    exact⟨rfl,⟨c9,B.o,X.o⟩,I.o⟩
 ·have s:Hd (c.cl=C):=by
   have:=HC.o;unfold Kl.fW at this;rw[VD (show¬Ac.ag c.cl.base (us.map PV.pt)=0 from hz)]at this;exact this
  rw[VD hz]at CA;generalize Ac.ag c.base (us.map PV.pt)=E at*;have a6:(E !=0)=true:=by simp[hz]
  go_enter func119,ntmps119
  go_wp2_with fail
  refine CA.o.mono ?_
  rintro e w1⟨rfl,⟨d,t,u⟩,f⟩;have p:=hId t;have Z:=hId (u.trans s.o);have J:=hId f;clear t u f CA;go_wp2
  refine VL (results_none rfl _ _ _) rfl ?_
  exact⟨rfl,⟨d,p.o,Z.o⟩,J.o⟩
