/- A part. -/
import Derived.Test.YthddphjghgdalaaGreatDoorP16
set_option maxRecDepth 100000
set_option maxHeartbeats 3200000
namespace Go.Proofs.YthddphjghgdalaaGreatDoor
open Go.RowKit Go.Proofs.Tryz
theorem pF{w:World}{a:Option Addr}{n c:Nat}{b:List PV}(h:ae w a n c b):(b.map PV.pt).length=n:=by rw[VH];exact h.len
theorem uh(c:CV)(w:World)(K:kE w c)(hS:df w):
  Calls prog 34 #[.agg #[.int .i64 c.rev,.slice c.ba c.bn c.bc,.slice c.na c.nn c.nc,.int .i64 c.seq,.slice c.sa c.sn c.sc,.slice c.ha c.hn c.hc,.bool c.jo]] w fun e w'=>e=.returned (.int .i64 (Kl.iS c.cl))/\Below w.heap.size w w':=by
 have g:=hId (aa c w);have F:Hd (jK (aO c w) (w.heap.size) c):=⟨cH c w,K.below (aa c w)⟩;have a1:Hd (∀w',Below (aO c w).heap.size (aO c w) w'->df w'):=fun w' f=>(hS.below (aa c w)).below f;have P:=pF K.aJ;have S:=pF K.held;have C1:=hId (iq _ _ _ _ _ (K.base.below g.o) (hS.below g.o));have a2:=hId K.base.len;clear K hS;obtain⟨r,l⟩:∃r,Kl.iS c.cl=r:=⟨_,rfl⟩;rw[l];change (if c.rev<0\/60<c.rev\/c.seq<0\/10000<c.seq then(3:Int)else if Dc.check c.base=0 then(if(0<(c.held.map PV.pt).length/\(c.aJ.map PV.pt).length=0)\/(0<(c.aJ.map PV.pt).length/\c.seq=0)then 4 else if Kl.pS c.base (c.aJ.map PV.pt) (c.held.map PV.pt)=0 then(if Dc.same c.now (Kl.Ds c.base (c.aJ.map PV.pt) (c.held.map PV.pt))=true then 0 else 4)else Kl.pS c.base (c.aJ.map PV.pt) (c.held.map PV.pt))else Dc.check c.base)=r at l;rw[P,S]at l;clear P S;by_cases g1:c.rev<0
 ·obtain rfl:r=3:=by rw[<-l,VC (Or.inl g1)]
  clear l;go_enter func34,ntmps34
  go_upto_region 1 with fail
  change Code.wp prog _ _ _ (aO c w);generalize aO c w=W at*;obtain⟨t,s,-,p⟩:=AV F.o.aM;go_wp2
  go_ret
  exact⟨rfl,g.o⟩
 by_cases g2:60<c.rev
 ·obtain rfl:r=3:=by rw[<-l,VC (Or.inr (Or.inl g2))]
  clear l;go_enter func34,ntmps34
  go_upto_region 1 with fail
  change Code.wp prog _ _ _ (aO c w);generalize aO c w=W at*;obtain⟨t,s,-,p⟩:=AV F.o.aM;go_wp2
  go_ret
  exact⟨rfl,g.o⟩
 by_cases g3:c.seq<0
 ·obtain rfl:r=3:=by rw[<-l,VC (Or.inr (Or.inr (Or.inl g3)))]
  clear l;go_enter func34,ntmps34
  go_upto_region 1 with fail
  change Code.wp prog _ _ _ (aO c w);generalize aO c w=W at*;obtain⟨t,s,-,p⟩:=AV F.o.aM;go_wp2
  go_ret
  exact⟨rfl,g.o⟩
 by_cases g4:10000<c.seq
 ·obtain rfl:r=3:=by rw[<-l,VC (Or.inr (Or.inr (Or.inr g4)))]
  clear l;go_enter func34,ntmps34
  go_upto_region 1 with fail
  change Code.wp prog _ _ _ (aO c w);generalize aO c w=W at*;obtain⟨t,s,-,p⟩:=AV F.o.aM;go_wp2
  go_ret
  exact⟨rfl,g.o⟩
 rw[VD (show¬(c.rev<0\/60<c.rev\/c.seq<0\/10000<c.seq)by omega)]at l;have O:Hd _:=l;clear l;obtain⟨x,Y⟩:∃x,Dc.check c.base=x:=⟨_,rfl⟩;rw[Y]at C1 O;by_cases N:x=0
 ·have hf:=Dc.eM (Y.trans N);rw[a2.o]at hf;have a3:=hId hf.2;clear hf Y;have C:Hd ((if(0<c.hn/\c.sn=0)\/(0<c.sn/\c.seq=0)then(4:Int)else if Kl.pS c.base (c.aJ.map PV.pt) (c.held.map PV.pt)=0 then(if Dc.same c.now (Kl.Ds c.base (c.aJ.map PV.pt) (c.held.map PV.pt))=true then 0 else 4)else Kl.pS c.base (c.aJ.map PV.pt) (c.held.map PV.pt))=r):=by have:=O.o;rw[VC N]at this;exact this
  clear O;subst N;go_enter func34,ntmps34
  go_upto_region 1 with fail
  change Code.wp prog _ _ _ (aO c w);generalize aO c w=W at*;obtain⟨t,s,-,p⟩:=AV F.o.aM;go_wp2_with fail
  refine C1.o.mono ?_
  rintro e w1⟨rfl,f⟩;have o:=hId f;have n:=hId (F.o.below f);clear f t s p;obtain⟨t,s,p2,p,p4,p5,p6⟩:=Bh n.o.aM;obtain⟨Z,I⟩:∃b,decide (0<c.hn)=b:=⟨_,rfl⟩;obtain⟨E,H⟩:∃b,decide (0<c.sn)=b:=⟨_,rfl⟩;obtain⟨L,Q⟩:∃b,(c.seq==0)=b:=⟨_,rfl⟩;have G:=hId (fun w'=>by have:=bC c.ha c.hn c.hc w';rw[I]at this;exact this);have u:=hId (fun w'=>by have:=bC c.sa c.sn c.sc w';rw[H]at this;exact this);have A:Hd (((0<c.hn/\c.sn=0)\/(0<c.sn/\c.seq=0))↔((Z&&!E)||(E&&L))=true):=by
   show _↔_
   rw[<-I,<-H,<-Q];simp only[Bool.or_eq_true,WD,XF,Bool.not_eq_true',decide_eq_false_iff_not,beq_iff_eq]
   omega
  clear I H;go_upto_region 6 with fail
  go_cut [48]from 30 to 48 (fun v wx=>v=.bool ((Z&&!E)||(E&&L))/\wx=w1)
  case first=>
   cases Z
   ·cases E
    ·go_wp2_with fail
     refine(G.o _).mono ?_
     rintro e i⟨rfl,d⟩;obtain rfl:=d.symm;try clear d
     go_wp2_with fail
     refine(u.o _).mono ?_
     rintro e i⟨rfl,d⟩;obtain rfl:=d.symm;try clear d
     go_wp2_with fail
     go_meet
     exact⟨rfl,rfl⟩
    ·cases L
     ·go_wp2_with fail
      refine(G.o _).mono ?_
      rintro e i⟨rfl,d⟩;obtain rfl:=d.symm;try clear d
      go_wp2_with fail
      refine(u.o _).mono ?_
      rintro e i⟨rfl,d⟩;obtain rfl:=d.symm;try clear d
      go_wp2_with fail
      go_meet
      exact⟨rfl,rfl⟩
     ·go_wp2_with fail
      refine(G.o _).mono ?_
      rintro e i⟨rfl,d⟩;obtain rfl:=d.symm;try clear d
      go_wp2_with fail
      refine(u.o _).mono ?_
      rintro e i⟨rfl,d⟩;obtain rfl:=d.symm;try clear d
      go_wp2_with fail
      go_meet
      exact⟨rfl,rfl⟩
   ·cases E
    ·go_wp2_with fail
     refine(G.o _).mono ?_
     rintro e i⟨rfl,d⟩;obtain rfl:=d.symm;try clear d
     go_wp2_with fail
     refine(u.o _).mono ?_
     rintro e i⟨rfl,d⟩;obtain rfl:=d.symm;try clear d
     go_wp2_with fail
     go_meet
     exact⟨rfl,rfl⟩
    ·cases L
     ·go_wp2_with fail
      refine(G.o _).mono ?_
      rintro e i⟨rfl,d⟩;obtain rfl:=d.symm;try clear d
      go_wp2_with fail
      refine(u.o _).mono ?_
      rintro e i⟨rfl,d⟩;obtain rfl:=d.symm;try clear d
      go_wp2_with fail
      refine(u.o _).mono ?_
      rintro e i⟨rfl,d⟩;obtain rfl:=d.symm;try clear d
      go_wp2_with fail
      go_meet
      exact⟨rfl,rfl⟩
     ·go_wp2_with fail
      refine(G.o _).mono ?_
      rintro e i⟨rfl,d⟩;obtain rfl:=d.symm;try clear d
      go_wp2_with fail
      refine(u.o _).mono ?_
      rintro e i⟨rfl,d⟩;obtain rfl:=d.symm;try clear d
      go_wp2_with fail
      refine(u.o _).mono ?_
      rintro e i⟨rfl,d⟩;obtain rfl:=d.symm;try clear d
      go_wp2_with fail
      go_meet
      exact⟨rfl,rfl⟩
  case rest=>
   obtain⟨rfl,rfl⟩:=hcut;generalize ((Z&&!E)||(E&&L))=T at*;clear G u Q
   cases T
   ·have B:Hd ((if Kl.pS c.base (c.aJ.map PV.pt) (c.held.map PV.pt)=0 then(if Dc.same c.now (Kl.Ds c.base (c.aJ.map PV.pt) (c.held.map PV.pt))=true then(0:Int)else 4)else Kl.pS c.base (c.aJ.map PV.pt) (c.held.map PV.pt))=r):=by have:=C.o;rw[VD (fun h=>WB (A.o.1 h))]at this;exact this
    clear C A;have CD:=hId (As _ _ _ _ _ _ _ _ _ _ _ _ _ n.o.ia.base n.o.ia.aJ n.o.ia.held (a1.o _ o.o) a3.o);generalize Kl.pS c.base (c.aJ.map PV.pt) (c.held.map PV.pt)=y at*;generalize Kl.Ds c.base (c.aJ.map PV.pt) (c.held.map PV.pt)=D at*;go_wp2_with fail
    refine CD.o.mono ?_
    rintro e w2⟨⟨a,m,k,rfl,hd⟩,f⟩;have J:=hId (o.o.trans (f.mono o.o.size));have V:=hId (n.o.below f);have HD:=hId hd;clear f hd CD t s p2 p p4 p5 p6;by_cases M:y=0
    ·have CE:Hd (Calls prog 15 #[.slice c.na c.nn c.nc,.slice a m k] w2 fun e w'=>e=.returned (.bool (Dc.same c.now D))/\Below w2.heap.size w2 w'):=(gJ _ _ _ _ _ _ _ _ _ V.o.ia.now (HD.o M)).mono fun e w'⟨h,q,hq⟩=>⟨h,by rw[hq];exact bJ _ q⟩;have U:Hd ((if Dc.same c.now D=true then(0:Int)else 4)=r):=by have:=B.o;rw[VC M]at this;exact this
     clear B HD;subst M;have p2:=IJ V.o.aM;generalize Dc.same c.now D=z at*;go_wp2_with fail
     refine CE.o.mono ?_
     rintro e i⟨rfl,f⟩;have X:=hId (J.o.trans (f.mono J.o.size));clear f p2 CE
     cases z
     ·obtain rfl:r=4:=U.o.symm;go_wp2
      go_ret
      exact⟨rfl,g.o.trans (X.o.mono g.o.size)⟩
     ·obtain rfl:r=0:=U.o.symm;go_wp2
      go_ret
      exact⟨rfl,g.o.trans (X.o.mono g.o.size)⟩
    ·obtain rfl:r=y:=by have:=B.o;rw[VD M]at this;exact this.symm
     have a0:(r==0)=false:=by simp[M]
     clear B HD;go_wp2
     go_ret
     exact⟨rfl,g.o.trans (J.o.mono g.o.size)⟩
   ·obtain rfl:r=4:=by have:=C.o;rw[VC (A.o.2 rfl)]at this;exact this.symm
    clear C A;go_wp2
    go_ret
    exact⟨rfl,g.o.trans (o.o.mono g.o.size)⟩
 ·obtain rfl:r=x:=by have:=O.o;rw[VD N]at this;exact this.symm
  have a0:(r !=0)=true:=by simp[N]
  clear O Y;go_enter func34,ntmps34
  go_upto_region 1 with fail
  change Code.wp prog _ _ _ (aO c w);generalize aO c w=W at*;obtain⟨t,s,-,p⟩:=AV F.o.aM;go_wp2_with fail
  refine C1.o.mono ?_
  rintro e w1⟨rfl,f⟩;have o:=hId f;have n:=hId (F.o.below f);clear f t s p;go_wp2
  go_ret
  exact⟨rfl,g.o.trans (o.o.mono g.o.size)⟩
theorem G6(c d:CV)(w:World)(T:kE w c)(S:kE w d):
  Calls prog 8 #[.agg #[.int .i64 c.rev,.slice c.ba c.bn c.bc,.slice c.na c.nn c.nc,.int .i64 c.seq,.slice c.sa c.sn c.sc,.slice c.ha c.hn c.hc,.bool c.jo],.agg #[.int .i64 d.rev,.slice d.ba d.bn d.bc,.slice d.na d.nn d.nc,.int .i64 d.seq,.slice d.sa d.sn d.sc,.slice d.ha d.hn d.hc,.bool d.jo]] w fun e w'=>e=.returned (.bool (Kl.same c.cl d.cl))/\Below w.heap.size w w':=by
 have B:=hId ((aa c w).trans ((aa d _).mono (aa c w).size));have P:Blk (aO d (aO c w)) (w.heap.size) (fS c) 41:=(cH c w).alloc _;have O:Blk (aO d (aO c w)) (w.heap.size+1) (fS d) 41:=by have:=cH d (aO c w);rw[hJ]at this;exact this
 have H:=T.below B.o;have G:=S.below B.o;have b:Hd (∀w',Below (aO d (aO c w)).heap.size (aO d (aO c w)) w'->w'.cell? ⟨w.heap.size,0,none⟩=some (.int .i64 c.rev)/\w'.cell? ⟨w.heap.size,1,none⟩=some (.slice c.ba c.bn c.bc)/\w'.cell? ⟨w.heap.size,2,none⟩=some (.slice c.na c.nn c.nc)/\w'.cell? ⟨w.heap.size,3,none⟩=some (.int .i64 c.seq)/\w'.cell? ⟨w.heap.size,4,none⟩=some (.slice c.sa c.sn c.sc)/\w'.cell? ⟨w.heap.size,5,none⟩=some (.slice c.ha c.hn c.hc)/\w'.cell? ⟨w.heap.size,6,none⟩=some (.bool c.jo)/\w'.cell? ⟨w.heap.size+1,0,none⟩=some (.int .i64 d.rev)/\w'.cell? ⟨w.heap.size+1,1,none⟩=some (.slice d.ba d.bn d.bc)/\w'.cell? ⟨w.heap.size+1,2,none⟩=some (.slice d.na d.nn d.nc)/\w'.cell? ⟨w.heap.size+1,3,none⟩=some (.int .i64 d.seq)/\w'.cell? ⟨w.heap.size+1,4,none⟩=some (.slice d.sa d.sn d.sc)/\w'.cell? ⟨w.heap.size+1,5,none⟩=some (.slice d.ha d.hn d.hc)/\w'.cell? ⟨w.heap.size+1,6,none⟩=some (.bool d.jo)):=fun w' a=>by
  have E:Blk w' (w.heap.size) (fS c) 41:=(a.block _ P.lt).trans P;have F:Blk w' (w.heap.size+1) (fS d) 41:=(a.block _ O.lt).trans O;exact⟨E.cell 0,E.cell 1,E.cell 2,E.cell 3,E.cell 4,E.cell 5,E.cell 6,F.cell 0,F.cell 1,F.cell 2,F.cell 3,F.cell 4,F.cell 5,F.cell 6⟩
 have L:Hd (∀w',Below (aO d (aO c w)).heap.size (aO d (aO c w)) w'->Calls prog 15 #[.slice c.ba c.bn c.bc,.slice d.ba d.bn d.bc] w' fun e A=>e=.returned (.bool (Dc.same c.base d.base))/\Below w'.heap.size w' A):=fun w' a=>(gJ _ _ _ _ _ _ _ _ _ (H.base.below a) (G.base.below a)).mono fun e A⟨h,q,N⟩=>⟨h,by rw[N];exact bJ _ q⟩;have Q:Hd (∀w',Below (aO d (aO c w)).heap.size (aO d (aO c w)) w'->Calls prog 15 #[.slice c.na c.nn c.nc,.slice d.na d.nn d.nc] w' fun e A=>e=.returned (.bool (Dc.same c.now d.now))/\Below w'.heap.size w' A):=fun w' a=>(gJ _ _ _ _ _ _ _ _ _ (H.now.below a) (G.now.below a)).mono fun e A⟨h,q,N⟩=>⟨h,by rw[N];exact bJ _ q⟩;have V:Hd (∀w',Below (aO d (aO c w)).heap.size (aO d (aO c w)) w'->Calls prog 25 #[.slice c.sa c.sn c.sc,.slice d.sa d.sn d.sc] w' fun e A=>e=.returned (.bool (Ac.eU (c.aJ.map PV.pt) (d.aJ.map PV.pt)))/\Below w'.heap.size w' A):=fun w' a=>rD _ _ _ _ _ _ _ _ _ (H.aJ.below a) (G.aJ.below a);have C7:Hd (∀w',Below (aO d (aO c w)).heap.size (aO d (aO c w)) w'->Calls prog 25 #[.slice c.ha c.hn c.hc,.slice d.ha d.hn d.hc] w' fun e A=>e=.returned (.bool (Ac.eU (c.held.map PV.pt) (d.held.map PV.pt)))/\Below w'.heap.size w' A):=fun w' a=>rD _ _ _ _ _ _ _ _ _ (H.held.below a) (G.held.below a);clear T S H G P O;obtain⟨r,D⟩:∃r,Kl.same c.cl d.cl=r:=⟨_,rfl⟩;rw[D];change ((c.rev==d.rev)&&((c.seq==d.seq)&&((c.jo==d.jo)&&(Dc.same c.base d.base&&(Dc.same c.now d.now&&(Ac.eU (c.aJ.map PV.pt) (d.aJ.map PV.pt)&&Ac.eU (c.held.map PV.pt) (d.held.map PV.pt)))))))=r at D;generalize Dc.same c.base d.base=b4 at*;generalize Dc.same c.now d.now=b5 at*;generalize Ac.eU (c.aJ.map PV.pt) (d.aJ.map PV.pt)=Z at*;generalize Ac.eU (c.held.map PV.pt) (d.held.map PV.pt)=Y at*
 cases E:(c.rev==d.rev)
 ·obtain rfl:r=false:=by rw[<-D,E];rfl
  clear D;go_enter func8,ntmps8
  go_upto_region 1 with fail
  change Code.wp prog _ _ _ (aO d (aO c w));generalize (aO d (aO c w))=W at*;obtain⟨y,x,v,u,t,s,p,o,n,m,l,k,i,g⟩:=b.o W (VE _ _);go_wp2
  go_ret
  exact⟨rfl,B.o.trans ((VE W.heap.size W).mono B.o.size)⟩
 cases F:(c.seq==d.seq)
 ·obtain rfl:r=false:=by rw[<-D,E,F];rfl
  clear D;go_enter func8,ntmps8
  go_upto_region 1 with fail
  change Code.wp prog _ _ _ (aO d (aO c w));generalize (aO d (aO c w))=W at*;obtain⟨y,x,v,u,t,s,p,o,n,m,l,k,i,g⟩:=b.o W (VE _ _);go_wp2
  go_ret
  exact⟨rfl,B.o.trans ((VE W.heap.size W).mono B.o.size)⟩
 cases U:(c.jo==d.jo)
 ·obtain rfl:r=false:=by rw[<-D,E,F,U];rfl
  clear D;go_enter func8,ntmps8
  go_upto_region 1 with fail
  change Code.wp prog _ _ _ (aO d (aO c w));generalize (aO d (aO c w))=W at*;obtain⟨y,x,v,u,t,s,p,o,n,m,l,k,i,g⟩:=b.o W (VE _ _);go_wp2
  go_ret
  exact⟨rfl,B.o.trans ((VE W.heap.size W).mono B.o.size)⟩
 rw[E,F,U]at D
 cases b4
 ·obtain rfl:r=false:=D.symm;go_enter func8,ntmps8
  go_upto_region 1 with fail
  change Code.wp prog _ _ _ (aO d (aO c w));generalize (aO d (aO c w))=W at*;obtain⟨y,x,v,u,t,s,p,o,n,m,l,k,i,g⟩:=b.o W (VE _ _);go_wp2_with fail
  refine(L.o _ (VE W.heap.size W)).mono ?_
  rintro e I⟨rfl,a⟩;have f:=hId ((VE W.heap.size W).trans (a.mono (VE W.heap.size W).size));clear a;clear y x v u t s p o n m l k i g;obtain⟨y,x,v,u,t,s,p,o,n,m,l,k,i,g⟩:=b.o I f.o;go_wp2
  go_ret
  exact⟨rfl,B.o.trans ((f.o).mono B.o.size)⟩
 cases b5
 ·obtain rfl:r=false:=D.symm;go_enter func8,ntmps8
  go_upto_region 1 with fail
  change Code.wp prog _ _ _ (aO d (aO c w));generalize (aO d (aO c w))=W at*;obtain⟨y,x,v,u,t,s,p,o,n,m,l,k,i,g⟩:=b.o W (VE _ _);go_wp2_with fail
  refine(L.o _ (VE W.heap.size W)).mono ?_
  rintro e I⟨rfl,a⟩;have f:=hId ((VE W.heap.size W).trans (a.mono (VE W.heap.size W).size));clear a;clear y x v u t s p o n m l k i g;obtain⟨y,x,v,u,t,s,p,o,n,m,l,k,i,g⟩:=b.o I f.o;go_wp2_with fail
  refine(Q.o _ (f.o)).mono ?_
  rintro e J⟨rfl,a⟩;have z:=hId ((f.o).trans (a.mono (f.o).size));clear a;clear y x v u t s p o n m l k i g;obtain⟨y,x,v,u,t,s,p,o,n,m,l,k,i,g⟩:=b.o J z.o;go_wp2
  go_ret
  exact⟨rfl,B.o.trans ((z.o).mono B.o.size)⟩
 cases Z
 ·obtain rfl:r=false:=D.symm;go_enter func8,ntmps8
  go_upto_region 1 with fail
  change Code.wp prog _ _ _ (aO d (aO c w));generalize (aO d (aO c w))=W at*;obtain⟨y,x,v,u,t,s,p,o,n,m,l,k,i,g⟩:=b.o W (VE _ _);go_wp2_with fail
  refine(L.o _ (VE W.heap.size W)).mono ?_
  rintro e I⟨rfl,a⟩;have f:=hId ((VE W.heap.size W).trans (a.mono (VE W.heap.size W).size));clear a;clear y x v u t s p o n m l k i g;obtain⟨y,x,v,u,t,s,p,o,n,m,l,k,i,g⟩:=b.o I f.o;go_wp2_with fail
  refine(Q.o _ (f.o)).mono ?_
  rintro e J⟨rfl,a⟩;have z:=hId ((f.o).trans (a.mono (f.o).size));clear a;clear y x v u t s p o n m l k i g;obtain⟨y,x,v,u,t,s,p,o,n,m,l,k,i,g⟩:=b.o J z.o;go_wp2_with fail
  refine(V.o _ (z.o)).mono ?_
  rintro e M⟨rfl,a⟩;have C:=hId ((z.o).trans (a.mono (z.o).size));clear a;clear y x v u t s p o n m l k i g;obtain⟨y,x,v,u,t,s,p,o,n,m,l,k,i,g⟩:=b.o M C.o;go_wp2
  go_ret
  exact⟨rfl,B.o.trans ((C.o).mono B.o.size)⟩
 obtain rfl:r=Y:=D.symm;go_enter func8,ntmps8
 go_upto_region 1 with fail
 change Code.wp prog _ _ _ (aO d (aO c w));generalize (aO d (aO c w))=W at*;obtain⟨y,x,v,u,t,s,p,o,n,m,l,k,i,g⟩:=b.o W (VE _ _);go_wp2_with fail
 refine(L.o _ (VE W.heap.size W)).mono ?_
 rintro e I⟨rfl,a⟩;have f:=hId ((VE W.heap.size W).trans (a.mono (VE W.heap.size W).size));clear a;clear y x v u t s p o n m l k i g;obtain⟨y,x,v,u,t,s,p,o,n,m,l,k,i,g⟩:=b.o I f.o;go_wp2_with fail
 refine(Q.o _ (f.o)).mono ?_
 rintro e J⟨rfl,a⟩;have z:=hId ((f.o).trans (a.mono (f.o).size));clear a;clear y x v u t s p o n m l k i g;obtain⟨y,x,v,u,t,s,p,o,n,m,l,k,i,g⟩:=b.o J z.o;go_wp2_with fail
 refine(V.o _ (z.o)).mono ?_
 rintro e M⟨rfl,a⟩;have C:=hId ((z.o).trans (a.mono (z.o).size));clear a;clear y x v u t s p o n m l k i g;obtain⟨y,x,v,u,t,s,p,o,n,m,l,k,i,g⟩:=b.o M C.o;go_wp2_with fail
 refine(C7.o _ (C.o)).mono ?_
 rintro e X⟨rfl,a⟩;have K:=hId ((C.o).trans (a.mono (C.o).size));clear a;clear y x v u t s p o n m l k i g;obtain⟨y,x,v,u,t,s,p,o,n,m,l,k,i,g⟩:=b.o X K.o;go_wp2
 go_ret
 exact⟨rfl,B.o.trans ((K.o).mono B.o.size)⟩
