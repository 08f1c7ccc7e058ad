/- A part. -/
import Derived.Test.YthddphjghgdalaaGreatDoorP20
set_option maxRecDepth 100000
set_option maxHeartbeats 6400000
namespace Go.Proofs.YthddphjghgdalaaGreatDoor
open Go.RowKit Go.Proofs.Tryz
structure MV where
 mr:Int
 e:EV
def jX (m:MV):List Value:=[.int .i64 m.mr,.int .i64 m.e.aR,.int .i64 m.e.seq,.slice m.e.ao m.e.n m.e.cap]
def SX (m:MV):Value:=.agg #[.int .i64 m.mr,.int .i64 m.e.aR,.int .i64 m.e.seq,.slice m.e.ao m.e.n m.e.cap]
def aj (m:MV) (w:World):World:=w.alloc (.cells #[.int .i64 m.mr,.int .i64 m.e.aR,.int .i64 m.e.seq,.slice m.e.ao m.e.n m.e.cap] 114)
theorem ay(m:MV)(w:World):Below w.heap.size w (aj m w):=(VE _ _).alloc (UZ _) _
theorem dE(m:MV)(w:World):Blk (aj m w) w.heap.size (jX m) 114:=Blk.new w _ _
theorem mO(m:MV)(w:World):(aj m w).heap.size=w.heap.size+1:=WO ..
theorem P5(c:CV)(a:Int)(x:EV)(b:(c.aJ.map PV.pt).length=c.sn):Kl.kZ c.cl a x.en=((x.aR==a)&&((x.seq==c.seq)&&decide (0<c.sn))):=by
 show((x.aR==a)&&((x.seq==c.seq)&&decide (0<(c.aJ.map PV.pt).length)))=_
 rw[b]
structure Rm (w:World) (g:Nat) (c:CV) (m:MV) (wx:World):Prop where
 k:jK wx g c
 b:Blk wx (w.heap.size) (jX m) 114
 o:ae wx m.e.ao m.e.n m.e.cap m.e.vs
 s:df wx
 kp:Kept w wx [g]
theorem Rm.under{w:World}{g:Nat}{c:CV}{m:MV}{b d:World}(h:Rm w g c m b)(a:Below b.heap.size b d):Rm w g c m d:=
 ⟨h.k.below a,(a.block _ h.b.lt).trans h.b,h.o.below a,h.s.below a,h.kp.trans (Kept.dA a)⟩
theorem La(g:Nat)(c:CV)(z:Int)(m:MV)(w:World)(hK:jK w g c)(hO:ae w m.e.ao m.e.n m.e.cap m.e.vs)(hS:df w)(U:Kl.Rc c.cl):
  Calls prog 100 #[.pointer (some ⟨g,0,none⟩),.int .i64 z,.agg #[.int .i64 m.mr,.int .i64 m.e.aR,.int .i64 m.e.seq,.slice m.e.ao m.e.n m.e.cap]] w fun e w'=>Fz g (Kl.Bk c.cl z m.mr m.e.en) (Kl.JT c.cl z m.mr m.e.en) (Kl.FM c.cl z m.mr m.e.en) e w'/\Kept w w' [g]:=by
 have Y:=pF hK.ia.aJ;have a1:m.e.en.o.length=m.e.n:=pF hO;have l:Hd (Rm w g c m (aj m w)):=⟨hK.below (ay ..),dE ..,hO.below (ay ..),hS.below (ay ..),Kept.dA (ay ..)⟩;have a2:c.bn<=80:=by have h1:=Dc.eM U.ck;have h2:c.base.length=c.bn:=hK.ia.base.len;have h3:c.cl.base.length=c.base.length:=rfl;omega
 have ac:=hId a2;have HR:=hId U;have a6:=hId (P5 c z m.e Y);have Z:=U.lo;have a0:=U.hi;have ad:(0:Int)<=c.rev:=Z;have af:c.rev<=60:=a0;obtain⟨E,M⟩:∃E,Kl.Bk c.cl z m.mr m.e.en=E:=⟨_,rfl⟩;obtain⟨S,p⟩:∃S,Kl.JT c.cl z m.mr m.e.en=S:=⟨_,rfl⟩;obtain⟨C,q⟩:∃C,Kl.FM c.cl z m.mr m.e.en=C:=⟨_,rfl⟩;rw[M,p,q];unfold Kl.Bk at M;unfold Kl.JT at p;unfold Kl.FM at q;obtain⟨W,hW⟩:∃W,Kl.kZ c.cl z m.e.en=W:=⟨_,rfl⟩;rw[hW]at M p q;rw[a1]at M p q;have HE:Hd ((if m.e.n=0 then(0:Int)else if Ac.gC (m.e.vs.map PV.pt)=0 then(if m.mr≠c.rev+1\/c.rev=60 then 0 else if W=true then Ac.ag c.base (m.e.vs.map PV.pt)else 0)else Ac.gC (m.e.vs.map PV.pt))=E):=M;have HS:Hd ((if m.e.n=0 then false else if m.mr≠c.rev+1\/c.rev=60 then false else if W=true then Kl.mf c.cl (m.e.vs.map PV.pt)else false)=S):=p;have HC:Hd ((if m.e.n=0 then(if W=true then Kl.gv c.cl else c.cl)else if m.mr≠c.rev+1\/c.rev=60 then c.cl else if W=true then Kl.iX c.cl (m.e.vs.map PV.pt)else Kl.fW c.cl (m.e.vs.map PV.pt))=C):=q;have r:=hId (hW.symm.trans a6.o);clear hK hO hS U M p q hW a6 a1 Y a2 Z a0;go_enter func100,ntmps100
 go_upto_region 1 with fail
 change Code.wp prog _ _ _ (aj m w);generalize aj m w=W0 at*;obtain⟨-,q1,q2⟩:=mi l.o.b;obtain⟨-,-,-,p3,p4⟩:=Rf l.o.k.aM;obtain⟨b1,a4⟩:∃b,(m.e.aR==z)=b:=⟨_,rfl⟩;obtain⟨b2,a3⟩:∃b,(m.e.seq==c.seq)=b:=⟨_,rfl⟩;obtain⟨b3,L⟩:∃b,decide (0<c.sn)=b:=⟨_,rfl⟩;have CI:=hId (fun w'=>by have:=bC c.sa c.sn c.sc w';rw[L]at this;exact this);rw[a4,a3,L]at r;clear L;go_cut [8]from 10 to 31 (fun v wx=>v=.bool W/\Rm w g c m wx)
 case first=>
  cases b1
  ·obtain rfl:W=false:=r.o;go_quiet (fail)
   all_goals
    first|go_meet|(go_wp2_with fail;go_meet)
    case rel=>exact⟨rfl,by first|exact l.o.under ((VE _ _).drew)|exact l.o.under (bJ _ _)⟩
  ·cases b2
   ·obtain rfl:W=false:=r.o;go_quiet (fail)
    all_goals
     first|go_meet|(go_wp2_with fail;go_meet)
     case rel=>exact⟨rfl,by first|exact l.o.under ((VE _ _).drew)|exact l.o.under (bJ _ _)⟩
   ·obtain rfl:W=b3:=r.o;go_region_with (go_at_call 61;refine(CI.o _).mono ?_;rintro e w9⟨rfl,rfl⟩)
    all_goals
     first|go_meet|(go_wp2_with fail;go_meet)
     case rel=>exact⟨rfl,l.o.under ((VE _ _).drew)⟩
 case rest=>
  obtain⟨rfl,Q⟩:=hcut;generalize wc=J at*;have a:=hId Q;clear Q l CI r a4 a3 q1 q2 p3 p4;obtain⟨q0,-,-,q3⟩:=AV a.o.b;by_cases A:m.e.n=0
  ·obtain rfl:E=0:=by rw[<-HE.o,VC A]
   obtain rfl:S=false:=by rw[<-HS.o,VC A]
   have a8:Hd ((if W=true then Kl.gv c.cl else c.cl)=C):=by have:=HC.o;rw[VC A]at this;exact this
   have CM:Hd (Calls prog 61 #[.slice m.e.ao m.e.n m.e.cap] J fun e K=>e=.returned (.bool false)/\K=J):=by have:=bC m.e.ao m.e.n m.e.cap J;rw[show decide (0<m.e.n)=false by simp[A]]at this;exact this
   have CG:=hId (pH g c J a.o.k ac.o);clear HE HS HC A;go_wp2_with fail
   refine CM.o.mono ?_
   rintro e w3⟨rfl,P⟩;obtain rfl:=P.symm;try clear P
   cases W
   ·have y:Hd (c.cl=C):=a8.o;go_wp2
    exact VL (v:=.tuple #[.bool false,.int .i64 0]) (by simp[results,Tryz.results100,go_sem]) rfl ⟨⟨c,false,rfl,a.o.k,fun _=>⟨rfl,y.o⟩⟩,a.o.kp⟩
   ·have y:Hd (Kl.gv c.cl=C):=a8.o;go_wp2_with fail
    refine CG.o.mono ?_
    rintro e w4⟨rfl,⟨V,i,k,-⟩,f⟩;have s:=hId i;have u:=hId (k.trans y.o);have n:=hId (a.o.kp.trans f);clear i k f;go_wp2
    exact VL (v:=.tuple #[.bool false,.int .i64 0]) (by simp[results,Tryz.results100,go_sem]) rfl ⟨⟨V,false,rfl,s.o,fun _=>⟨rfl,u.o⟩⟩,n.o⟩
  ·have t:Hd ((if Ac.gC (m.e.vs.map PV.pt)=0 then(if m.mr≠c.rev+1\/c.rev=60 then 0 else if W=true then Ac.ag c.base (m.e.vs.map PV.pt)else 0)else Ac.gC (m.e.vs.map PV.pt))=E):=by have:=HE.o;rw[VD A]at this;exact this
   have F:Hd ((if m.mr≠c.rev+1\/c.rev=60 then false else if W=true then Kl.mf c.cl (m.e.vs.map PV.pt)else false)=S):=by have:=HS.o;rw[VD A]at this;exact this
   have I:Hd ((if m.mr≠c.rev+1\/c.rev=60 then c.cl else if W=true then Kl.iX c.cl (m.e.vs.map PV.pt)else Kl.fW c.cl (m.e.vs.map PV.pt))=C):=by have:=HC.o;rw[VD A]at this;exact this
   have CM:Hd (Calls prog 61 #[.slice m.e.ao m.e.n m.e.cap] J fun e K=>e=.returned (.bool true)/\K=J):=by have:=bC m.e.ao m.e.n m.e.cap J;rw[show decide (0<m.e.n)=true by simp;omega]at this;exact this
   have CC:=hId (kl _ _ _ _ _ a.o.o a.o.s);clear HE HS HC A;obtain⟨x,hx⟩:∃x,Ac.gC (m.e.vs.map PV.pt)=x:=⟨_,rfl⟩;rw[hx]at CC t;go_wp2_with fail
   refine CM.o.mono ?_
   rintro e w3⟨rfl,P⟩;obtain rfl:=P.symm;try clear P
   go_wp2_with fail
   refine CC.o.mono ?_
   rintro e W2⟨rfl,hb⟩;have a9:=hId (a.o.under hb);clear hb CC CM hx q0 q3 a;have a:=hId a9.o;clear a9;by_cases O:x=0
   ·have G:Hd ((if m.mr≠c.rev+1\/c.rev=60 then 0 else if W=true then Ac.ag c.base (m.e.vs.map PV.pt)else 0)=E):=by have:=t.o;rw[VC O]at this;exact this
    clear t;subst O;obtain⟨q0,-,-,q3⟩:=AV a.o.b;have p0:=ja a.o.k.aM;have ab:wrap64 (c.rev+1)=c.rev+1:=by unfold wrap64;omega
    have aa:IntKind.i64.wrap (c.rev+1)=c.rev+1:=IntWalk.i64_in _ ⟨by omega,by omega⟩;obtain⟨T,hT⟩:∃T,((m.mr !=c.rev+1)||(c.rev==60))=T:=⟨_,rfl⟩;have HT:=hId hT;have D:Hd ((m.mr≠c.rev+1\/c.rev=60)↔T=true):=by
     show _↔_
     rw[<-hT];simp
    clear hT;go_upto_region 9 with fail
    go_cut [61]from 47 to 61 (fun v wx=>v=.bool T/\Rm w g c m wx)
    case first=>
     cases h1:(m.mr !=c.rev+1)
     ·obtain rfl:T=(c.rev==60):=by rw[<-HT.o,h1];rfl
      first
      |go_quiet (fail)
      |go_region
      all_goals
       first|go_meet|(go_wp2_with fail;go_meet)
       case rel=>exact⟨rfl,by first|exact a.o.under ((VE _ _).drew)|exact a.o.under (bJ _ _)⟩
     ·obtain rfl:T=true:=by rw[<-HT.o,h1];rfl
      first
      |go_quiet (fail)
      |go_region
      all_goals
       first|go_meet|(go_wp2_with fail;go_meet)
       case rel=>exact⟨rfl,by first|exact a.o.under ((VE _ _).drew)|exact a.o.under (bJ _ _)⟩
    case rest=>
     obtain⟨rfl,Q⟩:=hcut;generalize wc=N at*;have d:=hId Q;clear Q a HT q0 q3 p0 ab aa
     cases T
     ·have B:¬(m.mr≠c.rev+1\/c.rev=60):=fun h=>WB (D.o.1 h);have a7:Hd ((if W=true then Ac.ag c.base (m.e.vs.map PV.pt)else 0)=E):=by have:=G.o;rw[VD B]at this;exact this
      have a5:Hd ((if W=true then Kl.mf c.cl (m.e.vs.map PV.pt)else false)=S):=by have:=F.o;rw[VD B]at this;exact this
      have H:Hd ((if W=true then Kl.iX c.cl (m.e.vs.map PV.pt)else Kl.fW c.cl (m.e.vs.map PV.pt))=C):=by have:=I.o;rw[VD B]at this;exact this
      clear B G F I D;have q3:=Bg d.o.b
      cases W
      ·obtain rfl:E=0:=a7.o.symm;obtain rfl:S=false:=a5.o.symm;have X:Hd (Calls prog 119 #[.pointer (some ⟨g,0,none⟩),.slice m.e.ao m.e.n m.e.cap] N fun e w'=>e=.returned (.tuple #[])/\(∃c',jK w' g c'/\c'.cl=C)/\Kept N w' [g]):=by have:=vl g c m.e.ao m.e.n m.e.cap m.e.vs N d.o.k d.o.o d.o.s HR.o;rw[show Kl.fW c.cl (m.e.vs.map PV.pt)=C from H.o]at this;exact this
       go_wp2_with fail
       refine X.o.mono ?_
       rintro e w4⟨rfl,⟨V,i,k⟩,f⟩;have s:=hId i;have u:=hId k;have n:=hId (d.o.kp.trans f);clear i k f X;go_wp2
       exact VL (v:=.tuple #[.bool false,.int .i64 0]) (by simp[results,Tryz.results100,go_sem]) rfl ⟨⟨V,false,rfl,s.o,fun _=>⟨rfl,u.o⟩⟩,n.o⟩
      ·have X:Hd (Calls prog 118 #[.pointer (some ⟨g,0,none⟩),.slice m.e.ao m.e.n m.e.cap] N fun e w'=>Fz g E S C e w'/\Kept N w' [g]):=by have:=AX g c m.e.ao m.e.n m.e.cap m.e.vs N d.o.k d.o.o d.o.s HR.o;rw[show Ac.ag c.base (m.e.vs.map PV.pt)=E from a7.o,show Kl.mf c.cl (m.e.vs.map PV.pt)=S from a5.o,show Kl.iX c.cl (m.e.vs.map PV.pt)=C from H.o]at this;exact this
       go_wp2_with fail
       refine X.o.mono ?_
       rintro e w4⟨⟨V,s4,rfl,i,k⟩,f⟩;have s:=hId i;have u:=hId k;have n:=hId (d.o.kp.trans f);clear i k f X;go_wp2
       exact VL (v:=.tuple #[.bool s4,.int .i64 E]) (by simp[results,Tryz.results100,go_sem]) rfl ⟨⟨V,s4,rfl,s.o,u.o⟩,n.o⟩
     ·have o:=D.o.2 rfl;obtain rfl:E=0:=by rw[<-G.o,VC o]
      obtain rfl:S=false:=by rw[<-F.o,VC o]
      have H:Hd (c.cl=C):=by have:=I.o;rw[VC o]at this;exact this
      clear o G F I D;go_wp2
      exact VL (v:=.tuple #[.bool false,.int .i64 0]) (by simp[results,Tryz.results100,go_sem]) rfl ⟨⟨c,false,rfl,d.o.k,fun _=>⟨rfl,H.o⟩⟩,d.o.kp⟩
   ·obtain rfl:E=x:=by have:=t.o;rw[VD O]at this;exact this.symm
    have ag:(E !=0)=true:=by simp[O]
    clear t;go_wp2
    exact VL (v:=.tuple #[.bool false,.int .i64 E]) (by simp[results,Tryz.results100,go_sem]) rfl ⟨⟨c,false,rfl,a.o.k,fun h=>absurd h O⟩,a.o.kp⟩
theorem MZ(c:CV)(d:Int)(m:MV)(w:World)(hC:kE w c)(hO:ae w m.e.ao m.e.n m.e.cap m.e.vs)(hS:df w):
  Calls prog 82 #[.agg #[.int .i64 c.rev,.slice c.ba c.bn c.bc,.slice c.na c.nn c.nc,.int .i64 c.seq,.slice c.sa c.sn c.sc,.slice c.ha c.hn c.hc,.bool c.jo],.int .i64 d,.agg #[.int .i64 m.mr,.int .i64 m.e.aR,.int .i64 m.e.seq,.slice m.e.ao m.e.n m.e.cap]] w fun e w'=>Ans (Kl.jQ c.cl d m.mr m.e.en) (Kl.kD c.cl d m.mr m.e.en) (Kl.gT c.cl d m.mr m.e.en) e w'/\Below w.heap.size w w':=by
 have hA:=(aa c w).trans ((ay m _).mono (aa c w).size);have r:=hId (hA.trans ((aa eJ _).mono hA.size));have Q:Hd (Blk (aO eJ (aj m (aO c w))) (w.heap.size) (fS c) 41):=((cH c w).alloc _).alloc _;have HM:Hd (Blk (aO eJ (aj m (aO c w))) (w.heap.size+1) (jX m) 114):=by have:=(dE m (aO c w)).alloc (.cells #[.int .i64 0,.slice none 0 0,.slice none 0 0,.int .i64 0,.slice none 0 0,.slice none 0 0,.bool false] 41);rw[hJ]at this;exact this
 have P:Hd (Blk (aO eJ (aj m (aO c w))) (w.heap.size+2) (fS eJ) 41):=by have:=cH eJ (aj m (aO c w));rw[mO,hJ]at this;exact this
 have U:=hId (uh c _ (hC.below r.o) (hS.below r.o));have HC:=hId hC;have HO:=hId hO;have ab:=hId hS;clear hC hO hS hA;by_cases g:Kl.iS c.cl=0
 ·have T:=yb HC.o g;have HR:=hId (Kl.xL g);have C2:Hd (∀w',Below w.heap.size w w'->Calls prog 43 #[.agg #[.int .i64 c.rev,.slice c.ba c.bn c.bc,.slice c.na c.nn c.nc,.int .i64 c.seq,.slice c.sa c.sn c.sc,.slice c.ha c.hn c.hc,.bool c.jo]] w' fun e V=>(∃t,e=.returned (.agg #[.int .i64 t.rev,.slice t.ba t.bn t.bc,.slice t.na t.nn t.nc,.int .i64 t.seq,.slice t.sa t.sn t.sc,.slice t.ha t.hn t.hc,.bool t.jo])/\kE V t/\t.cl=c.cl)/\Below w'.heap.size w' V):=fun w' h=>n8 c w' (HC.o.below h) T.1 T.2.1 T.2.2.1 T.2.2.2;have f:Kl.jQ c.cl d m.mr m.e.en=Kl.Bk c.cl d m.mr m.e.en:=VC g;have l:Kl.kD c.cl d m.mr m.e.en=(if Kl.Bk c.cl d m.mr m.e.en=0 then Kl.JT c.cl d m.mr m.e.en else false):=by unfold Kl.kD;rw[f]
  have n:Kl.gT c.cl d m.mr m.e.en=(if Kl.Bk c.cl d m.mr m.e.en=0 then Kl.FM c.cl d m.mr m.e.en else Kl.none):=by unfold Kl.gT;rw[f]
  rw[f,l,n];obtain⟨E,z⟩:∃E,Kl.Bk c.cl d m.mr m.e.en=E:=⟨_,rfl⟩;obtain⟨S,x⟩:∃S,Kl.JT c.cl d m.mr m.e.en=S:=⟨_,rfl⟩;obtain⟨C,A⟩:∃C,Kl.FM c.cl d m.mr m.e.en=C:=⟨_,rfl⟩;have a3:=hId z;have a1:=hId x;have a5:=hId A;rw[z,x,A];obtain⟨S0,y⟩:∃S0,(if E=0 then S else false)=S0:=⟨_,rfl⟩;obtain⟨C0,B⟩:∃C0,(if E=0 then C else Kl.none)=C0:=⟨_,rfl⟩;rw[y,B];have p:=hId y;have q:=hId B;rw[g]at U;clear T g f l n z x A y B;go_enter func82,ntmps82
  go_upto_region 1 with fail
  change Code.wp prog _ _ _ (aO eJ (aj m (aO c w)));generalize (aO eJ (aj m (aO c w)))=W at*;obtain⟨O,N,M,L,K,J,I⟩:=Bh Q.o;go_wp2_with fail
  refine U.o.mono ?_
  rintro e v⟨rfl,h⟩;have o:=hId (r.o.trans (h.mono r.o.size));have a2:Hd (Blk v (w.heap.size) (fS c) 41):=(h.block _ Q.o.lt).trans Q.o;have F:Hd (Blk v (w.heap.size+1) (jX m) 114):=(h.block _ HM.o.lt).trans HM.o;have a:Hd (Blk v (w.heap.size+2) (fS eJ) 41):=(h.block _ P.o.lt).trans P.o;clear h U O N M L K J I Q HM P r;obtain⟨O,N,M,L,K,J,I⟩:=Bh a2.o;go_wp2_with fail
  refine(C2.o _ o.o).mono ?_
  rintro e u⟨⟨t,rfl,ht,a0⟩,h⟩;have D:=hId (o.o.trans (h.mono o.o.size));have ad:Hd (Blk u (w.heap.size+1) (jX m) 114):=(h.block _ F.o.lt).trans F.o;have b:Hd (Blk u (w.heap.size+2) (fS eJ) 41):=(h.block _ a.o.lt).trans a.o;have a9:=hId ht;have a4:=hId a0;clear h ht a0 C2 O N M L K J I a2 F a;have q0:=b.o.c0;have q1:=b.o.c1;have q2:=b.o.c2;have q3:=b.o.c3;have q4:=b.o.c4;have q5:=b.o.c5;have q6:=b.o.c6;have g0:=b.o.frozen 0;have g1:=b.o.frozen 1;have g2:=b.o.frozen 2;have g3:=b.o.frozen 3;have g4:=b.o.frozen 4;have g5:=b.o.frozen 5;have g6:=b.o.frozen 6;have af:=hId (jK.put b.o a9.o);have i:Hd (Kept u (jt u (w.heap.size+2) t) [w.heap.size+2]):=cQ _ _ _;have ac:=hId (i.o.aM ad.o (by simp));go_upto_region 5 with fail
  change Code.wp prog _ _ _ (jt u (w.heap.size+2) t);have CD:=hId (La (w.heap.size+2) t d m _ af.o ((HO.o.below D.o).bA b.o i.o) ((ab.o.below D.o).bA b.o i.o) (by rw[a4.o];exact HR.o));rw[a4.o,a3.o,a1.o,a5.o]at CD;clear a3 a1 a5;generalize jt u (w.heap.size+2) t=W3 at*;clear q0 q1 q2 q3 q4 q5 q6 g0 g1 g2 g3 g4 g5 g6;have a8:w.heap.size+2<=u.heap.size:=by have:=b.o.lt;omega
  have a6:Hd (∀w',Kept W3 w' [w.heap.size+2]->Below w.heap.size w w'):=fun w' hk=>D.o.trans (((i.o.trans hk).low a8).mono (by omega));obtain⟨r0,r1,r2,r3⟩:=AV ac.o;go_wp2_with fail
  refine CD.o.mono ?_
  rintro e w4⟨⟨c4,s4,rfl,Y,Z⟩,X⟩;have k:=hId Y;have G:=hId Z;have s:=hId X;clear Y Z X CD r0 r1 r2 r3;obtain⟨O,N,M,L,K,J,I⟩:=Bh k.o.aM;obtain⟨f0,f1,f2,f3,f4,f5,f6⟩:=jf6 k.o.aM;by_cases g:E=0
  ·obtain⟨e1,e2⟩:=G.o g;obtain rfl:S0=s4:=by have:=p.o;rw[VC g]at this;rw[<-this,e1]
   have H:Hd (c4.cl=C0):=by have:=q.o;rw[VC g]at this;show _=_;rw[<-this,e2]
   clear e1 e2 G p q;subst g;go_wp2
   change bodyPost prog _ _ Exit.ret _ (jt w4 (w.heap.size+2) c4);exact VL (lH (t:=c4) rfl _ rfl rfl rfl (fV k.o.aM)) rfl ⟨⟨c4,rfl,k.o.ia.bA k.o.aM (cQ _ _ _),H.o⟩,a6.o _ (s.o.trans (cQ _ _ _))⟩
  ·obtain rfl:S0=false:=by have:=p.o;rw[VD g]at this;exact this.symm
   have H:Hd (Kl.none=C0):=by have:=q.o;rw[VD g]at this;exact this
   have a7:(E !=0)=true:=by simp[g]
   clear G p q;go_wp2
   change bodyPost prog _ _ Exit.ret _ (jt w4 (w.heap.size+2) eJ);exact VL (lH (t:=eJ) rfl _ rfl rfl rfl (fV k.o.aM)) rfl ⟨⟨eJ,rfl,kE.nil _,H.o⟩,a6.o _ (s.o.trans (cQ _ _ _))⟩
 ·have f:Kl.jQ c.cl d m.mr m.e.en=Kl.iS c.cl:=VD g;have l:Kl.kD c.cl d m.mr m.e.en=false:=by unfold Kl.kD;rw[f,VD g]
  have n:Kl.gT c.cl d m.mr m.e.en=Kl.none:=by unfold Kl.gT;rw[f,VD g]
  rw[f,l,n];generalize Kl.iS c.cl=E at*;have a7:(E !=0)=true:=by simp[g]
  clear f l n;go_enter func82,ntmps82
  go_upto_region 1 with fail
  change Code.wp prog _ _ _ (aO eJ (aj m (aO c w)));generalize (aO eJ (aj m (aO c w)))=W at*;obtain⟨O,N,M,L,K,J,I⟩:=Bh Q.o;go_wp2_with fail
  refine U.o.mono ?_
  rintro e v⟨rfl,h⟩;have o:=hId (r.o.trans (h.mono r.o.size));have a:Hd (Blk v (w.heap.size+2) (fS eJ) 41):=(h.block _ P.o.lt).trans P.o;clear h U O N M L K J I Q HM P r;have q0:=a.o.c0;have q1:=a.o.c1;have q2:=a.o.c2;have q3:=a.o.c3;have q4:=a.o.c4;have q5:=a.o.c5;have q6:=a.o.c6;have g0:=a.o.frozen 0;have g1:=a.o.frozen 1;have g2:=a.o.frozen 2;have g3:=a.o.frozen 3;have g4:=a.o.frozen 4;have g5:=a.o.frozen 5;have g6:=a.o.frozen 6;go_wp2
  change bodyPost prog _ _ Exit.ret _ (jt v (w.heap.size+2) eJ);exact VL (lH (t:=eJ) rfl _ rfl rfl rfl (fV a.o)) rfl ⟨⟨eJ,rfl,kE.nil _,rfl⟩,o.o.trans (((cQ v (w.heap.size+2) eJ).low (by have:=a.o.lt;omega)).mono (by omega))⟩
