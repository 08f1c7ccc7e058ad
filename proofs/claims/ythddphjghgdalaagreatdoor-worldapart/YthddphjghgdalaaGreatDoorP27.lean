/- A part. -/
import Derived.Test.YthddphjghgdalaaGreatDoorP16
import Derived.Test.YthddphjghgdalaaGreatDoorP26
set_option maxRecDepth 100000
set_option maxHeartbeats 6400000
namespace Go.Proofs.YthddphjghgdalaaGreatDoor
open Go.RowKit Go.Proofs.Tryz
structure qo (B:Nat) (w:World) (t:SV):Prop where
 eF:nU w t
 lo:∀ ad:Addr,t.ln≠0->t.la=some ad->B<=ad.block
theorem qo.nil(B:Nat)(w:World):qo B w eP:=⟨(iv.nil 0 w).eF,fun _ h _=>absurd rfl h⟩
theorem MG(v:EV)(w:World):Row (dU v w) (some ⟨w.heap.size,0,none⟩) 1 1 3 (xI v):=
 ⟨rfl,UZ _,by decide,fun _=>⟨_,0,rfl,fun j u a=>by rw[VR];exact((uv v w).cell j).trans a⟩⟩
structure TkW (s:SV) (rev:Int) (x:EV) (R:Int) (S:Sv.Se):Prop where
 bad:∀ q,(if Sv.dL s.se=0 then Sv.eG x.en else Sv.dL s.se)=q->¬ q=0->R=q/\S=⟨[],[],[]⟩
 ok:(if Sv.dL s.se=0 then Sv.eG x.en else Sv.dL s.se)=0->Sv.dL s.se=0/\Sv.eG x.en=0
 has:Sv.dL s.se=0->Sv.eG x.en=0->Sv.has s.se x.aR x.seq=true->R=0/\S=s.se
 rg:Sv.dL s.se=0->Sv.eG x.en=0->Sv.has s.se x.aR x.seq=false->(rev<0\/(s.ln:Int)<rev)->R=6/\S=⟨[],[],[]⟩
 many:Sv.dL s.se=0->Sv.eG x.en=0->Sv.has s.se x.aR x.seq=false->¬ (rev<0\/(s.ln:Int)<rev)->s.ln=60->R=2/\S=⟨[],[],[]⟩
 beh:Sv.dL s.se=0->Sv.eG x.en=0->Sv.has s.se x.aR x.seq=false->¬ (rev<0\/(s.ln:Int)<rev)->¬ s.ln=60->∀ q,Sv.je (s.se.log.drop rev.toNat) x.en.o=q->¬ q=0->R=q/\S=⟨[],[],[]⟩
 fit:Sv.dL s.se=0->Sv.eG x.en=0->Sv.has s.se x.aR x.seq=false->¬ (rev<0\/(s.ln:Int)<rev)->¬ s.ln=60->Sv.je (s.se.log.drop rev.toNat) x.en.o=0->∀ q,Ac.ag s.now (Sv.jJ (s.se.log.drop rev.toNat) x.en.o)=q->R=q/\(¬ q=0->S=⟨[],[],[]⟩)/\(q=0->S=⟨s.first,s.se.log++[⟨x.aR,x.seq,Sv.jJ (s.se.log.drop rev.toNat) x.en.o⟩],Ac.done s.now (Sv.jJ (s.se.log.drop rev.toNat) x.en.o)⟩)
theorem tkW{w:World}{s:SV}(rev:Int)(x:EV)(o:nU w s):TkW s rev x (Sv.iV s.se rev x.en) (Sv.lj s.se rev x.en):=by
 have c:s.se.log.length=s.ln:=by show(s.log.map EV.en).length=s.ln;rw[VH];exact o.log.len
 have b:∀q,Sv.iV s.se rev x.en=q->¬q=0->Sv.iV s.se rev x.en=q/\Sv.lj s.se rev x.en=⟨[],[],[]⟩:=fun q a d=>⟨a,by unfold Sv.lj;rw[a,VD d]⟩;have i:Sv.has s.se x.aR x.seq=false->¬Sv.has s.se x.en.aR x.en.seq=true:=fun h=>by rw[show Sv.has s.se x.en.aR x.en.seq=false from h];exact WB
 have m:¬(rev<0\/(s.ln:Int)<rev)->¬(rev<0\/(s.se.log.length:Int)<rev):=fun h=>by rw[c];exact h
 have n:¬s.ln=60->¬s.se.log.length=60:=fun h=>by rw[c];exact h
 refine⟨fun q h f=>?_,fun h=>?_,fun a d h=>Sv.ph a d h,fun a d h g=>b 6 ?_ (by decide),fun a d h g k=>b 2 ?_ (by decide),fun a d h g k q l f=>b q ?_ f,fun a d h g k p q l=>?_⟩
 ·refine b q ?_ f
  unfold Sv.iV;by_cases a:Sv.dL s.se=0
  ·rw[VC a]at h⊢;rw[VD (by rw[h];exact f)];exact h
  ·rw[VD a]at h⊢;exact h
 ·by_cases a:Sv.dL s.se=0
  ·rw[VC a]at h;exact⟨a,h⟩
  ·rw[VD a]at h;exact absurd h a
 ·unfold Sv.iV;rw[VC a,VC d,VD (i h),VC (by rw[c];exact g)]
 ·unfold Sv.iV;rw[VC a,VC d,VD (i h),VD (m g),VC (c.trans k)]
 ·unfold Sv.iV;rw[VC a,VC d,VD (i h),VD (m g),VD (n k),VD (by rw[l];exact f)];exact l
 ·have e:Sv.iV s.se rev x.en=q:=by
   unfold Sv.iV;rw[VC a,VC d,VD (i h),VD (m g),VD (n k),VC p];exact l
  refine⟨e,fun f=>(b q e f).2,fun f=>?_⟩
  unfold Sv.lj;rw[VC (e.trans f),VD (i h)];rfl
theorem Gt(s:SV)(rev:Int)(x:EV)(w:World)(Z:nU w s)(hO:ae w x.ao x.n x.cap x.vs)(hS:df w):
  Calls prog 78 #[.agg #[.slice s.fa s.fn s.fc,.slice s.la s.ln s.lc,.slice s.na s.nn s.nc],.int .i64 rev,.agg #[.int .i64 x.aR,.int .i64 x.seq,.slice x.ao x.n x.cap]] w fun e w'=>(∃t,e=.returned (.tuple #[SC t,.int .i64 (Sv.iV s.se rev x.en)])/\qo w.heap.size w' t/\t.se=Sv.lj s.se rev x.en)/\Below w.heap.size w w':=by
 obtain⟨i0,hi,bl,bk,bj⟩:=info_parts Tryz.Sw;have H1:Hd (Below w.heap.size w (ai eP (dU x (ai s w)))):=(bM s w).trans (((aW x _).trans ((bM eP _).mono (aW x _).size)).mono (bM s w).size);have a4:Hd (Blk (ai eP (dU x (ai s w))) w.heap.size (lA s) 26):=((fI s w).alloc _).alloc _;have bb:Hd (Blk (ai eP (dU x (ai s w))) (w.heap.size+1) (xI x) 71):=by have:=(uv x (ai s w)).alloc (.cells #[.slice none 0 0,.slice none 0 0,.slice none 0 0] 26);rw[fN]at this;exact this
 have an:Hd (Blk (ai eP (dU x (ai s w))) (w.heap.size+2) (lA eP) 26):=by have:=fI eP (dU x (ai s w));rw[I4,fN]at this;exact this
 have m:=hId (tkW rev x Z);have CT:=hId (vm s x (ai eP (dU x (ai s w))) (Z.below H1.o) (hO.below H1.o) (hS.below H1.o));have CP:Hd (Sv.dL s.se=0->∀w',Below (ai eP (dU x (ai s w))).heap.size (ai eP (dU x (ai s w))) w'->Calls prog 41 #[.agg #[.slice s.fa s.fn s.fc,.slice s.la s.ln s.lc,.slice s.na s.nn s.nc]] w' fun e O=>(∃t,e=.returned (.agg #[.slice t.fa t.fn t.fc,.slice t.la t.ln t.lc,.slice t.na t.nn t.nc])/\Bc w'.heap.size O t/\t.se=s.se/\t.fn=s.fn/\t.ln=s.ln/\t.nn=s.nn)/\Below w'.heap.size w' O):=fun z w' d=>pJ s w' ((Z.below H1.o).below d) (ng Z z).1 (ng Z z).2.1 (ng Z z).2.2.1 (ng Z z).2.2.2;have am:Hd (∀w',Below w.heap.size w w'->df w'):=fun w' d=>hS.below d;have bt:Hd (∀w',Below w.heap.size w w'->ae w' x.ao x.n x.cap x.vs):=fun w' d=>hO.below d;have bu:Hd (Sv.eG x.en=0->0<x.n/\x.n<=40/\∀u∈x.vs,u.m<=80):=fun h2=>jV hO (qf h2);have bv:Hd (Sv.dL s.se=0->s.ln<=60):=fun z=>(ng Z z).2.2.1;obtain⟨R,hR⟩:∃R,Sv.iV s.se rev x.en=R:=⟨_,rfl⟩;obtain⟨S,b7⟩:∃S,Sv.lj s.se rev x.en=S:=⟨_,rfl⟩;rw[hR,b7]at m⊢;obtain⟨E0,ag⟩:∃q,(if Sv.dL s.se=0 then Sv.eG x.en else Sv.dL s.se)=q:=⟨_,rfl⟩;rw[ag]at CT;have ar:=hId ag;clear Z hO hS hR b7 ag;go_enter func78,ntmps78
 go_upto_region 1 with fail
 change Code.wp prog _ _ _ (ai eP (dU x (ai s w)));generalize (ai eP (dU x (ai s w)))=W0 at*;obtain⟨y,p,o⟩:=mi a4.o;obtain⟨a0,a1,a2⟩:=mi bb.o;go_wp2_with fail
 refine CT.o.mono ?_
 rintro e w1⟨rfl,d⟩;have H2:=hId d;clear d y p o a0 a1 a2 CT;by_cases L:E0=0
 ·obtain⟨z,h2⟩:=m.o.ok (ar.o.trans L);have G:=hId (And.intro z h2);have be:=hId (CP.o z);clear z h2 CP ar;subst L;have a3:Blk w1 w.heap.size (lA s) 26:=(H2.o.block _ a4.o.lt).trans a4.o;obtain⟨y,p,o⟩:=mi a3;go_wp2_with fail
  refine(be.o _ H2.o).mono ?_
  rintro e w2⟨⟨t,rfl,hc,aw,bp,b3,bo⟩,d⟩;have Q:Hd (JG w x w1.heap.size t (fC w2 w.heap.size t)):=JG.start a4.o bb.o an.o H1.o H2.o d hc;have a9:Blk w2 w.heap.size (lA s) 26:=(d.block _ a3.lt).trans a3;have J:=hId aw;have K:=hId b3;clear y p o hc aw b3 bp bo be;obtain⟨y,p,o⟩:=mi a9;obtain⟨f0,f1,f2⟩:=IR a9;go_upto_region 5 with fail
  change Code.wp prog _ _ _ (fC w2 w.heap.size t);generalize fC w2 w.heap.size t=W3 at*;clear y p o f0 f1 f2 a3 a9 d;generalize w1.heap.size=B at*;obtain⟨y,p,o⟩:=mi Q.o.hS;obtain⟨a0,a1,a2⟩:=mi Q.o.hX;have CH:=OF t x.aR x.seq W3 Q.o.vQ.eF;rw[J.o]at CH;obtain⟨hv,a7⟩:∃hv,Sv.has s.se x.aR x.seq=hv:=⟨_,rfl⟩;rw[a7]at CH;have U:=hId a7;clear a7;go_wp2_with fail
  refine CH.mono ?_
  rintro e w4⟨rfl,d⟩;have b:=hId (Q.o.under d);clear d CH y p o a0 a1 a2 Q;have c0:=b.o.lo;have c1:=b.o.vQ.eF.log.row.room;have c3:=b.o.vQ.eF.log.row.fg;obtain⟨y,p,o⟩:=mi b.o.hS
  cases hv with
  |true=>
   obtain⟨rfl,f⟩:=m.o.has G.o.1 G.o.2 U.o;have g:=hId f;obtain⟨r0,r1,r2⟩:=mi b.o.hR;obtain⟨L,g1,g2⟩:=IR b.o.hR;clear f;go_wp2
   change bodyPost prog _ _ Exit.ret _ (fC w4 (w.heap.size+2) t);exact VL (iL (t:=t) rfl _ rfl rfl (dv b.o.hR)) rfl ⟨⟨t,rfl,⟨(b.o.vQ.kept (fs _ _ _) (fun k hk=>by simp at hk;omega)).eF,fun ad _ e=>by have:=aS b.o.vQ.own ad.block (by rw[e];rfl);have:=b.o.lo;omega⟩,J.o.trans g.o.symm⟩,b.o.bf.trans ((cP _ _ _).mono (by omega))⟩
  |false=>
   by_cases N:rev<0\/(s.ln:Int)<rev
   ·obtain⟨rfl,f⟩:=m.o.rg G.o.1 G.o.2 U.o N;have g:=hId f;clear f;rw[<-K.o]at N;by_cases bn:rev<0
    ·clear N;obtain⟨r0,r1,r2⟩:=mi b.o.hR;obtain⟨L,g1,g2⟩:=IR b.o.hR;go_wp2
     change bodyPost prog _ _ Exit.ret _ (fC w4 (w.heap.size+2) eP);exact VL (iL (t:=eP) rfl _ rfl rfl (dv b.o.hR)) rfl ⟨⟨eP,rfl,qo.nil _ _,g.o.symm⟩,b.o.bf.trans ((cP _ _ _).mono (by have:=b.o.lo;omega))⟩
    ·have c2:(t.ln:Int)<rev:=N.resolve_left bn;clear N;obtain⟨r0,r1,r2⟩:=mi b.o.hR;obtain⟨L,g1,g2⟩:=IR b.o.hR;go_wp2
     change bodyPost prog _ _ Exit.ret _ (fC w4 (w.heap.size+2) eP);exact VL (iL (t:=eP) rfl _ rfl rfl (dv b.o.hR)) rfl ⟨⟨eP,rfl,qo.nil _ _,g.o.symm⟩,b.o.bf.trans ((cP _ _ _).mono (by have:=b.o.lo;omega))⟩
   by_cases I:s.ln=60
   ·obtain⟨rfl,f⟩:=m.o.many G.o.1 G.o.2 U.o N I;have g:=hId f;have bz:((t.ln:Int)==60)=true:=by rw[K.o,I];rfl
    clear f I;rw[<-K.o]at N;have n1:¬rev<0:=by omega
    have n2:¬(t.ln:Int)<rev:=by omega
    clear N;obtain⟨r0,r1,r2⟩:=mi b.o.hR;obtain⟨L,g1,g2⟩:=IR b.o.hR;go_wp2
    change bodyPost prog _ _ Exit.ret _ (fC w4 (w.heap.size+2) eP);exact VL (iL (t:=eP) rfl _ rfl rfl (dv b.o.hR)) rfl ⟨⟨eP,rfl,qo.nil _ _,g.o.symm⟩,b.o.bf.trans ((cP _ _ _).mono (by have:=b.o.lo;omega))⟩
   have a5:=hId (m.o.beh G.o.1 G.o.2 U.o N I);have V:=hId (m.o.fit G.o.1 G.o.2 U.o N I);obtain⟨r,rfl⟩:∃r:Nat,rev=r:=⟨rev.toNat,by omega⟩;have ax:r<=t.ln:=by rw[K.o];omega
   have n1:¬(r:Int)<0:=by omega
   have n2:¬(t.ln:Int)<(r:Int):=by omega
   have n3:((t.ln:Int)==60)=false:=by rw[K.o];simp;omega
   have bm:=Cn t.la t.ln t.lc r ax;have b6:(t.log.drop r).map EV.en=s.se.log.drop (r:Int).toNat:=by
    rw[<-J.o];show _=(t.log.map EV.en).drop r
    rw[List.map_drop]
   obtain⟨BE,ak⟩:∃q,Sv.je (s.se.log.drop (r:Int).toNat) x.en.o=q:=⟨_,rfl⟩;obtain⟨BO,aj⟩:∃q,Sv.jJ (s.se.log.drop (r:Int).toNat) x.en.o=q:=⟨_,rfl⟩;have CB:Hd (∀w',Below w4.heap.size w4 w'->Calls prog 99 #[.slice (vd t.la r t.lc) (t.ln-r) (t.lc-r),.slice x.ao x.n x.cap] w' fun e O=>(∃a n' c us,e=.returned (.tuple #[.slice a n' c,.int .i64 BE])/\au w'.heap.size O a n' c us/\us.map PV.pt=BO)/\Below w'.heap.size w' O):=fun w' d=>by
    have hT:=b.o.under d;obtain⟨x1,x2,x3⟩:=bu.o G.o.2;have:=EI (vd t.la r t.lc) (t.ln-r) (t.lc-r) (t.log.drop r) x.ao x.n x.cap x.vs w' (hT.vQ.eF.log.drop r ax) (bt.o _ hT.bf) (am.o _ hT.bf) x1 x2 x3;rw[b6]at this;have e1:Sv.je (s.se.log.drop (r:Int).toNat) (x.vs.map PV.pt)=BE:=ak;have e2:Sv.jJ (s.se.log.drop (r:Int).toNat) (x.vs.map PV.pt)=BO:=aj;rw[e1,e2]at this;exact this
   rw[ak]at a5 V;rw[aj]at V;clear b6 ak aj N I;have q1:(0:Int)<=(r:Int):=by omega
   have q2:(r:Int)<=(t.ln:Int):=by omega
   obtain⟨a0,a1,a2⟩:=mi b.o.hX;go_upto_region 11 with fail
   go_region_with (go_at_call 99;refine(CB.o _ ?_).mono ?_;exact(VE _ _).drew;rintro e M⟨⟨E,C,D,us,rfl,ho,hp⟩,d⟩;have i:=hId (b.o.under (cT d));have ao:Hd (au w4.heap.size M E C D us):=(by rw[XE]at ho;exact ho);have T:=hId hp;clear d ho hp)
   all_goals
    clear y p o a0 a1 a2 bm CB;by_cases gB:BE=0
    ·have F:t.now=s.now:=VQ Sv.Se.now J.o;obtain⟨FE,H⟩:∃q,Ac.ag s.now BO=q:=⟨_,rfl⟩;obtain⟨aa,af,ac⟩:=V.o gB FE H;obtain rfl:=aa.symm;have aq:=hId af;have ap:=hId ac;obtain⟨y,p,o⟩:=mi i.o.hS;subst gB;by_cases gF:FE=0
     ·have CA:Calls prog 40 #[.slice t.na t.nn t.nc,.slice E C D] M fun e w'=>(∃a n c,e=.returned (.tuple #[.slice a n c,.int .i64 0])/\cy w' a n c (Ac.done s.now BO)/\∀ad:Addr,a=some ad->M.heap.size<=ad.block)/\Below M.heap.size M w':=by
       have h0:=H.trans gF;have bq:Ac.done s.now BO=(Ac.mk s.now BO).1:=VC h0;rw[<-F,<-T.o]at h0;refine(JC t.na E t.nn t.nc C D t.now us M i.o.vQ.now ao.o.ops (am.o _ i.o.bf) h0).mono ?_
       rintro e w'⟨⟨a,c,z,h2,h3⟩,d⟩;rw[F,T.o]at z h2;rw[bq];exact⟨⟨a,_,c,z,h2,h3⟩,d⟩
      have g:=hId (ap.o gF);subst gF;have bx:t.ln<=60:=by have:=bv.o G.o.1;rw[K.o];exact this
      clear H af ac aq ap a5 V F aa;go_wp2_with fail
      refine CA.mono ?_
      rintro e w6⟨⟨da,dn,dc,rfl,hd,b5⟩,d⟩;have h:=hId (i.o.now d hd b5);have bh:=hId ((ao.o.below d).kept (dX w6 w.heap.size 2 (.slice da dn dc) [w.heap.size] (by simp)) (fun k hk=>by simp at hk;have:=b.o.hi;omega));have a8:=(i.o.under d).hS;obtain⟨b0,b1,b2⟩:=mi a8;obtain⟨f0,f1,f2⟩:=IR a8;clear d CA hd b5 y p o a8;obtain⟨DN,ah⟩:∃DN,Ac.done s.now BO=DN:=⟨_,rfl⟩;have bw:=hId ah;rw[ah]at h;clear ah;go_upto_region 15 with fail
      change Code.wp prog _ _ _ (w6.setCell ⟨w.heap.size,2,none⟩ (.slice da dn dc));generalize w6.setCell ⟨w.heap.size,2,none⟩ (.slice da dn dc)=W7 at*;clear b0 b1 b2 f0 f1 f2;have y:=h.o.hS.c0;have p:=h.o.hS.c1;have o:=h.o.hS.c2;obtain⟨a0,a1,a2⟩:=mi h.o.hX;have bc:=hId (h.o.under (aW ⟨x.aR,x.seq,E,C,D,us⟩ W7));have bg:=hId (MG ⟨x.aR,x.seq,E,C,D,us⟩ W7);go_wp2_with (at_builtin;refine az (dU ⟨x.aR,x.seq,E,C,D,us⟩ W7) rfl (.tmp 71) (.tmp 78) 24 rfl B 71 i0 (.agg #[.int .i64 0,.int .i64 0,.slice none 0 0]) 3 40 underlying24 hi bl bk bj rfl (by decide) (.slice t.la t.ln t.lc) t.ln (bD t.log) rfl bc.o.vQ.own (some ⟨W7.heap.size,0,none⟩) 1 1 (xI ⟨x.aR,x.seq,E,C,D,us⟩) rfl bg.o (by rw[<-sC];exact mZ _) (by unfold maxLen;omega) (by omega) bc.o.hi ?_)
      intro av w9 A b4 bf;obtain⟨na,l,rfl,-,-,-⟩:=cR A;obtain⟨P,b8,b9,ba⟩:=h.o.log (v:=⟨x.aR,x.seq,E,C,D,us⟩) bh.o b.o.hi (fun bd e=>(b.o.vQ.own.lt bd.block (by have e2:t.la=some bd:=e;rw[e2];rfl)).2) A b4;have W:Kept w9 (w9.setCell ⟨w.heap.size,1,none⟩ (.slice na (t.ln+1) l)) [w.heap.size]:=dX _ _ _ _ _ (by simp);have X:Hd (Blk (w9.setCell ⟨w.heap.size,1,none⟩ (.slice na (t.ln+1) l)) w.heap.size (lA (Nq (Km t da dn dc DN) na l ⟨x.aR,x.seq,E,C,D,us⟩)) 26):=P.set 1 _;have Y:=hId (W.aM b8 (by simp));have a6:=hId (b9.kept W (fun k hk=>by simp at hk;omega));have bi:Hd (Below w.heap.size w (w9.setCell ⟨w.heap.size,1,none⟩ (.slice na (t.ln+1) l))):=ba.setCell (UZ _) _;have b0:=P.c0;have b1:=P.c1;have f1:=P.frozen 1;clear W A b4 bf P b8 b9 ba y p o a0 a1 a2;go_upto_region 18 with fail
      change Code.wp prog _ _ _ (w9.setCell ⟨w.heap.size,1,none⟩ (.slice na (t.ln+1) l));generalize w9.setCell ⟨w.heap.size,1,none⟩ (.slice na (t.ln+1) l)=bs at*;clear b0 b1 f1;have y:=X.o.c0;have p:=X.o.c1;have o:=X.o.c2;obtain⟨r0,r1,r2⟩:=mi Y.o;obtain⟨L,g1,g2⟩:=IR Y.o;go_wp2
      change bodyPost prog _ _ Exit.ret _ (fC bs (w.heap.size+2) (Nq (Km t da dn dc DN) na l ⟨x.aR,x.seq,E,C,D,us⟩));refine VL (iL (t:=Nq (Km t da dn dc DN) na l ⟨x.aR,x.seq,E,C,D,us⟩) rfl _ rfl rfl (dv Y.o)) rfl ⟨⟨_,rfl,⟨(a6.o.kept (fs _ _ _) (fun k hk=>by simp at hk;omega)).eF,fun ad z h2=>by have:=a6.o.Ts ad z h2;have:=b.o.lo;omega⟩,?_⟩,bi.o.trans ((cP _ _ _).mono (by omega))⟩
      rw[g.o];show(⟨t.first,(t.log++[_]).map EV.en,DN⟩:Sv.Se)=_
      rw[WN,show t.log.map EV.en=s.se.log from VQ Sv.Se.log J.o,show t.first=s.first from VQ Sv.Se.first J.o];show(⟨s.first,s.se.log++[⟨x.aR,x.seq,us.map PV.pt⟩],DN⟩:Sv.Se)=_
      rw[T.o,bw.o]
     ·have CA:Calls prog 40 #[.slice t.na t.nn t.nc,.slice E C D] M fun e w'=>e=.returned (.tuple #[.slice none 0 0,.int .i64 FE])/\Below M.heap.size M w':=by
       have:=xW t.na E t.nn t.nc C D t.now us M i.o.vQ.now ao.o.ops (am.o _ i.o.bf) (by rw[F,T.o,H];exact gF);rw[F,T.o,H]at this;exact this
      have g:=hId (aq.o gF);have ay:(FE !=0)=true:=by simpa using gF
      clear H af ac aq ap a5 V F aa gF;go_wp2_with fail
      refine CA.mono ?_
      rintro e w6⟨rfl,d⟩;have al:=hId (i.o.under d);have h:JG w x B (Km t none 0 0 []) (w6.setCell ⟨w.heap.size,2,none⟩ (.slice none 0 0)):=al.o.now (VE _ _) (cf w6) (fun ad e=>by cases e);obtain⟨b0,b1,b2⟩:=mi al.o.hS;obtain⟨f0,f1,f2⟩:=IR al.o.hS;clear d CA y p o;go_upto_region 15 with fail
      change Code.wp prog _ _ _ (w6.setCell ⟨w.heap.size,2,none⟩ (.slice none 0 0));generalize w6.setCell ⟨w.heap.size,2,none⟩ (.slice none 0 0)=W7 at*;clear b0 b1 b2 f0 f1 f2;obtain⟨r0,r1,r2⟩:=mi h.hR;obtain⟨L,g1,g2⟩:=IR h.hR;go_wp2
      change bodyPost prog _ _ Exit.ret _ (fC W7 (w.heap.size+2) eP);exact VL (iL (t:=eP) rfl _ rfl rfl (dv h.hR)) rfl ⟨⟨eP,rfl,qo.nil _ _,g.o.symm⟩,h.bf.trans ((cP _ _ _).mono (by have:=h.lo;omega))⟩
    ·obtain⟨rfl,f⟩:=a5.o BE rfl gB;have g:=hId f;have ay:(R !=0)=true:=by simpa using gB
     clear f gB;obtain⟨r0,r1,r2⟩:=mi i.o.hR;obtain⟨L,g1,g2⟩:=IR i.o.hR;go_wp2
     change bodyPost prog _ _ Exit.ret _ (fC M (w.heap.size+2) eP);exact VL (iL (t:=eP) rfl _ rfl rfl (dv i.o.hR)) rfl ⟨⟨eP,rfl,qo.nil _ _,g.o.symm⟩,i.o.bf.trans ((cP _ _ _).mono (by have:=i.o.lo;omega))⟩
 ·obtain⟨rfl,f⟩:=m.o.bad E0 ar.o L;have g:=hId f;have ay:(R !=0)=true:=by simpa using L
  have ab:Blk w1 (w.heap.size+2) (lA eP) 26:=(H2.o.block _ an.o.lt).trans an.o;have br:Below w.heap.size w w1:=H1.o.trans (H2.o.mono H1.o.size);obtain⟨r0,r1,r2⟩:=mi ab;obtain⟨c4,g1,g2⟩:=IR ab;clear L f;go_wp2
  change bodyPost prog _ _ Exit.ret _ (fC w1 (w.heap.size+2) eP);exact VL (iL (t:=eP) rfl _ rfl rfl (dv ab)) rfl ⟨⟨eP,rfl,qo.nil _ _,g.o.symm⟩,br.trans ((cP _ _ _).mono (by omega))⟩
