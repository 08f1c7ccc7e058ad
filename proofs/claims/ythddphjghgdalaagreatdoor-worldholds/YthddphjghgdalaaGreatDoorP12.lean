/- A part. -/
import Derived.Test.YthddphjghgdalaaGreatDoorP10
set_option maxRecDepth 100000
set_option maxHeartbeats 12800000
namespace Go.Proofs.YthddphjghgdalaaGreatDoor
open Go.RowKit Go.Proofs.Tryz
theorem Kj{w:World}{f:PV}(h:dV w f){p:PV}(a:dV w p):dV w (jW f p):=⟨h.jd,by show(if p.goes then p.link else f.link).size<=_;split;exact a.fit;exact h.fit⟩
theorem RT(t:Int)(o:Option Addr)(u b:Nat)(q:List It)(f h:Int)(n:Bool)(m:ByteArray)(r:Int)(l:Option Addr)(s a:Nat)(p:List It)(c d:Int)(k:Bool)(i:ByteArray)(w:World)
  (C:dV w ⟨1,t,o,u,b,q,f,h,n,m⟩)(B:dV w ⟨1,r,l,s,a,p,c,d,k,i⟩)(H:Ac.m4 f)(G:Ac.m4 h)(F:Ac.m4 c)(E:Ac.m4 d):
  Calls prog 155 #[.agg #[.int .i64 1,.int .i64 t,.slice o u b,.int .i64 f,.int .i64 h,.bool n,.string m,.int .i64 1,.int .i64 r,.slice l s a,.int .i64 c,.int .i64 d,.bool k,.string i]] w fun e w'=>(∃g,e=.returned (.slice (some ⟨g,0,none⟩) 1 1)/\ae w' (some ⟨g,0,none⟩) 1 1 [jW ⟨1,t,o,u,b,q,f,h,n,m⟩ ⟨1,r,l,s,a,p,c,d,k,i⟩])/\Below w.heap.size w w':=by
 have I:Hd (Below w.heap.size w (fT ⟨1,t,o,u,b,q,f,h,n,m⟩ ⟨1,r,l,s,a,p,c,d,k,i⟩ w)):=ir _ _ w;have v:Hd (Blk (fT ⟨1,t,o,u,b,q,f,h,n,m⟩ ⟨1,r,l,s,a,p,c,d,k,i⟩ w) w.heap.size (Bf ⟨1,t,o,u,b,q,f,h,n,m⟩ ⟨1,r,l,s,a,p,c,d,k,i⟩) 206):=lU _ _ w;have L:Hd (∀w',Calls prog 173 #[.agg #[.int .i64 1,.int .i64 t,.slice o u b,.int .i64 f,.int .i64 h,.bool n,.string m],.agg #[.int .i64 1,.int .i64 r,.slice l s a,.int .i64 c,.int .i64 d,.bool k,.string i]] w' fun e z=>e=.returned (.agg #[.int .i64 (jW ⟨1,t,o,u,b,q,f,h,n,m⟩ ⟨1,r,l,s,a,p,c,d,k,i⟩).kind,.int .i64 (jW ⟨1,t,o,u,b,q,f,h,n,m⟩ ⟨1,r,l,s,a,p,c,d,k,i⟩).n,.slice (jW ⟨1,t,o,u,b,q,f,h,n,m⟩ ⟨1,r,l,s,a,p,c,d,k,i⟩).ao (jW ⟨1,t,o,u,b,q,f,h,n,m⟩ ⟨1,r,l,s,a,p,c,d,k,i⟩).m (jW ⟨1,t,o,u,b,q,f,h,n,m⟩ ⟨1,r,l,s,a,p,c,d,k,i⟩).cap,.int .i64 (jW ⟨1,t,o,u,b,q,f,h,n,m⟩ ⟨1,r,l,s,a,p,c,d,k,i⟩).set,.int .i64 (jW ⟨1,t,o,u,b,q,f,h,n,m⟩ ⟨1,r,l,s,a,p,c,d,k,i⟩).bm,.bool (jW ⟨1,t,o,u,b,q,f,h,n,m⟩ ⟨1,r,l,s,a,p,c,d,k,i⟩).goes,.string (jW ⟨1,t,o,u,b,q,f,h,n,m⟩ ⟨1,r,l,s,a,p,c,d,k,i⟩).link])/\Below w'.heap.size w' z):=fun w'=>NW ⟨1,t,o,u,b,q,f,h,n,m⟩ ⟨1,r,l,s,a,p,c,d,k,i⟩ w' H G F E;have K:=hId (Kj C B);clear C B H G F E;generalize jW ⟨1,t,o,u,b,q,f,h,n,m⟩ ⟨1,r,l,s,a,p,c,d,k,i⟩=y at*;have N:=bz 1 1 1 1;have M:=nN;go_enter func155,ntmps155
 go_upto_region 1 with fail
 change Code.wp prog _ _ _ (fT ⟨1,t,o,u,b,q,f,h,n,m⟩ ⟨1,r,l,s,a,p,c,d,k,i⟩ w);generalize fT ⟨1,t,o,u,b,q,f,h,n,m⟩ ⟨1,r,l,s,a,p,c,d,k,i⟩ w=W at*;have c0:=v.o.c0;have c1:=v.o.c1;have c2:=v.o.c2;have Z:=v.o.c3;have Y:=v.o.c4;have X:=v.o.c5;have V:=v.o.c6;have c7:=v.o.c7;have U:=v.o.c8;have T:=v.o.c9;have S:=v.o.c10;have Q:=v.o.c11;have P:=v.o.c12;have O:=v.o.c13;go_wp2_with fail
 refine(L.o _).mono ?_
 rintro e J⟨rfl,D⟩;have x:=hId (I.o.trans (D.mono I.o.size));clear D;go_wp2
 go_ret
 have A:=x.o.trans ((aK y J).mono x.o.size);exact⟨⟨_,rfl,kU (K.o.below x.o)⟩,A⟩
theorem RU(u:Int)(p:Option Addr)(x i:Nat)(q:List It)(l o:Int)(n:Bool)(m:ByteArray)(r:Int)(h:Option Addr)(s a:Nat)(k:List It)(b f:Int)(d:Bool)(c:ByteArray)(w:World)
  (z:dV w ⟨3,r,h,s,a,k,b,f,d,c⟩):
  Calls prog 155 #[.agg #[.int .i64 1,.int .i64 u,.slice p x i,.int .i64 l,.int .i64 o,.bool n,.string m,.int .i64 3,.int .i64 r,.slice h s a,.int .i64 b,.int .i64 f,.bool d,.string c]] w fun e w'=>(∃g,e=.returned (.slice (some ⟨g,0,none⟩) 1 1)/\ae w' (some ⟨g,0,none⟩) 1 1 [⟨3,r,h,s,a,k,b,f,d,c⟩])/\Below w.heap.size w w':=by
 have y:Hd (Below w.heap.size w (fT ⟨1,u,p,x,i,q,l,o,n,m⟩ ⟨3,r,h,s,a,k,b,f,d,c⟩ w)):=ir _ _ w;have t:Hd (Blk (fT ⟨1,u,p,x,i,q,l,o,n,m⟩ ⟨3,r,h,s,a,k,b,f,d,c⟩ w) w.heap.size (Bf ⟨1,u,p,x,i,q,l,o,n,m⟩ ⟨3,r,h,s,a,k,b,f,d,c⟩) 206):=lU _ _ w;have C:=bz 1 3 1 1;have B:=bz 1 3 1 3;have A:=nN;go_enter func155,ntmps155
 go_upto_region 1 with fail
 change Code.wp prog _ _ _ (fT ⟨1,u,p,x,i,q,l,o,n,m⟩ ⟨3,r,h,s,a,k,b,f,d,c⟩ w);generalize fT ⟨1,u,p,x,i,q,l,o,n,m⟩ ⟨3,r,h,s,a,k,b,f,d,c⟩ w=W at*;have J:=t.o.c0;have c7:=t.o.c7;have I:=t.o.c8;have H:=t.o.c9;have G:=t.o.c10;have F:=t.o.c11;have E:=t.o.c12;have D:=t.o.c13;go_wp2
 go_ret
 exact⟨⟨_,rfl,kU (v:=⟨3,r,h,s,a,k,b,f,d,c⟩) (z.below y.o)⟩,y.o.trans ((aK ⟨3,r,h,s,a,k,b,f,d,c⟩ W).mono y.o.size)⟩
theorem RR(B:Int)(s:Option Addr)(l b:Nat)(a:List It)(n q:Int)(p:Bool)(o:ByteArray)(z:Int)(m:Option Addr)(A i:Nat)(r:List It)(c f:Int)(h:Bool)(d:ByteArray)(w:World)
  (H:dV w ⟨2,B,s,l,b,a,n,q,p,o⟩)(Y:d.size<=9223372036854775807)(h0:0<l)(N:l<=80)(S:Ac.M4 a)(J:Ac.m4 c)(U:Ac.m4 f):
  Calls prog 155 #[.agg #[.int .i64 2,.int .i64 B,.slice s l b,.int .i64 n,.int .i64 q,.bool p,.string o,.int .i64 1,.int .i64 z,.slice m A i,.int .i64 c,.int .i64 f,.bool h,.string d]] w fun e w'=>(∃g V k,e=.returned (.slice (some ⟨V,0,none⟩) 1 1)/\ae w' (some ⟨V,0,none⟩) 1 1 [⟨2,0,some ⟨g,0,none⟩,l,k,a.map fun x=>Ac.change x ⟨c,f,h,d⟩,0,0,false,⟨#[]⟩⟩]/\w.heap.size<=g)/\Below w.heap.size w w':=by
 have K:Hd (Below w.heap.size w (fT ⟨2,B,s,l,b,a,n,q,p,o⟩ ⟨1,z,m,A,i,r,c,f,h,d⟩ w)):=ir _ _ w;have y:Hd (Blk (fT ⟨2,B,s,l,b,a,n,q,p,o⟩ ⟨1,z,m,A,i,r,c,f,h,d⟩ w) w.heap.size (Bf ⟨2,B,s,l,b,a,n,q,p,o⟩ ⟨1,z,m,A,i,r,c,f,h,d⟩) 206):=lU _ _ w;obtain⟨E,D,G,M⟩:=H.jd.bH (by change l≠0;omega);change s=some ⟨E,D,none⟩at G;change At w E D a at M;have u:a.length=l:=H.jd.len;have P:Hd (Fit (a.map fun x=>Ac.change x ⟨c,f,h,d⟩)):=pI H.jd.fit _ Y;have O:Hd ((a.map fun x=>Ac.change x ⟨c,f,h,d⟩).length=l):=by show _=_;rw[VH];exact u
 have CC:=hId (fun w' I=>nQ E D l b a 1 z m A i r c f h d w' (M.below I) u h0 N S J U);clear H M S u J U;subst G;generalize (a.map fun x=>Ac.change x ⟨c,f,h,d⟩)=C at*;have a3:=bz 2 1 1 1;have a2:=bz 2 1 1 3;have a1:=bz 2 1 2 1;have a0:=nN;go_enter func155,ntmps155
 go_upto_region 1 with fail
 change Code.wp prog _ _ _ (fT ⟨2,B,some ⟨E,D,none⟩,l,b,a,n,q,p,o⟩ ⟨1,z,m,A,i,r,c,f,h,d⟩ w);generalize fT ⟨2,B,some ⟨E,D,none⟩,l,b,a,n,q,p,o⟩ ⟨1,z,m,A,i,r,c,f,h,d⟩ w=W at*;have c0:=y.o.c0;have c2:=y.o.c2;have c7:=y.o.c7;have c8:=y.o.c8;have c9:=y.o.c9;have a7:=y.o.c10;have a6:=y.o.c11;have a5:=y.o.c12;have a4:=y.o.c13;go_wp2_with fail
 refine(CC.o _ K.o).mono ?_
 rintro e Q⟨⟨g,k,rfl,t⟩,I⟩;have X:=hId (K.o.trans (I.mono K.o.size));have F:=aS t g rfl;have HG:=hId (VX K.o.size F);obtain⟨a',c',L,T⟩:=sW t P.o O.o;have HD:Hd (cy Q (some ⟨g,0,none⟩) l k C):=by
  simp only[Value.slice.injEq]at L
  obtain⟨Z,-,J⟩:=L;rw[Z,J];exact T
 clear I t F L T;go_wp2
 go_ret
 refine⟨⟨g,_,k,rfl,kU (v:=⟨2,0,some ⟨g,0,none⟩,l,k,C,0,0,false,⟨#[]⟩⟩) ⟨HD.o,VN _⟩,HG.o⟩,X.o.trans ((aK ⟨2,0,some ⟨g,0,none⟩,l,k,C,0,0,false,⟨#[]⟩⟩ Q).mono X.o.size)⟩
theorem RS (pn:Int) (pao:Option Addr) (pm pcap:Nat) (pit:List It) (pst pcl:Int) (pgs:Bool) (plk:ByteArray) (qn:Int) (qao:Option Addr) (qm qcap:Nat) (qit:List It) (qst qcl:Int) (qgs:Bool) (qlk:ByteArray) (w:World)
   :
  Calls prog 155 #[.agg #[.int .i64 2,.int .i64 pn,.slice pao pm pcap,.int .i64 pst,.int .i64 pcl,.bool pgs,.string plk,.int .i64 3,.int .i64 qn,.slice qao qm qcap,.int .i64 qst,.int .i64 qcl,.bool qgs,.string qlk]] w fun e w'=>(e=.returned (.slice none 0 0))/\Below w.heap.size w w':=by
 have H1:Hd (Below w.heap.size w (fT ⟨2,pn,pao,pm,pcap,pit,pst,pcl,pgs,plk⟩ ⟨3,qn,qao,qm,qcap,qit,qst,qcl,qgs,qlk⟩ w)):=ir _ _ w;have HB:Hd (Blk (fT ⟨2,pn,pao,pm,pcap,pit,pst,pcl,pgs,plk⟩ ⟨3,qn,qao,qm,qcap,qit,qst,qcl,qgs,qlk⟩ w) w.heap.size (Bf ⟨2,pn,pao,pm,pcap,pit,pst,pcl,pgs,plk⟩ ⟨3,qn,qao,qm,qcap,qit,qst,qcl,qgs,qlk⟩) 206):=lU _ _ w;have he0:=bz 2 3 1 1;have he1:=bz 2 3 1 3;have he2:=bz 2 3 2 1;have hgk:=nN;go_enter func155,ntmps155
 go_upto_region 1 with fail
 change Code.wp prog _ _ _ (fT ⟨2,pn,pao,pm,pcap,pit,pst,pcl,pgs,plk⟩ ⟨3,qn,qao,qm,qcap,qit,qst,qcl,qgs,qlk⟩ w);generalize fT ⟨2,pn,pao,pm,pcap,pit,pst,pcl,pgs,plk⟩ ⟨3,qn,qao,qm,qcap,qit,qst,qcl,qgs,qlk⟩ w=W at *;have c0:=HB.o.c0;have c7:=HB.o.c7;go_wp2
 go_ret
 exact ⟨rfl,H1.o⟩
theorem Oh(p q:PV)(w:World)(L:dV w p)(K:dV w q)(kp:p.kind=1\/p.kind=2)(V:q.kind=1\/q.kind=3)(Z:Ac.bG p.pt=0)(eq:Ac.bG q.pt=0):
  Calls prog 155 #[.agg #[.int .i64 p.kind,.int .i64 p.n,.slice p.ao p.m p.cap,.int .i64 p.set,.int .i64 p.bm,.bool p.goes,.string p.link,.int .i64 q.kind,.int .i64 q.n,.slice q.ao q.m q.cap,.int .i64 q.set,.int .i64 q.bm,.bool q.goes,.string q.link]] w fun e w'=>(∃a0 T c0 us,e=.returned (.slice a0 T c0)/\ae w' a0 T c0 us/\us.map PV.pt=Ac.zu p.pt q.pt/\us.length<=1/\∀u∈us,u.m=0\/rZ w.heap.size u)/\Below w.heap.size w w':=by
 have U:∀v:PV,dV w v->Ac.bG v.pt=0->¬v.kind=2->v.m=0/\Ac.m4 v.set/\Ac.m4 v.bm:=fun v W d hk=>by
  rcases Ac.qV d with⟨_,X,_,M,_⟩|⟨ps,e,_⟩|⟨m,e,_⟩
  ·have E:=W.jd.len;change v.aB=[]at M;rw[M]at E;exact⟨E.symm,(Ac.fY X).1,(Ac.fY X).2.1⟩
  ·exact absurd (VQ Ac.Pt.kind e) hk
  ·have E:=W.jd.len;have M:v.aB=[]:=VQ Ac.Pt.aB e;have h1:v.set=0:=VQ Ac.Pt.set e;have h2:v.bm=0:=VQ Ac.Pt.bm e;rw[M]at E;rw[h1,h2];exact⟨E.symm,⟨by decide,by decide⟩,⟨by decide,by decide⟩⟩
 have F:=U q K eq (by omega);have Q:p.kind=2->0<p.m/\p.m<=80/\Ac.M4 p.aB:=fun k=>by
  obtain⟨l1,l2,l3⟩:=Ac.jT Z k;have E:=L.jd.len;change 1<=p.aB.length at l1;change p.aB.length<=80 at l2;exact⟨by omega,by omega,fun x hx=>(Ac.jj (Ac.j7 l3 x hx)).2.1⟩
 have mp:=U p L Z;obtain⟨pk,I,B,J,c,y,s,A,z,t⟩:=p;obtain⟨qk,G,r,H,b,i,f,n,l,h⟩:=q;simp only at*
 rcases kp with rfl|rfl
 ·obtain⟨P,O,N⟩:=mp (by decide);rcases V with rfl|rfl
  ·refine(RT I B J c y s A z t G r H b i f n l h w L K O N F.2.1 F.2.2).mono ?_
   rintro e w'⟨⟨g,d,o⟩,D⟩;exact⟨⟨_,_,_,_,d,o,rfl,by simp,fun u C=>by rw[UY.1 C];exact .inl P⟩,D⟩
  ·refine(RU I B J c y s A z t G r H b i f n l h w K).mono ?_
   rintro e w'⟨⟨g,d,o⟩,D⟩;exact⟨⟨_,_,_,_,d,o,rfl,by simp,fun u C=>by rw[UY.1 C];exact .inl F.1⟩,D⟩
 ·obtain⟨h0,S,hM⟩:=Q rfl;rcases V with rfl|rfl
  ·refine(RR I B J c y s A z t G r H b i f n l h w L K.fit h0 S hM F.2.1 F.2.2).mono ?_
   rintro e w'⟨⟨g,g2,a1,d,o,hg⟩,D⟩;refine⟨⟨_,_,_,_,d,o,rfl,by simp,fun u C=>by rw[UY.1 C];exact .inr (fun a _ Y=>by change some _=some a at Y;cases Y;exact hg)⟩,D⟩
  ·refine(RS I B J c y s A z t G r H b i f n l h w).mono ?_
   rintro e w'⟨d,D⟩;exact⟨⟨_,_,_,[],d,nC w' none,rfl,by simp,fun u C=>absurd C (by simp)⟩,D⟩
structure jP (w wr:World) (r s:RV) (x:Value) (ux:List PV):Prop where
 pb:Blk wr w.heap.size (oK r s) 180
 hr:ae w r.ao r.n r.cap r.vs
 hs:ae w s.ao s.n s.cap s.vs
 mx:wr.ownsRow (w.heap.size+1) 100 7 x ux.length (aG ux)
 iE:∀ u ∈ ux,dV wr u
 cu:∀ u ∈ ux,re u x
 off:∀ u ∈ ux,∀ a:Addr,u.m≠0->u.ao=some a->a.block≠w.heap.size
 bf:Below w.heap.size w wr
theorem jP.under{w wr a:World}{r s:RV}{x:Value}{c:List PV}(h:jP w wr r s x c)(b:Below wr.heap.size wr a):jP w a r s x c:=
 ⟨(b.block _ h.pb.lt).trans h.pb,h.hr,h.hs,ax h.mx b,fun u d=>(h.iE u d).below b,h.cu,h.off,h.bf.trans (b.mono h.bf.size)⟩
theorem jP.pair{w wr c:World}{r s f d:RV}{x:Value}{g:List PV}(h:jP w wr r s x g)(b:Kept wr c [w.heap.size])(p:Blk c w.heap.size (oK f d) 180)(n:ae w f.ao f.n f.cap f.vs)(m:ae w d.ao d.n d.cap d.vs):jP w c f d x g:=
 ⟨p,n,m,fu h.mx b (fun k b e=>by have:=aS h.mx k e;rw[UY]at b;omega),fun u i=>(h.iE u i).kept b (fun a o q l=>h.off u i a o q (UY.1 l)),h.cu,h.off,h.bf.trans (b.below h.bf.size (fun k b=>by rw[UY.1 b];exact UZ _))⟩
theorem jP.grow{w wr o:World}{r s:RV}{x n:Value}{p us:List PV}{m:Nat}(h:jP w wr r s x p)(y:∀u∈us,dV wr u)(z:∀u∈us,re u x)(B:∀u∈us,∀a:Addr,u.m≠0->u.ao=some a->a.block≠w.heap.size)(d:(p++us).length=m)
  (l:o.ownsRow (w.heap.size+1) 100 7 n m (aG p++aG us))(C:wr.grownBy o x.ownBlock)(v:∀k,n.ownBlock=some k->x.ownBlock=some k\/k=wr.heap.size):jP w o r s n (p++us):=by
 have f:=gh C;have g:=zw h.mx;have c:∀u,dV wr u->re u x->dV o u/\re u n:=fun u b i=>by
  refine⟨b.kept f (fun a d q t=>i a d q (cE t).symm),fun a d q e=>?_⟩
  rcases v a.block e.symm with A|A
  ·exact i a d q A.symm
  ·have:=b.bH d q;omega
 refine⟨f.aM h.pb (fun t=>by have:=g _ t;omega),h.hr,h.hs,by rw[d,jB];exact l,fun u b=>?_,fun u b=>?_,fun u b=>?_,h.bf.trans (f.below h.bf.size (fun k f=>by have:=g k f;omega))⟩
 ·rcases VW.1 b with b|b
  ·exact(c u (h.iE u b) (h.cu u b)).1
  ·exact(c u (y u b) (z u b)).1
 ·rcases VW.1 b with b|b
  ·exact(c u (h.iE u b) (h.cu u b)).2
  ·exact(c u (y u b) (z u b)).2
 ·rcases VW.1 b with b|b
  ·exact h.off u b
  ·exact B u b
theorem jP.start(r s:RV)(w:World)(c:ae w r.ao r.n r.cap r.vs)(b:ae w s.ao s.n s.cap s.vs):jP w (BC r s w) r s (.slice none 0 0) []:=
 ⟨Blk.new w _ _,c,b,XM _ _ _ _,fun u a=>absurd a (by simp),fun u a=>absurd a (by simp),fun u a=>absurd a (by simp),(VE _ _).alloc (UZ _) _⟩
theorem jP.left{w wr:World}{r s:RV}{x:Value}{a:List PV}(h:jP w wr r s x a):od wr ⟨w.heap.size,0,none⟩+od wr ⟨w.heap.size,2,none⟩=r.vs.length+s.vs.length:=by
 obtain⟨c,-,b⟩:=mi h.pb;unfold od;rw[c,b,h.hr.len,h.hs.len]
theorem FG{w wr:World}{x:Value}{n:Nat}{xs:List Value}{u:PV}(f:wr.ownsRow (w.heap.size+1) 100 7 x n xs)(d:dV w u):re u x/\∀a:Addr,u.m≠0->u.ao=some a->a.block≠w.heap.size:=
 ⟨fun a b c e=>by have g:=d.bH b c;have h:=aS f a.block e.symm;omega,fun a b c=>by have g:=d.bH b c;omega⟩
theorem LY {w wr:World} {x:Value} {n:Nat} {xs:List Value} {u:PV} (hx:wr.ownsRow (w.heap.size+1) 100 7 x n xs) (hw:w.heap.size<wr.heap.size) (hu:u.m=0\/rZ wr.heap.size u):re u x/\∀ a:Addr,u.m≠0->u.ao=some a->a.block≠w.heap.size:=by
 rcases hu with h | h
 ·exact ⟨qZ h x,fun a hm=>absurd h hm⟩
 ·exact ⟨fun a hm ha e=>by have h1:=h a hm ha;have h2:=(hx.lt a.block e.symm).2;omega,fun a hm ha=>by have h1:=h a hm ha;omega⟩
theorem DO(ao aa:Option Addr)(n a9 n' X:Nat)(vs I:List PV)(w:World)(hO:ae w ao n a9 vs)(aw:ae w aa n' X I)(hR:Ac.dR (vs.map PV.pt))(ak:Ac.dR (I.map PV.pt))(aq:Ac.lv (vs.map PV.pt)=Ac.nd (I.map PV.pt)):
  Calls prog 126 #[.agg #[.slice ao n a9,.int .i64 0,.slice aa n' X,.int .i64 0]] w fun e w'=>(∃a0 n0 c0 u0,e=.returned (.slice a0 n0 c0)/\ae w' a0 n0 c0 u0/\Ac.join (Ac.ah (vs.map PV.pt)) (Ac.ah (I.map PV.pt))=Ac.ah (u0.map PV.pt)/\(∀v∈u0,Ac.bG v.pt=0)/\u0.length<=80)/\Below w.heap.size w w':=by
 obtain⟨i0,hi,ag,af,ad⟩:=info_parts Tryz.vj;have ax:Hd (jP w (BC ⟨ao,n,a9,vs,0⟩ ⟨aa,n',X,I,0⟩ w) ⟨ao,n,a9,vs,0⟩ ⟨aa,n',X,I,0⟩ (.slice none 0 0) []):=jP.start _ _ w hO aw;have b0:=hId (Ac.fL.start hR ak aq);have HF:Hd ((vs.map PV.pt).length+(I.map PV.pt).length<=80):=by have:=hR.Ia;have:=ak.Ia;show _<=_;omega
 obtain⟨A,hA⟩:∃A,vs.map PV.pt=A:=⟨_,rfl⟩;obtain⟨B,hB⟩:∃B,I.map PV.pt=B:=⟨_,rfl⟩;have o:Hd (Ac.fL A B (vs.map PV.pt) 0 (I.map PV.pt) 0 []):=by have:=b0.o;rw[hA,hB]at this;show Ac.fL A B (vs.map PV.pt) 0 (I.map PV.pt) 0 [];rw[hA,hB];exact this
 rw[hA,hB]at HF⊢;clear b0;clear hO aw hR ak aq hA hB;go_enter func126,ntmps126
 go_wp2_with fail
 go_loopw [3] (fun x wr=>∃r s C,jP w wr r s x C/\Ac.fL A B (r.vs.map PV.pt) r.g (s.vs.map PV.pt) s.g (C.map PV.pt)) (fun _ wr=>od wr ⟨w.heap.size,0,none⟩+od wr ⟨w.heap.size,2,none⟩)
 case atStart=>exact⟨_,_,[],ax.o,o.o⟩
 case round=>
  obtain⟨r,s,C,hT,hI⟩:=hrel;have f:=hId hT;have HI:=hId hI;clear hT hI ax o;obtain⟨ac,d⟩:∃ac,r.vs=ac:=⟨_,rfl⟩
  cases ac with
  |nil=>
   have C1:=hId (mE w.heap.size r s wr false (by have:=f.o.hr.len;rw[d]at this;simp at this;simp;omega) f.o.pb);have HD:Hd (Ac.join (Ac.ah A) (Ac.ah B)=Ac.ah (C.map PV.pt)):=by have:=HI.o;rw[d]at this;exact this.done
   obtain⟨xa,xc,hx,al⟩:=bg f.o.mx;have b3:Hd (ae wr xa C.length xc C):=⟨al,f.o.iE⟩;obtain⟨H,c⟩:∃H,C.length=H:=⟨_,rfl⟩;have K:=hId c;rw[c]at hx;clear d al c;subst hx;go_wp2_with fail
   refine C1.o.mono ?_
   rintro e w1⟨rfl,Q⟩;obtain rfl:=Q.symm;go_wp2
   go_ret
   have a3:=HI.o.lx;have hf:=HF.o;rw[VH]at a3;exact⟨⟨xa,H,xc,C,rfl,by rw[<-K.o];exact b3.o,HD.o,fun v hv=>HI.o.DB _ (XI.2 ⟨v,hv,rfl⟩),by omega⟩,f.o.bf⟩
  |cons v t=>
   obtain⟨a,N,J⟩:∃a N,s.vs=a::N:=by
    cases hs:s.vs with
    |nil=>
     have:=HI.o.left.2 (by rw[hs];rfl);rw[d]at this
     cases this
    |cons a N=>exact⟨a,N,rfl⟩
   have G:Hd (ae w r.ao r.n r.cap (v::t)):=by have:=f.o.hr;rw[d]at this;exact this
   have F:Hd (ae w s.ao s.n s.cap (a::N)):=by have:=f.o.hs;rw[J]at this;exact this
   have o:Hd (Ac.fL A B (v.pt::t.map PV.pt) r.g (a.pt::N.map PV.pt) s.g (C.map PV.pt)):=by have:=HI.o;rw[d,J]at this;exact this
   have C1:=hId (mE w.heap.size r s wr true (by have:=f.o.hr.len;rw[d]at this;simp at this;simp;omega) f.o.pb);have EV:=hId (o.o.rp.ok _ (VK ..));have EW:=hId (o.o.rq.ok _ (VK ..));have E1:=hId (uJ (G.o.iE v (VK ..)) EV.o);have E2:=hId (uJ (F.o.iE a (VK ..)) EW.o);have a3:(r.g:Int)<ef v/\ef v<=80:=by have h1:=o.o.rp.lt _ _ rfl;have h2:=(Ac.nG EV.o).2;rw[E1.o];omega
   have aj:(s.g:Int)<ef a/\ef a<=80:=by have h1:=o.o.rq.lt _ _ rfl;have h2:=(Ac.nG EW.o).2;rw[E2.o];omega
   have C2:=jE w.heap.size 0 r.ao r.n r.cap r.vs 3 wr (f.o.pb.cell 0) (f.o.hr.below f.o.bf);have M:=jE w.heap.size 2 s.ao s.n s.cap s.vs 2 wr (f.o.pb.cell 2) (f.o.hs.below f.o.bf);by_cases kv:v.kind=3
   ·have ha:xU r.vs 3=true:=by rw[d];simp[xU,kv]
    rw[ha]at C2;have C2:=hId C2;clear M ha;obtain⟨q,hq⟩:∃q:Nat,ef v-r.g=q:=⟨(ef v-r.g).toNat,by omega⟩;have i:1<=q:=by omega
    have O:ef v=((r.g+q:Nat):Int):=by omega
    have C3:=hId (oW w.heap.size r s v t q wr f.o.pb (G.o.below f.o.bf) (G.o.off (UZ _)) i O (by omega));have V:Hd (dV w (aE v r.g q)):=(G.o.iE v (VK ..)).piece i (fun k=>by have h:=O;unfold ef at h;rw[VC k]at h;omega);have a5:=hId (RV.kW G.o q);have a6:Hd (Ac.fL A B ((r.next v t q).vs.map PV.pt) (r.next v t q).g (s.vs.map PV.pt) s.g ((C++[aE v r.g q]).map PV.pt)):=by
     have h:=o.o.T8 kv;have hE:r.g+q=Ac.lg v.pt:=by have:=E1.o;omega
     have ah:Ac.lg v.pt-r.g=q:=by omega
     rw[ah]at h;have hn:=kV (r:=r) (t:=t) (G.o.iE v (VK ..)) EV.o q;show Ac.fL _ _ _ _ _ _ _
     rw[hn.1,hn.2,Ac.dw hE,Ac.fF hE,J];simp only[WN,XA,List.map_nil,bw]
     exact h
    have a2:C.length<=80:=by have h1:=HI.o.lx;have h3:=HF.o;rw[VH]at h1;omega
    have W:Hd ((r.next v t q).vs.length<r.vs.length):=by
     have hE:=O.symm;show _<_
     unfold RV.next;rw[VC hE,d];simp
    clear O i E1 E2 EV EW o d J kv a3 aj;generalize aE v r.g q=u at*;generalize r.next v t q=nx at*;go_wp2_with fail
    refine C1.o.mono ?_
    rintro e w1⟨rfl,Q⟩;obtain rfl:=Q.symm;go_wp2_with fail
    refine C2.o.mono ?_
    rintro e w1⟨rfl,Q⟩;obtain rfl:=Q.symm;go_wp2_with fail
    refine C3.o.mono ?_
    rintro e Z⟨rfl,T,E⟩;have L:=hId (f.o.pair E T a5.o f.o.hs);have l:=hId (L.o.under (aK u Z));have P:=hId (kU (V.o.below L.o.bf));clear T E C1 C2 C3;obtain⟨H,c⟩:∃H,C.length=H:=⟨_,rfl⟩;rw[c]at a2;have K:=hId c;clear c;have a4:Hd ((aH u Z).ownsRow (w.heap.size+1) 100 7 u3 H (aG C)):=by have:=l.o.mx;rw[K.o]at this;exact this
    have a1:w.heap.size+1<=(aH u Z).heap.size:=l.o.pb.lt;go_wp2_with (at_builtin;refine az (aH u Z) rfl (.tmp 12) (.tmp 15) 32 rfl (w.heap.size+1) 100 i0 (.agg #[.int .i64 0,.int .i64 0,.slice none 0 0,.int .i64 0,.int .i64 0,.bool false,.string ⟨#[]⟩]) 7 80 underlying32 hi ag af ad rfl (by decide) u3 H (aG C) rfl a4.o (some ⟨Z.heap.size,0,none⟩) 1 1 (aG [u]) rfl P.o.row (aY _) (by unfold maxLen;omega) (by omega) a1 ?_)
    intro xv w4 b S y;have D:=FG l.o.mx V.o;have U:=hId (l.o.grow (us:=[u]) (m:=H+1) P.o.iE (fun z Y=>by rw[UY.1 Y];exact D.1) (fun z Y=>by rw[UY.1 Y];exact D.2) (by rw[VI,K.o];rfl) b S y);clear b S y D;go_wp2
    go_roundw
    case rel=>exact⟨_,_,_,U.o,a6.o⟩
    case measure=>have h1:=f.o.left;have h2:=U.o.left;have h3:=W.o;omega
   ·have ha:xU r.vs 3=false:=by rw[d];simp[xU,kv]
    rw[ha]at C2;have C2:=hId C2;clear ha;by_cases kw:a.kind=2
    ·have ha:xU s.vs 2=true:=by rw[J];simp[xU,kw]
     rw[ha]at M;have M:=hId M;clear ha;obtain⟨q,hq⟩:∃q:Nat,ef a-s.g=q:=⟨(ef a-s.g).toNat,by omega⟩;have i:1<=q:=by omega
     have O:ef a=((s.g+q:Nat):Int):=by omega
     have C3:=hId (oV w.heap.size r s a N q wr f.o.pb (F.o.below f.o.bf) (F.o.off (UZ _)) i O (by omega));have V:Hd (dV w (aE a s.g q)):=(F.o.iE a (VK ..)).piece i (fun k=>by have h:=O;unfold ef at h;rw[VC k]at h;omega);have a5:=hId (RV.kW F.o q);have a6:Hd (Ac.fL A B (r.vs.map PV.pt) r.g ((s.next a N q).vs.map PV.pt) (s.next a N q).g ((C++[aE a s.g q]).map PV.pt)):=by
      have h:=o.o.Pz kv kw;have hE:s.g+q=Ac.lg a.pt:=by have:=E2.o;omega
      have ah:Ac.lg a.pt-s.g=q:=by omega
      rw[ah]at h;have hn:=kV (r:=s) (t:=N) (F.o.iE a (VK ..)) EW.o q;show Ac.fL _ _ _ _ _ _ _
      rw[hn.1,hn.2,Ac.dw hE,Ac.fF hE,d];simp only[WN,XA,List.map_nil,bw]
      exact h
     have a2:C.length<=80:=by have h1:=HI.o.lx;have h3:=HF.o;rw[VH]at h1;omega
     have W:Hd ((s.next a N q).vs.length<s.vs.length):=by
      have hE:=O.symm;show _<_
      unfold RV.next;rw[VC hE,J];simp
     clear O i E1 E2 EV EW o d J kv kw a3 aj;generalize aE a s.g q=u at*;generalize s.next a N q=nx at*;go_wp2_with fail
     refine C1.o.mono ?_
     rintro e w1⟨rfl,Q⟩;obtain rfl:=Q.symm;go_wp2_with fail
     refine C2.o.mono ?_
     rintro e w1⟨rfl,Q⟩;obtain rfl:=Q.symm;go_wp2_with fail
     refine M.o.mono ?_
     rintro e w1⟨rfl,Q⟩;obtain rfl:=Q.symm;go_wp2_with fail
     refine C3.o.mono ?_
     rintro e Z⟨rfl,T,E⟩;have L:=hId (f.o.pair E T f.o.hr a5.o);have l:=hId (L.o.under (aK u Z));have P:=hId (kU (V.o.below L.o.bf));clear T E C1 C2 C3;obtain⟨H,c⟩:∃H,C.length=H:=⟨_,rfl⟩;rw[c]at a2;have K:=hId c;clear c;have a4:Hd ((aH u Z).ownsRow (w.heap.size+1) 100 7 u3 H (aG C)):=by have:=l.o.mx;rw[K.o]at this;exact this
     have a1:w.heap.size+1<=(aH u Z).heap.size:=l.o.pb.lt;go_wp2_with (at_builtin;refine az (aH u Z) rfl (.tmp 20) (.tmp 23) 32 rfl (w.heap.size+1) 100 i0 (.agg #[.int .i64 0,.int .i64 0,.slice none 0 0,.int .i64 0,.int .i64 0,.bool false,.string ⟨#[]⟩]) 7 80 underlying32 hi ag af ad rfl (by decide) u3 H (aG C) rfl a4.o (some ⟨Z.heap.size,0,none⟩) 1 1 (aG [u]) rfl P.o.row (aY _) (by unfold maxLen;omega) (by omega) a1 ?_)
     intro xv w4 b S y;have D:=FG l.o.mx V.o;have U:=hId (l.o.grow (us:=[u]) (m:=H+1) P.o.iE (fun z Y=>by rw[UY.1 Y];exact D.1) (fun z Y=>by rw[UY.1 Y];exact D.2) (by rw[VI,K.o];rfl) b S y);clear b S y D;go_wp2
     go_roundw
     case rel=>exact⟨_,_,_,U.o,a6.o⟩
     case measure=>have h1:=f.o.left;have h2:=U.o.left;have h3:=W.o;omega
    ·have ha:xU s.vs 2=false:=by rw[J];simp[xU,kw]
     rw[ha]at M;have M:=hId M;clear ha;obtain⟨q,ab⟩:∃q:Nat,min (ef v-r.g) (ef a-s.g)=q:=⟨(min (ef v-r.g) (ef a-s.g)).toNat,by omega⟩;have i:1<=q:=by omega
     have ai:((r.g+q:Nat):Int)<=ef v:=by omega
     have an:((s.g+q:Nat):Int)<=ef a:=by omega
     have C3:=hId (pj w.heap.size r s v t a N q w wr f.o.bf (UZ _) f.o.pb G.o F.o i ai an (by omega) (by omega) ab);have V:Hd (dV w (aE v r.g q)):=(G.o.iE v (VK ..)).piece i (fun k=>by have h:=ai;unfold ef at h;rw[VC k]at h;omega);have ay:Hd (dV w (aE a s.g q)):=(F.o.iE a (VK ..)).piece i (fun k=>absurd k kw);have a8:=kV (r:=r) (t:=t) (G.o.iE v (VK ..)) EV.o q;have a7:=kV (r:=s) (t:=N) (F.o.iE a (VK ..)) EW.o q;have am:q=min (Ac.lg v.pt-r.g) (Ac.lg a.pt-s.g):=by have h1:=E1.o;have h2:=E2.o;omega
     have a6:Hd (∀us:List PV,us.map PV.pt=Ac.zu (aE v r.g q).pt (aE a s.g q).pt->Ac.fL A B ((r.next v t q).vs.map PV.pt) (r.next v t q).g ((s.next a N q).vs.map PV.pt) (s.next a N q).g ((C++us).map PV.pt)):=fun us b1=>by
      have h:=o.o.both kv kw am;rw[a8.1,a8.2,a7.1,a7.2,WN,b1,bw,bw];exact h
     have W:Hd ((r.next v t q).vs.length+(s.next a N q).vs.length<r.vs.length+s.vs.length):=by
      have h:=Ac.qB (p:=v.pt) (q:=a.pt) (t:=t.map PV.pt) (u:=N.map PV.pt) (g:=r.g) (h:=s.g) (n:=q) (by have h1:=E1.o;have h2:=E2.o;omega);rw[<-a8.1,<-a7.1]at h;simp only[VH]at h
      show _<_
      rw[d,J];simp only[VG]
      omega
     have a2:C.length<=80:=by have h1:=HI.o.lx;have h3:=HF.o;rw[VH]at h1;omega
     have EP:Ac.bG (aE v r.g q).pt=0:=by rw[bw];exact Ac.fM EV.o i (by have:=E1.o;omega)
     have EQ:Ac.bG (aE a s.g q).pt=0:=by rw[bw];exact Ac.fM EW.o i (by have:=E2.o;omega)
     have ar:(aE v r.g q).kind=1\/(aE v r.g q).kind=2:=by
      have e:(aE v r.g q).kind=v.kind:=VQ Ac.Pt.kind (bw v r.g q)|>.trans (Ac.bp ..);rw[e];rcases Ac.cz EV.o with h|h|h
      ·exact .inl h
      ·exact .inr h
      ·exact absurd h kv
     have E:(aE a s.g q).kind=1\/(aE a s.g q).kind=3:=by
      have e:(aE a s.g q).kind=a.kind:=VQ Ac.Pt.kind (bw a s.g q)|>.trans (Ac.bp ..);rw[e];rcases Ac.cz EW.o with h|h|h
      ·exact .inl h
      ·exact absurd h kw
      ·exact .inr h
     have C4:=hId (fun w' hb=>Oh _ _ w' (V.o.below hb) (ay.o.below hb) ar E EP EQ);have a5:=hId (RV.kW G.o q);have b5:=hId (RV.kW F.o q);clear ab i ai an E1 E2 EV EW o d J kv kw a3 aj ar E EP EQ a8 a7 am V ay G F;generalize Ac.zu (aE v r.g q).pt (aE a s.g q).pt=OX at*;generalize aE v r.g q=u at*;generalize aE a s.g q=u' at*;generalize r.next v t q=nx at*;generalize s.next a N q=b7 at*;go_wp2_with fail
     refine C1.o.mono ?_
     rintro e w1⟨rfl,Q⟩;obtain rfl:=Q.symm;go_wp2_with fail
     refine C2.o.mono ?_
     rintro e w1⟨rfl,Q⟩;obtain rfl:=Q.symm;go_wp2_with fail
     refine M.o.mono ?_
     rintro e w1⟨rfl,Q⟩;obtain rfl:=Q.symm;go_wp2_with fail
     refine C3.o.mono ?_
     rintro e Z⟨rfl,T,E⟩;have L:=hId (f.o.pair E T a5.o b5.o);clear T E C1 C2 M C3;go_wp2_with fail
     refine(C4.o _ L.o.bf).mono ?_
     rintro e w3⟨⟨a0,n0,c0,us,rfl,o0,ap,b2,au⟩,av⟩;have l:=hId (L.o.under av);have P:=hId o0;have b4:=hId ap;have b6:=hId au;have b8:n0<=1:=by have:=o0.len;omega
     clear o0 av C4 ap b2 au;obtain⟨H,c⟩:∃H,C.length=H:=⟨_,rfl⟩;rw[c]at a2;have K:=hId c;clear c;have a4:Hd (w3.ownsRow (w.heap.size+1) 100 7 u3 H (aG C)):=by have:=l.o.mx;rw[K.o]at this;exact this
     have a1:w.heap.size+1<=w3.heap.size:=l.o.pb.lt;go_wp2_with (at_builtin;refine az w3 rfl (.tmp 5) (.tmp 7) 32 rfl (w.heap.size+1) 100 i0 (.agg #[.int .i64 0,.int .i64 0,.slice none 0 0,.int .i64 0,.int .i64 0,.bool false,.string ⟨#[]⟩]) 7 80 underlying32 hi ag af ad rfl (by decide) u3 H (aG C) rfl a4.o a0 n0 c0 (aG us) rfl P.o.row (aY _) (by unfold maxLen;omega) (by omega) a1 ?_)
     intro xv w4 b S y;have D:=fun z Y=>LY L.o.mx L.o.pb.lt (b6.o z Y);have U:=hId (l.o.grow (us:=us) (m:=H+n0) P.o.iE (fun z Y=>(D z Y).1) (fun z Y=>(D z Y).2) (by rw[VI,K.o,P.o.len]) b S y);clear b S y D;go_wp2
     go_roundw
     case rel=>exact⟨_,_,_,U.o,a6.o us b4.o⟩
     case measure=>have h1:=f.o.left;have h2:=U.o.left;have h3:=W.o;omega
