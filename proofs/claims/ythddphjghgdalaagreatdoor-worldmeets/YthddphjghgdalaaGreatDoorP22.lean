/- A part. -/
import Derived.Test.YthddphjghgdalaaGreatDoorP21
import Derived.Deep.RegionHeld
import Derived.Deep.RegionWith
set_option maxRecDepth 100000
set_option maxHeartbeats 1600000
namespace Go.Proofs.YthddphjghgdalaaGreatDoor
open Go.RowKit Go.Proofs.Tryz
theorem il{α:Type}(f:α->List Value)(s:Nat)(b:∀x,(f x).length=s):∀l:List α,(l.flatMap f).length=l.length*s
 |[]=>by simp
 |a::l=>by
  show(f a++l.flatMap f).length=_
  rw[VI,il f s b l,b,VG,Nat.add_mul];omega
theorem Lp{α:Type}(f:α->List Value)(s:Nat)(b:∀x,(f x).length=s):∀(l:List α)(i:Nat)(h:i<l.length)(j:Nat),j<s->(l.flatMap f)[i*s+j]?=(f l[i])[j]?
 |[],_,h,_,_=>by simp at h
 |a::l,0,_,j,c=>by
  show(f a++l.flatMap f)[0*s+j]?=_
  rw[XQ,VR,List.getElem?_append_left (by rw[b];exact c)];rfl
 |a::l,i+1,h,j,c=>by
  have:=Lp f s b l i (by simpa using h) j c;show(f a++l.flatMap f)[(i+1)*s+j]?=_
  rw[Nat.add_mul,List.getElem?_append_right (by rw[b];omega),b,show i*s+1*s+j-s=i*s+j by omega,this];rfl
theorem Dd{α:Type}(f:α->List Value)(s:Nat)(b:∀x,(f x).length=s)(y:α)(j:Nat)(v:Value)(c:j<s):∀(l:List α)(i:Nat)(h:i<l.length),(f l[i]).set j v=f y->(l.flatMap f).set (i*s+j) v=(l.set i y).flatMap f
 |[],_,h,_=>by simp at h
 |a::l,0,_,e=>by
  show(f a++l.flatMap f).set (0*s+j) v=f y++l.flatMap f
  rw[XQ,VR,List.set_append_left _ _ (by rw[b];exact c)];exact VQ (·++_) e
 |a::l,i+1,h,e=>by
  have:=Dd f s b y j v c l i (by simpa using h) e;show(f a++l.flatMap f).set ((i+1)*s+j) v=f a++(l.set i y).flatMap f
  rw[Nat.add_mul,List.set_append_right _ _ (by rw[b];omega),b,show i*s+1*s+j-s=i*s+j by omega,this]
theorem FQ{α:Type}(f:α->List Value)(c:∀x,ee (f x)=true)(l:List α):ee (l.flatMap f)=true:=by
 unfold ee at*;rw[XR];intro u b;obtain⟨x,_,a⟩:=List.mem_flatMap.1 b;exact XR.1 (c x) u a
theorem Df{α:Type}(f:α->List Value)(c:∀x,∀u∈f x,u.oneCell'=true)(l:List α):∀u∈l.flatMap f,u.oneCell'=true:=by
 intro u b;obtain⟨x,_,a⟩:=List.mem_flatMap.1 b;exact c x u a
def MV.mg (m:MV):Wo.Mg:=⟨m.mr,m.e.en⟩
structure QV where
 a:Option Addr
 n:Nat
 cap:Nat
 ms:List MV
def QV.eV (q:QV):List Wo.Mg:=q.ms.map MV.mg
def tt (q:QV):List Value:=[.slice q.a q.n q.cap]
def bN (l:List MV):List Value:=l.flatMap jX
def bB (l:List CV):List Value:=l.flatMap fS
def ak (l:List QV):List Value:=l.flatMap tt
theorem QF(l:List MV):∀u∈bN l,u.oneCell'=true:=Df jX (fun m u a=>by
 unfold jX at a;simp only[WG,List.not_mem_nil,or_false]at a
 rcases a with rfl|rfl|rfl|rfl<;>rfl) l
theorem L2(l:List CV):∀u∈bB l,u.oneCell'=true:=Df fS (fun m u a=>by
 unfold fS at a;simp only[WG,List.not_mem_nil,or_false]at a
 rcases a with rfl|rfl|rfl|rfl|rfl|rfl|rfl<;>rfl) l
theorem Px(l:List QV):∀u∈ak l,u.oneCell'=true:=Df tt (fun m u a=>by
 unfold tt at a;simp only[WG,List.not_mem_nil,or_false]at a
 rcases a with rfl;rfl) l
theorem SR(l:List MV):ee (bN l)=true:=FQ jX (fun _=>rfl) l
theorem PM(l:List CV):ee (bB l)=true:=FQ fS (fun _=>rfl) l
theorem zk(l:List QV):ee (ak l)=true:=FQ tt (fun _=>rfl) l
theorem yF(l:List MV):(bN l).length=l.length*4:=il jX 4 (fun _=>rfl) l
theorem mK(l:List CV):(bB l).length=l.length*7:=il fS 7 (fun _=>rfl) l
theorem kr(l:List QV):(ak l).length=l.length:=(il tt 1 (fun _=>rfl) l).trans (Nat.mul_one _)
structure WV where
 s:SV
 ca:Option Addr
 cn:Nat
 cc:Nat
 cs:List CV
 ua:Option Addr
 un:Nat
 uc:Nat
 up:List QV
 da:Option Addr
 dn:Nat
 dc:Nat
 down:List QV
def WV.w (v:WV):Wo.W:=⟨v.s.se,v.cs.map CV.cl,v.up.map QV.eV,v.down.map QV.eV⟩
def eo (v:WV):List Value:=[.slice v.s.fa v.s.fn v.s.fc,.slice v.s.la v.s.ln v.s.lc,.slice v.s.na v.s.nn v.s.nc,.slice v.ca v.cn v.cc,.slice v.ua v.un v.uc,.slice v.da v.dn v.dc]
def Mh (v:WV):Value:=.agg #[.slice v.s.fa v.s.fn v.s.fc,.slice v.s.la v.s.ln v.s.lc,.slice v.s.na v.s.nn v.s.nc,.slice v.ca v.cn v.cc,.slice v.ua v.un v.uc,.slice v.da v.dn v.dc]
def bX:WV:=⟨eP,none,0,0,[],none,0,0,[],none,0,0,[]⟩
structure qp (w:World) (q:QV):Prop where
 row:Row w q.a q.n q.cap 4 (bN q.ms)
 ops:∀ m ∈ q.ms,ae w m.e.ao m.e.n m.e.cap m.e.vs
theorem qp.below{w w':World}{q:QV}(h:qp w q)(a:Below w.heap.size w w'):qp w' q:=⟨h.row.below a,fun m b=>(h.ops m b).below a⟩
theorem qp.len{w:World}{q:QV}(h:qp w q):q.ms.length=q.n:=by
 have:=h.row.len;rw[yF]at this;omega
structure gD (w:World) (v:WV):Prop where
 eF:nU w v.s
 cr:Row w v.ca v.cn v.cc 7 (bB v.cs)
 cl:∀ c ∈ v.cs,kE w c
 ur:Row w v.ua v.un v.uc 1 (ak v.up)
 uq:∀ q ∈ v.up,qp w q
 dr:Row w v.da v.dn v.dc 1 (ak v.down)
 dq:∀ q ∈ v.down,qp w q
theorem gD.below{w w':World}{v:WV}(h:gD w v)(a:Below w.heap.size w w'):gD w' v:=
 ⟨h.eF.below a,h.cr.below a,fun c d=>(h.cl c d).below a,h.ur.below a,fun q b=>(h.uq q b).below a,h.dr.below a,fun q b=>(h.dq q b).below a⟩
theorem gD.lens{w:World}{v:WV}(h:gD w v):v.cs.length=v.cn/\v.up.length=v.un/\v.down.length=v.dn:=by
 have c:=h.cr.len;have b:=h.ur.len;have a:=h.dr.len;rw[mK]at c;rw[kr]at b a;omega
theorem nU.none(w:World):nU w eP:=⟨cf w,fQ.nil w,cf w⟩
theorem gD.nil(w:World):gD w bX:=⟨nU.none w,Row.nil w 7,(fun c a=>by cases a),Row.nil w 1,(fun c a=>by cases a),Row.nil w 1,(fun c a=>by cases a)⟩
def NT (w:World) (g:Nat):Prop:=∀ j u,w.cell? ⟨g,j,none⟩=some u->E8 u=true
theorem NT.of{w:World}{g:Nat}{cs:List Value}{T:TypeId}(h:Blk w g cs T)(b:ee cs=true):NT w g:=fun j u a=>by
 rw[h.cell j]at a;exact XR.1 b u (WQ a)
theorem NT.ne{w:World}{g:Nat}(h:NT w g){b o:Nat}{u:Value}(a:w.cell? ⟨b,o,none⟩=some u)(c:E8 u=false):b≠g:=by
 rintro rfl;have:=h o u a;rw[c]at this
 cases this
theorem cy.aw{w w':World}{a:Option Addr}{n c:Nat}{l:List It}{S:List Nat}(h:cy w a n c l)(k:Kept w w' S)(i:∀g∈S,NT w g):cy w' a n c l:=
 h.kept k (fun q o e f=>by
  obtain⟨b,p,d,m⟩:=h.bH o;rw[e]at d
  cases d
  exact(i _ f).ne (m.c 0 (by rw[h.len];omega)) rfl rfl)
theorem ae.aw{w w':World}{a:Option Addr}{n c:Nat}{i:List PV}{S:List Nat}(h:ae w a n c i)(q:Kept w w' S)(p:∀g∈S,NT w g):ae w' a n c i:=
 h.kept q (fun t k e l=>by
  obtain⟨b,m,f,r⟩:=h.row.bH k;rw[e]at f
  cases f
  have d:=h.len;match i,d with
  |[],d=>exact k d.symm
  |y::i,_=>exact(p _ l).ne (r 6 (.string y.link) rfl) rfl rfl) (fun v o t k e l=>by
  obtain⟨b,m,f,s⟩:=(h.iE v o).jd.bH k;rw[e]at f
  cases f
  exact(p _ l).ne (s.c 0 (by rw[(h.iE v o).jd.len];omega)) rfl rfl)
theorem kE.aw{w w':World}{c:CV}{S:List Nat}(h:kE w c)(b:Kept w w' S)(a:∀g∈S,NT w g):kE w' c:=⟨h.base.aw b a,h.now.aw b a,h.aJ.aw b a,h.held.aw b a⟩
theorem df.aw{w w':World}{S:List Nat}(h:df w)(e:Kept w w' S)(d:∀g∈S,NT w g):df w':=by
 obtain⟨k,c⟩:=wR;have f:=(h.cell 0).trans c;obtain⟨t,i,a⟩:=h;exact⟨t,i,(e.block _ (WE.1 a).1 (fun b=>(d _ b).ne f rfl rfl)).trans a⟩
def Ht (a:Option Addr) (S:List Nat):Prop:=∀ ad:Addr,a=some ad->ad.block ∉ S
theorem qp.aw{w w':World}{q:QV}{S:List Nat}(h:qp w q)(a:Kept w w' S)(c:∀g∈S,NT w g)(b:Ht q.a S):qp w' q:=
 ⟨h.row.kept (by decide) a (fun f _ e=>b f e),fun m d=>(h.ops m d).aw a c⟩
theorem nU.aw{w w':World}{s:SV}{S:List Nat}(h:nU w s)(a:Kept w w' S)(b:∀g∈S,NT w g)(d:s.ln≠0->Ht s.la S):nU w' s:=
 ⟨h.first.aw a b,⟨h.log.row.kept (by decide) a (fun i f e=>d f i e),fun v c=>(h.log.ops v c).aw a b⟩,h.now.aw a b⟩
def bk (b:Nat) (v:WV):Nat->Option Nat
 | 0=>some b
 | 1=>v.ca.map (·.block)
 | 2=>v.ua.map (·.block)
 | 3=>v.da.map (·.block)
 | 4=>if v.s.ln=0 then none else v.s.la.map (·.block)
 | k+5=>if k % 2=0 then (v.up[k / 2]?).bind (fun q=>q.a.map (·.block)) else (v.down[k / 2]?).bind (fun q=>q.a.map (·.block))
theorem BI(b:Nat)(v:WV)(k:Nat):bk b v (2*k+5)=(v.up[k]?).bind (fun q=>q.a.map (·.block)):=by
 show(if(2*k)%2=0 then(v.up[(2*k)/2]?).bind _ else _)=_
 rw[VC (by omega),show 2*k/2=k by omega]
theorem BJ(b:Nat)(v:WV)(k:Nat):bk b v (2*k+6)=(v.down[k]?).bind (fun q=>q.a.map (·.block)):=by
 show(if(2*k+1)%2=0 then _ else(v.down[(2*k+1)/2]?).bind _)=_
 rw[VD (by omega),show(2*k+1)/2=k by omega]
structure eR (B X:Nat) (w:World) (b:Nat) (v:WV):Prop where
 aM:Blk w b (eo v) 30
 eF:nU w v.s
 cr:bj w 41 7 v.ca v.cn v.cc (bB v.cs)
 cl:∀ c ∈ v.cs,kE w c
 ur:bj w 53 1 v.ua v.un v.uc (ak v.up)
 dr:bj w 53 1 v.da v.dn v.dc (ak v.down)
 uq:∀ (k:Nat) (q:QV),v.up[k]?=some q->qp w q
 dq:∀ (k:Nat) (q:QV),v.down[k]?=some q->qp w q
 uN:∀ (k:Nat) (q:QV),v.up[k]?=some q->X≠2*k+5->bj w 114 4 q.a q.n q.cap (bN q.ms)
 dN:∀ (k:Nat) (q:QV),v.down[k]?=some q->X≠2*k+6->bj w 114 4 q.a q.n q.cap (bN q.ms)
 dj:∀ s t x,bk b v s=some x->bk b v t=some x->s=t
 lo:∀ s x,bk b v s=some x->B<=x
 hi:∀ s x,bk b v s=some x->x<w.heap.size
theorem eR.below{B X:Nat}{w w':World}{b:Nat}{v:WV}(h:eR B X w b v)(a:Below w.heap.size w w'):eR B X w' b v:=
 ⟨(a.block _ h.aM.lt).trans h.aM,h.eF.below a,h.cr.below a,fun c d=>(h.cl c d).below a,h.ur.below a,h.dr.below a,fun k q e=>(h.uq k q e).below a,fun k q e=>(h.dq k q e).below a,fun k q e x=>(h.uN k q e x).below a,fun k q e x=>(h.dN k q e x).below a,h.dj,h.lo,fun s x e=>WJ (h.hi s x e) a.size⟩
theorem bj.nt{w:World}{e:TypeId}{sz:Nat}{a:Option Addr}{n d:Nat}{xs:List Value}(h:bj w e sz a n d xs){x:Nat}(b:a.map (·.block)=some x):NT w x:=by
 rcases h.vv with⟨c,_⟩|⟨g,sp,c,i,f,_⟩
 ·rw[c]at b;cases b
 ·rw[c]at b;cases b;exact NT.of i f
theorem eR.ntB{B X:Nat}{w:World}{b:Nat}{v:WV}(h:eR B X w b v):NT w b:=NT.of h.aM rfl
theorem cx{b:Nat}{v:WV}{a:Option Addr}{S:List Nat}{s:Nat}(d:a.map (·.block)=bk b v s)(h:∀x∈S,bk b v s≠some x):Ht a S:=fun f e c=>h _ c (by rw[<-d,e];rfl)
theorem eR.lens{B X:Nat}{w:World}{b:Nat}{v:WV}(h:eR B X w b v):v.cs.length=v.cn/\v.up.length=v.un/\v.down.length=v.dn:=by
 have d:=h.cr.len;have c:=h.ur.len;have a:=h.dr.len;rw[mK]at d;rw[kr]at c a;omega
theorem eR.nV{B X:Nat}{w:World}{b:Nat}{v:WV}(h:eR B X w b v):gD w v:=
 ⟨h.eF,h.cr.row,h.cl,h.ur.row,fun q a=>by obtain⟨k,c⟩:=List.mem_iff_getElem?.1 a;exact h.uq k q c,h.dr.row,fun q a=>by obtain⟨k,c⟩:=List.mem_iff_getElem?.1 a;exact h.dq k q c⟩
theorem pN{b:Nat}{v:WV}(h:v.s.ln≠0):v.s.la.map (·.block)=bk b v 4:=(VD h).symm
theorem fP{b:Nat}{v:WV}{k:Nat}{q:QV}(e:v.up[k]?=some q):q.a.map (·.block)=bk b v (2*k+5):=by rw[BI,e];rfl
theorem ei{b:Nat}{v:WV}{k:Nat}{q:QV}(e:v.down[k]?=some q):q.a.map (·.block)=bk b v (2*k+6):=by rw[BJ,e];rfl
theorem eR.SP{B X:Nat}{w w':World}{b:Nat}{v:WV}(h:eR B X w b v){g:Nat}{sp:List Value}(d:v.ca=some ⟨g,0,none⟩)(A:Blk w g (bB v.cs++sp) 41)(i:Kept w w' [g])(f:List CV)(I:f.length=v.cs.length)(L:Blk w' g (bB f++sp) 41)(E:∀c∈f,kE w c):
  eR B X w' b {v with cs:=f}:=by
 have F:bk b v 1=some g:=by show v.ca.map _=_;rw[d];rfl
 have y:∀x∈[g],NT w x:=fun x r=>by rw[UY.1 r];exact h.cr.nt F
 have a:∀s,s≠1->∀x∈[g],bk b v s≠some x:=fun s H x r e=>H (h.dj s 1 g (by rw[e,UY.1 r]) F);have l:∀s,bk b {v with cs:=f} s=bk b v s:=fun s=>by
  match s with
  |0=>rfl
  |1=>rfl
  |2=>rfl
  |3=>rfl
  |4=>rfl
  |k+5=>rfl
 refine⟨i.aM h.aM (fun r=>a 0 (by decide) b r rfl),h.eF.aw i y (fun P=>cx (b:=b) (v:=v) (pN P) (a 4 (by decide))),?_,fun c K=>(E c K).aw i y,h.ur.kept i (cx (b:=b) (v:=v) rfl (a 2 (by decide))),h.dr.kept i (cx (b:=b) (v:=v) rfl (a 3 (by decide))),fun k q e=>(h.uq k q e).aw i y (cx (b:=b) (v:=v) (fP e) (a (2*k+5) (by omega))),fun k q e=>(h.dq k q e).aw i y (cx (b:=b) (v:=v) (ei e) (a (2*k+6) (by omega))),fun k q e x=>(h.uN k q e x).kept i (cx (b:=b) (v:=v) (fP e) (a (2*k+5) (by omega))),fun k q e x=>(h.dN k q e x).kept i (cx (b:=b) (v:=v) (ei e) (a (2*k+6) (by omega))),fun s t x S C=>h.dj s t x ((l s).symm.trans S) ((l t).symm.trans C),fun s x e=>h.lo s x ((l s).symm.trans e),fun s x e=>WJ (h.hi s x ((l s).symm.trans e)) i.size⟩
 have n:=h.cr;have m:(bB f).length=(bB v.cs).length:=by rw[mK,mK,I]
 refine⟨by rw[m];exact n.len,.inr ⟨g,sp,d,L,?_,?_,?_⟩⟩
 ·have D:ee sp=true:=by
   have O:ee (bB v.cs++sp)=true:=by
    unfold ee;rw[XR];intro u G;obtain⟨j,J⟩:=List.mem_iff_getElem?.1 G;exact y g (UY.2 rfl) j u (by rw[A.cell j];exact J)
   exact(dB.1 O).2
  exact dB.2 ⟨PM _,D⟩
 ·rcases n.vv with⟨p,_⟩|⟨Q,z,p,o,_,N,_⟩
  ·rw[p]at d;cases d
  ·rw[p]at d;cases d;have C:bB v.cs++z=bB v.cs++sp:=by
    unfold Blk at A o;rw[o]at A;simpa using A
   rw[VI,m,<-VI,<-C];exact N
 ·rcases n.vv with⟨p,_⟩|⟨Q,z,p,o,_,_,M⟩
  ·rw[p]at d;cases d
  ·exact M
theorem eR.QD{B X M:Nat}{w w':World}{b:Nat}{v:WV}(h:eR B X w b v){k:Nat}(Q:k<v.up.length){g:Nat}{sp:List Value}(p:v.ua=some ⟨g,0,none⟩)(J:Blk w g (ak v.up++sp) 53)(S:List Nat)(T:∀x∈S,bk b v 2=some x\/(bk b v (2*k+5)=some x/\X≠2*k+5))(a:Kept w w' S)
  (q:QV)(Y:Blk w' g (ak (v.up.set k q)++sp) 53)(V:qp w' q)(O:M≠2*k+5->bj w' 114 4 q.a q.n q.cap (bN q.ms))(hX:M=X\/X=0)(P:∀C:Addr,q.a=some C->C.block<w'.heap.size/\B<=C.block/\∀s,s≠2*k+5->bk b v s≠some C.block):
  eR B M w' b {v with up:=v.up.set k q}:=by
 have eg:bk b v 2=some g:=by show v.ua.map _=_;rw[p];rfl
 have H:∀x∈S,NT w x:=fun x z=>by
  rcases T x z with e|⟨e,N⟩
  ·exact h.ur.nt e
  ·have U:v.up[k]?=some v.up[k]:=VM Q;exact(h.uN k _ U N).nt ((fP U).trans e)
 have d:∀s,s≠2->s≠2*k+5->∀x∈S,bk b v s≠some x:=fun s h2 L x z e=>by
  rcases T x z with n|⟨n,_⟩
  ·exact h2 (h.dj s 2 x e n)
  ·exact L (h.dj s _ x e n)
 have r:∀s,s≠2*k+5->bk b {v with up:=v.up.set k q} s=bk b v s:=fun s m=>by
  match s,m with
  |0,_=>rfl
  |1,_=>rfl
  |2,_=>rfl
  |3,_=>rfl
  |4,_=>rfl
  |j+5,m=>
   show(if j%2=0 then((v.up.set k q)[j/2]?).bind _ else _)=(if j%2=0 then(v.up[j/2]?).bind _ else _)
   by_cases o:j%2=0
   ·rw[VC o,VC o,XB,VD (by omega)]
   ·rw[VD o,VD o]
 have l:bk b {v with up:=v.up.set k q} (2*k+5)=q.a.map (·.block):=by
  rw[BI];show((v.up.set k q)[k]?).bind _=_
  rw[XB,VC rfl,VC Q];rfl
 have y:∀j f,(v.up.set k q)[j]?=some f->(j=k/\f=q)\/(j≠k/\v.up[j]?=some f):=fun j f e=>by
  rw[XB]at e;by_cases o:k=j
  ·rw[VC o,VC (by omega)]at e;exact .inl ⟨o.symm,(WU e).symm⟩
  ·rw[VD o]at e;exact .inr ⟨fun x=>o x.symm,e⟩
 have i:∀x,q.a.map (·.block)=some x->x<w'.heap.size/\B<=x/\∀s,s≠2*k+5->bk b v s≠some x:=fun x e=>by
  cases K:q.a with
  |none=>rw[K]at e;cases e
  |some C=>rw[K]at e;cases e;exact P C K
 refine⟨a.aM h.aM (fun z=>d 0 (by decide) (by omega) b z rfl),h.eF.aw a H (fun h0=>cx (b:=b) (v:=v) (pN h0) (d 4 (by decide) (by omega))),h.cr.kept a (cx (b:=b) (v:=v) rfl (d 1 (by decide) (by omega))),fun c W=>(h.cl c W).aw a H,?_,h.dr.kept a (cx (b:=b) (v:=v) rfl (d 3 (by decide) (by omega))),fun j f e=>?_,fun j f e=>(h.dq j f e).aw a H (cx (b:=b) (v:=v) (ei e) (d (2*j+6) (by omega) (by omega))),fun j f e z=>?_,fun j f e x=>(h.dN j f e (by omega)).kept a (cx (b:=b) (v:=v) (ei e) (d (2*j+6) (by omega) (by omega))),fun s t x D n=>?_,fun s x e=>?_,fun s x e=>?_⟩
 ·have F:=h.ur;have u:(ak (v.up.set k q)).length=(ak v.up).length:=by rw[kr,kr,List.length_set]
  rcases F.vv with⟨I,_⟩|⟨g2,E,I,G,h3,Z,L⟩
  ·rw[I]at p;cases p
  ·rw[I]at p;cases p;have n:ak v.up++E=ak v.up++sp:=by
    unfold Blk at J G;rw[G]at J;simpa using J
   have e3:=List.append_cancel_left n;subst e3;exact⟨by rw[u];exact F.len,.inr ⟨g,E,I,Y,dB.2 ⟨zk _,(dB.1 h3).2⟩,by rw[VI,u,<-VI];exact Z,L⟩⟩
 ·rcases y j f e with⟨_,rfl⟩|⟨o,e⟩
  ·exact V
  ·exact(h.uq j f e).aw a H (cx (b:=b) (v:=v) (fP e) (d (2*j+5) (by omega) (by omega)))
 ·rcases y j f e with⟨rfl,rfl⟩|⟨o,e⟩
  ·exact O z
  ·exact(h.uN j f e (by omega)).kept a (cx (b:=b) (v:=v) (fP e) (d (2*j+5) (by omega) (by omega)))
 ·by_cases m:s=2*k+5
  ·by_cases A:t=2*k+5
   ·rw[m,A]
   ·rw[m,l]at D;rw[r t A]at n;exact absurd n ((i x D).2.2 t A)
  ·rw[r s m]at D;by_cases A:t=2*k+5
   ·rw[A,l]at n;exact absurd D ((i x n).2.2 s m)
   ·rw[r t A]at n;exact h.dj s t x D n
 ·by_cases m:s=2*k+5
  ·rw[m,l]at e;exact(i x e).2.1
  ·rw[r s m]at e;exact h.lo s x e
 ·by_cases m:s=2*k+5
  ·rw[m,l]at e;exact(i x e).1
  ·rw[r s m]at e;exact WJ (h.hi s x e) a.size
theorem eR.QE{B X M:Nat}{w w':World}{b:Nat}{v:WV}(h:eR B X w b v){k:Nat}(Q:k<v.down.length){g:Nat}{sp:List Value}(p:v.da=some ⟨g,0,none⟩)(J:Blk w g (ak v.down++sp) 53)(S:List Nat)(T:∀x∈S,bk b v 3=some x\/(bk b v (2*k+6)=some x/\X≠2*k+6))(a:Kept w w' S)
  (q:QV)(Y:Blk w' g (ak (v.down.set k q)++sp) 53)(V:qp w' q)(O:M≠2*k+6->bj w' 114 4 q.a q.n q.cap (bN q.ms))(hX:M=X\/X=0)(P:∀C:Addr,q.a=some C->C.block<w'.heap.size/\B<=C.block/\∀s,s≠2*k+6->bk b v s≠some C.block):
  eR B M w' b {v with down:=v.down.set k q}:=by
 have eg:bk b v 3=some g:=by show v.da.map _=_;rw[p];rfl
 have H:∀x∈S,NT w x:=fun x z=>by
  rcases T x z with e|⟨e,N⟩
  ·exact h.dr.nt e
  ·have U:v.down[k]?=some v.down[k]:=VM Q;exact(h.dN k _ U N).nt ((ei U).trans e)
 have d:∀s,s≠3->s≠2*k+6->∀x∈S,bk b v s≠some x:=fun s h2 L x z e=>by
  rcases T x z with n|⟨n,_⟩
  ·exact h2 (h.dj s 3 x e n)
  ·exact L (h.dj s _ x e n)
 have r:∀s,s≠2*k+6->bk b {v with down:=v.down.set k q} s=bk b v s:=fun s m=>by
  match s,m with
  |0,_=>rfl
  |1,_=>rfl
  |2,_=>rfl
  |3,_=>rfl
  |4,_=>rfl
  |j+5,m=>
   show(if j%2=0 then _ else((v.down.set k q)[j/2]?).bind _)=(if j%2=0 then _ else(v.down[j/2]?).bind _)
   by_cases o:j%2=0
   ·rw[VC o,VC o]
   ·rw[VD o,VD o,XB,VD (by omega)]
 have l:bk b {v with down:=v.down.set k q} (2*k+6)=q.a.map (·.block):=by
  rw[BJ];show((v.down.set k q)[k]?).bind _=_
  rw[XB,VC rfl,VC Q];rfl
 have y:∀j f,(v.down.set k q)[j]?=some f->(j=k/\f=q)\/(j≠k/\v.down[j]?=some f):=fun j f e=>by
  rw[XB]at e;by_cases o:k=j
  ·rw[VC o,VC (by omega)]at e;exact .inl ⟨o.symm,(WU e).symm⟩
  ·rw[VD o]at e;exact .inr ⟨fun x=>o x.symm,e⟩
 have i:∀x,q.a.map (·.block)=some x->x<w'.heap.size/\B<=x/\∀s,s≠2*k+6->bk b v s≠some x:=fun x e=>by
  cases K:q.a with
  |none=>rw[K]at e;cases e
  |some C=>rw[K]at e;cases e;exact P C K
 refine⟨a.aM h.aM (fun z=>d 0 (by decide) (by omega) b z rfl),h.eF.aw a H (fun h0=>cx (b:=b) (v:=v) (pN h0) (d 4 (by decide) (by omega))),h.cr.kept a (cx (b:=b) (v:=v) rfl (d 1 (by decide) (by omega))),fun c W=>(h.cl c W).aw a H,h.ur.kept a (cx (b:=b) (v:=v) rfl (d 2 (by decide) (by omega))),?_,fun j f e=>(h.uq j f e).aw a H (cx (b:=b) (v:=v) (fP e) (d (2*j+5) (by omega) (by omega))),fun j f e=>?_,fun j f e x=>(h.uN j f e (by omega)).kept a (cx (b:=b) (v:=v) (fP e) (d (2*j+5) (by omega) (by omega))),fun j f e z=>?_,fun s t x D n=>?_,fun s x e=>?_,fun s x e=>?_⟩
 ·have F:=h.dr;have u:(ak (v.down.set k q)).length=(ak v.down).length:=by rw[kr,kr,List.length_set]
  rcases F.vv with⟨I,_⟩|⟨g2,E,I,G,h3,Z,L⟩
  ·rw[I]at p;cases p
  ·rw[I]at p;cases p;have n:ak v.down++E=ak v.down++sp:=by
    unfold Blk at J G;rw[G]at J;simpa using J
   have e3:=List.append_cancel_left n;subst e3;exact⟨by rw[u];exact F.len,.inr ⟨g,E,I,Y,dB.2 ⟨zk _,(dB.1 h3).2⟩,by rw[VI,u,<-VI];exact Z,L⟩⟩
 ·rcases y j f e with⟨_,rfl⟩|⟨o,e⟩
  ·exact V
  ·exact(h.dq j f e).aw a H (cx (b:=b) (v:=v) (ei e) (d (2*j+6) (by omega) (by omega)))
 ·rcases y j f e with⟨rfl,rfl⟩|⟨o,e⟩
  ·exact O z
  ·exact(h.dN j f e (by omega)).kept a (cx (b:=b) (v:=v) (ei e) (d (2*j+6) (by omega) (by omega)))
 ·by_cases m:s=2*k+6
  ·by_cases A:t=2*k+6
   ·rw[m,A]
   ·rw[m,l]at D;rw[r t A]at n;exact absurd n ((i x D).2.2 t A)
  ·rw[r s m]at D;by_cases A:t=2*k+6
   ·rw[A,l]at n;exact absurd D ((i x n).2.2 s m)
   ·rw[r t A]at n;exact h.dj s t x D n
 ·by_cases m:s=2*k+6
  ·rw[m,l]at e;exact(i x e).2.1
  ·rw[r s m]at e;exact h.lo s x e
 ·by_cases m:s=2*k+6
  ·rw[m,l]at e;exact(i x e).1
  ·rw[r s m]at e;exact WJ (h.hi s x e) a.size
theorem eR.Tr{B X:Nat}{w w':World}{b:Nat}{v:WV}(h:eR B X w b v)(i:Kept w w' [b])(t:SV)(E:Blk w' b (eo {v with s:=t}) 30)(C:nU w t)(y:t.ln≠0->∀m:Addr,t.la=some m->B<=m.block/\m.block<w.heap.size/\∀s,s≠4->bk b v s≠some m.block):eR B X w' b {v with s:=t}:=by
 have z:∀x∈[b],NT w x:=fun x o=>by rw[UY.1 o];exact h.ntB
 have d:∀s,s≠0->∀x∈[b],bk b v s≠some x:=fun s a x o e=>a (h.dj s 0 b (by rw[e,UY.1 o]) rfl);have l:∀s,s≠4->bk b {v with s:=t} s=bk b v s:=fun s a=>by
  match s,a with
  |0,_=>rfl
  |1,_=>rfl
  |2,_=>rfl
  |3,_=>rfl
  |4,a=>exact absurd rfl a
  |j+5,a=>rfl
 have g:∀x,bk b {v with s:=t} 4=some x->B<=x/\x<w.heap.size/\∀s,s≠4->bk b v s≠some x:=fun x e=>by
  have f:(if t.ln=0 then none else t.la.map (·.block))=some x:=e;by_cases p:t.ln=0
  ·rw[VC p]at f;cases f
  ·rw[VD p]at f
   cases A:t.la with
   |none=>rw[A]at f;cases f
   |some m=>rw[A]at f;cases f;exact y p m A
 refine⟨E,C.aw i z (fun p m e o=>(y p m e).2.2 0 (by decide) (by rw[UY.1 o];rfl)),h.cr.kept i (cx (b:=b) (v:=v) rfl (d 1 (by decide))),fun c D=>(h.cl c D).aw i z,h.ur.kept i (cx (b:=b) (v:=v) rfl (d 2 (by decide))),h.dr.kept i (cx (b:=b) (v:=v) rfl (d 3 (by decide))),fun k q e=>(h.uq k q e).aw i z (cx (b:=b) (v:=v) (fP e) (d (2*k+5) (by omega))),fun k q e=>(h.dq k q e).aw i z (cx (b:=b) (v:=v) (ei e) (d (2*k+6) (by omega))),fun k q e x=>(h.uN k q e x).kept i (cx (b:=b) (v:=v) (fP e) (d (2*k+5) (by omega))),fun k q e x=>(h.dN k q e x).kept i (cx (b:=b) (v:=v) (ei e) (d (2*k+6) (by omega))),fun s u x r f=>?_,fun s x e=>?_,fun s x e=>?_⟩
 ·by_cases a:s=4
  ·by_cases n:u=4
   ·rw[a,n]
   ·rw[a]at r;rw[l u n]at f;exact absurd f ((g x r).2.2 u n)
  ·rw[l s a]at r;by_cases n:u=4
   ·rw[n]at f;exact absurd r ((g x f).2.2 s a)
   ·rw[l u n]at f;exact h.dj s u x r f
 ·by_cases a:s=4
  ·rw[a]at e;exact(g x e).1
  ·rw[l s a]at e;exact h.lo s x e
 ·by_cases a:s=4
  ·rw[a]at e;exact WJ (g x e).2.1 i.size
  ·rw[l s a]at e;exact WJ (h.hi s x e) i.size
namespace Wo
theorem qU{α:Type}(l:List α)(k j:Nat)(x d:α)(h:k<l.length):(l.set k x).getD j d=if j=k then x else l.getD j d:=by
 rw[WM,XB,WM];by_cases e:j=k
 ·subst e;rw[VC rfl,VC h,VC rfl];rfl
 ·rw[VD (fun h=>e h.symm),VD e]
structure gi (w:W) (n:Nat):Prop where
 c:w.cs.length=n
 u:w.up.length=n
 d:w.dn.length=n
theorem gi.put{w:W}{n:Nat}(h:gi w n)(k:Nat)(v:Vw):gi (put w k v) n:=
 ⟨(List.length_set ..).trans h.c,(List.length_set ..).trans h.u,(List.length_set ..).trans h.d⟩
theorem xo{w:W}{n:Nat}(h:gi w n){k:Nat}(a:k<n)(v:Vw)(j:Nat):vw (put w k v) j=if j=k then v else vw w j:=by
 have c:=qU w.cs k j v.c Kl.none (by rw[h.c];exact a);have b:=qU w.up k j v.u [] (by rw[h.u];exact a);have e3:=qU w.dn k j v.d [] (by rw[h.d];exact a);show Vw.mk ((w.cs.set k v.c).getD j Kl.none) ((w.up.set k v.u).getD j []) ((w.dn.set k v.d).getD j [])=_
 rw[c,b,e3];by_cases e:j=k
 ·rw[VC e,VC e,VC e,VC e]
 ·rw[VD e,VD e,VD e,VD e];rfl
theorem iG{w:W}{n:Nat}(h:gi w n){k:Nat}(a:k<n)(v:Vw):vw (put w k v) k=v:=by rw[xo h a,VC rfl]
theorem mj{w:W}{n:Nat}(h:gi w n){k j:Nat}(a:k<n)(v:Vw)(e:j≠k):vw (put w k v) j=vw w j:=by rw[xo h a,VD e]
def kx (m:Mg):Bool:=decide (0<m.e.o.length)
theorem oZ:∀(l:List Sv.En)(i:Nat)(x:Sv.En),eL i (l++[x])=eL i l++[⟨((i+l.length+1:Nat):Int),x⟩]
 |[],i,x=>rfl
 |y::l,i,x=>by
  show _::eL (i+1) (l++[x])=_::(eL (i+1) l++_)
  rw[oZ l (i+1) x,VG,show i+1+l.length+1=i+(l.length+1)+1 by omega]
theorem qF:∀(l:List Sv.En)(i:Nat),(eL i l).length=l.length
 |[],_=>rfl
 |y::l,i=>by
  show(eL (i+1) l).length+1=_
  rw[qF l];rfl
theorem qE:∀(l:List Sv.En)(i:Nat)(m:Mg),m∈eL i l->m.e∈l
 |[],_,m,h=>by cases h
 |y::l,i,m,h=>by
  rcases WG.1 h with rfl|h
  ·exact VK ..
  ·exact VP _ (qE l _ m h)
theorem qD(a:List Sv.En)(i:Nat):(news a i).length=a.length-i:=by
 unfold news;rw[qF,XG]
theorem wh(a:List Sv.En)(i:Nat)(x:Sv.En)(h:i<=a.length):news (a++[x]) i=news a i++[⟨((a.length+1:Nat):Int),x⟩]:=by
 unfold news;rw[List.drop_append_of_le_length h,oZ,XG,show i+(a.length-i)+1=a.length+1 by omega]
theorem H8(a:List Sv.En)(i:Nat)(h:i<a.length):news a i=⟨((i+1:Nat):Int),a[i]⟩::news a (i+1):=by
 unfold news;rw[VU h];rfl
theorem uH(a:List Sv.En)(i:Nat)(h:a.length<=i):news a i=[]:=by
 unfold news;rw[WI h];rfl
theorem Nb{a:List Sv.En}(h:Sv.dQ a=0)(i:Nat):∀m∈news a i,Ac.gC m.e.o=0:=fun m b=>qf (nP h _ (List.mem_of_mem_drop (qE _ _ m b)))
theorem RF{m:Mg}(h:Ac.gC m.e.o=0):kx m=true:=WL (Kl.mL h)
theorem filter_all{l:List Mg}(h:∀m∈l,kx m=true):l.filter kx=l:=List.filter_eq_self.2 h
theorem Ba{c:Kl.Cl}(h:Kl.Rc c)(b:Bool):Kl.Rc (jo c b):=⟨h.lo,h.hi,h.JQ,h.JR,h.ck,h.hs,h.sq,h.e1,h.e2,h.nw⟩
theorem F0{c:Kl.Cl}(h:Kl.Rc c)(a:0<c.aJ.length):Ac.gC c.aJ=0:=by
 have:=h.e1;rw[(Kl.dG a).1]at this;exact Ac.bi.2 (Ac.kj this).2.1
structure C0 (first:List It) (log:List Sv.En) (k:Nat) (v:Vw):Prop where
 rc:Kl.Rc v.c
 rev:v.c.rev.toNat<=log.length
 base:Sv.cS first (log.take v.c.rev.toNat)=v.c.base
 un:v.u.length<=30
 dn:v.d.length<=90
 uo:∀ m ∈ v.u,Ac.gC m.e.o=0/\m.e.seq<=v.c.seq
 dO:∀ m ∈ v.d,kx m=true->Ac.gC m.e.o=0
 off:v.c.jo=false->v.u=[]/\v.d=[]
 on:v.c.jo=true->v.d.filter kx=news log v.c.rev.toNat
 low:∀ e ∈ log,e.aR=k->e.seq<=v.c.seq
 old:0<v.c.aJ.length->∀ e ∈ log.take v.c.rev.toNat,¬ (e.aR=k/\e.seq=v.c.seq)
def re (log:List Sv.En) (k:Nat) (v:Vw):Prop :=
 v.c.jo=true->0<v.c.aJ.length->(∃ m ∈ v.u,m.e.seq=v.c.seq)\/(∃ e ∈ log,e.aR=k/\e.seq=v.c.seq)\/(∃ m ∈ v.d,kx m=false/\m.e.aR=k/\m.e.seq=v.c.seq)
structure CI (first:List It) (log:List Sv.En) (k:Nat) (v:Vw):Prop where
 c0:C0 first log k v
 cu:re log k v
theorem C0.cut{first:List It}{a:List Sv.En}{k:Nat}{v:Vw}(h:C0 first a k v):CI first a k (oq v):=
 ⟨⟨Ba h.rc false,h.rev,h.base,VN _,VN _,(fun m b=>by cases b),(fun m b=>by cases b),fun _=>⟨rfl,rfl⟩,(fun e=>by cases e),h.low,h.old⟩,fun e=>by cases e⟩
theorem C0.up{first:List It}{b:List Sv.En}{k:Nat}{v:Vw}(h:C0 first b k v):CI first b k (vP k v):=by
 unfold vP;by_cases g:v.c.jo=false\/v.c.aJ.length=0
 ·rw[VC g];refine⟨h,fun e c=>?_⟩
  rcases g with g|g
  ·rw[g]at e;cases e
  ·omega
 rw[VD g];by_cases d:30<=v.u.length
 ·rw[VC d];exact h.cut
 rw[VD d];have c:0<v.c.aJ.length:=by
  rcases XX v.c.aJ.length with e|e
  ·exact absurd (.inr e) g
  ·exact e
 refine⟨⟨h.rc,h.rev,h.base,?_,h.dn,?_,h.dO,fun e=>absurd (.inl e) g,h.on,h.low,h.old⟩,fun _ _=>.inl ⟨_,List.mem_append_right _ (UY.2 rfl),rfl⟩⟩
 ·show(v.u++_).length<=30
  rw[VI];show _+1<=30
  omega
 ·intro m a;rcases VW.1 a with a|a
  ·exact h.uo m a
  ·rw[UY.1 a];exact⟨F0 h.rc c,XV _⟩
theorem CI.ups{first:List It}{a:List Sv.En}{k:Nat}{v:Vw}{b:Bool}(h:C0 first a k v)(c:b=false->re a k v):CI first a k (tK k b v):=by
 unfold tK
 cases b
 ·rw[VD WB];exact⟨h,c rfl⟩
 ·rw[VC rfl];exact h.up
theorem CI.refuse{first:List It}{b:List Sv.En}{k:Nat}{v:Vw}(h:C0 first b k v)(q:Int)(l:v.c.jo=true->0<v.c.aJ.length->v.c.seq≠q->(∃m∈v.u,m.e.seq=v.c.seq)\/(∃e∈b,e.aR=k/\e.seq=v.c.seq)\/(∃m∈v.d,kx m=false/\m.e.aR=k/\m.e.seq=v.c.seq)):
  CI first b k (bb ⟨0,⟨k,q,[]⟩⟩ v):=by
 unfold bb;by_cases g:v.c.jo=false
 ·rw[VC g];exact⟨h,fun e=>by rw[g]at e;cases e⟩
 rw[VD g];by_cases f:90<=v.d.length
 ·rw[VC f];exact h.cut
 rw[VD f];refine⟨⟨h.rc,h.rev,h.base,h.un,?_,h.uo,?_,fun e=>absurd e g,fun e=>?_,h.low,h.old⟩,fun e i=>?_⟩
 ·show(v.d++_).length<=90
  rw[VI];show _+1<=90
  omega
 ·intro m a c;rcases VW.1 a with a|a
  ·exact h.dO m a c
  ·rw[UY.1 a]at c
   cases c
 ·show(v.d++_).filter kx=_
  rw[List.filter_append,h.on e];show _++[]=_
  rw[VY]
 ·by_cases d:v.c.seq=q
  ·exact .inr (.inr ⟨_,List.mem_append_right _ (UY.2 rfl),rfl,rfl,d.symm⟩)
  ·rcases l e i d with x|x|⟨m,a,x⟩
   ·exact .inl x
   ·exact .inr (.inl x)
   ·exact .inr (.inr ⟨m,List.mem_append_left _ a,x⟩)
theorem CI.news {first:List It} {log:List Sv.En} {k:Nat} {v:Vw} (h:C0 first log k v) (x:Sv.En) (hx:Ac.gC x.o=0) (hlow:x.aR=k->x.seq<=v.c.seq)
  (hf:v.c.jo=true->0<v.c.aJ.length->¬ (x.aR=k/\x.seq=v.c.seq)->(∃ m ∈ v.u,m.e.seq=v.c.seq)\/(∃ e ∈ log,e.aR=k/\e.seq=v.c.seq)\/(∃ m ∈ v.d,kx m=false/\m.e.aR=k/\m.e.seq=v.c.seq)) :
  CI first (log++[x]) k (bb ⟨((log.length+1:Nat):Int),x⟩ v):=by
 have ht:(log++[x]).take v.c.rev.toNat=log.take v.c.rev.toNat:=List.take_append_of_le_length h.rev;have hlw:∀ e ∈ log++[x],e.aR=k->e.seq<=v.c.seq:=fun e he=>by
  rcases VW.1 he with he | he
  ·exact h.low e he
  ·rw[UY.1 he];exact hlow
 have hrev:v.c.rev.toNat<=(log++[x]).length:=by rw[VI];have:=h.rev;omega
 unfold bb;by_cases g:v.c.jo=false
 ·rw[VC g];exact ⟨⟨h.rc,hrev,by rw[ht];exact h.base,h.un,h.dn,h.uo,h.dO,h.off,(fun e=>by rw[g] at e;cases e),hlw,fun hs e he=>h.old hs e (by rw[ht] at he;exact he)⟩,fun e=>by rw[g] at e;cases e⟩
 rw[VD g];by_cases g2:90<=v.d.length
 ·rw[VC g2];exact ⟨⟨Ba h.rc false,hrev,by show Sv.cS first ((log++[x]).take v.c.rev.toNat)=_;rw[ht];exact h.base,VN _,VN _,(fun m hm=>by cases hm),(fun m hm=>by cases hm),fun _=>⟨rfl,rfl⟩,(fun e=>by cases e),hlw,fun hs e he=>h.old hs e (by rw[<- ht];exact he)⟩,fun e=>by cases e⟩
 rw[VD g2];refine ⟨⟨h.rc,hrev,by show Sv.cS first ((log++[x]).take v.c.rev.toNat)=_;rw[ht];exact h.base,h.un,?_,h.uo,?_,fun e=>absurd e g,fun e=>?_,hlw,fun hs e he=>h.old hs e (by rw[<- ht];exact he)⟩,fun e hs=>?_⟩
 ·show (v.d++_).length<=90
  rw[VI];show _+1<=90
  omega
 ·intro m hm hE;rcases VW.1 hm with hm | hm
  ·exact h.dO m hm hE
  ·rw[UY.1 hm];exact hx
 ·show (v.d++[_]).filter kx=Wo.news (log++[x]) v.c.rev.toNat
  rw[List.filter_append,h.on e,wh _ _ _ h.rev,filter_all (fun m hm=>by rw[UY.1 hm];exact WL (Kl.mL hx))]
 ·by_cases hq:x.aR=k/\x.seq=v.c.seq
  ·exact .inr (.inl ⟨x,List.mem_append_right _ (UY.2 rfl),hq⟩)
  ·rcases hf e hs hq with y | ⟨m,hm,y⟩ | ⟨m,hm,y⟩
   ·exact .inl y
   ·exact .inr (.inl ⟨m,List.mem_append_left _ hm,y⟩)
   ·exact .inr (.inr ⟨m,List.mem_append_left _ hm,y⟩)
theorem CI.TH {first:List It} {log:List Sv.En} {k:Nat} {v:Vw} (h:CI first log k v) (o:List Ac.Pt) (hE:Kl.vM v.c o=0):CI first log k (Bl k v o):=by
 have hc:=h.c0.rc.e0;have hd:Kl.iR v.c o=0:=by unfold Kl.vM at hE;rw[VC hc] at hE;exact hE
 have eC:Kl.JL v.c o=Kl.kH v.c o:=VC hE;have eS:Kl.Mm v.c o=Kl.OL v.c:=VC hE;obtain ⟨r1,r2,r3,r4,r5,r6⟩:=Kl.PJ h.c0.rc hd;obtain ⟨s1,s2⟩:=Kl.OK hd;have hq:v.c.seq<=(Kl.kH v.c o).seq/\(v.c.aJ.length=0->(Kl.kH v.c o).seq=v.c.seq+1):=by
  by_cases g:v.c.aJ.length=0
  ·have e:(Kl.kH v.c o).seq=v.c.seq+1:=by unfold Kl.kH;rw[VC g]
   rw[e];exact ⟨by omega,fun _=>rfl⟩
  ·rw[(s2 (by omega)).2.1];exact ⟨XV _,fun e=>absurd e g⟩
 unfold Bl;rw[eC,eS];refine CI.ups ⟨r1,by show (Kl.kH v.c o).rev.toNat<=_;rw[r5];exact h.c0.rev,by show Sv.cS first (log.take (Kl.kH v.c o).rev.toNat)=(Kl.kH v.c o).base;rw[r5,r4];exact h.c0.base,h.c0.un,h.c0.dn,fun m hm=>⟨(h.c0.uo m hm).1,Int.le_trans (h.c0.uo m hm).2 hq.1⟩,h.c0.dO,(fun e=>h.c0.off (by rw[<- r6];exact e)),(fun e=>by show _=Wo.news log (Kl.kH v.c o).rev.toNat;rw[r5];exact h.c0.on (by rw[<- r6];exact e)),(fun e he hw=>Int.le_trans (h.c0.low e he hw) hq.1),fun _ e he=>?_⟩ (fun hb e hs=>?_)
 ·have he2:e ∈ log.take v.c.rev.toNat:=by
   have he3:e ∈ log.take (Kl.kH v.c o).rev.toNat:=he;rw[r5] at he3;exact he3
  by_cases g:v.c.aJ.length=0
  ·intro hx;have h1:=h.c0.low e (List.mem_of_mem_take he2) hx.1;have h2:e.seq=(Kl.kH v.c o).seq:=hx.2;rw[hq.2 g] at h2;omega
  ·show ¬ (_/\e.seq=(Kl.kH v.c o).seq)
   rw[(s2 (by omega)).2.1];exact h.c0.old (by omega) e he2
 ·have hb2:=of_decide_eq_false hb;have e1:v.c.jo=true:=by rw[<- r6];exact e
  have:=h.cu e1 (by omega);show (∃ m ∈ v.u,m.e.seq=(Kl.kH v.c o).seq)\/(∃ e ∈ log,e.aR=k/\e.seq=(Kl.kH v.c o).seq)\/(∃ m ∈ v.d,kx m=false/\m.e.aR=k/\m.e.seq=(Kl.kH v.c o).seq)
  rw[(s2 (by omega)).2.1];exact this
theorem wE:∀(a:List Mg)(v:Vw),v.c.jo=true->v.d.length+a.length<=90->a.foldl (fun v m=>bb m v) v=⟨v.c,v.u,v.d++a⟩
 |[],v,_,_=>by rw[VY];rfl
 |m::a,v,h,b=>by
  rw[VG]at b;have e:bb m v=⟨v.c,v.u,v.d++[m]⟩:=by
   unfold bb;rw[VD (by rw[h];exact Bool.noConfusion),VD (by omega)]
  show a.foldl _ (bb m v)=_
  rw[e,wE a ⟨v.c,v.u,v.d++[m]⟩ h (by show(v.d++[m]).length+_<=90;rw[VI];show v.d.length+1+_<=90;omega)];show Vw.mk _ _ (v.d++[m]++a)=_
  rw[VT];rfl
theorem CI.O7{first:List It}{a:List Sv.En}{k:Nat}{v:Vw}(h:CI first a k v)(n:a.length<=60)(c:Sv.dQ a=0)(i:v.c.jo=false):
  CI first a k (JS k a v)/\JS k a v=vP k ⟨jo v.c true,[],Wo.news a v.c.rev.toNat⟩:=by
 obtain⟨l,g⟩:=h.c0.off i;have d:=qD a v.c.rev.toNat;have e:JS k a v=vP k ⟨jo v.c true,[],Wo.news a v.c.rev.toNat⟩:=by
  unfold JS;rw[wE _ ⟨jo v.c true,v.u,v.d⟩ rfl (by show v.d.length+_<=90;rw[g,d];show 0+_<=90;omega)];show vP k ⟨_,v.u,v.d++_⟩=_
  rw[l,g];rfl
 refine⟨?_,e⟩
 rw[e];have f:=Nb c v.c.rev.toNat;exact C0.up ⟨Ba h.c0.rc true,h.c0.rev,h.c0.base,VN _,by show(Wo.news a _).length<=90;rw[d];omega,(fun m b=>by cases b),fun m b _=>f m b,(fun e=>by cases e),fun _=>filter_all (fun m b=>RF (f m b)),h.c0.low,h.c0.old⟩
end Wo
structure Ix (w:World) (v:WV) (n k gc gu gd:Nat) (sc su sd:List Value) (c:CV) (q r:QV):Prop where
 ca:v.ca=some ⟨gc,0,none⟩
 ua:v.ua=some ⟨gu,0,none⟩
 da:v.da=some ⟨gd,0,none⟩
 bc:Blk w gc (bB v.cs++sc) 41
 bu:Blk w gu (ak v.up++su) 53
 bd:Blk w gd (ak v.down++sd) 53
 c:v.cs[k]?=some c
 q:v.up[k]?=some q
 r:v.down[k]?=some r
 cn:v.cn=n
 un:v.un=n
 dn:v.dn=n
 lc:n<=v.cc/\v.cc<=9223372036854775807
 lu:n<=v.uc/\v.uc<=9223372036854775807
 ld:n<=v.dc/\v.dc<=9223372036854775807
theorem eR.Sh{B X:Nat}{w:World}{b:Nat}{v:WV}(h:eR B X w b v){n:Nat}(a:Wo.gi v.w n):v.cn=n/\v.un=n/\v.dn=n:=by
 obtain⟨g,f,e⟩:=h.lens;have d:(v.cs.map CV.cl).length=n:=a.c;have c:(v.up.map QV.eV).length=n:=a.u;have e3:(v.down.map QV.eV).length=n:=a.d;rw[VH]at d c e3;omega
theorem eR.at{B X:Nat}{w:World}{b:Nat}{v:WV}(h:eR B X w b v){n k:Nat}(p:Wo.gi v.w n)(G:k<n):∃i f g e a d c q r,Ix w v n k i f g e a d c q r:=by
 obtain⟨F,E,D⟩:=h.lens;obtain⟨t,s,e3⟩:=h.Sh p;obtain⟨i,e,C,y,_,_,x1,o⟩:=h.cr.aM (by omega);obtain⟨f,a,A,x,_,_,x2,m⟩:=h.ur.aM (by omega);obtain⟨g,d,z,u,_,_,x3,l⟩:=h.dr.aM (by omega);unfold maxLen at o m l;exact⟨i,f,g,e,a,d,_,_,_,C,A,z,y,x,u,VM (by omega),VM (by omega),VM (by omega),t,s,e3,⟨by omega,o⟩,⟨by omega,m⟩,⟨by omega,l⟩⟩
theorem get_at{α:Type}{f:α->List Value}{s:Nat}(c:∀x,(f x).length=s){l:List α}{sp:List Value}{k:Nat}{x:α}(d:l[k]?=some x)(j:Nat)(g:j<s):(l.flatMap f++sp)[k*s+j]?=(f x)[j]?:=by
 obtain⟨b,e⟩:=VO.1 d;have a:k*s+j<(l.flatMap f).length:=by
  rw[il f s c];have:(k+1)*s<=l.length*s:=Nat.mul_le_mul_right _ b;rw[Nat.add_mul]at this;omega
 rw[List.getElem?_append_left a,Lp f s c l k b j g,e]
theorem Ix.cell{w:World}{v:WV}{n k a i l:Nat}{e b d:List Value}{c:CV}{q r:QV}(h:Ix w v n k a i l e b d c q r)(j:Nat)(g:j<7):w.cell? ⟨a,k*7+j,none⟩=(fS c)[j]?:=by
 rw[h.bc.cell];exact get_at (f:=fS) (s:=7) (fun _=>rfl) h.c j g
theorem Ix.Fh{w:World}{v:WV}{n k i b g:Nat}{e a d:List Value}{c:CV}{q r:QV}(h:Ix w v n k i b g e a d c q r):w.cell? ⟨b,k,none⟩=some (.slice q.a q.n q.cap):=by
 have:=get_at (f:=tt) (s:=1) (sp:=a) (fun _=>rfl) h.q 0 (by decide);rw[Nat.mul_one,Nat.add_zero]at this;rw[h.bu.cell];exact this
theorem Ix.Fi{w:World}{v:WV}{n k i g b:Nat}{e d a:List Value}{c:CV}{q r:QV}(h:Ix w v n k i g b e d a c q r):w.cell? ⟨b,k,none⟩=some (.slice r.a r.n r.cap):=by
 have:=get_at (f:=tt) (s:=1) (sp:=a) (fun _=>rfl) h.r 0 (by decide);rw[Nat.mul_one,Nat.add_zero]at this;rw[h.bd.cell];exact this
theorem Ix.Ov{B X:Nat}{w:World}{b:Nat}{v:WV}{n k d C D:Nat}{m u z:List Value}{c:CV}{q r:QV}(l:eR B X w b v)(h:Ix w v n k d C D m u z c q r)(x:Bool):
  eR B X (w.setCell ⟨d,k*7+6,none⟩ (.bool x)) b {v with cs:=v.cs.set k {c with jo:=x}}/\Ix (w.setCell ⟨d,k*7+6,none⟩ (.bool x)) {v with cs:=v.cs.set k {c with jo:=x}} n k d C D m u z {c with jo:=x} q r:=by
 obtain⟨o,e⟩:=VO.1 h.c;have p:k*7+6<(bB v.cs).length:=by rw[mK];omega
 have A:Blk (w.setCell ⟨d,k*7+6,none⟩ (.bool x)) d (bB (v.cs.set k {c with jo:=x})++m) 41:=by
  have:=h.bc.set (k*7+6) (.bool x);rw[List.set_append_left _ _ p]at this;unfold bB at this;rw[Dd fS 7 (fun _=>rfl) {c with jo:=x} 6 (.bool x) (by decide) v.cs k o (by rw[e];rfl)]at this;exact this
 have f:=aP w d (k*7+6) (.bool x);have a:=l.cl c (e▸WT o);have i:∀s y,s≠1->bk b v s=some y->y∉[d]:=fun s y F e E=>F (l.dj s 1 y e (by rw[UY.1 E];show v.ca.map _=_;rw[h.ca];rfl));refine⟨l.SP h.ca h.bc f _ (List.length_set ..) A (fun G t=>?_),h.ca,h.ua,h.da,A,f.aM h.bu (i 2 _ (by decide) (by show v.ua.map _=_;rw[h.ua];rfl)),f.aM h.bd (i 3 _ (by decide) (by show v.da.map _=_;rw[h.da];rfl)),?_,h.q,h.r,h.cn,h.un,h.dn,h.lc,h.lu,h.ld⟩
 ·rcases List.mem_or_eq_of_mem_set t with g|g
  ·exact l.cl G g
  ·rw[g];exact⟨a.base,a.now,a.aJ,a.held⟩
 ·show(v.cs.set k _)[k]?=_
  rw[XB,VC rfl,VC o]
theorem rF{l:List QV}{sp:List Value}{k:Nat}(a:k<l.length)(q:QV):(ak l++sp).set k (.slice q.a q.n q.cap)=ak (l.set k q)++sp:=by
 rw[List.set_append_left _ _ (by rw[kr];exact a)];have:=Dd tt 1 (fun _=>rfl) q 0 (.slice q.a q.n q.cap) (by decide) l k a rfl;rw[Nat.mul_one,Nat.add_zero]at this;unfold ak;rw[this]
theorem zm(w:World):qp w ⟨none,0,0,[]⟩:=⟨Row.nil w 4,fun m a=>by cases a⟩
theorem Ix.noU{B X:Nat}{w:World}{b:Nat}{v:WV}{n k z a u:Nat}{m g l:List Value}{c:CV}{q r:QV}(p:eR B X w b v)(h:Ix w v n k z a u m g l c q r):
  eR B X (w.setCell ⟨a,k,none⟩ (.slice none 0 0)) b {v with up:=v.up.set k ⟨none,0,0,[]⟩}/\Ix (w.setCell ⟨a,k,none⟩ (.slice none 0 0)) {v with up:=v.up.set k ⟨none,0,0,[]⟩} n k z a u m g l c ⟨none,0,0,[]⟩ r:=by
 obtain⟨i,e⟩:=VO.1 h.q;have t:Blk (w.setCell ⟨a,k,none⟩ (.slice none 0 0)) a (ak (v.up.set k ⟨none,0,0,[]⟩)++g) 53:=by
  have:=h.bu.set k (.slice none 0 0);rw[rF i ⟨none,0,0,[]⟩]at this;exact this
 have d:=aP w a k (.slice none 0 0);have o:bk b v 2=some a:=by show v.ua.map _=_;rw[h.ua];rfl
 have f:∀s y,s≠2->bk b v s=some y->y∉[a]:=fun s y D e A=>D (p.dj s 2 y e (by rw[UY.1 A];exact o));refine⟨p.QD i h.ua h.bu [a] (fun x C=>.inl (by rw[UY.1 C];exact o)) d ⟨none,0,0,[]⟩ t (zm _) (fun _=>bj.nil _ _ _) (.inl rfl) (fun E e=>by cases e),h.ca,h.ua,h.da,d.aM h.bc (f 1 _ (by decide) (by show v.ca.map _=_;rw[h.ca];rfl)),t,d.aM h.bd (f 3 _ (by decide) (by show v.da.map _=_;rw[h.da];rfl)),h.c,?_,h.r,h.cn,h.un,h.dn,h.lc,h.lu,h.ld⟩
 show(v.up.set k _)[k]?=_
 rw[XB,VC rfl,VC i]
theorem Ix.noD{B X:Nat}{w:World}{b:Nat}{v:WV}{n k z u a:Nat}{m l g:List Value}{c:CV}{q r:QV}(p:eR B X w b v)(h:Ix w v n k z u a m l g c q r):
  eR B X (w.setCell ⟨a,k,none⟩ (.slice none 0 0)) b {v with down:=v.down.set k ⟨none,0,0,[]⟩}/\Ix (w.setCell ⟨a,k,none⟩ (.slice none 0 0)) {v with down:=v.down.set k ⟨none,0,0,[]⟩} n k z u a m l g c q ⟨none,0,0,[]⟩:=by
 obtain⟨i,e⟩:=VO.1 h.r;have t:Blk (w.setCell ⟨a,k,none⟩ (.slice none 0 0)) a (ak (v.down.set k ⟨none,0,0,[]⟩)++g) 53:=by
  have:=h.bd.set k (.slice none 0 0);rw[rF i ⟨none,0,0,[]⟩]at this;exact this
 have d:=aP w a k (.slice none 0 0);have o:bk b v 3=some a:=by show v.da.map _=_;rw[h.da];rfl
 have f:∀s y,s≠3->bk b v s=some y->y∉[a]:=fun s y D e A=>D (p.dj s 3 y e (by rw[UY.1 A];exact o));refine⟨p.QE i h.da h.bd [a] (fun x C=>.inl (by rw[UY.1 C];exact o)) d ⟨none,0,0,[]⟩ t (zm _) (fun _=>bj.nil _ _ _) (.inl rfl) (fun E e=>by cases e),h.ca,h.ua,h.da,d.aM h.bc (f 1 _ (by decide) (by show v.ca.map _=_;rw[h.ca];rfl)),d.aM h.bu (f 2 _ (by decide) (by show v.ua.map _=_;rw[h.ua];rfl)),t,h.c,h.q,?_,h.cn,h.un,h.dn,h.lc,h.lu,h.ld⟩
 show(v.down.set k _)[k]?=_
 rw[XB,VC rfl,VC i]
theorem Ix.cl{w:World}{v:WV}{n k g e f:Nat}{d a b:List Value}{c:CV}{q r:QV}(h:Ix w v n k g e f d a b c q r):Wo.vw v.w k=⟨c.cl,q.eV,r.eV⟩:=by
 show Wo.Vw.mk ((v.cs.map CV.cl).getD k Kl.none) ((v.up.map QV.eV).getD k []) ((v.down.map QV.eV).getD k [])=_
 rw[WM,WM,WM,List.getElem?_map,List.getElem?_map,List.getElem?_map,h.c,h.q,h.r];rfl
theorem Ix.p3{B X:Nat}{w:World}{b:Nat}{v:WV}{n k d i l:Nat}{g e f:List Value}{c:CV}{q r:QV}(a:Ix w v n k d i l g e f c q r)(h:eR B X w b v):w.cell? ⟨b,3,none⟩=some (.slice (some ⟨d,0,none⟩) n v.cc):=by have:=h.aM.cell 3;rw[this];show some (Value.slice v.ca v.cn v.cc)=_;rw[a.ca,a.cn]
theorem Ix.p4{B X:Nat}{w:World}{b:Nat}{v:WV}{n k l d i:Nat}{g e f:List Value}{c:CV}{q r:QV}(a:Ix w v n k l d i g e f c q r)(h:eR B X w b v):w.cell? ⟨b,4,none⟩=some (.slice (some ⟨d,0,none⟩) n v.uc):=by have:=h.aM.cell 4;rw[this];show some (Value.slice v.ua v.un v.uc)=_;rw[a.ua,a.un]
theorem Ix.p5{B X:Nat}{w:World}{b:Nat}{v:WV}{n k l i d:Nat}{g e f:List Value}{c:CV}{q r:QV}(a:Ix w v n k l i d g e f c q r)(h:eR B X w b v):w.cell? ⟨b,5,none⟩=some (.slice (some ⟨d,0,none⟩) n v.dc):=by have:=h.aM.cell 5;rw[this];show some (Value.slice v.da v.dn v.dc)=_;rw[a.da,a.dn]
theorem Fk{b:Nat}{v:WV}{k:Nat}(d:k<v.up.length)(q:QV)(s:Nat):bk b {v with up:=v.up.set k q} s=if s=2*k+5 then q.a.map (·.block)else bk b v s:=by
 by_cases a:s=2*k+5
 ·rw[VC a,a,BI];show((v.up.set k q)[k]?).bind _=_
  rw[XB,VC rfl,VC d];rfl
 ·rw[VD a];match s,a with
  |0,_=>rfl
  |1,_=>rfl
  |2,_=>rfl
  |3,_=>rfl
  |4,_=>rfl
  |j+5,a=>
   show(if j%2=0 then((v.up.set k q)[j/2]?).bind _ else _)=(if j%2=0 then(v.up[j/2]?).bind _ else _)
   by_cases c:j%2=0
   ·rw[VC c,VC c,XB,VD (by omega)]
   ·rw[VD c,VD c]
theorem Fl{b:Nat}{v:WV}{k:Nat}(d:k<v.down.length)(q:QV)(s:Nat):bk b {v with down:=v.down.set k q} s=if s=2*k+6 then q.a.map (·.block)else bk b v s:=by
 by_cases a:s=2*k+6
 ·rw[VC a,a,BJ];show((v.down.set k q)[k]?).bind _=_
  rw[XB,VC rfl,VC d];rfl
 ·rw[VD a];match s,a with
  |0,_=>rfl
  |1,_=>rfl
  |2,_=>rfl
  |3,_=>rfl
  |4,_=>rfl
  |j+5,a=>
   show(if j%2=0 then _ else((v.down.set k q)[j/2]?).bind _)=(if j%2=0 then _ else(v.down[j/2]?).bind _)
   by_cases c:j%2=0
   ·rw[VC c,VC c]
   ·rw[VD c,VD c,XB,VD (by omega)]
theorem Fm{b:Nat}{v:WV}(cs:List CV)(s:Nat):bk b {v with cs:=cs} s=bk b v s:=by
 match s with
 |0=>rfl
 |1=>rfl
 |2=>rfl
 |3=>rfl
 |4=>rfl
 |k+5=>rfl
structure Fr (b:Nat) (v v':WV) (w w':World):Prop where
 same:∀ x,x<w.heap.size->(∀ s,bk b v s≠some x)->w'.heap[x]?=w.heap[x]?
 DK:∀ s x,bk b v' s=some x->(∃ t,bk b v t=some x)\/w.heap.size<=x
 size:w.heap.size<=w'.heap.size
 text:∀ x,x<w.heap.size->¬ NT w x->w'.heap[x]?=w.heap[x]?
theorem Fr.below{b:Nat}{v:WV}{w w':World}(h:Below w.heap.size w w'):Fr b v v w w':=⟨fun x a _=>h.block x a,fun s _ e=>.inl ⟨s,e⟩,h.size,fun x a _=>h.block x a⟩
theorem NT.same{w w':World}{x:Nat}(h:w'.heap[x]?=w.heap[x]?)(c:NT w' x):NT w x:=fun j u b=>c j u ((WC (w:=w) (a:=⟨x,j,none⟩) h).trans b)
theorem Fr.trans{b:Nat}{v l k:WV}{w i f:World}(h:Fr b v l w i)(g:Fr b l k i f):Fr b v k w f:=by
 refine⟨fun x a c=>(g.same x (WJ a h.size) (fun s e=>?_)).trans (h.same x a c),fun s x e=>?_,VX h.size g.size,fun x a c=>(g.text x (WJ a h.size) (fun m=>c (NT.same (h.text x a c) m))).trans (h.text x a c)⟩
 ·rcases h.DK s x e with⟨t,d⟩|d
  ·exact c t d
  ·omega
 ·rcases g.DK s x e with⟨t,d⟩|d
  ·exact h.DK t x d
  ·exact .inr (VX h.size d)
theorem Fr.cell{b:Nat}{v c:WV}{w w':World}(h:Fr b v c w w'){g j:Nat}{u:Value}(a:w.cell? ⟨g,j,none⟩=some u)(d:∀s,bk b v s≠some g):w'.cell? ⟨g,j,none⟩=some u:=
 (WC (w:=w) (h.same g (WW _ _ a) d)).trans a
theorem Row.text{b:Nat}{v m:WV}{w w':World}(h:Fr b v m w w'){i:Option Addr}{n d sz:Nat}{cs:List Value}(f:Row w i n d sz cs)(p:∀k:Addr,n≠0->i=some k->k.block<w.heap.size/\¬NT w k.block):Row w' i n d sz cs:=
 ⟨f.len,f.room,f.fg,fun l=>by
  obtain⟨g,c,e,q⟩:=f.bH l;obtain⟨s,r⟩:=p _ l e;exact⟨g,c,e,fun j u o=>(WC (w:=w) (a:=⟨g,c+j,none⟩) (h.text g s r)).trans (q j u o)⟩⟩
theorem cy.text{b:Nat}{v k:WV}{w w':World}(h:Fr b v k w w'){a:Option Addr}{n c:Nat}{l:List It}(d:cy w a n c l):cy w' a n c l:=
 bT ((jc d).text h (fun r p e=>by
  obtain⟨g,q,i,o⟩:=d.bH p;rw[e]at i
  cases i
  have f:=o.c 0 (by rw[d.len];omega);exact⟨WW _ _ f,fun m=>m.ne f rfl rfl⟩)) d.fit
theorem ae.text{b:Nat}{v q:WV}{w w':World}(h:Fr b v q w w'){a:Option Addr}{n c:Nat}{k:List PV}(f:ae w a n c k):ae w' a n c k:=
 ⟨f.row.text h (fun x o e=>by
  obtain⟨g,t,p,s⟩:=f.row.bH o;rw[e]at p
  cases p
  have d:=f.len;match k,d with
  |[],d=>exact absurd d.symm o
  |y::k,_=>
   have i:=s 6 (.string y.link) rfl;have l:g<w.heap.size:=WW _ _ i;exact⟨l,fun r=>r.ne i rfl rfl⟩),fun u m=>⟨(f.iE u m).jd.text h,(f.iE u m).fit⟩⟩
theorem Fr.off{b:Nat}{v a:WV}{w w':World}(h:Fr b v a w w'){g:Nat}(f:g<w.heap.size)(d:∀s,bk b v s≠some g):∀s,bk b a s≠some g:=fun s e=>by
 rcases h.DK s g e with⟨t,c⟩|c
 ·exact d t c
 ·omega
theorem Fr.set{b:Nat}{v d:WV}{w w':World}(h:Fr b v d w w'){g:Nat}(j:Nat)(u:Value)(f:∃s,bk b v s=some g)(i:NT w g):Fr b v d w (w'.setCell ⟨g,j,none⟩ u):=
 ⟨fun x c a=>(XN w' ⟨g,j,none⟩ u x (fun e=>by obtain⟨s,k⟩:=f;have e3:x=g:=e;exact a s (by rw[e3];exact k))).trans (h.same x c a),h.DK,by rw[World.size_setCell];exact h.size,fun x c a=>(XN w' ⟨g,j,none⟩ u x (fun e=>a (by have e3:x=g:=e;rw[e3];exact i))).trans (h.text x c a)⟩
theorem Fr.drew{b:Nat}{v a:WV}{w w':World}(h:Fr b v a w w'):Fr b v a w w'.drew:=⟨h.same,h.DK,h.size,h.text⟩
theorem Fr.less{b:Nat}{v c a:WV}{w w':World}(h:Fr b v c w w')(d:∀s x,bk b a s=some x->bk b c s=some x):Fr b v a w w':=⟨h.same,fun s x e=>h.DK s x (d s x e),h.size,h.text⟩
theorem RD{v:WV}{n k g e f:Nat}{w:World}{d a b:List Value}{c:CV}{q r:QV}(h:Ix w v n k g e f d a b c q r):WV.w {v with cs:=v.cs.set k {c with jo:=false},up:=v.up.set k ⟨none,0,0,[]⟩,down:=v.down.set k ⟨none,0,0,[]⟩}=Wo.put v.w k (Wo.oq (Wo.vw v.w k)):=by
 rw[h.cl];show Wo.W.mk _ ((v.cs.set k _).map CV.cl) ((v.up.set k _).map QV.eV) ((v.down.set k _).map QV.eV)=_
 rw[List.map_set,List.map_set,List.map_set];rfl
theorem sw(B X b n k:Nat)(v:WV)(w:World)(h:eR B X w b v)(D:Wo.gi v.w n)(J:k<n):
  Calls prog 50 #[.pointer (some ⟨b,0,none⟩),.int .i64 k] w fun e w'=>e=.returned (.tuple #[])/\(∃i,eR B X w' b i/\i.w=Wo.put v.w k (Wo.oq (Wo.vw v.w k))/\Fr b v i w w'/\i.s=v.s)/\Below B w w':=by
 obtain⟨d,f,m,U,S,T,c,q,r,a⟩:=h.at D J;have I:=a.p3 h;have L:w.cell? ⟨d,k*7+6,none⟩=some (.bool c.jo):=a.cell 6 (by decide);have K:w.frozen? ⟨d,k*7+6,none⟩=false:=a.bc.frozen _;have y:=h.lo 1 d (by show v.ca.map _=_;rw[a.ca];rfl);have u:=h.lo 2 f (by show v.ua.map _=_;rw[a.ua];rfl);have z:=h.lo 3 m (by show v.da.map _=_;rw[a.da];rfl);have M:=hId (RD a);have A:Hd (Fr b v {v with cs:=v.cs.set k {c with jo:=false},up:=v.up.set k ⟨none,0,0,[]⟩,down:=v.down.set k ⟨none,0,0,[]⟩} w (((w.setCell ⟨d,k*7+6,none⟩ (.bool false)).setCell ⟨f,k,none⟩ (.slice none 0 0)).setCell ⟨m,k,none⟩ (.slice none 0 0)).drew):=by
  refine Fr.drew (Fr.set (Fr.set (Fr.set (Fr.less (Fr.below (VE _ _)) ?_) _ _ ⟨1,by show v.ca.map _=_;rw[a.ca];rfl⟩ (h.cr.nt (by rw[a.ca];rfl))) _ _ ⟨2,by show v.ua.map _=_;rw[a.ua];rfl⟩ (h.ur.nt (by rw[a.ua];rfl))) _ _ ⟨3,by show v.da.map _=_;rw[a.da];rfl⟩ (h.dr.nt (by rw[a.da];rfl)))
  intro s x e;have p:=(Fl (b:=b) (v:={v with cs:=v.cs.set k {c with jo:=false},up:=v.up.set k ⟨none,0,0,[]⟩}) (k:=k) (VO.1 a.r).1 ⟨none,0,0,[]⟩ s).symm.trans e;by_cases H:s=2*k+6
  ·rw[VC H]at p;cases p
  rw[VD H]at p;have o:=(Fk (b:=b) (v:={v with cs:=v.cs.set k {c with jo:=false}}) (k:=k) (VO.1 a.q).1 ⟨none,0,0,[]⟩ s).symm.trans p;by_cases G:s=2*k+5
  ·rw[VC G]at o;cases o
  rw[VD G]at o;exact(Fm _ s).symm.trans o
 obtain⟨F,C⟩:=a.Ov h false;have t:=hId F;have g:=hId C;have N:Hd (Below B w (w.setCell ⟨d,k*7+6,none⟩ (.bool false))):=(VE B w).setCell y _;clear h a D F C;go_enter func50,ntmps50
 go_upto_region 1 with fail
 change Code.wp prog _ _ _ (w.setCell ⟨d,k*7+6,none⟩ (.bool false));generalize w.setCell ⟨d,k*7+6,none⟩ (.bool false)=W at*;clear I L K;have Y:=g.o.p4 t.o;have V:=g.o.p5 t.o;have c4:=g.o.Fh;have Z:W.frozen? ⟨f,k,none⟩=false:=g.o.bu.frozen _;obtain⟨E,l⟩:=g.o.noU t.o;have Q:=l.Fi;have P:(W.setCell ⟨f,k,none⟩ (.slice none 0 0)).frozen? ⟨m,k,none⟩=false:=l.bd.frozen _;have O:Hd (eR B X ((W.setCell ⟨f,k,none⟩ (.slice none 0 0)).setCell ⟨m,k,none⟩ (.slice none 0 0)) b {v with cs:=v.cs.set k {c with jo:=false},up:=v.up.set k ⟨none,0,0,[]⟩,down:=v.down.set k ⟨none,0,0,[]⟩}):=(l.noD E).1;clear E l;go_region
 all_goals
  go_wp2
  go_end0
 exact⟨rfl,⟨_,O.o.below (VE _ _).drew,M.o,A.o,rfl⟩,((N.o.setCell u _).setCell z _).drew⟩
theorem mw{P:Program}(w:World){ops:Array Oper}{o:Oper}{a:Act}{K:Act->World->Prop}{Q:Exit->Act->World->Prop}{E:Prop}(F:o.guard=none)(s x:Operand)(t:TypeId)
  (S:o.op=.call {callee:=.builtin .append,args:=#[s,x],argTypes:=#[t,t]})
  (e:TypeId)(i:TypeInfo)(z:Value)(b f:Nat)(M:P.underlying t=some (.slice e))(V:P.info? e=some i)(I:i.zero=some z)(q:i.size=b)(G:i.bytes=f)(B:z.cells.size=b)(C:ee z.cells.toList=true)
  (v:Option Addr)(n p:Nat)(xs:List Value)(N:a.eval s=.slice v n p)(y:bj w e b v n p xs)
  (A:Addr)(m c:Nat)(d:List Value)(J:a.eval x=.slice (some A) m c)(U:d.length=m*b)(r:∀j u,d[j]?=some u->w.cell? (A.add j)=some u)(Z:∀u∈d,u.oneCell'=true)(D:ee d=true)
  (T:0<m)(H:n+m<=maxLen)(l:(n+m)*f<=140737488355328)
  (h:∀g k w',bj w' e b (some ⟨g,0,none⟩) (n+m) k (xs++d)->Kept w w' (oT v)->(g=w.heap.size\/v=some ⟨g,0,none⟩)->K (a.put o.dst (.slice (some ⟨g,0,none⟩) (n+m) k)) w'):
  if Region.wanted o (yielded ops a.tmps)=true then Oper.wp P o a w K Q else E:=by
 have L:Region.wanted o (yielded ops a.tmps)=true:=by simp[Region.wanted,F]
 rw[VC L];obtain⟨g,k,w',O,Y,X,W⟩:=oY (P:=P) w t o.type e i z b f M V I q G B C v n p xs y A m c d U r Z D T H l;unfold Oper.wp execOp;simp only[S,resolve,invoke,builtin,Sem.run_bind,Sem.run_pure,Result.andThen_ok,List.map_toArray,XA,List.map_nil,N,J,O]
 exact h g k w' Y X W
theorem Tryz.LR:(prog.info? 114).map (fun i=>(i.zero,i.size,i.bytes))=some (some (.agg #[.int .i64 0,.int .i64 0,.int .i64 0,.slice none 0 0]),4,48):=by kernel_rfl
def pE:MV:=⟨0,⟨0,0,none,0,0,[]⟩⟩
theorem Ry(t:MV):(prog.info? 114).map (·.size)=some (jX t).toArray.size:=by
 have h:(prog.info? 114).map (·.size)=some 4:=by kernel_rfl
 exact h
theorem NG{b:Func}{p:Tmp}{t:MV}{w:World}{g:Nat}(h:b.results=#[.cell p 114])(a:Array Value)(c:a.getD p undef=.pointer (some ⟨g,0,none⟩))(d:Blk w g (jX t) 114):(results b a).run prog w=.ok (SX t) w:=
 results_cell_row h a w g 114 (jX t).toArray (0,0) _ c d underlying114 rfl (Ry t)
theorem zh{b:Func}{p u:Tmp}{t:MV}{c:Value}{w:World}{g:Nat}(h:b.results=#[.cell p 114,.tmp u])(a:Array Value)(e:a.getD p undef=.pointer (some ⟨g,0,none⟩))(d:a.getD u undef=c)(i:Blk w g (jX t) 114):(results b a).run prog w=.ok (.tuple #[SX t,c]) w:=by
 have f:=run_loadVar_row (P:=prog) w g 114 114 (jX t).toArray (0,0) _ i underlying114 rfl (Ry t);rw[results_cell_tmp h,e,d];simp only[asAddr,Sem.run_pure,Result.andThen_ok,f]
 rfl
def KY (w:World) (g:Nat) (t:MV):World:=(((w.setCell ⟨g,0,none⟩ (.int .i64 t.mr)).setCell ⟨g,1,none⟩ (.int .i64 t.e.aR)).setCell ⟨g,2,none⟩ (.int .i64 t.e.seq)).setCell ⟨g,3,none⟩ (.slice t.e.ao t.e.n t.e.cap)
theorem tu{w:World}{g:Nat}{x t:MV}(h:Blk w g (jX x) 114):Blk (KY w g t) g (jX t) 114:=(((h.set 0 (.int .i64 t.mr)).set 1 (.int .i64 t.e.aR)).set 2 (.int .i64 t.e.seq)).set 3 (.slice t.e.ao t.e.n t.e.cap)
theorem lI(w:World)(g:Nat)(t:MV):Kept w (KY w g t) [g]:=((((Kept.refl w [g]).setCell _ _ (.inl (by simp))).setCell _ _ (.inl (by simp))).setCell _ _ (.inl (by simp))).setCell _ _ (.inl (by simp))
theorem rT(m:MV)(w:World)(y:ae w m.e.ao m.e.n m.e.cap m.e.vs)(x:tF m.e.n m.e.vs):
  Calls prog 73 #[.agg #[.int .i64 m.mr,.int .i64 m.e.aR,.int .i64 m.e.seq,.slice m.e.ao m.e.n m.e.cap]] w fun e w'=>(∃t,e=.returned (SX t)/\ae w' t.e.ao t.e.n t.e.cap t.e.vs/\t.mg=m.mg/\t.e.n=m.e.n)/\Below w.heap.size w w':=by
 have n:Hd (Blk (aj pE (aj m w)) w.heap.size (jX m) 114):=(dE m w).alloc _;have q:Hd (Blk (aj pE (aj m w)) (w.heap.size+1) (jX pE) 114):=by have:=dE pE (aj m w);rw[mO]at this;exact this
 have o:=hId ((ay m w).trans ((ay pE _).mono (ay m w).size));have B:=hId (lS _ _ _ _ _ (y.below o.o) x);clear y x;go_enter func73,ntmps73
 go_upto_region 1 with fail
 change Code.wp prog _ _ _ (aj pE (aj m w));generalize aj pE (aj m w)=W at*;have k:=Bg n.o;go_wp2_with fail
 refine B.o.mono ?_
 rintro e g⟨⟨a,c,us,rfl,v,u⟩,l⟩;have d:Hd (Blk g w.heap.size (jX m) 114):=(l.block _ n.o.lt).trans n.o;have h:Hd (Blk g (w.heap.size+1) (jX pE) 114):=(l.block _ q.o.lt).trans q.o;have i:=hId (o.o.trans (l.mono o.o.size));have A:=hId v;have D:=hId u;clear k l v u B n q o;have k:=Bg d.o;have C:=d.o.frozen 3;go_upto_region 2 with fail
 change Code.wp prog _ _ _ (g.setCell ⟨w.heap.size,3,none⟩ (.slice a m.e.n c));have p:=aP g w.heap.size 3 (.slice a m.e.n c);have f:Hd (Blk (g.setCell ⟨w.heap.size,3,none⟩ (.slice a m.e.n c)) w.heap.size (jX ⟨m.mr,⟨m.e.aR,m.e.seq,a,m.e.n,c,us⟩⟩) 114):=d.o.set 3 _;have b:=hId (p.aM h.o (by simp));have r:=hId (A.o.gP d.o rfl p);have s:Hd (Below w.heap.size w (g.setCell ⟨w.heap.size,3,none⟩ (.slice a m.e.n c))):=i.o.setCell (UZ _) _;clear p k C d h A i;generalize g.setCell ⟨w.heap.size,3,none⟩ (.slice a m.e.n c)=z at*;have G:=f.o.c0;have F:=f.o.c1;have E:=f.o.c2;have k:=f.o.c3;have q0:=b.o.c0;have q1:=b.o.c1;have q2:=b.o.c2;have q3:=b.o.c3;have K:=b.o.frozen 0;have J:=b.o.frozen 1;have I:=b.o.frozen 2;have H:=b.o.frozen 3;go_wp2
 change bodyPost prog _ _ Exit.ret _ (KY z (w.heap.size+1) ⟨m.mr,⟨m.e.aR,m.e.seq,a,m.e.n,c,us⟩⟩);refine VL (NG (t:=⟨m.mr,⟨m.e.aR,m.e.seq,a,m.e.n,c,us⟩⟩) rfl _ rfl (tu b.o)) rfl ⟨⟨_,rfl,r.o.gP b.o rfl (lI _ _ _),?_,rfl⟩,s.o.trans (((lI z (w.heap.size+1) _).low (by have:=b.o.lt;omega)).mono (by omega))⟩
 show Wo.Mg.mk m.mr ⟨m.e.aR,m.e.seq,us.map PV.pt⟩=_
 rw[D.o];rfl
theorem Kw(t:MV):∀u∈jX t,u.oneCell'=true:=fun u a=>by
 unfold jX at a;simp only[WG,List.not_mem_nil,or_false]at a
 rcases a with rfl|rfl|rfl|rfl<;>rfl
theorem Ix.below{w w':World}{v:WV}{n k i f g:Nat}{e b d:List Value}{c:CV}{q r:QV}(h:Ix w v n k i f g e b d c q r)(a:Below w.heap.size w w'):Ix w' v n k i f g e b d c q r:=
 ⟨h.ca,h.ua,h.da,(a.block _ h.bc.lt).trans h.bc,(a.block _ h.bu.lt).trans h.bu,(a.block _ h.bd.lt).trans h.bd,h.c,h.q,h.r,h.cn,h.un,h.dn,h.lc,h.lu,h.ld⟩
theorem Ix.SL{B X:Nat}{w:World}{b:Nat}{v:WV}{n k gc i gd:Nat}{sc L sd:List Value}{c:CV}{q r:QV}(h:eR B X w b v)(o:Ix w v n k gc i gd sc L sd c q r)(W:X≠2*k+5){w':World}(A:Kept w w' (oT q.a)){g a:Nat}{t:MV}(Y:bj w' 114 4 (some ⟨g,0,none⟩) (q.n+1) a (bN q.ms++jX t))(hO:ae w' t.e.ao t.e.n t.e.cap t.e.vs)(V:g=w.heap.size\/q.a=some ⟨g,0,none⟩):
  eR B X (w'.setCell ⟨i,k,none⟩ (.slice (some ⟨g,0,none⟩) (q.n+1) a)) b {v with up:=v.up.set k ⟨some ⟨g,0,none⟩,q.n+1,a,q.ms++[t]⟩}/\w'.cell? ⟨i,k,none⟩=some (.slice q.a q.n q.cap)/\w'.frozen? ⟨i,k,none⟩=false/\∀j,w'.cell? ⟨b,j,none⟩=w.cell? ⟨b,j,none⟩:=by
 obtain⟨U,e⟩:=VO.1 o.q;have y:bk b v 2=some i:=by show v.ua.map _=_;rw[o.ua];rfl
 have l:∀x∈oT q.a,bk b v (2*k+5)=some x:=fun x d=>by
  obtain⟨Z,M,u⟩:=dI.1 d;rw[<-fP o.q,M,<-u];rfl
 have O:i∉oT q.a:=fun d=>absurd (h.dj _ _ _ (l _ d) y) (by omega);have z:=A.aM o.bu O;have a0:=h.lo 0 b rfl;have S:=h.hi 0 b rfl;have P:g<w'.heap.size:=Y.lt rfl;have p:∀s,s≠2*k+5->bk b v s≠some g:=fun s hs u=>by
  rcases V with e3|e3
  ·have:=h.hi s g u;omega
  ·exact hs (h.dj s _ g u (l g (dI.2 ⟨_,e3,rfl⟩)))
 have Q:g≠i:=fun u=>p 2 (by omega) (by rw[u];exact y);have G:=aP w' i k (.slice (some ⟨g,0,none⟩) (q.n+1) a);have K:NT w' i:=NT.of z (dB.2 ⟨zk _,by
  obtain⟨g2,N,M,H,E,_⟩:=h.ur.aM (by have:=h.lens;omega);rw[o.ua]at M
  cases M
  have C:=o.bu;unfold Blk at H C;rw[H]at C;have e4:ak v.up++N=ak v.up++L:=by simpa using C
  rw[e4]at E;exact(dB.1 E).2⟩)
 have J:=fun x d=>(h.uN k q o.q W).nt ((fP o.q).trans (l x d));have F:Kept w (w'.setCell ⟨i,k,none⟩ (.slice (some ⟨g,0,none⟩) (q.n+1) a)) (i::oT q.a):=(A.mono (fun x d=>VP _ d)).setCell _ _ (.inl (VK ..));have I:bj (w'.setCell ⟨i,k,none⟩ (.slice (some ⟨g,0,none⟩) (q.n+1) a)) 114 4 (some ⟨g,0,none⟩) (q.n+1) a (bN (q.ms++[t])):=by
  have u:bN (q.ms++[t])=bN q.ms++jX t:=by unfold bN;rw[List.flatMap_append];simp
  rw[u];exact Y.kept G (fun Z e3 d=>Q (by cases e3;exact UY.1 d))
 have T:Blk (w'.setCell ⟨i,k,none⟩ (.slice (some ⟨g,0,none⟩) (q.n+1) a)) i (ak (v.up.set k ⟨some ⟨g,0,none⟩,q.n+1,a,q.ms++[t]⟩)++L) 53:=by
  have:=z.set k (.slice (some ⟨g,0,none⟩) (q.n+1) a);rw[rF U ⟨some ⟨g,0,none⟩,q.n+1,a,q.ms++[t]⟩]at this;exact this
 refine⟨h.QD U o.ua o.bu (i::oT q.a) (fun x d=>?_) F _ T ⟨I.row,fun m D=>?_⟩ (fun _=>I) (.inl rfl) (fun Z u=>?_),?_,z.frozen k,fun j=>WC (A.block b S (fun d=>absurd (h.dj (2*k+5) 0 b (l _ d) rfl) (by omega)))⟩
 ·rcases WG.1 d with rfl|d
  ·exact .inl y
  ·exact .inr ⟨l x d,W⟩
 ·rcases VW.1 D with D|D
  ·refine((h.uq k q o.q).ops m D).aw F (fun x d=>?_)
   rcases WG.1 d with rfl|d
   ·exact h.ur.nt y
   ·exact J x d
  ·rw[UY.1 D];exact hO.aw G (fun x d=>by rw[UY.1 d];exact K)
 ·cases u
  refine⟨by rw[World.size_setCell];exact P,?_,p⟩
  rcases V with e3|e3
  ·show B<=g
   omega
  ·exact h.lo _ g (l g (dI.2 ⟨_,e3,rfl⟩))
 ·have:=get_at (f:=tt) (s:=1) (sp:=L) (fun _=>rfl) o.q 0 (by decide);rw[Nat.mul_one,Nat.add_zero]at this;rw[z.cell];exact this
theorem Ix.SM{B X:Nat}{w:World}{b:Nat}{v:WV}{n k gc gu i:Nat}{sc su L:List Value}{c:CV}{q r:QV}(h:eR B X w b v)(o:Ix w v n k gc gu i sc su L c q r)(W:X≠2*k+6){w':World}(A:Kept w w' (oT r.a)){g a:Nat}{t:MV}(Y:bj w' 114 4 (some ⟨g,0,none⟩) (r.n+1) a (bN r.ms++jX t))(hO:ae w' t.e.ao t.e.n t.e.cap t.e.vs)(V:g=w.heap.size\/r.a=some ⟨g,0,none⟩):
  eR B X (w'.setCell ⟨i,k,none⟩ (.slice (some ⟨g,0,none⟩) (r.n+1) a)) b {v with down:=v.down.set k ⟨some ⟨g,0,none⟩,r.n+1,a,r.ms++[t]⟩}/\w'.cell? ⟨i,k,none⟩=some (.slice r.a r.n r.cap)/\w'.frozen? ⟨i,k,none⟩=false/\∀j,w'.cell? ⟨b,j,none⟩=w.cell? ⟨b,j,none⟩:=by
 obtain⟨U,e⟩:=VO.1 o.r;have y:bk b v 3=some i:=by show v.da.map _=_;rw[o.da];rfl
 have l:∀x∈oT r.a,bk b v (2*k+6)=some x:=fun x d=>by
  obtain⟨Z,M,u⟩:=dI.1 d;rw[<-ei o.r,M,<-u];rfl
 have O:i∉oT r.a:=fun d=>absurd (h.dj _ _ _ (l _ d) y) (by omega);have z:=A.aM o.bd O;have a0:=h.lo 0 b rfl;have S:=h.hi 0 b rfl;have P:g<w'.heap.size:=Y.lt rfl;have p:∀s,s≠2*k+6->bk b v s≠some g:=fun s hs u=>by
  rcases V with e3|e3
  ·have:=h.hi s g u;omega
  ·exact hs (h.dj s _ g u (l g (dI.2 ⟨_,e3,rfl⟩)))
 have Q:g≠i:=fun u=>p 3 (by omega) (by rw[u];exact y);have G:=aP w' i k (.slice (some ⟨g,0,none⟩) (r.n+1) a);have K:NT w' i:=NT.of z (dB.2 ⟨zk _,by
  obtain⟨g2,N,M,H,E,_⟩:=h.dr.aM (by have:=h.lens;omega);rw[o.da]at M
  cases M
  have C:=o.bd;unfold Blk at H C;rw[H]at C;have e4:ak v.down++N=ak v.down++L:=by simpa using C
  rw[e4]at E;exact(dB.1 E).2⟩)
 have J:=fun x d=>(h.dN k r o.r W).nt ((ei o.r).trans (l x d));have F:Kept w (w'.setCell ⟨i,k,none⟩ (.slice (some ⟨g,0,none⟩) (r.n+1) a)) (i::oT r.a):=(A.mono (fun x d=>VP _ d)).setCell _ _ (.inl (VK ..));have I:bj (w'.setCell ⟨i,k,none⟩ (.slice (some ⟨g,0,none⟩) (r.n+1) a)) 114 4 (some ⟨g,0,none⟩) (r.n+1) a (bN (r.ms++[t])):=by
  have u:bN (r.ms++[t])=bN r.ms++jX t:=by unfold bN;rw[List.flatMap_append];simp
  rw[u];exact Y.kept G (fun Z e3 d=>Q (by cases e3;exact UY.1 d))
 have T:Blk (w'.setCell ⟨i,k,none⟩ (.slice (some ⟨g,0,none⟩) (r.n+1) a)) i (ak (v.down.set k ⟨some ⟨g,0,none⟩,r.n+1,a,r.ms++[t]⟩)++L) 53:=by
  have:=z.set k (.slice (some ⟨g,0,none⟩) (r.n+1) a);rw[rF U ⟨some ⟨g,0,none⟩,r.n+1,a,r.ms++[t]⟩]at this;exact this
 refine⟨h.QE U o.da o.bd (i::oT r.a) (fun x d=>?_) F _ T ⟨I.row,fun m D=>?_⟩ (fun _=>I) (.inl rfl) (fun Z u=>?_),?_,z.frozen k,fun j=>WC (A.block b S (fun d=>absurd (h.dj (2*k+6) 0 b (l _ d) rfl) (by omega)))⟩
 ·rcases WG.1 d with rfl|d
  ·exact .inl y
  ·exact .inr ⟨l x d,W⟩
 ·rcases VW.1 D with D|D
  ·refine((h.dq k r o.r).ops m D).aw F (fun x d=>?_)
   rcases WG.1 d with rfl|d
   ·exact h.dr.nt y
   ·exact J x d
  ·rw[UY.1 D];exact hO.aw G (fun x d=>by rw[UY.1 d];exact K)
 ·cases u
  refine⟨by rw[World.size_setCell];exact P,?_,p⟩
  rcases V with e3|e3
  ·show B<=g
   omega
  ·exact h.lo _ g (l g (dI.2 ⟨_,e3,rfl⟩))
 ·have:=get_at (f:=tt) (s:=1) (sp:=L) (fun _=>rfl) o.r 0 (by decide);rw[Nat.mul_one,Nat.add_zero]at this;rw[z.cell];exact this
theorem Ix.frD{B X:Nat}{w:World}{b:Nat}{v:WV}{n k G F u:Nat}{C z A:List Value}{c:CV}{q r:QV}(h:eR B X w b v)(d:Ix w v n k G F u C z A c q r)(E:X≠2*k+6){w':World}(a:Kept w w' (oT r.a)){g f:Nat}{t:MV}(D:g=w.heap.size\/r.a=some ⟨g,0,none⟩):Fr b v {v with down:=v.down.set k ⟨some ⟨g,0,none⟩,r.n+1,f,r.ms++[t]⟩} w (w'.setCell ⟨u,k,none⟩ (.slice (some ⟨g,0,none⟩) (r.n+1) f)):=by
 refine Fr.set ⟨fun x i l=>a.block x i (fun m=>?_),fun s x e=>?_,a.size,fun x i l=>a.block x i (fun m=>l ?_)⟩ _ _ ⟨3,by show v.da.map _=_;rw[d.da];rfl⟩ (h.dr.nt (by rw[d.da];rfl))
 ·obtain⟨H,p,o⟩:=dI.1 m;exact l (2*k+6) (by rw[<-ei d.r,p,<-o];rfl)
 ·rw[Fl (VO.1 d.r).1]at e;by_cases y:s=2*k+6
  ·rw[VC y]at e
   cases e
   rcases D with e3|e3
   ·exact .inr (by show w.heap.size<=g;omega)
   ·exact .inl ⟨2*k+6,by rw[<-ei d.r,e3];rfl⟩
  ·rw[VD y]at e;exact .inl ⟨s,e⟩
 ·obtain⟨H,p,o⟩:=dI.1 m;exact(h.dN k r d.r E).nt (by rw[p,<-o];rfl)
section
variable {P:Program} {ops:Array Oper} {Q:Exit->Act->World->Prop} {md:Region.Mode} {S:World->Prop} {f:Nat->Bool}
def vU (P:Program) (md:Region.Mode) (ops:Array Oper) (Q:Exit->Act->World->Prop) (S:World->Prop) (f:Nat->Bool):Nat->Array Bool->Act->World->Prop
 | 0,l,a,w=>Region.ready md ops l=[]/\Q .normal a w
 | n+1,l,a,w=>(Region.ready md ops l=[]->Q .normal a w)/\∀ i ∈ Region.ready md ops l,wpOp P ops Q i (fun b u=>(f i=true->S u)/\vU P md ops Q S f n (l.setIfInBounds i true) b u) a w
theorem Ea:∀(n:Nat)(l:Array Bool)(a:Act)(w:World),vU P md ops Q S f n l a w->wpAny P md ops Q n l a w
 |0,_,_,_,h=>h
 |n+1,_,_,_,h=>⟨h.1,fun i c=>wpOp_mono (fun b u g=>Ea n _ b u g.2) (h.2 i c)⟩
def waits (md:Region.Mode) (ops:Array Oper) (i:Nat):Nat->Nat->Bool
 | 0,_=>false
 | n+1,j=>((ops[j]?).map (fun o=>o.after.any (fun e=>Region.binds md e&&(e.on == i || waits md ops i n e.on)))).getD false
def rN (md:Region.Mode) (ops:Array Oper) (f:Nat->Bool) (i:Nat):Bool:=(List.range ops.size).all fun j=>j == i || f j || waits md ops i ops.size j
def Ep (md:Region.Mode) (ops:Array Oper) (l:Array Bool):Bool:=(List.range ops.size).all fun j=>!l.getD j false || ((ops[j]?).map (fun o=>o.after.all (fun e=>!Region.binds md e || l.getD e.on false))).getD true
def vH (md:Region.Mode) (ops:Array Oper) (l:Array Bool):Prop:=∀ j o,ops[j]?=some o->l.getD j false=true->∀ e ∈ o.after,Region.binds md e=true->l.getD e.on false=true
theorem Co{l:Array Bool}(h:Ep md ops l=true):vH md ops l:=fun j o b d e f g=>by
 have a:=XR.1 h j (XY.2 (WE.1 b).1);rw[b,d]at a;simp only[Option.map_some,Option.getD_some,Bool.not_true,Bool.false_or]at a
 have c:=Array.all_eq_true'.1 a e f;rw[g]at c;simpa using c
theorem tJ{i:Nat}{l:Array Bool}(f:vH md ops l):∀(n j:Nat),waits md ops i n j=true->(∀o,ops[j]?=some o->∀e∈o.after,Region.binds md e=true->l.getD e.on false=true)->l.getD i false=true
 |0,_,h,_=>by cases h
 |n+1,j,h,m=>by
  unfold waits at h
  cases a:ops[j]? with
  |none=>rw[a]at h;cases h
  |some o=>
   rw[a]at h;simp only[Option.map_some,Option.getD_some]at h
   obtain⟨e,k,c⟩:=Array.any_eq_true'.1 h;simp only[WD,Bool.or_eq_true,beq_iff_eq]at c
   have g:=m o a e k c.1;rcases c.2 with b|b
   ·rw[<-b];exact g
   ·exact tJ f n e.on b (fun o' d=>f e.on o' d g)
theorem AO{i:Nat}(h:rN md ops f i=true){l:Array Bool}(n:vH md ops l)(c:l.getD i true=false)(j:Nat)(o:Oper)(m:ops[j]?=some o)(k:j≠i)(p:∀e∈o.after,Region.binds md e=true->l.getD e.on false=true):f j=true:=by
 unfold rN at h;have a:=XR.1 h j (XY.2 (WE.1 m).1);simp only[Bool.or_eq_true,beq_iff_eq,k,false_or]at a
 rcases a with a|a
 ·exact a
 ·have d:=tJ n _ _ a (fun o' b=>by rw[m]at b;cases b;exact p);rcases Nat.lt_or_ge i l.size with g|g
  ·simp[g]at d c
   rw[c]at d
   cases d
  ·simp[Array.getElem?_eq_none g]at c
theorem vH.set{l:Array Bool}(h:vH md ops l){i:Nat}(m:i∈Region.ready md ops l):vH md ops (l.setIfInBounds i true):=fun j o f d e g k=>by
 refine getD_set_true ?_
 by_cases b:i=j
 ·obtain⟨_,o',a,c⟩:=mem_ready.1 m;rw[b,f]at a
  cases a
  exact c e g k
 ·rw[getD_set_ne false b]at d;exact h j o f d e g k
theorem vu{i:Nat}{oi:Oper}{v:Value}(z:ops[i]?=some oi)(F:Region.noSelect ops=true)(G:rN md ops f i=true)(L:∀c a w,Q (.panic c) (a.put oi.dst v) w->Q (.panic c) a w):
  ∀(n:Nat)(l:Array Bool)(a:Act)(w:World),vH md ops l->(∀j o,ops[j]?=some o->j≠i->l.getD j true=false->(∀e∈o.after,Region.binds md e=true->e.on≠i)->oi.apart ops o=true)->i∈Region.ready md ops l->YieldsIf P ops S oi v a->S w->
   vU P md ops Q S f n (l.setIfInBounds i true) (a.put oi.dst v) w->vU P md ops Q S f (n+1) l a w
 |n,l,a,w,J,I,q,E,K,H=>by
  refine⟨(fun h=>by rw[h]at q;cases q),fun j y=>?_⟩
  by_cases e:j=i
  ·rw[e];exact E.wpOp z K ⟨fun _=>K,H⟩
  obtain⟨D,o,m,p⟩:=mem_ready.1 y;have A:∀d∈o.after,Region.binds md d=true->d.on≠i:=fun d U V T=>by
   have r:=p d U V;have M:=(mem_ready.1 q).1;rw[T]at r;rcases Nat.lt_or_ge i l.size with g|g
   ·simp[g]at M r
    rw[M]at r
    cases r
   ·simp[Array.getElem?_eq_none g]at r
  have x:=Region.noSelect_spec F;match n,H with
  |0,H=>
   have:=ready_mono y e;rw[H.1]at this
   cases this
  |n+1,H=>
   have X:=H.2 j (ready_mono y e);have W:=wpOp_putIf m (I j o m e D A) (fun cs b=>x i oi cs b z) (fun cs b=>x j o cs b m) L E X;have Y:=AO G J (mem_ready.1 q).1 j o m e p;refine wpOp_mono (fun b u g=>⟨g.2.1,vu z F G L n (l.setIfInBounds j true) b u (J.set y) (fun k N C B s O=>?_) (ready_mono q (Ne.symm e)) g.1 (g.2.1 Y) ?_⟩) W
   ·refine I k N C B ?_ O
    by_cases t:j=k
    ·rw[<-t];exact D
    ·rw[getD_set_ne true t]at s;exact s
   ·rw[Array.setIfInBounds_comm _ _ e];exact g.2.2
theorem dW{i:Nat}{oi:Oper}{v:Value}{n:Nat}{l:Array Bool}{a:Act}{w:World}(d:ops[i]?=some oi)(g:Region.noSelect ops=true)(b:(rN md ops f i&&Ep md ops l)=true)(m:Region.free md ops l i=true)(k:(Region.ready md ops l).contains i=true)
  (p:∀c a w,Q (.panic c) (a.put oi.dst v) w->Q (.panic c) a w)(e:YieldsIf P ops S oi v a)(o:S w)(h:vU P md ops Q S f n (l.setIfInBounds i true) (a.put oi.dst v) w):vU P md ops Q S f (n+1) l a w:=
 vu d g (Bool.and_eq_true_iff.1 b).1 p n l a w (Co (Bool.and_eq_true_iff.1 b).2) (Region.free_spec d m) (by simpa using k) e o h
def Ot (md:Region.Mode) (ops:Array Oper) (f:Nat->Bool) (l:Array Bool) (i:Nat):Bool:=Region.noSelect ops&&((rN md ops f i&&Ep md ops l)&&(Region.free md ops l i&&(Region.ready md ops l).contains i))
theorem aT{i:Nat}{oi:Oper}{v:Value}{n:Nat}{l:Array Bool}{a:Act}{w:World}(e:ops[i]?=some oi)(b:Ot md ops f l i=true)(k:∀c a w,Q (.panic c) (a.put oi.dst v) w->Q (.panic c) a w)(d:YieldsIf P ops S oi v a)(g:S w)(h:vU P md ops Q S f n (l.setIfInBounds i true) (a.put oi.dst v) w):vU P md ops Q S f (n+1) l a w:=by
 unfold Ot at b;simp only[WD]at b
 exact dW e b.1 (Bool.and_eq_true_iff.2 b.2.1) b.2.2.1 b.2.2.2 k d g h
theorem ar{i:Nat}{o:Oper}{n:Nat}{l:Array Bool}{a:Act}{w:World}(b:Region.ready md ops l=[i])(e:ops[i]?=some o)
  (h:∀K:Act->World->Prop,Shut (∀a w,(f i=true->S w)->vU P md ops Q S f n (l.setIfInBounds i true) a w->K a w)->if Region.wanted o (yielded ops a.tmps)=true then Oper.wp P o a w K Q else K (a.put o.dst undef) w):vU P md ops Q S f (n+1) l a w:=
 ⟨(fun d=>by rw[b]at d;cases d),fun j c=>by
   rw[b]at c;rw[UY.1 c];exact wpOp_step e (fun K g=>h K (fun a w m k=>g a w ⟨m,k⟩))⟩
theorem sR {i j:Nat} {o o':Oper} {n:Nat} {l:Array Bool} {a:Act} {w:World} (hr:Region.ready md ops l=[i,j]) (ho:ops[i]?=some o) (ho':ops[j]?=some o')
  (h:∀ K:Act->World->Prop,Shut (∀ a w,(f i=true->S w)->vU P md ops Q S f n (l.setIfInBounds i true) a w->K a w)->if Region.wanted o (yielded ops a.tmps)=true then Oper.wp P o a w K Q else K (a.put o.dst undef) w)
  (h':∀ K:Act->World->Prop,Shut (∀ a w,(f j=true->S w)->vU P md ops Q S f n (l.setIfInBounds j true) a w->K a w)->if Region.wanted o' (yielded ops a.tmps)=true then Oper.wp P o' a w K Q else K (a.put o'.dst undef) w):vU P md ops Q S f (n+1) l a w :=
 ⟨(fun h0=>by rw[hr] at h0;cases h0),fun x hx=>by
   rw[hr] at hx;rcases WG.1 hx with rfl | hx
   ·exact wpOp_step ho (fun K hK=>h K (fun a w h1 h2=>hK a w ⟨h1,h2⟩))
   ·rw[UY.1 hx];exact wpOp_step ho' (fun K hK=>h' K (fun a w h1 h2=>hK a w ⟨h1,h2⟩))⟩
theorem et{l:Array Bool}{a:Act}{w:World}(b:Region.ready md ops l=[])(h:Q .normal a w):∀n,vU P md ops Q S f n l a w
 |0=>⟨b,h⟩
 |_+1=>⟨fun _=>h,by rw[b];simp⟩
theorem gj{b:Nat}{a:Act}{w:World}(c:P.follows .mixedOrders=true)(h:vU P .any ops Q S f ops.size (Array.replicate ops.size false) a w.drew):(Code.region b ops true).wp P Q a w:=wp_region_any c (Ea _ _ _ _ h)
end
theorem Wo.jC{w:Wo.W}{n:Nat}(h:Wo.gi w n){k:Nat}(a:k<n):Wo.put w k (Wo.vw w k)=w:=by
 have c:w.cs.set k (Wo.cl w k)=w.cs:=by
  unfold Wo.cl;rw[WM,VM (by rw[h.c];exact a)];exact List.set_getElem_self _
 have b:w.up.set k (Wo.vY w k)=w.up:=by
  unfold Wo.vY;rw[WM,VM (by rw[h.u];exact a)];exact List.set_getElem_self _
 have e3:w.dn.set k (Wo.yr w k)=w.dn:=by
  unfold Wo.yr;rw[WM,VM (by rw[h.d];exact a)];exact List.set_getElem_self _
 show Wo.W.mk w.s (w.cs.set k (Wo.cl w k)) (w.up.set k (Wo.vY w k)) (w.dn.set k (Wo.yr w k))=w
 rw[c,b,e3]
theorem WV.SK{v:WV}{n k:Nat}(b:Wo.gi v.w n)(a:k<n)(q:QV):WV.w {v with down:=v.down.set k q}=Wo.put v.w k ⟨(Wo.vw v.w k).c,(Wo.vw v.w k).u,q.eV⟩:=by
 have e:=Wo.jC b a;have d:v.w.cs.set k (Wo.vw v.w k).c=v.w.cs:=VQ Wo.W.cs e;have c:v.w.up.set k (Wo.vw v.w k).u=v.w.up:=VQ Wo.W.up e;show Wo.W.mk _ _ _ ((v.down.set k q).map QV.eV)=Wo.W.mk _ (v.w.cs.set k (Wo.vw v.w k).c) (v.w.up.set k (Wo.vw v.w k).u) _
 rw[d,c,List.map_set];rfl
theorem WV.G2{v:WV}{n k:Nat}(b:Wo.gi v.w n)(a:k<n)(q:QV):WV.w {v with up:=v.up.set k q}=Wo.put v.w k ⟨(Wo.vw v.w k).c,q.eV,(Wo.vw v.w k).d⟩:=by
 have e:=Wo.jC b a;have d:v.w.cs.set k (Wo.vw v.w k).c=v.w.cs:=VQ Wo.W.cs e;have c:v.w.dn.set k (Wo.vw v.w k).d=v.w.dn:=VQ Wo.W.dn e;show Wo.W.mk _ _ ((v.up.set k q).map QV.eV) _=Wo.W.mk _ (v.w.cs.set k (Wo.vw v.w k).c) _ (v.w.dn.set k (Wo.vw v.w k).d)
 rw[d,c,List.map_set];rfl
theorem WV.KH{v:WV}{n k:Nat}(b:Wo.gi v.w n)(a:k<n)(c:CV):WV.w {v with cs:=v.cs.set k c}=Wo.put v.w k ⟨c.cl,(Wo.vw v.w k).u,(Wo.vw v.w k).d⟩:=by
 have e:=Wo.jC b a;have f:v.w.up.set k (Wo.vw v.w k).u=v.w.up:=VQ Wo.W.up e;have d:v.w.dn.set k (Wo.vw v.w k).d=v.w.dn:=VQ Wo.W.dn e;show Wo.W.mk _ ((v.cs.set k c).map CV.cl) _ _=Wo.W.mk _ _ (v.w.up.set k (Wo.vw v.w k).u) (v.w.dn.set k (Wo.vw v.w k).d)
 rw[f,d,List.map_set];rfl
theorem Wo.l6(w:Wo.W)(k:Nat)(a b:Wo.Vw):Wo.put (Wo.put w k a) k b=Wo.put w k b:=by
 show Wo.W.mk _ ((w.cs.set k a.c).set k b.c) ((w.up.set k a.u).set k b.u) ((w.dn.set k a.d).set k b.d)=_
 rw[List.set_set,List.set_set,List.set_set];rfl
theorem yH{w:World}{q:QV}(h:qp w q):q.eV.length=q.n:=by unfold QV.eV;rw[VH];exact h.len
def PQ (b gd h n dc k:Nat) (r:QV) (m:MV) (w:World):Prop:=w.cell? ⟨b,5,none⟩=some (.slice (some ⟨gd,0,none⟩) n dc)/\w.cell? ⟨gd,k,none⟩=some (.slice r.a r.n r.cap)/\w.cell? ⟨h,0,none⟩=some (.int .i64 m.mr)/\w.cell? ⟨h,1,none⟩=some (.int .i64 m.e.aR)/\w.cell? ⟨h,2,none⟩=some (.int .i64 m.e.seq)/\w.cell? ⟨h,3,none⟩=some (.slice m.e.ao m.e.n m.e.cap)
theorem PQ.of{b c h n d k:Nat}{r:QV}{m:MV}{w w':World}(o:w.cell? ⟨b,5,none⟩=some (.slice (some ⟨c,0,none⟩) n d))(l:w.cell? ⟨c,k,none⟩=some (.slice r.a r.n r.cap))(i:w.cell? ⟨h,0,none⟩=some (.int .i64 m.mr))(g:w.cell? ⟨h,1,none⟩=some (.int .i64 m.e.aR))(f:w.cell? ⟨h,2,none⟩=some (.int .i64 m.e.seq))(e:w.cell? ⟨h,3,none⟩=some (.slice m.e.ao m.e.n m.e.cap))(a:Below w.heap.size w w'):PQ b c h n d k r m w':=
 ⟨aA o a,aA l a,aA i a,aA g a,aA f a,aA e a⟩
def PO (b gu h n uc k:Nat) (q:QV) (c:CV) (w:World):Prop:=w.cell? ⟨b,4,none⟩=some (.slice (some ⟨gu,0,none⟩) n uc)/\w.cell? ⟨gu,k,none⟩=some (.slice q.a q.n q.cap)/\w.cell? ⟨h,0,none⟩=some (.int .i64 c.rev)/\w.cell? ⟨h,3,none⟩=some (.int .i64 c.seq)/\w.cell? ⟨h,4,none⟩=some (.slice c.sa c.sn c.sc)
theorem PO.of{b d h n e k:Nat}{q:QV}{c:CV}{w w':World}(m:w.cell? ⟨b,4,none⟩=some (.slice (some ⟨d,0,none⟩) n e))(l:w.cell? ⟨d,k,none⟩=some (.slice q.a q.n q.cap))(i:w.cell? ⟨h,0,none⟩=some (.int .i64 c.rev))(g:w.cell? ⟨h,3,none⟩=some (.int .i64 c.seq))(f:w.cell? ⟨h,4,none⟩=some (.slice c.sa c.sn c.sc))(a:Below w.heap.size w w'):PO b d h n e k q c w':=
 ⟨aA m a,aA l a,aA i a,aA g a,aA f a⟩
def vr (B X b:Nat) (v:WV) (w:World) (V:Wo.W) (w':World):Prop:=(∃ v',eR B X w' b v'/\v'.w=V/\Fr b v v' w w'/\v'.s=v.s)/\Below B w w'
def MW (B X b:Nat) (w:World) (V:Wo.W) (w':World):Prop:=(∃ v',eR B X w' b v'/\v'.w=V)/\Below B w w'
theorem tT(B X b n k:Nat)(v:WV)(m:MV)(w:World)(h:eR B X w b v)(hL:Wo.gi v.w n)(hk:k<n)(hX:X≠2*k+6)(hO:ae w m.e.ao m.e.n m.e.cap m.e.vs)(hf:tF m.e.n m.e.vs):
  Calls prog 79 #[.pointer (some ⟨b,0,none⟩),.int .i64 k,.agg #[.int .i64 m.mr,.int .i64 m.e.aR,.int .i64 m.e.seq,.slice m.e.ao m.e.n m.e.cap]] w fun e w'=>e=.returned (.tuple #[])/\vr B X b v w (Wo.put v.w k (Wo.bb m.mg (Wo.vw v.w k))) w':=by
 have b0:=h.lo 0 b rfl;have az:=h.hi 0 b rfl;have P:=ay m w;have a2:Hd (Below B w (aj m w)):=P.mono (by omega);have a1:Hd (Fr b v v w (aj m w)):=Fr.below P;have z:=h.below P;have HQ:=hId (dE m w);have CM:Hd (∀w',Below (aj m w).heap.size (aj m w) w'->Calls prog 73 #[.agg #[.int .i64 m.mr,.int .i64 m.e.aR,.int .i64 m.e.seq,.slice m.e.ao m.e.n m.e.cap]] w' fun e a4=>(∃t:MV,e=.returned (.agg #[.int .i64 t.mr,.int .i64 t.e.aR,.int .i64 t.e.seq,.slice t.e.ao t.e.n t.e.cap])/\ae a4 t.e.ao t.e.n t.e.cap t.e.vs/\t.mg=m.mg/\t.e.n=m.e.n)/\Below w'.heap.size w' a4):=fun w' N=>rT m w' ((hO.below P).below N) hf;have ax:=mO m w;generalize hW:aj m w=W at*;obtain⟨gc,gu,gd,sc,su,sd,c,q,r,y⟩:=z.at hL hk;have p:=y.cl;have O:=z.dq k r y.r;have J:=yH O;have p3:=y.p3 z;have p5:=y.p5 z;have c6:W.cell? ⟨gc,k*7+6,none⟩=some (.bool c.jo):=y.cell 6 (by decide);have c5:=y.Fi;have H1:=hId z;have HI:=hId y;obtain⟨V,Z⟩:∃V,Wo.put v.w k (Wo.bb m.mg (Wo.vw v.w k))=V:=⟨_,rfl⟩;rw[Z]
 cases U:c.jo
 ·have HV:Hd (v.w=V):=by
   show v.w=V
   rw[<-Z,show Wo.bb m.mg (Wo.vw v.w k)=Wo.vw v.w k from VC (by rw[p];exact U),Wo.jC hL hk]
  rw[U]at c6;clear h hL z y Z hO hf O p J U;go_enter func79,ntmps79
  go_upto_region 1 with fail
  change Code.wp prog _ _ _ (aj m w);rw[hW];go_wp2
  refine VL (results_none rfl _ _ _) rfl ?_
  exact⟨rfl,⟨v,H1.o,HV.o,a1.o,rfl⟩,a2.o⟩
 ·rw[U]at c6;by_cases a0:90<=r.n
  ·have HV:Hd (Wo.put v.w k (Wo.oq (Wo.vw v.w k))=V):=by
    show _=V
    rw[<-Z];congr 1
    unfold Wo.bb;rw[VD (by rw[p];show¬c.jo=false;rw[U];exact Bool.noConfusion),VC (by rw[p];show 90<=r.eV.length;rw[J];exact a0)]
   have CC:=hId (sw B X b n k v W z hL hk);rw[HV.o]at CC;have am:decide ((90:Int)<=(r.n:Int))=true:=by simp;omega
   clear h hL z y Z hO hf O p J U;go_enter func79,ntmps79
   go_upto_region 1 with fail
   change Code.wp prog _ _ _ (aj m w);rw[hW];go_wp2_with fail
   refine CC.o.mono ?_
   rintro e M⟨rfl,⟨v',a9,a8,a7,a6⟩,N⟩;have H2:Hd (vr B X b v w V M):=⟨⟨v',a9,a8,a1.o.trans a7,a6⟩,a2.o.trans N⟩;clear a9 a8 a7 a6 N CC;go_wp2
   refine VL (results_none rfl _ _ _) rfl ?_
   exact⟨rfl,H2.o⟩
  ·have am:decide ((90:Int)<=(r.n:Int))=false:=by simp;omega
   have b1:decide (90<=r.n)=false:=by simp;omega
   have HV:Hd (∀g ac(t:MV),t.mg=m.mg->WV.w {v with down:=v.down.set k ⟨some ⟨g,0,none⟩,r.n+1,ac,r.ms++[t]⟩}=V):=fun g ac t ht=>by
    rw[WV.SK hL hk,<-Z];congr 1
    unfold Wo.bb;rw[VD (by rw[p];show¬c.jo=false;rw[U];exact Bool.noConfusion),VD (by rw[p];show¬90<=r.eV.length;rw[J];exact a0)];show Wo.Vw.mk _ _ ((r.ms++[t]).map MV.mg)=_
    rw[p,WN];show Wo.Vw.mk _ _ (r.eV++[t.mg])=_
    rw[ht]
   obtain⟨i0,hi,al,ak,ai⟩:=info_parts Tryz.LR;have aw:r.n<=90:=by omega
   have a3:Hd (B<=W.heap.size):=by show B<=_;have:=z.hi 0 b rfl;omega
   have av:=hId (z.lo 3 gd (by show v.da.map _=_;rw[y.da];rfl));have an:Hd (∀x∈oT r.a,B<=x):=fun x hx=>by
    obtain⟨ad,e1,e2⟩:=dI.1 hx;refine z.lo (2*k+6) x ?_
    rw[<-ei y.r,e1,<-e2];rfl
   have HX:=hId hX;have aq:Hd (w.heap.size∉oT r.a):=fun hx=>by
    obtain⟨ad,e1,e2⟩:=dI.1 hx;have:=h.hi (2*k+6) w.heap.size (by rw[<-ei y.r,e1,<-e2];rfl);omega
   obtain⟨x0,x1,x2,x3⟩:=AV HQ.o;have ap:Hd (∀w',Below W.heap.size W w'->∀(o:Obj),∀x∈oT r.a,NT (w'.alloc o) x):=fun w' N o x hx=>by
    obtain⟨ad,e1,e2⟩:=dI.1 hx;exact((((z.dN k r y.r hX).below N).below ((VE _ _).alloc (UZ _) _))).nt (by rw[e1,<-e2];rfl)
   clear h hL z y Z hO hf O p J U hX a0;go_enter func79,ntmps79
   go_upto_region 1 with fail
   change Code.wp prog _ _ _ (aj m w);rw[hW];go_upto_region 4 with fail
   have d:=PQ.of p5 c5 x0 x1 x2 x3 (VE _ _).drew;refine gj (S:=PQ b gd w.heap.size n v.dc k r m) (f:=fun j=>j !=17) (by kernel_rfl) ?_
   refine aT (i:=0) (v:=?vv0) rfl (by kernel_rfl) (fun _ _ _ h=>h) (Or.inl ⟨by rfl,fun u l=>?hy0⟩) d ?rest0
   case hy0=>obtain⟨G,F,E,D,C,A⟩:=l;go_simp;try with_reducible rfl
   try simp only[Act.put,UX]
   refine aT (i:=1) (v:=?vv1) rfl (by kernel_rfl) (fun _ _ _ h=>h) (Or.inl ⟨by rfl,fun u l=>?hy1⟩) d ?rest1
   case hy1=>obtain⟨G,F,E,D,C,A⟩:=l;go_simp;try with_reducible rfl
   try simp only[Act.put]
   refine aT (i:=2) (v:=?vv2) rfl (by kernel_rfl) (fun _ _ _ h=>h) (Or.inl ⟨by rfl,fun u l=>?hy2⟩) d ?rest2
   case hy2=>obtain⟨G,F,E,D,C,A⟩:=l;go_simp;try with_reducible rfl
   try simp only[Act.put]
   refine aT (i:=3) (v:=?vv3) rfl (by kernel_rfl) (fun _ _ _ h=>h) (Or.inl ⟨by rfl,fun u l=>?hy3⟩) d ?rest3
   case hy3=>obtain⟨G,F,E,D,C,A⟩:=l;go_simp;try with_reducible rfl
   try simp only[Act.put]
   refine aT (i:=4) (v:=?vv4) rfl (by kernel_rfl) (fun _ _ _ h=>h) (Or.inl ⟨by rfl,fun u l=>?hy4⟩) d ?rest4
   case hy4=>obtain⟨G,F,E,D,C,A⟩:=l;go_simp;try with_reducible rfl
   try simp only[Act.put]
   refine aT (i:=5) (v:=?vv5) rfl (by kernel_rfl) (fun _ _ _ h=>h) (Or.inl ⟨by rfl,fun u l=>?hy5⟩) d ?rest5
   case hy5=>obtain⟨G,F,E,D,C,A⟩:=l;go_simp;try with_reducible rfl
   try simp only[Act.put]
   refine aT (i:=6) (v:=?vv6) rfl (by kernel_rfl) (fun _ _ _ h=>h) (Or.inl ⟨by rfl,fun u l=>?hy6⟩) d ?rest6
   case hy6=>obtain⟨G,F,E,D,C,A⟩:=l;go_simp;try with_reducible rfl
   try simp only[Act.put]
   refine aT (i:=7) (v:=?vv7) rfl (by kernel_rfl) (fun _ _ _ h=>h) (Or.inl ⟨by rfl,fun u l=>?hy7⟩) d ?rest7
   case hy7=>obtain⟨G,F,E,D,C,A⟩:=l;go_simp;try with_reducible rfl
   try simp only[Act.put]
   refine aT (i:=8) (v:=?vv8) rfl (by kernel_rfl) (fun _ _ _ h=>h) (Or.inl ⟨by rfl,fun u l=>?hy8⟩) d ?rest8
   case hy8=>obtain⟨G,F,E,D,C,A⟩:=l;go_simp;try with_reducible rfl
   try simp only[Act.put]
   refine aT (i:=9) (v:=?vv9) rfl (by kernel_rfl) (fun _ _ _ h=>h) (Or.inl ⟨by rfl,fun u l=>?hy9⟩) d ?rest9
   case hy9=>obtain⟨G,F,E,D,C,A⟩:=l;go_simp;try with_reducible rfl
   try simp only[Act.put]
   refine aT (i:=10) (v:=?vv10) rfl (by kernel_rfl) (fun _ _ _ h=>h) (Or.inl ⟨by rfl,fun u l=>?hy10⟩) d ?rest10
   case hy10=>obtain⟨G,F,E,D,C,A⟩:=l;go_simp;try with_reducible rfl
   try simp only[Act.put]
   refine aT (i:=11) (v:=?vv11) rfl (by kernel_rfl) (fun _ _ _ h=>h) (Or.inl ⟨by rfl,fun u l=>?hy11⟩) d ?rest11
   case hy11=>obtain⟨G,F,E,D,C,A⟩:=l;go_simp;try with_reducible rfl
   try simp only[Act.put]
   refine aT (i:=12) (v:=?vv12) rfl (by kernel_rfl) (fun _ _ _ h=>h) (Or.inl ⟨by rfl,fun u l=>?hy12⟩) d ?rest12
   case hy12=>obtain⟨G,F,E,D,C,A⟩:=l;go_simp;try with_reducible rfl
   try simp only[Act.put]
   refine ar (i:=13) (by kernel_rfl) rfl (fun K s=>?_)
   go_simp
   refine(CM.o _ (VE _ _).drew).mono ?_
   rintro e M⟨⟨t,rfl,aa,ab,-⟩,N⟩;have au:=hId ab;have ao:=hId aa;have a:=hId (cT N);clear ab aa N;have ah:=PQ.of p5 c5 x0 x1 x2 x3 a.o;clear d;refine s.out _ _ (fun _=>ah) ?_
   clear s K;try simp only[Act.put,UX,VA,VB]
   refine ar (i:=14) (by kernel_rfl) rfl (fun K s=>?_)
   go_simp
   have ag:PQ b gd w.heap.size n v.dc k r m (M.alloc (.cells #[.int .i64 t.mr,.int .i64 t.e.aR,.int .i64 t.e.seq,.slice t.e.ao t.e.n t.e.cap] 114)):=PQ.of p5 c5 x0 x1 x2 x3 (a.o.trans (((VE _ _).alloc (UZ _) _).mono a.o.size));refine s.out _ _ (fun _=>ag) ?_
   clear s K ah ag;try simp only[Act.put,UX,VA,VB]
   refine ar (i:=15) (by kernel_rfl) rfl (fun K s=>?_)
   have H:Hd (Below M.heap.size M (M.alloc (.cells #[.int .i64 t.mr,.int .i64 t.e.aR,.int .i64 t.e.seq,.slice t.e.ao t.e.n t.e.cap] 114))):=(VE _ _).alloc (UZ _) _;have T:=(HI.o.below a.o).below H.o;have Q:=(H1.o.below a.o).below H.o;refine mw _ (by rfl) (.tmp 38) (.tmp 41) 53 (by rfl) 114 i0 (.agg #[.int .i64 0,.int .i64 0,.int .i64 0,.slice none 0 0]) 4 48 underlying53 hi al ak ai rfl rfl r.a r.n r.cap (bN r.ms) (by rfl) (Q.dN k r T.r HX.o) ⟨M.heap.size,0,none⟩ 1 1 (jX t) (by rfl) rfl (World.news_of_block (Blk.new M (jX t) 114)) (Kw t) rfl (by decide) (by unfold maxLen;omega) (by omega) ?_
   intro g Y w3 hN L hg;obtain⟨a5,z5,z6,z7⟩:=T.SM Q HX.o L hN ((ao.o.below H.o).aw L (ap.o _ a.o _)) hg;have I:∀j,w3.cell? ⟨w.heap.size,j,none⟩=(M.alloc (.cells #[.int .i64 t.mr,.int .i64 t.e.aR,.int .i64 t.e.seq,.slice t.e.ao t.e.n t.e.cap] 114)).cell? ⟨w.heap.size,j,none⟩:=fun j=>WC (L.block _ (by show w.heap.size<_;have:=a.o.size;have:=H.o.size;omega) (aq.o));have af:PQ b gd w.heap.size n v.dc k r m w3:=⟨(z7 5).trans (T.p5 Q),z5,(I 0).trans (aA (aA x0 a.o) H.o),(I 1).trans (aA (aA x1 a.o) H.o),(I 2).trans (aA (aA x2 a.o) H.o),(I 3).trans (aA (aA x3 a.o) H.o)⟩;refine s.out _ _ (fun _=>af) ?_
   clear s K I;try simp only[Act.put,UX]
   refine ar (i:=16) (by kernel_rfl) rfl (fun K s=>?_)
   go_simp
   refine s.out _ _ (fun _=>af) ?_
   clear s K;try simp only[Act.put,UX,VA,VB]
   refine ar (i:=17) (by kernel_rfl) rfl (fun K s=>?_)
   go_simp
   refine s.out _ _ (fun h=>by cases h) ?_
   clear s K;have H4:Hd (vr B X b v w V (w3.setCell ⟨gd,k,none⟩ (.slice (some ⟨g,0,none⟩) (r.n+1) Y))):=⟨⟨_,a5,HV.o g Y t au.o,a1.o.trans ((Fr.below (a.o.trans (H.o.mono a.o.size))).trans (T.frD Q HX.o L hg)),rfl⟩,(a2.o.trans ((a.o.mono a3.o).trans ((H.o.mono (by have:=a.o.size;have:=a3.o;omega)).trans (L.below (by have:=a.o.size;have:=H.o.size;have:=a3.o;omega) an.o)))).setCell av.o _⟩;refine et (by kernel_rfl) ?_ _
   clear a5 z5 z6 z7;go_wp2
   go_end0
   exact⟨rfl,H4.o⟩
