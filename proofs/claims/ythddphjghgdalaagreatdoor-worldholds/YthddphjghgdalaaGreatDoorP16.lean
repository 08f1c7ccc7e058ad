/- A part. -/
import Derived.Test.YthddphjghgdalaaGreatDoorP15
set_option maxRecDepth 100000
set_option maxHeartbeats 1600000
namespace Go.Proofs.YthddphjghgdalaaGreatDoor
open Go.RowKit Go.Proofs.Tryz
theorem iL{b:Func}{p u:Tmp}{t:SV}{c:Value}{w:World}{g:Nat}(h:b.results=#[.cell p 26,.tmp u])(a:Array Value)(e:a.getD p undef=.pointer (some ⟨g,0,none⟩))(d:a.getD u undef=c)(i:Blk w g (lA t) 26):(results b a).run prog w=.ok (.tuple #[SC t,c]) w:=by
 have f:=run_loadVar_row (P:=prog) w g 26 26 (lA t).toArray (0,0) _ i underlying26 rfl (Rx t);rw[results_cell_tmp h,e,d];simp only[asAddr,Sem.run_pure,Result.andThen_ok,f]
 rfl
structure iv (B:Nat) (w:World) (t:SV):Prop where
 first:cy w t.fa t.fn t.fc t.first
 now:cy w t.na t.nn t.nc t.now
 row:Row w t.la t.ln t.lc 3 (bD t.log)
 ops:∀ v ∈ t.log,au B w v.ao v.n v.cap v.vs
 Nr:∀ ad:Addr,t.fn≠0->t.fa=some ad->B<=ad.block
 O3:∀ ad:Addr,t.nn≠0->t.na=some ad->B<=ad.block
 Ts:∀ ad:Addr,t.ln≠0->t.la=some ad->B<=ad.block
theorem iv.eF{B:Nat}{w:World}{t:SV}(h:iv B w t):nU w t:=⟨h.first,⟨h.row,fun v a=>(h.ops v a).ops⟩,h.now⟩
theorem iv.kept{B:Nat}{w w':World}{t:SV}{S:List Nat}(h:iv B w t)(e:Kept w w' S)(f:∀x∈S,x<B):iv B w' t:=
 ⟨h.first.kept e (fun d c b a=>by have:=h.Nr d c b;have:=f _ a;omega),h.now.kept e (fun d c b a=>by have:=h.O3 d c b;have:=f _ a;omega),h.row.kept (by decide) e (fun d c b a=>by have:=h.Ts d c b;have:=f _ a;omega),fun v g=>(h.ops v g).kept e f,h.Nr,h.O3,h.Ts⟩
theorem iv.nil(B:Nat)(w:World):iv B w eP:=⟨cf w,cf w,Row.nil w 3,(fun v a=>absurd a (by simp[eP])),fun _ h _=>absurd rfl h,fun _ h _=>absurd rfl h,fun _ h _=>absurd rfl h⟩
theorem Bc.from{B:Nat}{w:World}{t:SV}(h:Bc B w t):iv B w t:=by
 have b:=h.eF;refine⟨h.first,h.now,b.log.row,fun v c=>?_,fun a _ e=>h.Nr a e,fun a _ e=>h.O3 a e,fun a _ e=>aS h.own a.block (by rw[e];rfl)⟩
 have f:=b.log.len;obtain⟨g,d,e,_⟩:=b.log.row.bH (by have:=List.length_pos_of_mem c;omega);exact(h.ops v c _ e).mono (by have:=aS h.own g (by rw[e];rfl);show B<=g+1;omega)
structure JG (w:World) (x:EV) (B:Nat) (t:SV) (wr:World):Prop where
 hS:Blk wr w.heap.size (lA t) 26
 hX:Blk wr (w.heap.size+1) (xI x) 71
 hR:Blk wr (w.heap.size+2) (lA eP) 26
 vQ:Bc B wr t
 lo:w.heap.size+3<=B
 hi:B<=wr.heap.size
 bf:Below w.heap.size w wr
theorem JG.under{w:World}{x:EV}{B:Nat}{t:SV}{wr b:World}(h:JG w x B t wr)(a:Below wr.heap.size wr b):JG w x B t b:=
 ⟨(a.block _ h.hS.lt).trans h.hS,(a.block _ h.hX.lt).trans h.hX,(a.block _ h.hR.lt).trans h.hR,h.vQ.below a,h.lo,VX h.hi a.size,h.bf.trans (a.mono h.bf.size)⟩
theorem JG.start{w W a b:World}{x:EV}{s t:SV}(k:Blk W w.heap.size (lA s) 26)(h:Blk W (w.heap.size+1) (xI x) 71)(e:Blk W (w.heap.size+2) (lA eP) 26)(i:Below w.heap.size w W)(f:Below W.heap.size W a)(l:Below a.heap.size a b)(n:Bc a.heap.size b t):
  JG w x a.heap.size t (fC b w.heap.size t):=by
 have c:=f.trans (l.mono f.size);have d:=fs b w.heap.size t;have g:w.heap.size+3<=a.heap.size:=by have:=e.lt;have:=f.size;omega
 exact⟨dv ((c.block _ k.lt).trans k),d.aM ((c.block _ h.lt).trans h) (by simp),d.aM ((c.block _ e.lt).trans e) (by simp),n.kept d (fun x m=>by simp at m;omega),g,by rw[He];exact l.size,(i.trans (c.mono i.size)).trans (cP _ _ _)⟩
def Km (t:SV) (a:Option Addr) (n c:Nat) (l:List It):SV:=⟨t.fa,t.fn,t.fc,t.first,t.la,t.ln,t.lc,t.log,a,n,c,l⟩
def Nq (t:SV) (a:Option Addr) (c:Nat) (v:EV):SV:=⟨t.fa,t.fn,t.fc,t.first,a,t.ln+1,c,t.log++[v],t.na,t.nn,t.nc,t.now⟩
theorem JG.now{w:World}{x:EV}{B:Nat}{t:SV}{i f:World}{a:Option Addr}{n c:Nat}{l:List It}(h:JG w x B t i)(r:Below i.heap.size i f)(q:cy f a n c l)(o:∀b:Addr,a=some b->i.heap.size<=b.block):
  JG w x B (Km t a n c l) (f.setCell ⟨w.heap.size,2,none⟩ (.slice a n c)):=by
 have d:=h.under r;have z:=h.lo;have A:=h.hR.lt;have k:Kept f (f.setCell ⟨w.heap.size,2,none⟩ (.slice a n c)) [w.heap.size]:=dX _ _ _ _ _ (by simp);have g:=d.vQ.kept k (fun x m=>by simp at m;omega);exact⟨d.hS.set 2 _,k.aM d.hX (by simp),k.aM d.hR (by simp),⟨g.first,q.kept k (fun b _ e m=>by have:=o b e;simp at m;omega),g.own,g.NZ,fun b p y v=>by
  have u:=o b y;have s:=(h.vQ.own.lt p.block (by have e3:t.la=some p:=v;rw[e3];rfl)).2;omega,g.Nr,fun b e=>by
  have u:=o b e;have s:=h.hi;omega,g.ops⟩,h.lo,by rw[World.size_setCell];exact d.hi,d.bf.setCell (UZ _) _⟩
theorem JG.log{w:World}{x:EV}{B D:Nat}{t:SV}{r p:World}{v:EV}{a:Option Addr}{c:Nat}(h:JG w x B t r)(L:au D r v.ao v.n v.cap v.vs)(I:B<=D)(F:∀b:Addr,t.la=some b->b.block<D)
  (o:p.ownsRow B 71 3 (.slice a (t.ln+1) c) (t.ln+1) (bD t.log++xI v))(M:(dU v r).grownBy p (Value.slice t.la t.ln t.lc).ownBlock):
  Blk p w.heap.size (lA t) 26/\Blk p (w.heap.size+2) (lA eP) 26/\iv B p (Nq t a c v)/\Below w.heap.size w p:=by
 have g:=h.under (aW v r);have l:=gh M;have N:=h.lo;have d:∀k∈ob (.slice t.la t.ln t.lc),B<=k/\∃b:Addr,t.la=some b/\b.block=k:=fun k l=>by
  refine⟨aS h.vQ.own k (cE l),?_⟩
  have:=cE l
  cases s:t.la with
  |none=>rw[s]at this;cases this
  |some b=>rw[s]at this;exact⟨b,rfl,WU this⟩
 have y:=g.vQ.from;have H:bD t.log++xI v=bD (t.log++[v]):=by rw[sD,sC]
 rw[H]at o;obtain⟨P,O,e,K,G,-⟩:=cR o;simp only[Value.slice.injEq]at e
 obtain⟨rfl,-,rfl⟩:=e;refine⟨l.aM g.hS (fun f=>by have:=(d _ f).1;omega),l.aM g.hR (fun f=>by have:=(d _ f).1;omega),⟨y.first.kept l (fun n _ e f=>?_),y.now.kept l (fun n _ e f=>?_),K,fun u i=>?_,y.Nr,y.O3,fun n _ e=>(G n e).1⟩,(g.bf.trans (l.below g.bf.size (fun k f=>by have:=(d k f).1;omega)))⟩
 ·obtain⟨b,m,q⟩:=(d _ f).2;exact g.vQ.NZ n b e m q.symm
 ·obtain⟨b,m,q⟩:=(d _ f).2;exact g.vQ.Hu n b e m q.symm
 ·rcases VW.1 i with i|i
  ·refine(g.vQ.from.ops u i).ops.kept l (fun n C A f=>?_) (fun z J n C A f=>?_)|>fun E=>⟨E,(g.vQ.from.ops u i).row,(g.vQ.from.ops u i).QU⟩
   ·obtain⟨b,m,q⟩:=(d _ f).2;have:=(g.vQ.ops u i b m).row n C A;omega
   ·obtain⟨b,m,q⟩:=(d _ f).2;have:=(g.vQ.ops u i b m).QU z J n C A;omega
  ·rw[UY]at i;subst i;exact((L.below (aW u r)).kept l (fun k f=>by
    obtain⟨b,m,q⟩:=(d _ f).2;have:=F b m;omega)).mono I
def vd (a:Option Addr) (r cap:Nat):Option Addr:=if cap=r then a else a.map (fun b=>b.add (r*3))
theorem Ly:prog.elem 24=71:=by kernel_rfl
theorem yx:prog.underlying 24=some (.slice (prog.elem 24)):=by kernel_rfl
theorem Cn(a:Option Addr)(n b r:Nat)(c:r<=n)(w:World):(Instr.slice 24 (.slice a n b) (some (.int .i64 r)) none none).run prog w=.ok (.slice (vd a r b) (n-r) (b-r)) w:=by
 rw[run_slice_l (P:=prog) (w:=w) 24 a n b yx .i64 (r:Int) (by omega) (by omega),Ly,Tryz.sizeOf71 w];rfl
theorem qe:∀(l:List EV)(r:Nat)(j:Nat),(bD (l.drop r))[j]?=(bD l)[r*3+j]?
 |l,0,j=>by rw[XW,XQ,VR]
 |[],r+1,j=>by rw[List.drop_nil];rfl
 |v::l,r+1,j=>by
  rw[List.drop_succ_cons,qe l r j];show _=(xI v++bD l)[_]?
  rw[List.getElem?_append_right (by show 3<=_;omega)];congr 1
  show _=_-3
  omega
theorem fQ.drop{w:World}{a:Option Addr}{n c:Nat}{g:List EV}(h:fQ w a n c g)(r:Nat)(m:r<=n):fQ w (vd a r c) (n-r) (c-r) (g.drop r):=by
 have k:=h.len;have q:=h.row.room;have p:=h.row.fg;refine⟨⟨by rw[fe,XG,k],by omega,by omega,fun o=>?_⟩,fun v i=>h.ops v (List.mem_of_mem_drop i)⟩
 obtain⟨b,d,e,l⟩:=h.row.bH (by omega);refine⟨b,d+r*3,?_,fun j u f=>?_⟩
 ·unfold vd;rw[VD (by omega),e,Option.map_some,iU]
 ·rw[qe]at f;have:=l _ u f;rw[<-WX]at this;exact this
theorem IS{p:Ac.Pt}(h:Ac.bG p=0):p.aB.length<=80:=by
 obtain⟨b,a⟩:=Ac.jN h;rcases Ac.gA b with⟨k,_⟩|⟨k,_⟩|⟨k,_⟩
 ·have:=VQ Ac.Pt.aB (Ac.jr.1 a);unfold Ac.ez at this;rw[VC k]at this;rw[this];exact VN _
 ·exact(Ac.jT h k).2.1
 ·have:=VQ Ac.Pt.aB (Ac.jr.1 a);unfold Ac.ez at this;rw[VD (by omega),VD (by omega)]at this;rw[this];exact VN _
theorem jV{w:World}{a:Option Addr}{n c:Nat}{b:List PV}(h:ae w a n c b)(d:Ac.gC (b.map PV.pt)=0):0<n/\n<=40/\∀u∈b,u.m<=80:=by
 have i:=Ac.bi.1 d;have k:=h.len;have l:=i.Ia;rw[VH,k]at l;refine⟨?_,l,fun u g=>?_⟩
 ·rcases XX n with f|f
  ·have e:=VS.1 (k.trans f);rw[e]at d;exact absurd d (by decide)
  ·exact f
 ·have:=IS (i.ok _ (XI.2 ⟨u,g,rfl⟩));rw[<-(h.iE u g).jd.len];exact this
theorem qf{x:Sv.En}(h:Sv.eG x=0):Ac.gC x.o=0:=by
 unfold Sv.eG at h;by_cases a:x.aR<0\/4<=x.aR
 ·rw[VC a]at h;cases h
 ·by_cases b:x.seq<1\/10000<x.seq
  ·rw[VD a,VC b]at h;cases h
  ·rw[VD a,VD b]at h;exact h
theorem nP:∀{l:List Sv.En},Sv.dQ l=0->∀x∈l,Sv.eG x=0
 |[],_,x,b=>by cases b
 |y::l,h,x,b=>by
  have a:Sv.eG y=0:=by
   by_cases a:Sv.eG y=0
   ·exact a
   ·have:Sv.dQ (y::l)=Sv.eG y:=VD a;rw[this]at h;exact absurd h a
  have c:Sv.dQ l=0:=by
   have:Sv.dQ (y::l)=Sv.dQ l:=VC a;rw[this]at h;exact h
  rcases WG.1 b with rfl|b
  ·exact a
  ·exact nP c x b
theorem ng{w:World}{s:SV}(a:nU w s)(h:Sv.dL s.se=0):s.fn<=80/\s.nn<=80/\s.ln<=60/\∀v∈s.log,0<v.n/\v.n<=40/\∀u∈v.vs,u.m<=80:=by
 obtain⟨p,f,c,e,d⟩:=Sv.mW h;have i:=Dc.eM c;have g:=Dc.eM (show Dc.check s.se.now=0 by rw[d];exact Sv.uX _ _ c e);have o:=a.first.len;have n:=a.now.len;have e3:=a.log.len;have m:s.se.first.length=s.first.length:=rfl;have l:s.se.now.length=s.now.length:=rfl;have k:s.se.log.length=s.log.length:=VH ..;refine⟨by omega,by omega,by omega,fun v b=>jV (a.log.ops v b) (qf (nP f v.en (XI.2 ⟨v,b,rfl⟩)))⟩
namespace Kl
structure Cl where
 rev:Int
 base:List It
 now:List It
 seq:Int
 aJ:List Ac.Pt
 held:List Ac.Pt
 jo:Bool
def vf (d:List It) (o:List Ac.Pt):Int:=if o.length=0 then 0 else Ac.ag d o
def qA (d:List It) (o:List Ac.Pt):List It:=if o.length=0 then d else Ac.done d o
def pS (d:List It) (s h:List Ac.Pt):Int:=if vf d s=0 then vf (qA d s) h else vf d s
def Ds (d:List It) (s h:List Ac.Pt):List It:=qA (qA d s) h
def iS (c:Cl):Int :=
 if c.rev<0\/60<c.rev\/c.seq<0\/10000<c.seq then 3 else if Dc.check c.base=0 then (if (0<c.held.length/\c.aJ.length=0)\/(0<c.aJ.length/\c.seq=0) then 4 else
  if pS c.base c.aJ c.held=0 then (if Dc.same c.now (Ds c.base c.aJ c.held)=true then 0 else 4) else pS c.base c.aJ c.held) else Dc.check c.base
def same (a b:Cl):Bool:=(a.rev == b.rev)&&((a.seq == b.seq)&&((a.jo == b.jo)&&(Dc.same a.base b.base&&(Dc.same a.now b.now&&(Ac.eU a.aJ b.aJ&&Ac.eU a.held b.held)))))
def none:Cl:=⟨0,[],[],0,[],[],false⟩
def iR (c:Cl) (o:List Ac.Pt):Int:=if Ac.ag c.now o=0 then (if c.aJ.length=0 then (if c.seq=10000 then 2 else 0) else if c.held.length=0 then 0 else Ac.sP c.held o) else Ac.ag c.now o
def kH (c:Cl) (o:List Ac.Pt):Cl :=
 if c.aJ.length=0 then ⟨c.rev,c.base,Ac.done c.now o,c.seq+1,o,c.held,c.jo⟩ else if c.held.length=0 then ⟨c.rev,c.base,Ac.done c.now o,c.seq,c.aJ,o,c.jo⟩ else ⟨c.rev,c.base,Ac.done c.now o,c.seq,c.aJ,Ac.pG c.held o,c.jo⟩
def OL (c:Cl):Bool:=decide (c.aJ.length=0)
def vM (c:Cl) (o:List Ac.Pt):Int:=if iS c=0 then iR c o else iS c
def JL (c:Cl) (o:List Ac.Pt):Cl:=if vM c o=0 then kH c o else none
def Mm (c:Cl) (o:List Ac.Pt):Bool:=if vM c o=0 then OL c else false
def gv (c:Cl):Cl:=⟨c.rev,c.base,c.base,c.seq,[],[],c.jo⟩
def vq (c:Cl) (o:List Ac.Pt):Cl:=⟨c.rev+1,Ac.done c.base o,c.now,c.seq,c.aJ,c.held,c.jo⟩
def kZ (c:Cl) (aR:Int) (x:Sv.En):Bool:=(x.aR == aR)&&((x.seq == c.seq)&&decide (0<c.aJ.length))
def mf (c:Cl) (o:List Ac.Pt):Bool:=decide (0<c.held.length)&&(decide (Ac.ag (Ac.done c.base o) c.held=0)&&!decide (c.seq=10000))
def iX (c:Cl) (o:List Ac.Pt):Cl:=if mf c o=true then ⟨c.rev+1,Ac.done c.base o,Ac.done (Ac.done c.base o) c.held,c.seq+1,c.held,[],c.jo⟩ else gv (vq c o)
def tE (o s:List Ac.Pt):Int:=if s.length=0 then 0 else Ac.fO o s
def tX (o s:List Ac.Pt):List Ac.Pt:=if s.length=0 then o else Ac.lZ o s
def tY (o s:List Ac.Pt):List Ac.Pt:=if s.length=0 then s else Ac.gY o s
def Bm (o s h:List Ac.Pt):Int:=if tE o s=0 then tE (tX o s) h else tE o s
def Fp (o s h:List Ac.Pt):List Ac.Pt:=tY (tX o s) h
def fW (c:Cl) (o:List Ac.Pt):Cl :=
 if Ac.ag c.base o=0 then (if Bm o c.aJ c.held=0 then (if pS (Ac.done c.base o) (tY o c.aJ) (Fp o c.aJ c.held)=0 then ⟨c.rev+1,Ac.done c.base o,Ds (Ac.done c.base o) (tY o c.aJ) (Fp o c.aJ c.held),c.seq,tY o c.aJ,Fp o c.aJ c.held,c.jo⟩ else gv (vq c o)) else gv (vq c o)) else c
def Bk (c:Cl) (aR rev:Int) (x:Sv.En):Int:=if x.o.length=0 then 0 else if Ac.gC x.o=0 then (if rev≠c.rev+1\/c.rev=60 then 0 else if kZ c aR x=true then Ac.ag c.base x.o else 0) else Ac.gC x.o
def FM (c:Cl) (aR rev:Int) (x:Sv.En):Cl:=if x.o.length=0 then (if kZ c aR x=true then gv c else c) else if rev≠c.rev+1\/c.rev=60 then c else if kZ c aR x=true then iX c x.o else fW c x.o
def JT (c:Cl) (aR rev:Int) (x:Sv.En):Bool:=if x.o.length=0 then false else if rev≠c.rev+1\/c.rev=60 then false else if kZ c aR x=true then mf c x.o else false
def jQ (c:Cl) (aR rev:Int) (x:Sv.En):Int:=if iS c=0 then Bk c aR rev x else iS c
def gT (c:Cl) (aR rev:Int) (x:Sv.En):Cl:=if jQ c aR rev x=0 then FM c aR rev x else none
def kD (c:Cl) (aR rev:Int) (x:Sv.En):Bool:=if jQ c aR rev x=0 then JT c aR rev x else false
end Kl
structure CV where
 rev:Int
 ba:Option Addr
 bn:Nat
 bc:Nat
 base:List It
 na:Option Addr
 nn:Nat
 nc:Nat
 now:List It
 seq:Int
 sa:Option Addr
 sn:Nat
 sc:Nat
 aJ:List PV
 ha:Option Addr
 hn:Nat
 hc:Nat
 held:List PV
 jo:Bool
def CV.cl (c:CV):Kl.Cl:=⟨c.rev,c.base,c.now,c.seq,c.aJ.map PV.pt,c.held.map PV.pt,c.jo⟩
def fS (c:CV):List Value:=[.int .i64 c.rev,.slice c.ba c.bn c.bc,.slice c.na c.nn c.nc,.int .i64 c.seq,.slice c.sa c.sn c.sc,.slice c.ha c.hn c.hc,.bool c.jo]
def Rh (c:CV):Value:=.agg #[.int .i64 c.rev,.slice c.ba c.bn c.bc,.slice c.na c.nn c.nc,.int .i64 c.seq,.slice c.sa c.sn c.sc,.slice c.ha c.hn c.hc,.bool c.jo]
def eJ:CV:=⟨0,none,0,0,[],none,0,0,[],0,none,0,0,[],none,0,0,[],false⟩
structure kE (w:World) (c:CV):Prop where
 base:cy w c.ba c.bn c.bc c.base
 now:cy w c.na c.nn c.nc c.now
 aJ:ae w c.sa c.sn c.sc c.aJ
 held:ae w c.ha c.hn c.hc c.held
theorem kE.below{w w':World}{c:CV}(h:kE w c)(a:Below w.heap.size w w'):kE w' c:=⟨h.base.below a,h.now.below a,h.aJ.below a,h.held.below a⟩
theorem kE.nil(w:World):kE w eJ:=⟨cf w,cf w,jU w,jU w⟩
def aO (c:CV) (w:World):World:=w.alloc (.cells #[.int .i64 c.rev,.slice c.ba c.bn c.bc,.slice c.na c.nn c.nc,.int .i64 c.seq,.slice c.sa c.sn c.sc,.slice c.ha c.hn c.hc,.bool c.jo] 41)
theorem aa(c:CV)(w:World):Below w.heap.size w (aO c w):=(VE _ _).alloc (UZ _) _
theorem hJ(c:CV)(w:World):(aO c w).heap.size=w.heap.size+1:=WO ..
theorem cH(c:CV)(w:World):Blk (aO c w) w.heap.size (fS c) 41:=Blk.new w _ _
def E8:Value->Bool
 | .slice _ _ _=>true
 | .int .i64 _=>true
 | .bool _=>true
 | _=>false
def ee (cs:List Value):Bool:=cs.all E8
theorem nR{w:World}{g:Nat}{cs:List Value}{T:TypeId}(h:Blk w g cs T)(c:ee cs=true){b o:Nat}{u:Value}(a:w.cell? ⟨b,o,none⟩=some u)(d:E8 u=false):b≠g:=by
 rintro rfl;rw[h.cell o]at a;have:=XR.1 c u (WQ a);rw[d]at this
 cases this
theorem cy.Hu{w:World}{a:Option Addr}{n c:Nat}{l:List It}{g:Nat}{cs:List Value}{T:TypeId}(h:cy w a n c l)(m:Blk w g cs T)(k:ee cs=true):∀d:Addr,n≠0->a=some d->d.block∉[g]:=fun d p e i=>by
 obtain⟨b,q,f,o⟩:=h.bH p;rw[e]at f
 cases f
 exact nR m k (o.c 0 (by rw[h.len];omega)) rfl (UY.1 i)
theorem cy.gP{w w':World}{a:Option Addr}{n c:Nat}{l:List It}{g:Nat}{cs:List Value}{T:TypeId}(h:cy w a n c l)(e:Blk w g cs T)(b:ee cs=true)(d:Kept w w' [g]):cy w' a n c l:=h.kept d (h.Hu e b)
theorem ae.gP{w w':World}{a:Option Addr}{n c:Nat}{f:List PV}{g:Nat}{cs:List Value}{T:TypeId}(h:ae w a n c f)(k:Blk w g cs T)(i:ee cs=true)(q:Kept w w' [g]):ae w' a n c f:=
 h.kept q (fun t l e o=>by
  obtain⟨b,s,m,r⟩:=h.row.bH l;rw[e]at m
  cases m
  have d:=h.len;match f,d with
  |[],d=>exact absurd d.symm l
  |y::f,_=>exact nR k i (r 6 (.string y.link) rfl) rfl (UY.1 o)) (fun v p=>(h.iE v p).jd.Hu k i)
theorem wR:∃t,lq[0]?=some (.string t):=⟨_,rfl⟩
theorem df.gP{w w':World}{g:Nat}{cs:List Value}{T:TypeId}(h:df w)(k:Blk w g cs T)(e:ee cs=true)(f:Kept w w' [g]):df w':=by
 obtain⟨m,d⟩:=wR;have i:=(h.cell 0).trans d;obtain⟨t,l,b⟩:=h;have a:=nR k e i rfl;exact⟨t,l,(f.block _ (WE.1 b).1 (fun c=>a (UY.1 c))).trans b⟩
theorem cy.bA{w w':World}{a:Option Addr}{n c:Nat}{l:List It}{g:Nat}{x:CV}{T:TypeId}(h:cy w a n c l)(d:Blk w g (fS x) T)(b:Kept w w' [g]):cy w' a n c l:=h.gP d rfl b
theorem ae.bA{w w':World}{a:Option Addr}{n c:Nat}{b:List PV}{g:Nat}{x:CV}{T:TypeId}(h:ae w a n c b)(e:Blk w g (fS x) T)(d:Kept w w' [g]):ae w' a n c b:=h.gP e rfl d
theorem df.bA{w w':World}{g:Nat}{x:CV}{T:TypeId}(h:df w)(b:Blk w g (fS x) T)(a:Kept w w' [g]):df w':=h.gP b rfl a
theorem kE.bA{w w':World}{c:CV}{g:Nat}{x:CV}{T:TypeId}(h:kE w c)(b:Blk w g (fS x) T)(a:Kept w w' [g]):kE w' c:=⟨h.base.bA b a,h.now.bA b a,h.aJ.bA b a,h.held.bA b a⟩
structure jK (w:World) (g:Nat) (c:CV):Prop where
 aM:Blk w g (fS c) 41
 ia:kE w c
theorem jK.below{w w':World}{g:Nat}{c:CV}(h:jK w g c)(a:Below w.heap.size w w'):jK w' g c:=⟨(a.block _ h.aM.lt).trans h.aM,h.ia.below a⟩
theorem jK.under{w w':World}{g:Nat}{c:CV}(h:jK w g c)(a:Kept w w' [g])(b:Blk w' g (fS c) 41):jK w' g c:=⟨b,h.ia.bA h.aM a⟩
theorem aP(w:World)(g j:Nat)(v:Value):Kept w (w.setCell ⟨g,j,none⟩ v) [g]:=dX _ _ _ _ _ (by simp)
theorem Kept.dA{w w':World}{S:List Nat}(h:Below w.heap.size w w'):Kept w w' S:=⟨h.os,h.tape,h.output,h.size,fun k a _=>h.block k a⟩
theorem Kept.low{w w':World}{g:Nat}(h:Kept w w' [g])(b:g<=w.heap.size):Below g w w':=h.below b (fun x a=>by rw[UY.1 a];exact UZ _)
def CV.Jy (c:CV) (r:Int):CV:=⟨r,c.ba,c.bn,c.bc,c.base,c.na,c.nn,c.nc,c.now,c.seq,c.sa,c.sn,c.sc,c.aJ,c.ha,c.hn,c.hc,c.held,c.jo⟩
theorem jK.Jy{w:World}{g:Nat}{c:CV}(h:jK w g c)(r:Int):jK (w.setCell ⟨g,0,none⟩ (.int .i64 r)) g (c.Jy r):=
 ⟨h.aM.set 0 _,h.ia.base.bA h.aM (aP _ _ _ _),h.ia.now.bA h.aM (aP _ _ _ _),h.ia.aJ.bA h.aM (aP _ _ _ _),h.ia.held.bA h.aM (aP _ _ _ _)⟩
def CV.toSeq (c:CV) (r:Int):CV:=⟨c.rev,c.ba,c.bn,c.bc,c.base,c.na,c.nn,c.nc,c.now,r,c.sa,c.sn,c.sc,c.aJ,c.ha,c.hn,c.hc,c.held,c.jo⟩
theorem jK.toSeq{w:World}{g:Nat}{c:CV}(h:jK w g c)(r:Int):jK (w.setCell ⟨g,3,none⟩ (.int .i64 r)) g (c.toSeq r):=
 ⟨h.aM.set 3 _,h.ia.base.bA h.aM (aP _ _ _ _),h.ia.now.bA h.aM (aP _ _ _ _),h.ia.aJ.bA h.aM (aP _ _ _ _),h.ia.held.bA h.aM (aP _ _ _ _)⟩
def CV.tO (c:CV) (a:Option Addr) (n cp:Nat) (l:List It):CV:=⟨c.rev,a,n,cp,l,c.na,c.nn,c.nc,c.now,c.seq,c.sa,c.sn,c.sc,c.aJ,c.ha,c.hn,c.hc,c.held,c.jo⟩
theorem jK.tO{w:World}{g:Nat}{c:CV}(h:jK w g c)(a:Option Addr)(n b:Nat)(l:List It)(d:cy w a n b l):jK (w.setCell ⟨g,1,none⟩ (.slice a n b)) g (c.tO a n b l):=
 ⟨h.aM.set 1 _,d.bA h.aM (aP _ _ _ _),h.ia.now.bA h.aM (aP _ _ _ _),h.ia.aJ.bA h.aM (aP _ _ _ _),h.ia.held.bA h.aM (aP _ _ _ _)⟩
def CV.kM (c:CV) (a:Option Addr) (n cp:Nat) (l:List It):CV:=⟨c.rev,c.ba,c.bn,c.bc,c.base,a,n,cp,l,c.seq,c.sa,c.sn,c.sc,c.aJ,c.ha,c.hn,c.hc,c.held,c.jo⟩
theorem jK.kM{w:World}{g:Nat}{c:CV}(h:jK w g c)(a:Option Addr)(n b:Nat)(l:List It)(d:cy w a n b l):jK (w.setCell ⟨g,2,none⟩ (.slice a n b)) g (c.kM a n b l):=
 ⟨h.aM.set 2 _,h.ia.base.bA h.aM (aP _ _ _ _),d.bA h.aM (aP _ _ _ _),h.ia.aJ.bA h.aM (aP _ _ _ _),h.ia.held.bA h.aM (aP _ _ _ _)⟩
def CV.lh (c:CV) (a:Option Addr) (n cp:Nat) (us:List PV):CV:=⟨c.rev,c.ba,c.bn,c.bc,c.base,c.na,c.nn,c.nc,c.now,c.seq,a,n,cp,us,c.ha,c.hn,c.hc,c.held,c.jo⟩
theorem jK.lh{w:World}{g:Nat}{c:CV}(h:jK w g c)(a:Option Addr)(n b:Nat)(us:List PV)(d:ae w a n b us):jK (w.setCell ⟨g,4,none⟩ (.slice a n b)) g (c.lh a n b us):=
 ⟨h.aM.set 4 _,h.ia.base.bA h.aM (aP _ _ _ _),h.ia.now.bA h.aM (aP _ _ _ _),d.bA h.aM (aP _ _ _ _),h.ia.held.bA h.aM (aP _ _ _ _)⟩
def CV.mo (c:CV) (a:Option Addr) (n cp:Nat) (us:List PV):CV:=⟨c.rev,c.ba,c.bn,c.bc,c.base,c.na,c.nn,c.nc,c.now,c.seq,c.sa,c.sn,c.sc,c.aJ,a,n,cp,us,c.jo⟩
theorem jK.mo{w:World}{g:Nat}{c:CV}(h:jK w g c)(a:Option Addr)(n b:Nat)(us:List PV)(d:ae w a n b us):jK (w.setCell ⟨g,5,none⟩ (.slice a n b)) g (c.mo a n b us):=
 ⟨h.aM.set 5 _,h.ia.base.bA h.aM (aP _ _ _ _),h.ia.now.bA h.aM (aP _ _ _ _),h.ia.aJ.bA h.aM (aP _ _ _ _),d.bA h.aM (aP _ _ _ _)⟩
theorem Ph(t:CV):(prog.info? 41).map (·.size)=some (fS t).toArray.size:=by
 have h:(prog.info? 41).map (·.size)=some 7:=by kernel_rfl
 exact h
theorem NH{b:Func}{p:Tmp}{t:CV}{w:World}{g:Nat}(h:b.results=#[.cell p 41])(a:Array Value)(c:a.getD p undef=.pointer (some ⟨g,0,none⟩))(d:Blk w g (fS t) 41):(results b a).run prog w=.ok (Rh t) w:=
 results_cell_row h a w g 41 (fS t).toArray (0,0) _ c d underlying41 rfl (Ph t)
theorem KP{b:Func}{p u:Tmp}{t:CV}{c:Value}{w:World}{g:Nat}(h:b.results=#[.cell p 41,.tmp u])(a:Array Value)(e:a.getD p undef=.pointer (some ⟨g,0,none⟩))(d:a.getD u undef=c)(i:Blk w g (fS t) 41):(results b a).run prog w=.ok (.tuple #[Rh t,c]) w:=by
 have f:=run_loadVar_row (P:=prog) w g 41 41 (fS t).toArray (0,0) _ i underlying41 rfl (Ph t);rw[results_cell_tmp h,e,d];simp only[asAddr,Sem.run_pure,Result.andThen_ok,f]
 rfl
def jt (w:World) (g:Nat) (t:CV):World:=((((((w.setCell ⟨g,0,none⟩ (.int .i64 t.rev)).setCell ⟨g,1,none⟩ (.slice t.ba t.bn t.bc)).setCell ⟨g,2,none⟩ (.slice t.na t.nn t.nc)).setCell ⟨g,3,none⟩ (.int .i64 t.seq)).setCell ⟨g,4,none⟩ (.slice t.sa t.sn t.sc)).setCell ⟨g,5,none⟩ (.slice t.ha t.hn t.hc)).setCell ⟨g,6,none⟩ (.bool t.jo)
theorem fV{w:World}{g:Nat}{x t:CV}(h:Blk w g (fS x) 41):Blk (jt w g t) g (fS t) 41:=((((((h.set 0 (.int .i64 t.rev)).set 1 (.slice t.ba t.bn t.bc)).set 2 (.slice t.na t.nn t.nc)).set 3 (.int .i64 t.seq)).set 4 (.slice t.sa t.sn t.sc)).set 5 (.slice t.ha t.hn t.hc)).set 6 (.bool t.jo)
theorem cQ(w:World)(g:Nat)(t:CV):Kept w (jt w g t) [g]:=(((((((Kept.refl w [g]).setCell _ _ (.inl (by simp))).setCell _ _ (.inl (by simp))).setCell _ _ (.inl (by simp))).setCell _ _ (.inl (by simp))).setCell _ _ (.inl (by simp))).setCell _ _ (.inl (by simp))).setCell _ _ (.inl (by simp))
theorem jK.put{w:World}{g:Nat}{x t:CV}(h:Blk w g (fS x) 41)(a:kE w t):jK (jt w g t) g t:=⟨fV h,a.bA h (cQ w g t)⟩
structure bj (w:World) (e:TypeId) (sz:Nat) (a:Option Addr) (n cap:Nat) (xs:List Value):Prop where
 len:xs.length=n*sz
 vv:(a=none/\n=0/\cap=0)\/∃ g sp,a=some ⟨g,0,none⟩/\Blk w g (xs++sp) e/\ee (xs++sp)=true/\(xs++sp).length=cap*sz/\n<=cap/\cap<=maxLen
def oT (a:Option Addr):List Nat:=a.toList.map (·.block)
theorem dI{a:Option Addr}{x:Nat}:x∈oT a↔∃b:Addr,a=some b/\b.block=x:=by
 cases a with
 |none=>simp[oT]
 |some b=>simp[oT,eq_comm]
theorem bj.nil(w:World)(e:TypeId)(sz:Nat):bj w e sz none 0 0 []:=⟨by simp,.inl ⟨rfl,rfl,rfl⟩⟩
theorem bj.row{w:World}{e:TypeId}{sz:Nat}{a:Option Addr}{n b:Nat}{xs:List Value}(h:bj w e sz a n b xs):Row w a n b sz xs:=by
 rcases h.vv with⟨rfl,rfl,rfl⟩|⟨g,sp,rfl,f,_,_,i,d⟩
 ·have:xs=[]:=VS.1 (by rw[h.len,XQ]);rw[this];exact Row.nil w sz
 ·refine⟨h.len,i,by unfold maxLen at d;exact d,fun _=>⟨g,0,rfl,fun j u c=>?_⟩⟩
  rw[VR,f.cell j,List.getElem?_append_left (VO.1 c).1];exact c
theorem bj.kept{w w':World}{e:TypeId}{sz:Nat}{a:Option Addr}{n b:Nat}{xs:List Value}{S:List Nat}(h:bj w e sz a n b xs)(f:Kept w w' S)(d:∀c:Addr,a=some c->c.block∉S):bj w' e sz a n b xs:=by
 refine⟨h.len,?_⟩
 rcases h.vv with k|⟨g,sp,rfl,i,r⟩
 ·exact .inl k
 ·exact .inr ⟨g,sp,rfl,f.aM i (d _ rfl),r⟩
theorem bj.below{w w':World}{e:TypeId}{sz:Nat}{a:Option Addr}{n b:Nat}{xs:List Value}(h:bj w e sz a n b xs)(d:Below w.heap.size w w'):bj w' e sz a n b xs:=
 h.kept (S:=[]) (Kept.dA d) (fun _ _ c=>by cases c)
theorem bj.lt{w:World}{e:TypeId}{sz:Nat}{a:Option Addr}{n d:Nat}{xs:List Value}(h:bj w e sz a n d xs){f:Addr}(b:a=some f):f.block<w.heap.size:=by
 rcases h.vv with⟨c,_⟩|⟨g,sp,c,i,_⟩
 ·rw[c]at b;cases b
 ·rw[c]at b;cases b;exact i.lt
theorem bj.aM{w:World}{e:TypeId}{sz:Nat}{a:Option Addr}{n b:Nat}{xs:List Value}(h:bj w e sz a n b xs)(c:n≠0):∃g sp,a=some ⟨g,0,none⟩/\Blk w g (xs++sp) e/\ee (xs++sp)=true/\(xs++sp).length=b*sz/\n<=b/\b<=maxLen:=by
 rcases h.vv with⟨_,f,_⟩|d
 ·exact absurd f c
 ·exact d
theorem dB{l m:List Value}:ee (l++m)=true↔ee l=true/\ee m=true:=by
 unfold ee;rw[List.all_append,WD]
theorem Hw{a:Array Value}(h:ee a.toList=true)(k:Nat):ee (Builtin.zeroCells a k).toList=true:=by
 unfold ee at*;rw[XR]at*;intro u b;unfold Builtin.zeroCells at b;simp only[Array.toList_map]at b
 obtain⟨i,g,rfl⟩:=XI.1 b;have c:i<k*a.size:=by simpa using g
 have d:0<a.size:=by
  rcases XX a.size with e|e
  ·rw[e,Nat.mul_zero]at c;omega
  ·exact e
 have f:i%a.size<a.size:=Nat.mod_lt _ d;rw[getElem!_pos a _ f];exact h _ (by simp)
theorem Hy{l:List Value}(h:ee l=true)(k:Nat):ee (l.drop k)=true:=by
 unfold ee at*;rw[XR]at*;exact fun u a=>h u (List.mem_of_mem_drop a)
theorem oY{P:Program}(w:World)(t H e:TypeId)(i:TypeInfo)(z:Value)(o v:Nat)(L:P.underlying t=some (.slice e))(M:P.info? e=some i)(X:i.zero=some z)
  (B:i.size=o)(W:i.bytes=v)(O:z.cells.size=o)(Q:ee z.cells.toList=true)(a:Option Addr)(n f:Nat)(xs:List Value)(d:bj w e o a n f xs)
  (E:Addr)(m c:Nat)(b:List Value)(D:b.length=m*o)(p:∀j u,b[j]?=some u->w.cell? (E.add j)=some u)(h1:∀u∈b,u.oneCell'=true)(G:ee b=true)
  (hm:0<m)(A:n+m<=maxLen)(r:(n+m)*v<=140737488355328):
  ∃g x w',(Builtin.append_ #[t,t] H #[.slice a n f,.slice (some E) m c]).run P w=.ok (.slice (some ⟨g,0,none⟩) (n+m) x) w'/\bj w' e o (some ⟨g,0,none⟩) (n+m) x (xs++b)/\Kept w w' (oT a)/\(g=w.heap.size\/a=some ⟨g,0,none⟩):=by
 subst B;subst W
 have a0:n+m<=9223372036854775807:=by unfold maxLen at A;exact A
 have q:(xs++b).length=(n+m)*i.size:=by rw[VI,d.len,D,Nat.add_mul]
 have s:∀l,ee xs=true->bj (w.drew.alloc (.cells (xs.toArray++b.toArray++Builtin.zeroCells z.cells (grownCap w (n+m) l e-(n+m))) e)) e i.size (some ⟨w.heap.size,0,none⟩) (n+m) (grownCap w (n+m) l e) (xs++b)/\Kept w (w.drew.alloc (.cells (xs.toArray++b.toArray++Builtin.zeroCells z.cells (grownCap w (n+m) l e-(n+m))) e)) (oT a):=fun l K=>by
  have U:=grownCap_ge w (n+m) l e;have ha:xs.toArray++b.toArray++Builtin.zeroCells z.cells (grownCap w (n+m) l e-(n+m))=((xs++b)++(Builtin.zeroCells z.cells (grownCap w (n+m) l e-(n+m))).toList).toArray:=by
   apply Array.ext'
   simp
  rw[ha];refine⟨⟨q,.inr ⟨_,_,rfl,Blk.newAt w.drew _ _ _ (XE ..),dB.2 ⟨dB.2 ⟨K,G⟩,Hw Q _⟩,?_,U,grownCap_le_maxLen w (n+m) l e A⟩⟩,((Kept.refl w _).drew).alloc _⟩
  rw[VI,q,Array.length_toList,size_zeroCells,O,<-Nat.add_mul];congr 1
  omega
 rcases d.vv with⟨rfl,rfl,rfl⟩|⟨g,sp,rfl,N,F,Z,a1,V⟩
 ·have K:=VS.1 (by rw[d.len,XQ]);subst K;have y:=run_append_nil (P:=P) w t H e i z L M X E m c b D p hm (by omega) (by simp only[VR]at r;omega);obtain⟨J,I⟩:=s 0 rfl;simp only[VR,List.nil_append,Array.empty_append]at J I y⊢
  exact⟨_,_,_,y,J,I,.inl rfl⟩
 ·by_cases h:n+m<=f
  ·have T:(xs++sp).toArray.size=f*i.size:=by rw[List.size_toArray];exact Z
   have y:=run_append_room (P:=P) w t H e i L M g n f (xs++sp).toArray N E m c b D p h1 h (by rw[T,D,<-Nat.add_mul];exact Nat.mul_le_mul_right _ h);have S:((xs++sp).toArray.toList.take (n*i.size)++b++(xs++sp).toArray.toList.drop (n*i.size+b.length))=(xs++b)++sp.drop b.length:=by
    show(xs++sp).take _++b++(xs++sp).drop _=_
    rw[<-d.len,List.take_left,List.drop_append,WI (by omega),Nat.add_sub_cancel_left,List.nil_append]
   rw[S]at y;obtain⟨n1,n2⟩:=dB.1 F;refine⟨g,f,_,y,⟨q,.inr ⟨g,_,rfl,setRow_heap w g _ _ e _ N,dB.2 ⟨dB.2 ⟨n1,G⟩,Hy n2 _⟩,?_,h,V⟩⟩,⟨rfl,rfl,rfl,by simp,fun k _ hk=>setRow_other w g k _ (fun e=>hk (by rw[e];simp[oT]))⟩,.inr rfl⟩
   rw[VI,q,XG];rw[VI,d.len]at Z;have h3:(n+m)*i.size<=f*i.size:=Nat.mul_le_mul_right _ h;rw[Nat.add_mul]at h3⊢;omega
  ·have C:∀j u,xs[j]?=some u->w.cell? ((⟨g,0,none⟩:Addr).add j)=some u:=fun j u Y=>by
    rw[iU,VR,N.cell j,List.getElem?_append_left (VO.1 Y).1];exact Y
   have y:=run_append_grow (P:=P) w t H e i z L M X ⟨g,0,none⟩ n f xs d.len C E m c b D p (by omega) (by omega) (growslice_fits (by omega) r);obtain⟨J,I⟩:=s f (dB.1 F).1;exact⟨_,_,_,y,J,I,.inl rfl⟩
end Go.Proofs.YthddphjghgdalaaGreatDoor
namespace Go.Proofs.YthddphjghgdalaaGreatDoor
open Go.Proofs.Tryz
namespace Kl
theorem mL{o:List Ac.Pt}(h:Ac.gC o=0):0<o.length:=by
 cases o with
 |nil=>exact absurd h (by decide)
 |cons a l=>simp
theorem yQ{d:List It}{o:List Ac.Pt}(h:Ac.ag d o=0):0<o.length:=mL (Ac.bi.2 (Ac.kj h).2.1)
theorem Mv{a b:List Ac.Pt}(h:Ac.fO a b=0):0<(Ac.lZ a b).length/\0<(Ac.gY a b).length:=by
 obtain⟨k,i⟩:=Ac.Js h;have f:Ac.gQ (Ac.tx a b) (Ac.ty a b)=0:=by
  unfold Ac.fO at h;by_cases g:Ac.gQ a b=0
  ·rw[VC g]at h;by_cases c:Ac.nd a=Ac.nd b
   ·rw[VC c]at h;exact h
   ·rw[VD c]at h;cases h
  ·rw[VD g]at h;exact absurd h g
 obtain⟨e,d⟩:=Ac.ik f;rw[k,i];exact⟨mL (Ac.bi.2 e),mL (Ac.bi.2 d)⟩
theorem gU{d:List It}{o:List Ac.Pt}(h:o.length=0):vf d o=0/\qA d o=d:=⟨VC h,VC h⟩
theorem dG{d:List It}{o:List Ac.Pt}(h:0<o.length):vf d o=Ac.ag d o/\qA d o=Ac.done d o:=⟨VD (by omega),VD (by omega)⟩
theorem zs{d:List It}{o:List Ac.Pt}(a:Dc.check d=0)(h:vf d o=0):Dc.check (qA d o)=0:=by
 by_cases b:o.length=0
 ·rw[(gU b).2];exact a
 ·rw[(dG (by omega)).1]at h;rw[(dG (by omega)).2];exact(Ac.iQ h).2.1
theorem TJ{d:List It}{s h:List Ac.Pt}(e:pS d s h=0):vf d s=0/\vf (qA d s) h=0:=by
 unfold pS at e;by_cases g:vf d s=0
 ·rw[VC g]at e;exact⟨g,e⟩
 ·rw[VD g]at e;exact absurd e g
theorem PL{d:List It}{s h:List Ac.Pt}(b:vf d s=0)(a:vf (qA d s) h=0):pS d s h=0:=by
 unfold pS;rw[VC b,a]
structure Rc (c:Cl):Prop where
 lo:0<=c.rev
 hi:c.rev<=60
 JQ:0<=c.seq
 JR:c.seq<=10000
 ck:Dc.check c.base=0
 hs:0<c.held.length->0<c.aJ.length
 sq:0<c.aJ.length->c.seq≠0
 e1:vf c.base c.aJ=0
 e2:vf (qA c.base c.aJ) c.held=0
 nw:c.now=qA (qA c.base c.aJ) c.held
theorem xL{c:Cl}(h:iS c=0):Rc c:=by
 unfold iS at h;by_cases f:c.rev<0\/60<c.rev\/c.seq<0\/10000<c.seq
 ·rw[VC f]at h;cases h
 rw[VD f]at h;by_cases b:Dc.check c.base=0
 ·rw[VC b]at h;by_cases e:(0<c.held.length/\c.aJ.length=0)\/(0<c.aJ.length/\c.seq=0)
  ·rw[VC e]at h;cases h
  rw[VD e]at h;by_cases a:pS c.base c.aJ c.held=0
  ·rw[VC a]at h;by_cases d:Dc.same c.now (Ds c.base c.aJ c.held)=true
   ·obtain⟨i,g⟩:=TJ a;exact⟨by omega,by omega,by omega,by omega,b,by omega,by omega,i,g,(jy _ _).1 d⟩
   ·rw[VD d]at h;cases h
  ·rw[VD a]at h;exact absurd h a
 ·rw[VD b]at h;exact absurd h b
theorem Rc.e0{c:Cl}(h:Rc c):iS c=0:=by
 unfold iS;have:=h.lo;have:=h.hi;have:=h.JQ;have:=h.JR;rw[VD (by omega),VC h.ck,VD (by have:=h.hs;have:=h.sq;omega),VC (PL h.e1 h.e2)];exact VC ((jy _ _).2 h.nw)
theorem Rc.Kk{c:Cl}(h:Rc c):Dc.check c.now=0:=by
 rw[h.nw];exact zs (zs h.ck h.e1) h.e2
theorem Rc.xE{c:Cl}(h:Rc c)(a:c.aJ.length=0):c.held.length=0:=by
 have:=h.hs;omega
theorem PJ{c:Cl}{o:List Ac.Pt}(h:Rc c)(d:iR c o=0):Rc (kH c o)/\Ac.ag c.now o=0/\(kH c o).now=Ac.done c.now o/\(kH c o).base=c.base/\(kH c o).rev=c.rev/\(kH c o).jo=c.jo:=by
 unfold iR at d;by_cases a:Ac.ag c.now o=0
 ·rw[VC a]at d;have k:=yQ a;by_cases f:c.aJ.length=0
  ·rw[VC f]at d;have e:kH c o=⟨c.rev,c.base,Ac.done c.now o,c.seq+1,o,c.held,c.jo⟩:=VC f;have g:=h.xE f;have b:c.now=c.base:=by rw[h.nw,(gU f).2,(gU g).2]
   rw[b]at a;by_cases i:c.seq=10000
   ·rw[VC i]at d;cases d
   rw[e];have q1:=h.JQ;have q2:=h.JR;refine⟨⟨h.lo,h.hi,by show 0<=c.seq+1;omega,by show c.seq+1<=10000;omega,h.ck,fun p=>absurd p (by show¬0<c.held.length;omega),fun _=>by show c.seq+1≠0;omega,(dG k).1.trans a,(gU g).1,?_⟩,by rw[b];exact a,rfl,rfl,rfl,rfl⟩
   show Ac.done c.now o=qA (qA c.base o) c.held
   rw[(gU g).2,(dG k).2,b]
  ·rw[VD f]at d;by_cases i:c.held.length=0
   ·have e:kH c o=⟨c.rev,c.base,Ac.done c.now o,c.seq,c.aJ,o,c.jo⟩:=by unfold kH;rw[VD f,VC i]
    have b:c.now=qA c.base c.aJ:=by rw[h.nw,(gU i).2]
    rw[e];refine⟨⟨h.lo,h.hi,h.JQ,h.JR,h.ck,fun _=>by show 0<c.aJ.length;omega,h.sq,h.e1,?_,?_⟩,a,rfl,rfl,rfl,rfl⟩
    ·show vf (qA c.base c.aJ) o=0
     rw[(dG k).1,<-b];exact a
    ·show Ac.done c.now o=qA (qA c.base c.aJ) o
     rw[(dG k).2,<-b]
   ·rw[VD i]at d;have e:kH c o=⟨c.rev,c.base,Ac.done c.now o,c.seq,c.aJ,Ac.pG c.held o,c.jo⟩:=by unfold kH;rw[VD f,VD i]
    have g:0<c.held.length:=by omega
    have q:Ac.ag (qA c.base c.aJ) c.held=0:=by have:=h.e2;rw[(dG g).1]at this;exact this
    have b:c.now=Ac.done (qA c.base c.aJ) c.held:=by rw[h.nw,(dG g).2]
    rw[b]at a;obtain⟨m,n,r⟩:=Ac.DM q a d;have l:=yQ m;rw[e];refine⟨⟨h.lo,h.hi,h.JQ,h.JR,h.ck,fun _=>by show 0<c.aJ.length;omega,h.sq,h.e1,?_,?_⟩,by rw[b];exact a,rfl,rfl,rfl,rfl⟩
    ·show vf (qA c.base c.aJ) (Ac.pG c.held o)=0
     rw[(dG l).1];exact m
    ·show Ac.done c.now o=qA (qA c.base c.aJ) (Ac.pG c.held o)
     rw[(dG l).2,n,b]
 ·rw[VD a]at d;exact absurd d a
theorem OK{c:Cl}{o:List Ac.Pt}(h:iR c o=0):0<(kH c o).aJ.length/\(0<c.aJ.length->(kH c o).aJ=c.aJ/\(kH c o).seq=c.seq/\0<(kH c o).held.length):=by
 unfold iR at h;by_cases b:Ac.ag c.now o=0
 ·rw[VC b]at h;have i:=yQ b;by_cases a:c.aJ.length=0
  ·have e:kH c o=⟨c.rev,c.base,Ac.done c.now o,c.seq+1,o,c.held,c.jo⟩:=VC a;rw[e];exact⟨i,fun k=>absurd k (by omega)⟩
  ·rw[VD a]at h;by_cases f:c.held.length=0
   ·have e:kH c o=⟨c.rev,c.base,Ac.done c.now o,c.seq,c.aJ,o,c.jo⟩:=by unfold kH;rw[VD a,VC f]
    rw[e];exact⟨by show 0<c.aJ.length;omega,fun _=>⟨rfl,rfl,i⟩⟩
   ·rw[VD f]at h;have e:kH c o=⟨c.rev,c.base,Ac.done c.now o,c.seq,c.aJ,Ac.pG c.held o,c.jo⟩:=by unfold kH;rw[VD a,VD f]
    rw[e];refine⟨by show 0<c.aJ.length;omega,fun _=>⟨rfl,rfl,?_⟩⟩
    show 0<(Ac.pG c.held o).length
    have l:Ac.gC (Ac.jx c.held o)=0:=by
     unfold Ac.sP at h;by_cases d:Ac.gQ c.held o=0
     ·rw[VC d]at h;by_cases g:Ac.lv c.held=Ac.nd o
      ·rw[VC g]at h;exact h
      ·rw[VD g]at h;cases h
     ·rw[VD d]at h;exact absurd h d
    rw[Ac.LL h];exact mL l
 ·rw[VD b]at h;exact absurd h b
theorem Ll{c:Cl}(f:0<=c.rev)(e:c.rev<=60)(d:0<=c.seq)(b:c.seq<=10000)(a:Dc.check c.base=0):Rc (gv c):=
 ⟨f,e,d,b,a,fun h=>h,fun h=>absurd h (by show¬0<([]:List Ac.Pt).length;simp),rfl,rfl,rfl⟩
theorem MU{c:Cl}{o:List Ac.Pt}(h:Rc c)(b:c.rev≠60)(a:Ac.ag c.base o=0):Rc (gv (vq c o)):=by
 have:=h.lo;have:=h.hi;exact Ll (by show 0<=c.rev+1;omega) (by show c.rev+1<=60;omega) h.JQ h.JR (Ac.iQ a).2.1
structure Hk (c y:Cl) (o:List Ac.Pt) (s:Bool):Prop where
 rc:Rc y
 lo:c.rev<=y.rev
 hi:y.rev<=c.rev+1
 aJ:s=true->0<y.aJ.length/\y.seq=c.seq+1
 jo:y.jo=c.jo
 old:y.rev=c.rev->y.base=c.base
 new:y.rev≠c.rev->Ac.ag c.base o=0/\y.base=Ac.done c.base o
theorem Kg{c:Cl}{o:List Ac.Pt}(h:Rc c)(f:c.rev≠60)(a:Ac.ag c.base o=0):Hk c (iX c o) o (mf c o):=by
 have l:=h.lo;have k:=h.hi;have q1:=h.JQ;have q2:=h.JR;unfold iX
 cases b:mf c o
 ·rw[VD WB];exact⟨MU h f a,by show c.rev<=c.rev+1;omega,XV _,(fun e=>by cases e),rfl,fun e=>absurd e (by show¬c.rev+1=c.rev;omega),fun _=>⟨a,rfl⟩⟩
 ·rw[VC rfl];unfold mf at b;simp only[WD,XF,Bool.not_eq_true',decide_eq_false_iff_not]at b
  obtain⟨d,i,m⟩:=b;refine⟨⟨by show 0<=c.rev+1;omega,by show c.rev+1<=60;omega,by show 0<=c.seq+1;omega,by show c.seq+1<=10000;omega,(Ac.iQ a).2.1,fun g=>absurd g (by show¬0<([]:List Ac.Pt).length;simp),fun _=>by show c.seq+1≠0;omega,?_,rfl,?_⟩,by show c.rev<=c.rev+1;omega,XV _,fun _=>⟨d,rfl⟩,rfl,fun e=>absurd e (by show¬c.rev+1=c.rev;omega),fun _=>⟨a,rfl⟩⟩
  ·show vf (Ac.done c.base o) c.held=0
   rw[(dG d).1];exact i
  ·show Ac.done (Ac.done c.base o) c.held=qA (qA (Ac.done c.base o) c.held) []
   rw[(dG d).2];rfl
theorem zS{o s:List Ac.Pt}(h:tE o s=0):(tY o s).length=0↔s.length=0:=by
 unfold tE at h;unfold tY;by_cases g:s.length=0
 ·rw[VC g]
 ·rw[VD g]at h⊢;have:=(Mv h).2;omega
theorem UF{o s h:List Ac.Pt}(e:Bm o s h=0):tE o s=0/\tE (tX o s) h=0:=by
 unfold Bm at e;by_cases g:tE o s=0
 ·rw[VC g]at e;exact⟨g,e⟩
 ·rw[VD g]at e;exact absurd e g
structure Ot2 (c:Cl) (o:List Ac.Pt):Prop where
 fit:Ac.ag c.base o=0
 b1:tE o c.aJ=0
 b2:tE (tX o c.aJ) c.held=0
 d1:vf (Ac.done c.base o) (tY o c.aJ)=0
 d2:vf (qA (Ac.done c.base o) (tY o c.aJ)) (Fp o c.aJ c.held)=0
 is:fW c o=⟨c.rev+1,Ac.done c.base o,Ds (Ac.done c.base o) (tY o c.aJ) (Fp o c.aJ c.held),c.seq,tY o c.aJ,Fp o c.aJ c.held,c.jo⟩
theorem wZ(c:Cl)(o:List Ac.Pt):(¬Ac.ag c.base o=0/\fW c o=c)\/(Ac.ag c.base o=0/\fW c o=gv (vq c o))\/Ot2 c o:=by
 by_cases a:Ac.ag c.base o=0
 ·by_cases b:Bm o c.aJ c.held=0
  ·by_cases d:pS (Ac.done c.base o) (tY o c.aJ) (Fp o c.aJ c.held)=0
   ·obtain⟨x1,x2⟩:=UF b;obtain⟨f,e⟩:=TJ d;exact .inr (.inr ⟨a,x1,x2,f,e,by unfold fW;rw[VC a,VC b,VC d]⟩)
   ·exact .inr (.inl ⟨a,by unfold fW;rw[VC a,VC b,VD d]⟩)
  ·exact .inr (.inl ⟨a,by unfold fW;rw[VC a,VD b]⟩)
 ·exact .inl ⟨a,VD a⟩
theorem Kh{c:Cl}{o:List Ac.Pt}(h:Rc c)(f:c.rev≠60):Hk c (fW c o) o false:=by
 have m:=h.lo;have l:=h.hi;rcases wZ c o with⟨b,e⟩|⟨b,e⟩|g
 ·rw[e];exact⟨h,XV _,by omega,(fun e=>by cases e),rfl,fun _=>rfl,fun e=>absurd rfl e⟩
 ·rw[e];exact⟨MU h f b,by show c.rev<=c.rev+1;omega,XV _,(fun e=>by cases e),rfl,fun e=>absurd e (by show¬c.rev+1=c.rev;omega),fun _=>⟨b,rfl⟩⟩
 ·rw[g.is];refine⟨⟨by show 0<=c.rev+1;omega,by show c.rev+1<=60;omega,h.JQ,h.JR,(Ac.iQ g.fit).2.1,fun a=>?_,fun a=>?_,g.d1,g.d2,rfl⟩,by show c.rev<=c.rev+1;omega,XV _,fun e=>(by cases e),rfl,fun e=>absurd e (by show¬c.rev+1=c.rev;omega),fun _=>⟨g.fit,rfl⟩⟩
  ·have k:=zS g.b1;have n:=zS g.b2;have i:=h.hs;have d:0<(tY (tX o c.aJ) c.held).length:=a;show 0<(tY o c.aJ).length
   omega
  ·have k:=zS g.b1;have i:=h.sq;have d:0<(tY o c.aJ).length:=a;exact i (by omega)
theorem Es{c:Cl}(h:Rc c)(o:List Ac.Pt):Hk c c o false:=⟨h,XV _,by have:=h.lo;omega,(fun e=>by cases e),rfl,fun _=>rfl,fun e=>absurd rfl e⟩
theorem OE{c:Cl}{f rev:Int}{x:Sv.En}(h:Rc c)(a:Bk c f rev x=0):Hk c (FM c f rev x) x.o (JT c f rev x):=by
 unfold Bk at a;unfold FM JT;by_cases k:x.o.length=0
 ·rw[VC k,VC k];by_cases b:kZ c f x=true
  ·rw[VC b];exact⟨Ll h.lo h.hi h.JQ h.JR h.ck,XV _,by show c.rev<=c.rev+1;omega,(fun e=>by cases e),rfl,fun _=>rfl,fun e=>absurd rfl e⟩
  ·rw[VD b];exact Es h _
 ·rw[VD k]at a⊢;rw[VD k];by_cases b:Ac.gC x.o=0
  ·rw[VC b]at a;by_cases d:rev≠c.rev+1\/c.rev=60
   ·rw[VC d,VC d];exact Es h _
   ·rw[VD d]at a⊢;rw[VD d];have g:c.rev≠60:=fun e=>d (.inr e);by_cases i:kZ c f x=true
    ·rw[VC i]at a⊢;rw[VC i];exact Kg h g a
    ·rw[VD i,VD i];exact Kh h g
  ·rw[VD b]at a;exact absurd a b
theorem rC(c:Cl):same c c=true:=by simp[same,Sv.nJ,Ac.o9]
end Kl
end Go.Proofs.YthddphjghgdalaaGreatDoor
namespace Go.Proofs.YthddphjghgdalaaGreatDoor
open Go.RowKit Go.Proofs.Tryz
theorem bC(c:Option Addr)(n a:Nat)(w:World):Calls prog 61 #[.slice c n a] w fun e w'=>e=.returned (.bool (decide (0<n)))/\w'=w:=by
 rcases XX n with rfl|h
 ·go_enter func61,ntmps61
  go_wp2
  go_ret
  exact⟨rfl,rfl⟩
 ·have d:decide ((0:Int)<(n:Int))=true:=by simp;omega
  have b:decide (0<n)=true:=by simp;omega
  rw[b];go_enter func61,ntmps61
  go_wp2
  go_ret
  exact⟨rfl,rfl⟩
def jH (a b:Option Addr) (n c m d:Nat) (w:World):World:=w.alloc (.cells #[.slice a n c,.slice b m d] 111)
theorem eY(a b:Option Addr)(n c m d:Nat)(w:World):Below w.heap.size w (jH a b n c m d w):=(VE _ _).alloc (UZ _) _
theorem oB(a b:Option Addr)(n c m d:Nat)(w:World):Blk (jH a b n c m d w) w.heap.size [.slice a n c,.slice b m d] 111:=Blk.new w _ _
theorem EB(a b:Option Addr)(n c m d:Nat)(w:World):(jH a b n c m d w).heap.size=w.heap.size+1:=WO ..
theorem Tw(a b:Option Addr)(n c m d:Nat)(w:World):(Instr.index 111 (.agg #[.slice a n c,.slice b m d]) (.int .i64 0)).run prog w=.ok (.slice a n c) w:=by kernel_rfl
theorem Tv(a b:Option Addr)(n c m d:Nat)(w:World):(Instr.index 111 (.agg #[.slice a n c,.slice b m d]) (.int .i64 1)).run prog w=.ok (.slice b m d) w:=by kernel_rfl
namespace Kl
def ym (d:List It) (s h:List Ac.Pt) (k:Nat) (l:List It):Prop:=(k=0/\l=d)\/(k=1/\vf d s=0/\l=qA d s)\/(k=2/\vf d s=0/\vf (qA d s) h=0/\l=qA (qA d s) h)
theorem ym.Ko{d:List It}{s h:List Ac.Pt}{l:List It}(i:ym d s h 0 l)(a:s.length=0):ym d s h 1 l:=by
 rcases i with⟨_,rfl⟩|⟨e,_⟩|⟨e,_⟩
 ·exact .inr (.inl ⟨rfl,(gU a).1,(gU a).2.symm⟩)
 ·cases e
 ·cases e
theorem ym.KB{d:List It}{s h:List Ac.Pt}{l:List It}(i:ym d s h 0 l)(a:0<s.length)(b:Ac.ag l s=0):ym d s h 1 (Ac.done l s):=by
 rcases i with⟨_,rfl⟩|⟨e,_⟩|⟨e,_⟩
 ·exact .inr (.inl ⟨rfl,(dG a).1.trans b,(dG a).2.symm⟩)
 ·cases e
 ·cases e
theorem ym.RQ{d:List It}{s h:List Ac.Pt}{l:List It}(i:ym d s h 0 l)(b:0<s.length)(a:¬Ac.ag l s=0):pS d s h=Ac.ag l s:=by
 rcases i with⟨_,rfl⟩|⟨e,_⟩|⟨e,_⟩
 ·unfold pS;rw[(dG b).1,VD a]
 ·cases e
 ·cases e
theorem ym.Kn{d:List It}{s h:List Ac.Pt}{l:List It}(i:ym d s h 1 l)(a:h.length=0):ym d s h 2 l:=by
 rcases i with⟨e,_⟩|⟨_,b,rfl⟩|⟨e,_⟩
 ·cases e
 ·exact .inr (.inr ⟨rfl,b,(gU a).1,(gU a).2.symm⟩)
 ·cases e
theorem ym.Em{d:List It}{s h:List Ac.Pt}{l:List It}(i:ym d s h 1 l)(a:0<h.length)(b:Ac.ag l h=0):ym d s h 2 (Ac.done l h):=by
 rcases i with⟨e,_⟩|⟨_,c,rfl⟩|⟨e,_⟩
 ·cases e
 ·exact .inr (.inr ⟨rfl,c,(dG a).1.trans b,(dG a).2.symm⟩)
 ·cases e
theorem ym.RP{d:List It}{s h:List Ac.Pt}{l:List It}(i:ym d s h 1 l)(a:0<h.length)(c:¬Ac.ag l h=0):pS d s h=Ac.ag l h:=by
 rcases i with⟨e,_⟩|⟨_,b,rfl⟩|⟨e,_⟩
 ·cases e
 ·unfold pS;rw[VC b,(dG a).1]
 ·cases e
theorem ym.last{d:List It}{s h:List Ac.Pt}{l:List It}(i:ym d s h 2 l):pS d s h=0/\l=Ds d s h:=by
 rcases i with⟨e,_⟩|⟨e,_⟩|⟨_,b,a,rfl⟩
 ·cases e
 ·cases e
 ·exact⟨PL b a,rfl⟩
end Kl
theorem As(ao:Option Addr)(n S:Nat)(d:List It)(r t:Option Addr)(h p o s:Nat)(u x:List PV)(w:World)(A:cy w ao n S d)(Y:ae w r h p u)(Z:ae w t o s x)(hS:df w)(a7:n<=80):
  Calls prog 62 #[.slice ao n S,.agg #[.slice r h p,.slice t o s]] w fun e w'=>(∃a m c,e=.returned (.tuple #[.slice a m c,.int .i64 (Kl.pS d (u.map PV.pt) (x.map PV.pt))])/\(Kl.pS d (u.map PV.pt) (x.map PV.pt)=0->cy w' a m c (Kl.Ds d (u.map PV.pt) (x.map PV.pt))))/\Below w.heap.size w w':=by
 have H1:Hd (Below w.heap.size w (jH r t h p o s w)):=eY ..;have HP:Hd (Blk (jH r t h p o s w) w.heap.size [.slice r h p,.slice t o s] 111):=oB ..;have T:=hId Y;have U:=hId Z;have a5:=hId hS;have a8:=hId A.fit;have CC:=hId (gy ao n S _ _ (jc (A.below H1.o)) (bR _) a7);clear Y Z hS A;go_enter func62,ntmps62
 go_upto_region 1 with fail
 change Code.wp prog _ _ _ (jH r t h p o s w);generalize jH r t h p o s w=W at*;go_wp2_with fail
 refine CC.o.mono ?_
 rintro e V⟨⟨v,rfl,L⟩,K⟩;obtain⟨a1,c1,rfl,hr,-,-⟩:=cR L;have I:=hId (bT hr a8.o);have aa:=hId (H1.o.trans (K.mono H1.o.size));have a4:Blk V w.heap.size [.slice r h p,.slice t o s] 111:=(K.block _ HP.o.lt).trans HP.o;obtain⟨p0,p1⟩:=wz a4;clear L K hr a4 CC;go_wp2
 go_loopw [12,0] (fun i v wr=>∃k:Nat,k<=2/\i=.int .i64 k/\∃a m c l,v=.slice a m c/\cy wr a m c l/\Below w.heap.size w wr/\Kl.ym d (u.map PV.pt) (x.map PV.pt) k l) (fun i _ _=>2-(intOf i).toNat)
 case atStart=>exact⟨0,by decide,rfl,a1,n,c1,d,rfl,I.o,aa.o,.inl ⟨rfl,rfl⟩⟩
 case round=>
  obtain⟨k,hk,rfl,a,m,c,l,rfl,a0,a3,hi⟩:=hrel;have G:=hId a0;have C:=hId a3;have O:=hId hi;clear a0 a3 hi p0 p1;obtain rfl|rfl|rfl:k=0\/k=1\/k=2:=by omega
  ·clear hk;have ix:∀w,(Instr.index 111 (.agg #[.slice r h p,.slice t o s]) (.int .i64 0)).run prog w=.ok (.slice r h p) w:=Tw _ _ _ _ _ _;by_cases y:h=0
   ·have f:Hd ((u.map PV.pt).length=0):=by show _=_;rw[VH,T.o.len];exact y
    have b:decide (0<h)=false:=by simp[y]
    have P:Hd (Calls prog 61 #[.slice r h p] wr fun e w'=>e=.returned (.bool false)/\w'=wr):=by have:=bC r h p wr;rw[b]at this;exact this
    clear y b;go_wp2_with fail
    refine P.o.mono ?_
    rintro e V⟨rfl,M⟩;obtain rfl:=M.symm;go_wp2
    go_roundw
    case rel=>exact⟨1,by decide,rfl,a,m,c,l,rfl,G.o,C.o,O.o.Ko f.o⟩
    case measure=>decide
   ·have f:Hd (0<(u.map PV.pt).length):=by show 0<_;rw[VH,T.o.len];omega
    have b:decide (0<h)=true:=by simp;omega
    have P:Hd (Calls prog 61 #[.slice r h p] wr fun e w'=>e=.returned (.bool true)/\w'=wr):=by have:=bC r h p wr;rw[b]at this;exact this
    have Q:=hId (jk _ _ _ _ _ _ l u wr G.o (T.o.below C.o) (a5.o.below C.o));clear y b;obtain⟨D,A⟩:∃D,Ac.done l (u.map PV.pt)=D:=⟨_,rfl⟩;obtain⟨E,N⟩:∃E,Ac.ag l (u.map PV.pt)=E:=⟨_,rfl⟩;have I:=hId A;have g:=hId N;rw[A,N]at Q;clear A N;obtain⟨q,X⟩:∃q,D.length=q:=⟨_,rfl⟩;rw[X]at Q;clear X;go_wp2_with fail
    refine P.o.mono ?_
    rintro e V⟨rfl,M⟩;obtain rfl:=M.symm;go_wp2_with fail
    refine Q.o.mono ?_
    rintro e w2⟨⟨a2,c2,rfl,F⟩,K⟩;have H:=hId F;have J:=hId (C.o.trans (K.mono C.o.size));clear F K;by_cases z:E=0
    ·have B:=O.o.KB f.o (g.o.trans z);subst z;go_wp2
     go_roundw
     case rel=>exact⟨1,by decide,rfl,a2,q,c2,_,rfl,H.o,J.o,by rw[I.o]at B;exact B⟩
     case measure=>decide
    ·have a6:(E !=0)=true:=by simp[z]
     have B:Hd (Kl.pS d (u.map PV.pt) (x.map PV.pt)=E):=by have:=O.o.RQ f.o (by rw[g.o];exact z);rw[g.o]at this;exact this
     clear H;go_wp2
     exact VL (v:=.tuple #[.slice none 0 0,.int .i64 E]) (by simp[results,Tryz.results62,go_sem]) rfl ⟨⟨none,0,0,by rw[B.o],fun y=>absurd (B.o.symm.trans y) z⟩,J.o⟩
  ·clear hk;have ix:∀w,(Instr.index 111 (.agg #[.slice r h p,.slice t o s]) (.int .i64 1)).run prog w=.ok (.slice t o s) w:=Tv _ _ _ _ _ _;by_cases y:o=0
   ·have f:Hd ((x.map PV.pt).length=0):=by show _=_;rw[VH,U.o.len];exact y
    have b:decide (0<o)=false:=by simp[y]
    have P:Hd (Calls prog 61 #[.slice t o s] wr fun e w'=>e=.returned (.bool false)/\w'=wr):=by have:=bC t o s wr;rw[b]at this;exact this
    clear y b;go_wp2_with fail
    refine P.o.mono ?_
    rintro e V⟨rfl,M⟩;obtain rfl:=M.symm;go_wp2
    go_roundw
    case rel=>exact⟨2,by decide,rfl,a,m,c,l,rfl,G.o,C.o,O.o.Kn f.o⟩
    case measure=>decide
   ·have f:Hd (0<(x.map PV.pt).length):=by show 0<_;rw[VH,U.o.len];omega
    have b:decide (0<o)=true:=by simp;omega
    have P:Hd (Calls prog 61 #[.slice t o s] wr fun e w'=>e=.returned (.bool true)/\w'=wr):=by have:=bC t o s wr;rw[b]at this;exact this
    have Q:=hId (jk _ _ _ _ _ _ l x wr G.o (U.o.below C.o) (a5.o.below C.o));clear y b;obtain⟨D,A⟩:∃D,Ac.done l (x.map PV.pt)=D:=⟨_,rfl⟩;obtain⟨E,N⟩:∃E,Ac.ag l (x.map PV.pt)=E:=⟨_,rfl⟩;have I:=hId A;have g:=hId N;rw[A,N]at Q;clear A N;obtain⟨q,X⟩:∃q,D.length=q:=⟨_,rfl⟩;rw[X]at Q;clear X;go_wp2_with fail
    refine P.o.mono ?_
    rintro e V⟨rfl,M⟩;obtain rfl:=M.symm;go_wp2_with fail
    refine Q.o.mono ?_
    rintro e w2⟨⟨a2,c2,rfl,F⟩,K⟩;have H:=hId F;have J:=hId (C.o.trans (K.mono C.o.size));clear F K;by_cases z:E=0
    ·have B:=O.o.Em f.o (g.o.trans z);subst z;go_wp2
     go_roundw
     case rel=>exact⟨2,by decide,rfl,a2,q,c2,_,rfl,H.o,J.o,by rw[I.o]at B;exact B⟩
     case measure=>decide
    ·have a6:(E !=0)=true:=by simp[z]
     have B:Hd (Kl.pS d (u.map PV.pt) (x.map PV.pt)=E):=by have:=O.o.RP f.o (by rw[g.o];exact z);rw[g.o]at this;exact this
     clear H;go_wp2
     exact VL (v:=.tuple #[.slice none 0 0,.int .i64 E]) (by simp[results,Tryz.results62,go_sem]) rfl ⟨⟨none,0,0,by rw[B.o],fun y=>absurd (B.o.symm.trans y) z⟩,J.o⟩
  ·clear hk;obtain⟨e0,e1⟩:=O.o.last;have a9:=hId e0;have g:Hd (cy wr a m c (Kl.Ds d (u.map PV.pt) (x.map PV.pt))):=by rw[<-e1];exact G.o
   clear e0 e1;go_wp2
   exact VL (v:=.tuple #[.slice a m c,.int .i64 0]) (by simp[results,Tryz.results62,go_sem]) rfl ⟨⟨a,m,c,by rw[a9.o],fun _=>g.o⟩,C.o⟩
theorem ze(g:Nat)(c:CV)(d:Option Addr)(a b:Nat)(us:List PV)(w:World)(f:jK w g c)(m:ae w d a b us)(u:0<=c.seq)(t:c.seq<=10000):
  Calls prog 106 #[.pointer (some ⟨g,0,none⟩),.slice d a b] w fun e w'=>e=.returned (.bool (!decide (c.seq=10000)))/\jK w' g (if c.seq=10000 then c else(c.lh d a b us).toSeq (c.seq+1))/\Kept w w' [g]:=by
 have s:=hId f;by_cases h:c.seq=10000
 ·rw[VC h];have k:(!decide (c.seq=10000))=false:=by simp[h]
  rw[k];have q:(c.seq==10000)=true:=by simp[h]
  have l:=Bg f.aM;clear f m h k;go_enter func106,ntmps106
  go_wp2
  go_ret
  exact⟨rfl,s.o,Kept.refl _ _⟩
 ·rw[VD h];have k:(!decide (c.seq=10000))=true:=by simp[h]
  rw[k];have q:(c.seq==10000)=false:=by simp[h]
  have x:wrap64 (c.seq+1)=c.seq+1:=by unfold wrap64;omega
  have v:IntKind.i64.wrap (c.seq+1)=c.seq+1:=IntWalk.i64_in _ ⟨by omega,by omega⟩;have i:=hId (f.lh d a b us m);have o:=hId (i.o.toSeq (c.seq+1));obtain⟨-,-,-,l,p⟩:=Rf f.aM;have r:=f.aM.frozen 4;clear f m h k;go_enter func106,ntmps106
  go_upto_region 4 with fail
  change Code.wp prog _ _ _ (w.setCell ⟨g,4,none⟩ (.slice d a b));have n:Hd (Kept w (w.setCell ⟨g,4,none⟩ (.slice d a b)) [g]):=aP ..;generalize w.setCell ⟨g,4,none⟩ (.slice d a b)=W at*;clear l p r;have l:W.cell? ⟨g,3,none⟩=some (.int .i64 c.seq):=i.o.aM.cell 3;have y:=i.o.aM.frozen 3;go_wp2
  go_ret
  exact⟨rfl,o.o,n.o.trans (aP ..)⟩
theorem pH(g:Nat)(c:CV)(w:World)(h:jK w g c)(l:c.bn<=80):
  Calls prog 117 #[.pointer (some ⟨g,0,none⟩)] w fun e w'=>e=.returned (.tuple #[])/\(∃k,jK w' g k/\k.cl=Kl.gv c.cl/\k.bn=c.bn)/\Kept w w' [g]:=by
 have p:=hId h;have q:=hId (gy _ _ _ _ _ (jc h.ia.base) (bR _) l);have r:=IK h.aM;clear h;go_enter func117,ntmps117
 go_wp2_with fail
 refine q.o.mono ?_
 rintro e x⟨⟨v,rfl,b⟩,i⟩;obtain⟨t,s,rfl,n,-,-⟩:=cR b;have o:=bT n p.o.ia.base.fit;have a:=p.o.below i;have u:=hId i;have d:=a.lh none 0 0 [] (jU _);have f:=d.mo none 0 0 [] (jU _);have m:=hId (f.kM t c.bn s c.base ((o.bA a.aM (aP ..)).bA d.aM (aP ..)));clear r;obtain⟨-,-,A,-,z,y⟩:=N5 a.aM;obtain⟨-,-,D,-,C,B⟩:=So a.aM;clear b i n o a d f q;go_wp2
 go_end0
 exact⟨rfl,⟨_,m.o,rfl,rfl⟩,(((Kept.dA u.o).trans (aP ..)).trans (aP ..)).trans (aP ..)⟩
theorem sL(g:Nat)(c:CV)(B:Option Addr)(z A:Nat)(us:List PV)(w:World)(n:jK w g c)(F:ae w B z A us)(C:df w)(N:0<=c.rev)(K:c.rev<=60):
  Calls prog 144 #[.pointer (some ⟨g,0,none⟩),.slice B z A] w fun e w'=>e=.returned (.int .i64 (Ac.ag c.base (us.map PV.pt)))/\(∃G,jK w' g G/\G.cl=(if Ac.ag c.base (us.map PV.pt)=0 then Kl.vq c.cl (us.map PV.pt)else c.cl))/\Kept w w' [g]:=by
 have J:=hId n;have f:=hId (jk _ _ _ _ _ _ _ _ _ n.ia.base F C);have k:=IK n.aM;clear n F C;obtain⟨D,u⟩:∃D,Ac.done c.base (us.map PV.pt)=D:=⟨_,rfl⟩;have y:=hId u;rw[u]at f;clear u;generalize Ac.ag c.base (us.map PV.pt)=E at*;obtain⟨q,h⟩:∃q,D.length=q:=⟨_,rfl⟩;rw[h]at f;clear h;obtain⟨R,t⟩:∃R,(if E=0 then Kl.vq c.cl (us.map PV.pt)else c.cl)=R:=⟨_,rfl⟩;rw[t];have r:=hId t;clear t;go_enter func144,ntmps144
 go_wp2_with fail
 refine f.o.mono ?_
 rintro e i⟨⟨p,o,rfl,s⟩,m⟩;have a:=J.o.below m;have H:=hId m;by_cases l:E=0
 ·have d:Hd (R=Kl.vq c.cl (us.map PV.pt)):=by have:=r.o;rw[VC l]at this;exact this.symm
  clear r;subst l;have b:=hId (a.tO p q o D s);have x:=hId (b.o.Jy (c.rev+1));have P:wrap64 (c.rev+1)=c.rev+1:=by unfold wrap64;omega
  have O:IntKind.i64.wrap (c.rev+1)=c.rev+1:=IntWalk.i64_in _ ⟨by omega,by omega⟩;clear k;have k:=IK a.aM;have I:=a.aM.frozen 1;clear s m a f;go_upto_region 5 with fail
  change Code.wp prog _ _ _ (i.setCell ⟨g,1,none⟩ (.slice p q o));have v:Hd (Kept i (i.setCell ⟨g,1,none⟩ (.slice p q o)) [g]):=aP ..;generalize i.setCell ⟨g,1,none⟩ (.slice p q o)=W at*;clear k I;have M:W.cell? ⟨g,0,none⟩=some (.int .i64 c.rev):=b.o.aM.cell 0;have Q:=b.o.aM.frozen 0;go_wp2
  go_ret
  refine⟨rfl,⟨_,x.o,?_⟩,((Kept.dA H.o).trans v.o).trans (aP ..)⟩
  show(⟨c.rev+1,D,c.now,c.seq,c.aJ.map PV.pt,c.held.map PV.pt,c.jo⟩:Kl.Cl)=_
  rw[d.o,<-y.o];rfl
 ·have d:Hd (R=c.cl):=by have:=r.o;rw[VD l]at this;exact this.symm
  clear r;have L:(E !=0)=true:=by simp[l]
  have b:=hId a;clear s m a f k;go_wp2
  go_ret
  exact⟨rfl,⟨_,b.o,d.o.symm⟩,Kept.dA H.o⟩
