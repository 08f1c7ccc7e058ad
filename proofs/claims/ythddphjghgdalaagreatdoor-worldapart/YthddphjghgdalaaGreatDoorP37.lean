/- A part. -/
import Derived.Test.YthddphjghgdalaaGreatDoorP36
set_option maxRecDepth 100000
set_option maxHeartbeats 3200000
namespace Go.Proofs.YthddphjghgdalaaGreatDoor
open Go.RowKit Go.Proofs.Tryz
theorem gD.xm{w:World}{v:WV}(h:gD w v):v.w.cs.length=v.cn/\v.w.up.length=v.un/\v.w.dn.length=v.dn:=by
 obtain⟨c,b,a⟩:=h.lens;exact⟨(VH ..).trans c,(VH ..).trans b,(VH ..).trans a⟩
theorem tI(v:WV)(w:World)(P:gD w v)(hS:df w):
  Calls prog 17 #[.agg #[.slice v.s.fa v.s.fn v.s.fc,.slice v.s.la v.s.ln v.s.lc,.slice v.s.na v.s.nn v.s.nc,.slice v.ca v.cn v.cc,.slice v.ua v.un v.uc,.slice v.da v.dn v.dc]] w fun e w'=>e=.returned (.int .i64 (Wo.jR v.w))/\Below w.heap.size w w':=by
 have m:=hId (aV v w);have B:=hId (bU v w);have p:=P.below m.o;have l:=hS.below m.o;have X:=hId (fun w' a=>zU v.s w' (p.eF.below a) (l.below a));have H:=hId (fun w' a=>Tz v.cs (fun c=>Kl.iS c.cl) _ _ _ w' (p.cr.below a) (fun c hc wr i=>uh c wr (((p.cl c hc).below a).below i) ((l.below a).below i)));have G:=hId (fun w' a=>TA v.up (fun q=>Wo.kF q.eV) _ _ _ w' (p.ur.below a) (fun q O wr i=>zn q wr (((p.uq q O).below a).below i) ((l.below a).below i)));have D:=hId (fun w' a=>TA v.down (fun q=>Wo.kF q.eV) _ _ _ w' (p.dr.below a) (fun q O wr i=>zn q wr (((p.dq q O).below a).below i) ((l.below a).below i)));obtain⟨l1,l2,l3⟩:=P.xm;have M:Hd (Wo.jR v.w=if Sv.dL v.s.se=0 then(if v.cn<1\/4<v.cn\/v.un≠v.cn\/v.dn≠v.cn then 4 else if Wo.de (v.cs.map (fun c=>Kl.iS c.cl))=0 then(if Wo.de (v.up.map (fun q=>Wo.kF q.eV))=0 then Wo.de (v.down.map (fun q=>Wo.kF q.eV))else Wo.de (v.up.map (fun q=>Wo.kF q.eV)))else Wo.de (v.cs.map (fun c=>Kl.iS c.cl)))else Sv.dL v.s.se):=by
  show Wo.jR v.w=_
  unfold Wo.jR;rw[l1,l2,l3];unfold WV.w;simp only[List.map_map]
  rfl
 have d:Hd (∀w',Below (aQ v w).heap.size (aQ v w) w'->w'.cell? ⟨w.heap.size,0,none⟩=some (.slice v.s.fa v.s.fn v.s.fc)/\w'.cell? ⟨w.heap.size,1,none⟩=some (.slice v.s.la v.s.ln v.s.lc)/\w'.cell? ⟨w.heap.size,2,none⟩=some (.slice v.s.na v.s.nn v.s.nc)/\w'.cell? ⟨w.heap.size,3,none⟩=some (.slice v.ca v.cn v.cc)/\w'.cell? ⟨w.heap.size,4,none⟩=some (.slice v.ua v.un v.uc)/\w'.cell? ⟨w.heap.size,5,none⟩=some (.slice v.da v.dn v.dc)):=fun w' a=>⟨aA (B.o.cell 0) a,aA (B.o.cell 1) a,aA (B.o.cell 2) a,aA (B.o.cell 3) a,aA (B.o.cell 4) a,aA (B.o.cell 5) a⟩;obtain⟨R,Q⟩:∃R,Wo.jR v.w=R:=⟨_,rfl⟩;obtain⟨V,U⟩:∃R,Sv.dL v.s.se=R:=⟨_,rfl⟩;obtain⟨C,i⟩:∃R,Wo.de (v.cs.map (fun c=>Kl.iS c.cl))=R:=⟨_,rfl⟩;obtain⟨n,T⟩:∃R,Wo.de (v.up.map (fun q=>Wo.kF q.eV))=R:=⟨_,rfl⟩;obtain⟨N,S⟩:∃R,Wo.de (v.down.map (fun q=>Wo.kF q.eV))=R:=⟨_,rfl⟩;rw[Q,U,i,T,S]at M;rw[U]at X;rw[i]at H;rw[T]at G;rw[S]at D;rw[Q];obtain⟨y,x,u,t,s,r⟩:=d.o _ (VE _ _);clear P hS p l l1 l2 l3 Q U i T S B;go_enter func17,ntmps17
 go_upto_region 1 with fail
 change Code.wp prog _ _ _ (aQ v w);generalize aQ v w=W at*;go_wp2_with fail
 refine(X.o _ (VE _ _)).mono ?_
 rintro e w1⟨rfl,I⟩;have h:=hId I;have b:=hId (m.o.trans (h.o.mono m.o.size));clear y x u t s r I X;obtain⟨y,x,u,t,s,r⟩:=d.o _ h.o;by_cases L:V=0
 ·have o:Hd (R=if v.cn<1\/4<v.cn\/v.un≠v.cn\/v.dn≠v.cn then 4 else if C=0 then(if n=0 then N else n)else C):=by have:=M.o;rw[VC L]at this;exact this
  clear M;subst L;by_cases A:v.cn<1\/4<v.cn\/v.un≠v.cn\/v.dn≠v.cn
  ·have k:Hd (4=R):=by have:=o.o;rw[VC A]at this;exact this.symm
   clear H G D o;by_cases a1:v.cn<1
   ·have q1:decide ((v.cn:Int)<1)=true:=by simp;omega
    clear A;go_wp2
    go_ret
    exact⟨VQ (fun z=>Ending.returned (.int .i64 z)) k.o,b.o⟩
   ·have q1:decide ((v.cn:Int)<1)=false:=by simp;omega
    by_cases a2:4<v.cn
    ·have q2:decide ((4:Int)<(v.cn:Int))=true:=by simp;omega
     clear A;go_wp2
     go_ret
     exact⟨VQ (fun z=>Ending.returned (.int .i64 z)) k.o,b.o⟩
    ·have q2:decide ((4:Int)<(v.cn:Int))=false:=by simp;omega
     by_cases a3:v.un=v.cn
     ·have q3:((v.un:Int)!=(v.cn:Int))=false:=by simp;omega
      have a4:v.dn≠v.cn:=by omega
      have q4:((v.dn:Int)!=(v.cn:Int))=true:=by simp;omega
      clear A a3;go_wp2
      go_ret
      exact⟨VQ (fun z=>Ending.returned (.int .i64 z)) k.o,b.o⟩
     ·have q3:((v.un:Int)!=(v.cn:Int))=true:=by simp;omega
      clear A;go_wp2
      go_ret
      exact⟨VQ (fun z=>Ending.returned (.int .i64 z)) k.o,b.o⟩
  ·have F:Hd (R=if C=0 then(if n=0 then N else n)else C):=by have:=o.o;rw[VD A]at this;exact this
   have q1:decide ((v.cn:Int)<1)=false:=by simp;omega
   have q2:decide ((4:Int)<(v.cn:Int))=false:=by simp;omega
   have q3:((v.un:Int)!=(v.cn:Int))=false:=by simp;omega
   have q4:((v.dn:Int)!=(v.cn:Int))=false:=by simp;omega
   clear A o;go_wp2_with fail
   refine(H.o _ h.o).mono ?_
   rintro e w2⟨rfl,a⟩;have g:=hId (h.o.trans (a.mono h.o.size));clear y x u t s r a H b h;have b:=hId (m.o.trans (g.o.mono m.o.size));obtain⟨y,x,u,t,s,r⟩:=d.o _ g.o;by_cases K:C=0
   ·have E:Hd (R=if n=0 then N else n):=by have:=F.o;rw[VC K]at this;exact this
    clear F;subst K;go_wp2_with fail
    refine(G.o _ g.o).mono ?_
    rintro e w3⟨rfl,a⟩;have f:=hId (g.o.trans (a.mono g.o.size));clear y x u t s r a G b g;have b:=hId (m.o.trans (f.o.mono m.o.size));obtain⟨y,x,u,t,s,r⟩:=d.o _ f.o;by_cases J:n=0
    ·have k:Hd (N=R):=by have:=E.o;rw[VC J]at this;exact this.symm
     clear E;subst J;go_wp2_with fail
     refine(D.o _ f.o).mono ?_
     rintro e w4⟨rfl,a⟩;have Y:=hId (f.o.trans (a.mono f.o.size));clear y x u t s r a D b f;have b:=hId (m.o.trans (Y.o.mono m.o.size));go_wp2
     go_ret
     exact⟨VQ (fun z=>Ending.returned (.int .i64 z)) k.o,b.o⟩
    ·have k:Hd (n=R):=by have:=E.o;rw[VD J]at this;exact this.symm
     have Z:(n==0)=false:=by simpa using J
     clear D;go_wp2
     go_ret
     exact⟨VQ (fun z=>Ending.returned (.int .i64 z)) k.o,b.o⟩
   ·have k:Hd (C=R):=by have:=F.o;rw[VD K]at this;exact this.symm
    have Z:(C==0)=false:=by simpa using K
    clear G D;go_wp2
    go_ret
    exact⟨VQ (fun z=>Ending.returned (.int .i64 z)) k.o,b.o⟩
 ·have k:Hd (V=R):=by have:=M.o;rw[VD L]at this;exact this.symm
  have Z:(V==0)=false:=by simpa using L
  clear H G D;go_wp2
  go_ret
  exact⟨VQ (fun z=>Ending.returned (.int .i64 z)) k.o,b.o⟩
theorem Wo.nO:∀{l:List Int},Wo.de l=0->∀x∈l,x=0
 |[],_,x,b=>by cases b
 |y::l,h,x,b=>by
  by_cases a:y=0
  ·have c:Wo.de l=0:=by unfold Wo.de at h;rw[VC a]at h;exact h
   rcases WG.1 b with e|e
   ·rw[e];exact a
   ·exact Wo.nO c x e
  ·unfold Wo.de at h;rw[VD a]at h;exact absurd h a
theorem Wo.jh{w:Wo.W}(h:Wo.jR w=0):Sv.dL w.s=0/\(1<=w.cs.length/\w.cs.length<=4/\w.up.length=w.cs.length/\w.dn.length=w.cs.length)/\(∀c∈w.cs,Kl.iS c=0)/\(∀q∈w.up,Wo.kF q=0)/\∀q∈w.dn,Wo.kF q=0:=by
 unfold Wo.jR at h;by_cases e:Sv.dL w.s=0
 ·rw[VC e]at h;by_cases f:w.cs.length<1\/4<w.cs.length\/w.up.length≠w.cs.length\/w.dn.length≠w.cs.length
  ·rw[VC f]at h;exact absurd h (by decide)
  ·rw[VD f]at h;by_cases d:Wo.de (w.cs.map Kl.iS)=0
   ·rw[VC d]at h;by_cases b:Wo.de (w.up.map Wo.kF)=0
    ·rw[VC b]at h;exact⟨e,by omega,fun c a=>Wo.nO d _ (List.mem_map_of_mem a),fun c a=>Wo.nO b _ (List.mem_map_of_mem a),fun c a=>Wo.nO h _ (List.mem_map_of_mem a)⟩
    ·rw[VD b]at h;exact absurd h b
   ·rw[VD d]at h;exact absurd h d
 ·rw[VD e]at h;exact absurd h e
theorem Ex{w:World}{q:QV}(d:qp w q)(h:Wo.kF q.eV=0):q.n<=100/\∀m∈q.ms,tF m.e.n m.e.vs:=by
 have p:q.eV.length=q.n:=by unfold QV.eV;rw[VH];exact d.len
 unfold Wo.kF at h;by_cases i:90<q.eV.length
 ·rw[VC i]at h;exact absurd h (by decide)
 ·rw[VD i]at h;refine⟨by omega,fun m f=>?_⟩
  have b:=Wo.nO h _ (List.mem_map_of_mem (List.mem_map_of_mem f));have g:=d.ops m f;have a:=g.len;unfold Wo.Kx at b;rcases XX m.e.n with e|e
  ·have o:=VS.1 (a.trans e);exact⟨by omega,fun u c=>by rw[o]at c;cases c⟩
  ·have n:¬m.mg.e.o.length=0:=by
    show¬(m.e.vs.map PV.pt).length=0
    rw[VH,a];omega
   rw[VD n]at b;obtain⟨_,l,k⟩:=jV g b;exact⟨l,k⟩
theorem gD.fit{w:World}{v:WV}(h:gD w v)(i:Wo.jR v.w=0):TM v:=by
 obtain⟨n,s,m,l,k⟩:=Wo.jh i;obtain⟨r,p,o⟩:=h.xm;obtain⟨g,f,e,d⟩:=ng h.eF n;exact⟨g,f,e,d,by omega,fun c b=>yb (h.cl c b) (m _ (List.mem_map_of_mem b)),fun q a=>Ex (h.uq q a) (l _ (List.mem_map_of_mem a)),fun q a=>Ex (h.dq q a) (k _ (List.mem_map_of_mem a))⟩
theorem js{b:Func}{p u:Tmp}{t:WV}{c:Value}{w:World}{g:Nat}(h:b.results=#[.cell p 30,.tmp u])(a:Array Value)(e:a.getD p undef=.pointer (some ⟨g,0,none⟩))(d:a.getD u undef=c)(i:Blk w g (eo t) 30):(results b a).run prog w=.ok (.tuple #[Mh t,c]) w:=by
 have f:=run_loadVar_row (P:=prog) w g 30 30 (eo t).toArray (0,0) _ i underlying30 rfl (Tryz.M7 t);rw[results_cell_tmp h,e,d];simp only[asAddr,Sem.run_pure,Result.andThen_ok,f]
 rfl
theorem eR.Tf{B X:Nat}{w w':World}{b:Nat}{v:WV}{r:Nat}(h:eR B X w b v)(d:Kept w w' [r])(u:r<B)(n:NT w r):gD w' v:=by
 have g:∀x∈[r],NT w x:=fun x i=>by rw[UY.1 i];exact n
 have f:∀(a:Option Addr)(s:Nat),a.map (·.block)=bk b v s->Ht a [r]:=fun a s e t p i=>by
  have:=h.lo s t.block (by rw[<-e,p];rfl);have:=UY.1 i;omega
 refine⟨h.eF.aw d g (fun o=>f _ 4 (pN o)),(h.cr.kept d (f _ 1 rfl)).row,fun c m=>(h.cl c m).aw d g,(h.ur.kept d (f _ 2 rfl)).row,fun q l=>?_,(h.dr.kept d (f _ 3 rfl)).row,fun q l=>?_⟩
 ·obtain⟨k,e⟩:=List.mem_iff_getElem?.1 l;exact(h.uq k q e).aw d g (f _ (2*k+5) (fP e))
 ·obtain⟨k,e⟩:=List.mem_iff_getElem?.1 l;exact(h.dq k q e).aw d g (f _ (2*k+6) (ei e))
theorem rV(x:HV)(w:World):Blk (bQ x w) w.heap.size [.int .i64 x.kind,.int .i64 x.aR,.int .i64 x.n,.slice x.oa x.on x.oc,.slice x.ya x.yn x.yc] 35:=Blk.new w _ _
def iu (B C:Nat) (t:WV):Prop:=∀ s x,s≠0->bk 0 t s=some x->B<=x/\x<C
theorem iu.nil (B C:Nat):iu B C bX:=fun s x hs e=>by
 match s,hs,e with
 | 0,hs,_=>exact absurd rfl hs
 | 1,_,e=>cases e
 | 2,_,e=>cases e
 | 3,_,e=>cases e
 | 4,_,e=>cases e
 | k+5,_,e =>
  rcases Nat.mod_two_eq_zero_or_one k with g | g
  ·have e2:(if k % 2=0 then (([]:List QV)[k / 2]?).bind (fun q=>q.a.map (·.block)) else (([]:List QV)[k / 2]?).bind (fun q=>q.a.map (·.block)))=some x:=e;rw[VC g] at e2;simp at e2
  ·have e2:(if k % 2=0 then (([]:List QV)[k / 2]?).bind (fun q=>q.a.map (·.block)) else (([]:List QV)[k / 2]?).bind (fun q=>q.a.map (·.block)))=some x:=e;rw[VD (by omega)] at e2;simp at e2
theorem eR.cu{B X c:Nat}{w:World}{b:Nat}{v:WV}(h:eR B X w b v)(d:c<=B):iu c w.heap.size v:=fun s x a e=>⟨VX d (h.lo s x (by rw[nT b 0 v s a];exact e)),h.hi s x (by rw[nT b 0 v s a];exact e)⟩
theorem nz(v:WV)(x:HV)(w:World)(hW:gD w v)(hX:qq w x)(hG:Gl w w.heap.size):
  Calls prog 6 #[.agg #[.slice v.s.fa v.s.fn v.s.fc,.slice v.s.la v.s.ln v.s.lc,.slice v.s.na v.s.nn v.s.nc,.slice v.ca v.cn v.cc,.slice v.ua v.un v.uc,.slice v.da v.dn v.dc],.agg #[.int .i64 x.kind,.int .i64 x.aR,.int .i64 x.n,.slice x.oa x.on x.oc,.slice x.ya x.yn x.yc]] w fun e w'=>(∃t:WV,e=.returned (.tuple #[Mh t,.int .i64 (Wo.iR v.w x.hp)])/\gD w' t/\t.w=Wo.ue v.w x.hp/\iu w.heap.size w'.heap.size t)/\Below w.heap.size w w':=by
 have q:=((aV v w).trans ((cq x _).mono (aV v w).size)).trans ((aV bX _).mono ((aV v w).trans ((cq x _).mono (aV v w).size)).size);have M:=hId q;have HP:Hd (Blk (aQ bX (bQ x (aQ v w))) w.heap.size (eo v) 30):=((bU v w).alloc _).alloc _;have HQ:Hd (Blk (aQ bX (bQ x (aQ v w))) (w.heap.size+1) [.int .i64 x.kind,.int .i64 x.aR,.int .i64 x.n,.slice x.oa x.on x.oc,.slice x.ya x.yn x.yc] 35):=by have:=rV x (aQ v w);rw[cA]at this;exact this.alloc _
 have HZ:Hd (Blk (aQ bX (bQ x (aQ v w))) (w.heap.size+1+1) (eo bX) 30):=by have:=bU bX (bQ x (aQ v w));rw[xS,cA]at this;exact this
 have hV:=hW.below q;have C1:=hId (tI v _ hV (hG.zt.Be.below q));have HV:=hId hV;have HX:=hId (hX.below q);have HG:=hId (hG.below q);obtain⟨l1,l2,l3⟩:=hW.xm;have C:=hId (fun h=>hW.fit h);obtain⟨R,hR⟩:∃R,Wo.iR v.w x.hp=R:=⟨_,rfl⟩;obtain⟨V,P⟩:∃V,Wo.ue v.w x.hp=V:=⟨_,rfl⟩;have HE:Hd (R=if Wo.jR v.w=0 then(if x.aR<0\/(v.cn:Int)<=x.aR then 5 else Wo.nM v.w x.aR.toNat x.hp)else Wo.jR v.w):=by show R=_;rw[<-hR];unfold Wo.iR;rw[l1];rfl
 have A:Hd (V=if R=0 then Wo.uQ v.w x.aR.toNat x.hp else Wo.none):=by show V=_;rw[<-hR,<-P];rfl
 have T:Hd (Wo.jR v.w=0->Wo.gi v.w v.cn):=fun h=>by
  obtain⟨_,h2,_⟩:=Wo.jh h;exact⟨l1,by omega,by omega⟩
 have U:Hd (Wo.jR v.w=0->Sv.dL v.w.s=0/\∀k,k<v.cn->Kl.Rc (Wo.vw v.w k).c):=fun h=>by
  obtain⟨h1,_,h3,_⟩:=Wo.jh h;refine⟨h1,fun k hk=>?_⟩
  show Kl.Rc (Wo.cl v.w k)
  unfold Wo.cl;rw[WM,VM (show k<v.w.cs.length by omega),Option.getD_some];exact Kl.xL (h3 _ (WT _))
 rw[hR,P];obtain⟨p0,p1,p2,p3,p4,p5⟩:=N5 HP.o;clear hW hX hG hV q l1 l2 l3 hR P;go_enter func6,ntmps6
 go_upto_region 1 with fail
 change Code.wp prog _ _ _ (aQ bX (bQ x (aQ v w)));generalize aQ bX (bQ x (aQ v w))=W at*;go_wp2_with fail
 refine C1.o.mono ?_
 rintro e o⟨rfl,m⟩;have n:=hId m;have f:=hId (M.o.trans (m.mono M.o.size));have q1:=aA (HQ.o.cell 1) m;have r0:=aA p0 m;have r1:=aA p1 m;have r2:=aA p2 m;have r3:=aA p3 m;have r4:=aA p4 m;have r5:=aA p5 m;have a:Blk o (w.heap.size+1+1) (eo bX) 30:=(m.block _ HZ.o.lt).trans HZ.o;clear m C1 p0 p1 p2 p3 p4 p5;by_cases p:Wo.jR v.w=0
 ·have Z:Hd (R=if x.aR<0\/(v.cn:Int)<=x.aR then 5 else Wo.nM v.w x.aR.toNat x.hp):=by have:=HE.o;rw[VC p]at this;exact this
  have a9:=hId (C.o p);have a7:=hId (T.o p);have a5:=hId (U.o p);clear HE C T U;rw[p];clear p;by_cases D:x.aR<0\/(v.cn:Int)<=x.aR
  ·have G:Hd (5=R):=by have:=Z.o;rw[VC D]at this;exact this.symm
   have r:Hd (bX.w=V):=by have:=A.o;rw[VD (by rw[<-G.o];decide)]at this;exact this.symm
   by_cases a1:x.aR<0
   ·have d1:decide (x.aR<0)=true:=by simpa using a1
    clear D;have z0:=a.c0;have g0:=a.frozen 0;have z1:=a.c1;have p:=a.frozen 1;have z2:=a.c2;have D:=a.frozen 2;have z3:=a.c3;have g3:=a.frozen 3;have z4:=a.c4;have g4:=a.frozen 4;have z5:=a.c5;have g5:=a.frozen 5;have g:Hd (Blk (cO o (w.heap.size+1+1) bX) (w.heap.size+1+1) (eo bX) 30):=dM a;have i:=hId (f.o.trans ((bP o (w.heap.size+1+1) bX).below (by have:=f.o.size;omega) (fun y F=>by rw[UY.1 F];omega)));clear a;go_wp2
    change bodyPost prog _ _ Exit.ret _ (cO o (w.heap.size+1+1) bX);exact VL (js (t:=bX) (c:=.int .i64 5) rfl _ rfl rfl g.o) rfl ⟨⟨bX,VQ (fun z=>Ending.returned (.tuple #[Mh bX,.int .i64 z])) G.o,gD.nil _,r.o,iu.nil _ _⟩,i.o⟩
   ·have d1:decide (x.aR<0)=false:=by simpa using a1
    have d2:decide ((v.cn:Int)<=x.aR)=true:=by simp;omega
    clear D;have z0:=a.c0;have g0:=a.frozen 0;have z1:=a.c1;have p:=a.frozen 1;have z2:=a.c2;have D:=a.frozen 2;have z3:=a.c3;have g3:=a.frozen 3;have z4:=a.c4;have g4:=a.frozen 4;have z5:=a.c5;have g5:=a.frozen 5;have g:Hd (Blk (cO o (w.heap.size+1+1) bX) (w.heap.size+1+1) (eo bX) 30):=dM a;have i:=hId (f.o.trans ((bP o (w.heap.size+1+1) bX).below (by have:=f.o.size;omega) (fun y F=>by rw[UY.1 F];omega)));clear a;go_wp2
    change bodyPost prog _ _ Exit.ret _ (cO o (w.heap.size+1+1) bX);exact VL (js (t:=bX) (c:=.int .i64 5) rfl _ rfl rfl g.o) rfl ⟨⟨bX,VQ (fun z=>Ending.returned (.tuple #[Mh bX,.int .i64 z])) G.o,gD.nil _,r.o,iu.nil _ _⟩,i.o⟩
  ·have G:Hd (Wo.nM v.w x.aR.toNat x.hp=R):=by have:=Z.o;rw[VD D]at this;exact this.symm
   have d1:decide (x.aR<0)=false:=by simp;omega
   have d2:decide ((v.cn:Int)<=x.aR)=false:=by simp;omega
   have a8:Hd (x.aR=(x.aR.toNat:Int)):=by show _=_;omega
   have Y:Hd (x.aR.toNat<v.cn):=by show _<_;omega
   have C2:Hd (Calls prog 19 #[.agg #[.slice v.s.fa v.s.fn v.s.fc,.slice v.s.la v.s.ln v.s.lc,.slice v.s.na v.s.nn v.s.nc,.slice v.ca v.cn v.cc,.slice v.ua v.un v.uc,.slice v.da v.dn v.dc]] o fun e w'=>(∃t:WV,e=.returned (.agg #[.slice t.s.fa t.s.fn t.s.fc,.slice t.s.la t.s.ln t.s.lc,.slice t.s.na t.s.nn t.s.nc,.slice t.ca t.cn t.cc,.slice t.ua t.un t.uc,.slice t.da t.dn t.dc])/\pQ o.heap.size w' t/\t.w=v.w)/\Below o.heap.size o w'):=xK v o (HV.o.below n.o) a9.o;clear D;go_wp2_with fail
   refine C2.o.mono ?_
   rintro e w2⟨⟨t,rfl,N,a2⟩,m⟩;have J:=hId (aV t w2);have a4:=hId ((N.below J.o).wat (bU t w2) m.size (fun s hs e=>by have:=(N.yp s _ hs e).2;omega));have I:=hId a2;have l:=hId ((n.o.trans (m.mono n.o.size)).trans (J.o.mono (VX n.o.size m.size)));have aa:=hId (VX m.size J.o.size);clear N a2 m C2 q1 r0 r1 r2 r3 r4 r5 a J;go_upto_region 7 with fail
   change Code.wp prog _ _ _ (aQ t w2);obtain⟨b,ab⟩:∃b,w2.heap.size=b:=⟨_,rfl⟩;rw[ab]at a4⊢;generalize aQ t w2=W3 at*;have a6:Hd (Wo.gi t.w v.cn):=by show Wo.gi t.w v.cn;rw[I.o];exact a7.o
   have ag:=hId (M.o.trans (l.o.mono M.o.size));have C3:=hId (DY o.heap.size b v.cn x.aR.toNat t x W3 ⟨a4.o,a6.o,Y.o,a8.o,HX.o.below l.o,(HG.o.below (l.o.mono M.o.size)).mono (VX M.o.size n.o.size) aa.o,by rw[I.o];exact a5.o.1,by rw[I.o];exact a5.o.2 _ Y.o⟩);rw[I.o,G.o]at C3;have Q:=hId (fun h=>by have:=A.o;rw[VC h]at this;exact this.symm);have S:Hd (R≠0->bX.w=V):=fun h=>by have:=A.o;rw[VD h]at this;exact this.symm
   have ac:Hd (Blk W3 (w.heap.size+1+1) (eo bX) 30):=(l.o.block _ HZ.o.lt).trans HZ.o;have a3:=hId (WJ HZ.o.lt n.o.size);have y0:=aA (HQ.o.cell 0) l.o;have y1:=aA (HQ.o.cell 1) l.o;have y2:=aA (HQ.o.cell 2) l.o;have y3:=aA (HQ.o.cell 3) l.o;have y4:=aA (HQ.o.cell 4) l.o;generalize Wo.uQ v.w x.aR.toNat x.hp=ah at*;clear a8 Y a6 A Z G a7 a9 aa;go_wp2_with fail
   refine C3.o.mono ?_
   rintro e K⟨rfl,O,B⟩;have f:=hId (ag.o.trans (O.mono (VX M.o.size n.o.size)));have d:Blk K (w.heap.size+1+1) (eo bX) 30:=(O.block _ a3.o).trans ac.o;clear C3 y0 y1 y2 y3 y4 O;by_cases gr:R=0
   ·obtain⟨X,L,u,a0⟩:=B gr;have ae:=hId (a0.trans (Q.o gr));have H:=bP K (w.heap.size+1+1) L;have ad:=hId (u.Tf H a3.o (NT.iJ d));have af:Hd (iu w.heap.size (cO K (w.heap.size+1+1) L).heap.size L):=fun s x hs e=>⟨(u.cu (VX M.o.size n.o.size) s x hs e).1,WJ (u.cu (UZ _) s x hs e).2 H.size⟩;have g:Hd (Blk (cO K (w.heap.size+1+1) L) (w.heap.size+1+1) (eo L) 30):=dM d;have i:=hId (f.o.trans (H.below (by have:=f.o.size;omega) (fun y F=>by rw[UY.1 F];omega)));obtain⟨o0,o1,o2,o3,o4,o5⟩:=N5 u.aM;have z0:=d.c0;have g0:=d.frozen 0;have z1:=d.c1;have p:=d.frozen 1;have z2:=d.c2;have D:=d.frozen 2;have z3:=d.c3;have g3:=d.frozen 3;have z4:=d.c4;have g4:=d.frozen 4;have z5:=d.c5;have g5:=d.frozen 5;clear u a0 B H Q S d;subst gr;go_wp2
    change bodyPost prog _ _ Exit.ret _ (cO K (w.heap.size+1+1) L);exact VL (js (t:=L) (c:=.int .i64 0) rfl _ rfl rfl g.o) rfl ⟨⟨L,rfl,ad.o,ae.o,af.o⟩,i.o⟩
   ·have r:=hId (S.o gr);have s2:(R !=0)=true:=by simpa using gr
    clear B Q S;have z0:=d.c0;have g0:=d.frozen 0;have z1:=d.c1;have p:=d.frozen 1;have z2:=d.c2;have D:=d.frozen 2;have z3:=d.c3;have g3:=d.frozen 3;have z4:=d.c4;have g4:=d.frozen 4;have z5:=d.c5;have g5:=d.frozen 5;have g:Hd (Blk (cO K (w.heap.size+1+1) bX) (w.heap.size+1+1) (eo bX) 30):=dM d;have i:=hId (f.o.trans ((bP K (w.heap.size+1+1) bX).below (by have:=f.o.size;omega) (fun y F=>by rw[UY.1 F];omega)));clear d;go_wp2
    change bodyPost prog _ _ Exit.ret _ (cO K (w.heap.size+1+1) bX);exact VL (js (t:=bX) (c:=.int .i64 R) rfl _ rfl rfl g.o) rfl ⟨⟨bX,rfl,gD.nil _,r.o,iu.nil _ _⟩,i.o⟩
 ·have G:Hd (Wo.jR v.w=R):=by have:=HE.o;rw[VD p]at this;exact this.symm
  have r:Hd (bX.w=V):=by have:=A.o;rw[VD (by rw[<-G.o];exact p)]at this;exact this.symm
  clear HE C T U;generalize Wo.jR v.w=E at*;have s2:(E !=0)=true:=by simpa using p
  have z0:=a.c0;have g0:=a.frozen 0;have z1:=a.c1;have p:=a.frozen 1;have z2:=a.c2;have D:=a.frozen 2;have z3:=a.c3;have g3:=a.frozen 3;have z4:=a.c4;have g4:=a.frozen 4;have z5:=a.c5;have g5:=a.frozen 5;have g:Hd (Blk (cO o (w.heap.size+1+1) bX) (w.heap.size+1+1) (eo bX) 30):=dM a;have i:=hId (f.o.trans ((bP o (w.heap.size+1+1) bX).below (by have:=f.o.size;omega) (fun y F=>by rw[UY.1 F];omega)));clear a;go_wp2
  change bodyPost prog _ _ Exit.ret _ (cO o (w.heap.size+1+1) bX);exact VL (js (t:=bX) (c:=.int .i64 E) rfl _ rfl rfl g.o) rfl ⟨⟨bX,VQ (fun z=>Ending.returned (.tuple #[Mh bX,.int .i64 z])) G.o,gD.nil _,r.o,iu.nil _ _⟩,i.o⟩
namespace Wo
def Tm (w:W) (x:Hp):W:=if iR w x=0 then ue w x else w
def gZ (w:W) (l:List Hp):W × List Int:=l.foldl (fun p x=>(Tm p.1 x,p.2++[iR p.1 x])) (w,[])
theorem G8(w:W)(l:List Hp)(x:Hp):gZ w (l++[x])=(Tm (gZ w l).1 x,(gZ w l).2++[iR (gZ w l).1 x]):=by unfold gZ;rw[XC];rfl
end Wo
def eI (l:List HV):List Value:=l.flatMap uO
def FU (l:List Int):List Value:=l.map (fun e=>Value.int .i64 e)
theorem gD.mY{w w':World}{g:Nat}{v:WV}(h:gD w v)(o:∀s x,s≠0->bk 0 v s=some x->x≠g)(b:Kept w w' [g])(r:NT w g):gD w' v:=by
 have l:∀x∈[g],NT w x:=fun x m=>by rw[UY.1 m];exact r
 have f:∀(a:Option Addr)(s:Nat),s≠0->a.map (·.block)=bk 0 v s->Ht a [g]:=fun a s n e d u m=>by
  have:=o s d.block n (by rw[<-e,u];rfl);exact this (UY.1 m)
 refine⟨h.eF.aw b l (fun t=>f _ 4 (by decide) (pN t)),h.cr.kept (by decide) b (fun d _ e=>f _ 1 (by decide) rfl d e),fun c p=>(h.cl c p).aw b l,h.ur.kept (by decide) b (fun d _ e=>f _ 2 (by decide) rfl d e),fun q i=>?_,h.dr.kept (by decide) b (fun d _ e=>f _ 3 (by decide) rfl d e),fun q i=>?_⟩
 ·obtain⟨k,e⟩:=List.mem_iff_getElem?.1 i;exact(h.uq q i).aw b l (f _ (2*k+5) (by omega) (fP e))
 ·obtain⟨k,e⟩:=List.mem_iff_getElem?.1 i;exact(h.dq q i).aw b l (f _ (2*k+6) (by omega) (ei e))
theorem KO{b:Func}{p u q:Tmp}{t:WV}{c d:Value}{w:World}{g:Nat}(h:b.results=#[.cell p 30,.tmp u,.tmp q])(a:Array Value)(i:a.getD p undef=.pointer (some ⟨g,0,none⟩))(f:a.getD u undef=c)(e:a.getD q undef=d)(l:Blk w g (eo t) 30):(results b a).run prog w=.ok (.tuple #[Mh t,c,d]) w:=by
 have k:=run_loadVar_row (P:=prog) w g 30 30 (eo t).toArray (0,0) _ l underlying30 rfl (Tryz.M7 t);rw[kO h,i,f,e];simp only[asAddr,Sem.run_pure,Result.andThen_ok,k]
 rfl
theorem Tryz.Su:(prog.info? 36).map (fun i=>(i.zero,i.size,i.bytes))=some (some (.int .i64 0),1,8):=by kernel_rfl
structure TP (w:World) (v:WV) (xs:List HV) (k:Nat) (u:WV) (a:Option Addr) (c:Nat) (wr:World):Prop where
 box:Blk wr w.heap.size (eo u) 30
 iM:Blk wr (w.heap.size+1) (eo bX) 30
 nV:gD wr u
 eq:u.w=(Wo.gZ v.w ((xs.take k).map HV.hp)).1
 said:bj wr 36 1 a k c (FU (Wo.gZ v.w ((xs.take k).map HV.hp)).2)
 lo:∀ ad:Addr,a=some ad->w.heap.size+2<=ad.block
 off:∀ ad:Addr,a=some ad->∀ s x,s≠0->bk 0 u s=some x->x≠ad.block
 cu:iu (w.heap.size+2) wr.heap.size u
 below:Below w.heap.size w wr
structure Td (w:World) (v:WV) (xs:List HV) (k:Nat) (u:WV) (a:Option Addr) (c:Nat) (wr:World):Prop where
 box:Blk wr w.heap.size (eo u) 30
 iM:Blk wr (w.heap.size+1) (eo bX) 30
 nV:gD wr u
 eq:u.w=(Wo.gZ v.w ((xs.take (k+1)).map HV.hp)).1
 said:bj wr 36 1 a k c (FU (Wo.gZ v.w ((xs.take k).map HV.hp)).2)
 lo:∀ ad:Addr,a=some ad->w.heap.size+2<=ad.block
 off:∀ ad:Addr,a=some ad->∀ s x,s≠0->bk 0 u s=some x->x≠ad.block
 cu:iu (w.heap.size+2) wr.heap.size u
 below:Below w.heap.size w wr
theorem Td.next{w:World}{v:WV}{xs:List HV}{k:Nat}{u:WV}{a z:Option Addr}{c H:Nat}{y o t:World}(h:Td w v xs k u a c y)(m:Below y.heap.size y o)(E:Int)(J:(Wo.gZ v.w ((xs.take (k+1)).map HV.hp)).2=(Wo.gZ v.w ((xs.take k).map HV.hp)).2++[E])
  (r:bj t 36 1 z (k+1) H (FU (Wo.gZ v.w ((xs.take k).map HV.hp)).2++[.int .i64 E]))(d:Kept o t (oT a))(p:∀b:Addr,z=some b->b.block=o.heap.size\/a=some b):TP w v xs (k+1) u z H t:=by
 have L:=m.size;have I:=h.below.size;have B:=h.box.lt;have A:=h.iM.lt;have l:∀x∈oT a,w.heap.size+2<=x:=fun x l=>by
  obtain⟨b,K,n⟩:=dI.1 l;have:=h.lo b K;omega
 have G:Blk o w.heap.size (eo u) 30:=(m.block _ B).trans h.box;have F:Blk o (w.heap.size+1) (eo bX) 30:=(m.block _ A).trans h.iM;have q:=h.nV.below m;have D:=h.said.below m;have C:gD t u:=by
  cases a with
  |none=>exact q.below (d.below (UZ _) (fun x l=>by cases l))
  |some b=>exact q.mY (g:=b.block) (h.off b rfl) d (D.nt rfl)
 refine⟨d.aM G (fun f=>by have:=l _ f;omega),d.aM F (fun f=>by have:=l _ f;omega),C,h.eq,?_,fun b e=>?_,fun b e s x i n=>?_,fun s x i n=>⟨(h.cu s x i n).1,?_⟩,h.below.trans ((m.mono I).trans (d.below (by omega) (fun x f=>by have:=l x f;omega)))⟩
 ·rw[J];have e:FU ((Wo.gZ v.w ((xs.take k).map HV.hp)).2++[E])=FU (Wo.gZ v.w ((xs.take k).map HV.hp)).2++[.int .i64 E]:=WN ..;rw[e];exact r
 ·rcases p b e with g|g
  ·omega
  ·exact h.lo b g
 ·rcases p b e with g|g
  ·have:=(h.cu s x i n).2;omega
  ·exact h.off b g s x i n
 ·have:=(h.cu s x i n).2;have:=d.size;omega
theorem pQ.nV{B:Nat}{w:World}{v:WV}(h:pQ B w v):gD w v:=
 ⟨h.eF,h.cr.row,h.cl,h.ur.row,fun q b=>by obtain⟨k,a⟩:=List.mem_iff_getElem?.1 b;exact⟨(h.uq k q a).1.row,(h.uq k q a).2⟩,h.dr.row,fun q b=>by obtain⟨k,a⟩:=List.mem_iff_getElem?.1 b;exact⟨(h.dq k q a).1.row,(h.dq k q a).2⟩⟩
theorem KL(v:Wo.W){xs:List HV}{k:Nat}{x:HV}(a:xs[k]?=some x):Wo.gZ v ((xs.take (k+1)).map HV.hp)=(Wo.Tm (Wo.gZ v ((xs.take k).map HV.hp)).1 x.hp,(Wo.gZ v ((xs.take k).map HV.hp)).2++[Wo.iR (Wo.gZ v ((xs.take k).map HV.hp)).1 x.hp]):=by
 rw[List.take_add_one,a,WN];exact Wo.G8 _ _ _
theorem Cw (v:WV) (xs:List HV) (ao:Option Addr) (n cap:Nat) (w:World) (hW:gD w v) (he:Wo.jR v.w=0) (hR:Row w ao n cap 5 (eI xs)) (hX:∀ x ∈ xs,qq w x) (hn:n<=200) (hG:Gl w w.heap.size) :
  Calls prog 23 #[.agg #[.slice v.s.fa v.s.fn v.s.fc,.slice v.s.la v.s.ln v.s.lc,.slice v.s.na v.s.nn v.s.nc,.slice v.ca v.cn v.cc,.slice v.ua v.un v.uc,.slice v.da v.dn v.dc],.slice ao n cap] w fun e w'=>(∃ (t:WV) (a:Option Addr) (c:Nat),e=.returned (.tuple #[Mh t,.slice a n c,.int .i64 0])/\gD w' t/\t.w=(Wo.gZ v.w (xs.map HV.hp)).1/\Row w' a n c 1 (FU (Wo.gZ v.w (xs.map HV.hp)).2)/\iu w.heap.size w'.heap.size t/\∀ ad:Addr,a=some ad->w.heap.size<=ad.block)/\Below w.heap.size w w':=by
 obtain ⟨i0,hi,hz0,hz1,hz2⟩:=info_parts Tryz.Su;have hsz:(aQ bX (aQ v w)).heap.size=w.heap.size+1+1:=by rw[cA,cA]
 have hB1:=(aV v w).trans ((aV bX _).mono (aV v w).size);have HB:=hId hB1;have HP:Hd (Blk (aQ bX (aQ v w)) w.heap.size (eo v) 30):=(bU v w).alloc _;have HZ:Hd (Blk (aQ bX (aQ v w)) (w.heap.size+1) (eo bX) 30):=by have:=bU bX (aQ v w);rw[cA] at this;exact this
 have hV:=hW.below hB1;have C1:Hd (Calls prog 17 #[.agg #[.slice v.s.fa v.s.fn v.s.fc,.slice v.s.la v.s.ln v.s.lc,.slice v.s.na v.s.nn v.s.nc,.slice v.ca v.cn v.cc,.slice v.ua v.un v.uc,.slice v.da v.dn v.dc]] (aQ bX (aQ v w)) fun e w'=>e=.returned (.int .i64 0)/\Below (aQ bX (aQ v w)).heap.size (aQ bX (aQ v w)) w'):=by have:=tI v _ hV (hG.zt.Be.below hB1);rw[he] at this;exact this
 have HV:=hId hV;have HFT:=hId (hW.fit he);have hl0:xs.length=n:=by have h:=hR.len;unfold eI at h;rw[il uO 5 (fun _=>rfl)] at h;omega
 have HL:=hId hl0;have HR:=hId hR;have HX:=hId hX;have HG:=hId hG;have hr1:=hR.room;have d0:decide ((200:Int)<(n:Int))=false:=by simp;omega
 obtain ⟨p0,p1,p2,p3,p4,p5⟩:=N5 HP.o;clear hW he hR hX hG hV hB1 hl0;go_enter func23,ntmps23
 go_upto_region 1 with fail
 change Code.wp prog _ _ _ (aQ bX (aQ v w));generalize aQ bX (aQ v w)=W at *;go_wp2_with fail
 refine C1.o.mono ?_
 rintro e w1 ⟨rfl,hb⟩;have HB1:=hId hb;have C2:Hd (Calls prog 19 #[.agg #[.slice v.s.fa v.s.fn v.s.fc,.slice v.s.la v.s.ln v.s.lc,.slice v.s.na v.s.nn v.s.nc,.slice v.ca v.cn v.cc,.slice v.ua v.un v.uc,.slice v.da v.dn v.dc]] w1 fun e w'=>(∃ t:WV,e=.returned (.agg #[.slice t.s.fa t.s.fn t.s.fc,.slice t.s.la t.s.ln t.s.lc,.slice t.s.na t.s.nn t.s.nc,.slice t.ca t.cn t.cc,.slice t.ua t.un t.uc,.slice t.da t.dn t.dc])/\pQ w1.heap.size w' t/\t.w=v.w)/\Below w1.heap.size w1 w'):=xK v w1 (HV.o.below hb) HFT.o;have r0:=aA p0 hb;have r1:=aA p1 hb;have r2:=aA p2 hb;have r3:=aA p3 hb;have r4:=aA p4 hb;have r5:=aA p5 hb;clear hb C1 p0 p1 p2 p3 p4 p5;go_wp2_with fail
 refine C2.o.mono ?_
 rintro e w2 ⟨⟨t,rfl,hlo,htw⟩,hb⟩;have HB2:=hId (HB1.o.trans (hb.mono HB1.o.size));have hP2:Blk w2 w.heap.size (eo v) 30:=(HB2.o.block _ HP.o.lt).trans HP.o;have hZ2:Blk w2 (w.heap.size+1) (eo bX) 30:=(HB2.o.block _ HZ.o.lt).trans HZ.o;have hkp:=bP w2 w.heap.size t;have hs1:=HB1.o.size;have HI0:Hd (TP w v xs 0 t none 0 (cO w2 w.heap.size t)):=⟨dM hP2,hkp.aM hZ2 (by simp),hlo.nV.mY (g:=w.heap.size) (fun s x hs e=>by have:=(hlo.yp s x hs e).1;omega) hkp (NT.iJ hP2),htw,bj.nil _ _ _,(fun ad e=>by cases e),(fun ad e=>by cases e),fun s x hs e=>⟨by have:=(hlo.yp s x hs e).1;omega,WJ (hlo.yp s x hs e).2 hkp.size⟩,HB.o.trans ((HB2.o.mono HB.o.size).trans (hkp.below (by have:=HB2.o.size;have:=HB.o.size;omega) (fun x hx=>by rw[UY.1 hx];exact UZ _)))⟩;obtain ⟨z0,z1,z2,z3,z4,z5⟩:=N5 hP2;obtain ⟨g0,g1,g2,g3,g4,g5⟩:=So hP2;clear hlo htw hb C2 r0 r1 r2 r3 r4 r5 hP2 hZ2 hkp hs1 HP HZ HV HB1 HB2 HB hsz;go_upto_region 7 with fail
 change Code.wp prog _ _ _ (cO w2 w.heap.size t);generalize cO w2 w.heap.size t=W2 at *;clear z0 z1 z2 z3 z4 z5 g0 g1 g2 g3 g4 g5;go_wp2
 go_loopw [8,27] (fun sd i wr=>∃ (k:Nat) (u:WV) (a:Option Addr) (c:Nat),k<=n/\i=.int .i64 k/\sd=.slice a k c/\TP w v xs k u a c wr) (fun _ i _=>n - (intOf i).toNat)
 case atStart=>exact ⟨0,t,none,0,VN _,rfl,rfl,HI0.o⟩
 case round =>
  obtain ⟨k,u,a,c,hk,rfl,rfl,hinv⟩:=hrel;have HI:=hId hinv;clear hinv;by_cases hlt:k<n
  ·have hkx:k<xs.length:=by rw[HL.o];exact hlt
   obtain ⟨x,hx⟩:∃ x,xs[k]?=some x:=⟨_,VM hkx⟩;obtain ⟨b,off,rfl,hcc⟩:=HR.o.bH (by omega);have hat:∀ j,j<5->∀ y,(uO x)[j]?=some y->wr.cell? ⟨b,off+k*5+j,none⟩=some y:=fun j hj y hy=>aA (by
    rw[WX];refine hcc (k*5+j) y ?_
    have h3:=get_at (f:=uO) (sp:=[]) (fun _=>rfl) hx j hj;rw[VY] at h3;exact h3.trans hy) HI.o.below
   have m0:wr.cell? ⟨b,off+k*5,none⟩=some (.int .i64 x.kind):=hat 0 (by decide) _ rfl;have m1:=hat 1 (by decide) _ rfl;have m2:=hat 2 (by decide) _ rfl;have m3:=hat 3 (by decide) _ rfl;have m4:=hat 4 (by decide) _ rfl;have HBX:=hId (cq x wr);have HXB:=hId (rV x wr);have HBW:=hId (HI.o.below.trans (HBX.o.mono HI.o.below.size));have hrn:=KL v.w hx;rw[<- HI.o.eq] at hrn;have CT:Hd (Calls prog 6 #[.agg #[.slice u.s.fa u.s.fn u.s.fc,.slice u.s.la u.s.ln u.s.lc,.slice u.s.na u.s.nn u.s.nc,.slice u.ca u.cn u.cc,.slice u.ua u.un u.uc,.slice u.da u.dn u.dc],.agg #[.int .i64 x.kind,.int .i64 x.aR,.int .i64 x.n,.slice x.oa x.on x.oc,.slice x.ya x.yn x.yc]] (bQ x wr) fun e w'=>(∃ t:WV,e=.returned (.tuple #[.agg #[.slice t.s.fa t.s.fn t.s.fc,.slice t.s.la t.s.ln t.s.lc,.slice t.s.na t.s.nn t.s.nc,.slice t.ca t.cn t.cc,.slice t.ua t.un t.uc,.slice t.da t.dn t.dc],.int .i64 (Wo.iR u.w x.hp)])/\gD w' t/\t.w=Wo.ue u.w x.hp/\iu (bQ x wr).heap.size w'.heap.size t)/\Below (bQ x wr).heap.size (bQ x wr) w'):=nz u x _ (HI.o.nV.below HBX.o) ((HX.o x (WQ hx)).below HBW.o) ((HG.o.below HBW.o).mono HBW.o.size (UZ _));have HQ0:Hd (Wo.iR u.w x.hp=0->Wo.ue u.w x.hp=(Wo.gZ v.w ((xs.take (k+1)).map HV.hp)).1):=fun h=>by
    rw[hrn];exact (VC h).symm
   have HQ1:Hd (Wo.iR u.w x.hp≠0->u.w=(Wo.gZ v.w ((xs.take (k+1)).map HV.hp)).1):=fun h=>by
    rw[hrn];exact (VD h).symm
   have HEE:Hd ((Wo.gZ v.w ((xs.take (k+1)).map HV.hp)).2=(Wo.gZ v.w ((xs.take k).map HV.hp)).2++[Wo.iR u.w x.hp]):=by show _=_;rw[hrn]
   have y0:=aA (HI.o.box.cell 0) HBX.o;have y1:=aA (HI.o.box.cell 1) HBX.o;have y2:=aA (HI.o.box.cell 2) HBX.o;have y3:=aA (HI.o.box.cell 3) HBX.o;have y4:=aA (HI.o.box.cell 4) HBX.o;have y5:=aA (HI.o.box.cell 5) HBX.o;clear hcc hat hx hrn;generalize Wo.iR u.w x.hp=E at *;generalize Wo.ue u.w x.hp=DW at *;go_upto_region 11 with fail
   change Code.wp prog _ _ _ (bQ x wr);generalize bQ x wr=W3 at *;obtain ⟨q0,q1,q2,q3,q4⟩:=Rf HXB.o;go_wp2_with fail
   refine CT.o.mono ?_
   rintro e w4 ⟨⟨t',rfl,hwl,htw,hfar⟩,hb⟩;have hb5:=aV t' w4;have HB4:=hId ((HBX.o.trans (hb.mono HBX.o.size)).trans (hb5.mono (VX HBX.o.size hb.size)));have HB5:=hId (HI.o.below.trans (HB4.o.mono HI.o.below.size));have HT5:=hId (bU t' w4);have HW5:=hId (hwl.below hb5);have HTW:=hId htw;have HFA:Hd (iu wr.heap.size (aQ t' w4).heap.size t'):=fun s y hs e=>⟨VX HBX.o.size (hfar s y hs e).1,WJ (hfar s y hs e).2 hb5.size⟩;clear hwl htw hfar hb hb5 CT m0 m1 m2 m3 m4 q0 q1 q2 q3 q4 y0 y1 y2 y3 y4 y5 HXB HBX HBW;go_upto_region 12 with fail
   change Code.wp prog _ _ _ (aQ t' w4);generalize aQ t' w4=W5 at *;have hsz:=HI.o.below.size;have hB5:Blk W5 w.heap.size (eo u) 30:=(HB4.o.block _ HI.o.box.lt).trans HI.o.box;have hR5:Blk W5 (w.heap.size+1) (eo bX) 30:=(HB4.o.block _ HI.o.iM.lt).trans HI.o.iM;have hrl:=HI.o.iM.lt;by_cases gE:E=0
   ·have hkp:=bP W5 w.heap.size t';have HM:Hd (Td w v xs k t' a c (cO W5 w.heap.size t')):=⟨dM hB5,hkp.aM hR5 (by simp),HW5.o.mY (g:=w.heap.size) (fun s y hs e=>by have:=(HFA.o s y hs e).1;omega) hkp (NT.iJ hB5),HTW.o.trans (HQ0.o gE),(HI.o.said.below HB4.o).kept hkp (fun ad e hx=>by have:=HI.o.lo ad e;have:=UY.1 hx;omega),HI.o.lo,fun ad e s y hs e2=>by have:=HI.o.said.lt e;have:=(HFA.o s y hs e2).1;omega,fun s y hs e=>⟨by have:=(HFA.o s y hs e).1;omega,WJ (HFA.o s y hs e).2 hkp.size⟩,HB5.o.trans (hkp.below (by have:=HB5.o.size;omega) (fun y hy=>by rw[UY.1 hy];exact UZ _))⟩;have o0:=ja HT5.o;have z0:=ja hB5;have g0:=hB5.frozen 0;have o1:=IK HT5.o;have z1:=IK hB5;have g1:=hB5.frozen 1;have o2:=IJ HT5.o;have z2:=IJ hB5;have g2:=hB5.frozen 2;have o3:=Bg HT5.o;have z3:=Bg hB5;have g3:=hB5.frozen 3;have o4:=Tu HT5.o;have z4:=Tu hB5;have g4:=hB5.frozen 4;have o5:=Ta HT5.o;have z5:=Ta hB5;have g5:=hB5.frozen 5;clear hkp hB5 hR5 HQ0 HQ1 HT5 HW5 HTW HFA HB4 HB5 hsz hrl;subst gE;go_upto_region 14 with fail
    change Code.wp prog _ _ _ (cO W5 w.heap.size t');generalize cO W5 w.heap.size t'=W6 at *;clear o0 o1 o2 o3 o4 o5 z0 z1 z2 z3 z4 z5 g0 g1 g2 g3 g4 g5;have HNR:Hd (bj (W6.alloc (.cells #[.int .i64 0] 36)) 36 1 a k c (FU (Wo.gZ v.w ((xs.take k).map HV.hp)).2)):=HM.o.said.below ((VE _ _).alloc (UZ _) _);have HBA:Hd (Below W6.heap.size W6 (W6.alloc (.cells #[.int .i64 0] 36))):=(VE _ _).alloc (UZ _) _;have HRO:Hd (Row (W6.alloc (.cells #[.int .i64 0] 36)) (some ⟨W6.heap.size,0,none⟩) 1 1 1 [.int .i64 0]):=⟨rfl,UZ _,by decide,fun _=>⟨_,0,rfl,fun j y hy=>by rw[VR];exact ((Blk.new W6 [.int .i64 0] _).cell j).trans hy⟩⟩;obtain ⟨es,hes⟩:∃ es,FU (Wo.gZ v.w ((xs.take k).map HV.hp)).2=es:=⟨_,rfl⟩;rw[hes] at HNR;have HNX:Hd (∀ a' c' w7,bj w7 36 1 a' (k+1) c' (es++[.int .i64 0])->Kept (W6.alloc (.cells #[.int .i64 0] 36)) w7 (oT a)->(∀ ad:Addr,a'=some ad->ad.block=W6.heap.size+1\/a=some ad)->TP w v xs (k+1) t' a' c' w7):=fun a' c' w7 h1 h2 h3=>HM.o.next HBA.o 0 HEE.o (by rw[hes];exact h1) h2 (fun ad e=>by rw[WO];exact h3 ad e);clear hes HM HBA;go_wp2_with (at_builtin;refine dZ (W6.alloc (.cells #[.int .i64 0] 36)) rfl (.tmp 40) (.tmp 42) 62 rfl 36 i0 (.int .i64 0) 1 8 underlying62 hi hz0 hz1 hz2 rfl rfl a k c es rfl HNR.o (some ⟨W6.heap.size,0,none⟩) 1 1 [.int .i64 0] rfl HRO.o (fun y hy=>by rw[UY.1 hy];rfl) rfl (by unfold maxLen;omega) (by omega) ?_)
    intro a' c' w7 hown hkp hat;have HN:=hId (HNX.o a' c' w7 hown hkp hat);clear hown hkp hat HNR HRO HNX;go_wp2
    go_roundw
    case rel=>exact ⟨k+1,t',a',c',hlt,by go_num,rfl,HN.o⟩
    case measure=>simp[intOf];omega
   ·have HM:Hd (Td w v xs k u a c W5):=⟨hB5,hR5,HI.o.nV.below HB4.o,HQ1.o gE,HI.o.said.below HB4.o,HI.o.lo,HI.o.off,fun s y hs e=>⟨(HI.o.cu s y hs e).1,WJ (HI.o.cu s y hs e).2 HB4.o.size⟩,HB5.o⟩;have s1:(E == 0)=false:=by simpa using gE
    clear hB5 hR5 HQ0 HQ1 HT5 HW5 HTW HFA HB4 HB5 hsz hrl;go_upto_region 14 with fail
    have HNR:Hd (bj (W5.alloc (.cells #[.int .i64 E] 36)) 36 1 a k c (FU (Wo.gZ v.w ((xs.take k).map HV.hp)).2)):=HM.o.said.below ((VE _ _).alloc (UZ _) _);have HBA:Hd (Below W5.heap.size W5 (W5.alloc (.cells #[.int .i64 E] 36))):=(VE _ _).alloc (UZ _) _;have HRO:Hd (Row (W5.alloc (.cells #[.int .i64 E] 36)) (some ⟨W5.heap.size,0,none⟩) 1 1 1 [.int .i64 E]):=⟨rfl,UZ _,by decide,fun _=>⟨_,0,rfl,fun j y hy=>by rw[VR];exact ((Blk.new W5 [.int .i64 E] _).cell j).trans hy⟩⟩;obtain ⟨es,hes⟩:∃ es,FU (Wo.gZ v.w ((xs.take k).map HV.hp)).2=es:=⟨_,rfl⟩;rw[hes] at HNR;have HNX:Hd (∀ a' c' w7,bj w7 36 1 a' (k+1) c' (es++[.int .i64 E])->Kept (W5.alloc (.cells #[.int .i64 E] 36)) w7 (oT a)->(∀ ad:Addr,a'=some ad->ad.block=W5.heap.size+1\/a=some ad)->TP w v xs (k+1) u a' c' w7):=fun a' c' w7 h1 h2 h3=>HM.o.next HBA.o E HEE.o (by rw[hes];exact h1) h2 (fun ad e=>by rw[WO];exact h3 ad e);clear hes HM HBA;go_wp2_with (at_builtin;refine dZ (W5.alloc (.cells #[.int .i64 E] 36)) rfl (.tmp 40) (.tmp 42) 62 rfl 36 i0 (.int .i64 0) 1 8 underlying62 hi hz0 hz1 hz2 rfl rfl a k c es rfl HNR.o (some ⟨W5.heap.size,0,none⟩) 1 1 [.int .i64 E] rfl HRO.o (fun y hy=>by rw[UY.1 hy];rfl) rfl (by unfold maxLen;omega) (by omega) ?_)
    intro a' c' w7 hown hkp hat;have HN:=hId (HNX.o a' c' w7 hown hkp hat);clear hown hkp hat HNR HRO HNX;go_wp2
    go_roundw
    case rel=>exact ⟨k+1,u,a',c',hlt,by go_num,rfl,HN.o⟩
    case measure=>simp[intOf];omega
  ·obtain rfl:k=n:=by omega
   have hsz:=HI.o.below.size;have hkp:=bP wr (w.heap.size+1) u;have htk:=XD (by rw[HL.o];exact UZ _);have HEQ:Hd (u.w=(Wo.gZ v.w (xs.map HV.hp)).1):=by have:=HI.o.eq;rw[htk] at this;exact this
   have HSD:Hd (Row (cO wr (w.heap.size+1) u) a k c 1 (FU (Wo.gZ v.w (xs.map HV.hp)).2)):=by
    have h:=(HI.o.said.kept hkp (fun ad e hx=>by have:=HI.o.lo ad e;have:=UY.1 hx;omega)).row;rw[htk] at h;exact h
   have HWL:=hId (HI.o.nV.mY (g:=w.heap.size+1) (fun s y hs e=>by have:=(HI.o.cu s y hs e).1;omega) hkp (NT.iJ HI.o.iM));have HFR:Hd (iu w.heap.size (cO wr (w.heap.size+1) u).heap.size u):=fun s y hs e=>⟨by have:=(HI.o.cu s y hs e).1;omega,WJ (HI.o.cu s y hs e).2 hkp.size⟩;have HLO:Hd (∀ ad:Addr,a=some ad->w.heap.size<=ad.block):=fun ad e=>by have:=HI.o.lo ad e;omega
   have HZP:Hd (Blk (cO wr (w.heap.size+1) u) (w.heap.size+1) (eo u) 30):=dM HI.o.iM;have HBP:=hId (HI.o.below.trans (hkp.below (by omega) (fun y hy=>by rw[UY.1 hy];omega)));have o0:=ja HI.o.box;have z0:wr.cell? ⟨w.heap.size+1,0,none⟩=some (.slice none 0 0):=HI.o.iM.cell 0;have g0:=HI.o.iM.frozen 0;have o1:=IK HI.o.box;have z1:wr.cell? ⟨w.heap.size+1,1,none⟩=some (.slice none 0 0):=HI.o.iM.cell 1;have g1:=HI.o.iM.frozen 1;have o2:=IJ HI.o.box;have z2:wr.cell? ⟨w.heap.size+1,2,none⟩=some (.slice none 0 0):=HI.o.iM.cell 2;have g2:=HI.o.iM.frozen 2;have o3:=Bg HI.o.box;have z3:wr.cell? ⟨w.heap.size+1,3,none⟩=some (.slice none 0 0):=HI.o.iM.cell 3;have g3:=HI.o.iM.frozen 3;have o4:=Tu HI.o.box;have z4:wr.cell? ⟨w.heap.size+1,4,none⟩=some (.slice none 0 0):=HI.o.iM.cell 4;have g4:=HI.o.iM.frozen 4;have o5:=Ta HI.o.box;have z5:wr.cell? ⟨w.heap.size+1,5,none⟩=some (.slice none 0 0):=HI.o.iM.cell 5;have g5:=HI.o.iM.frozen 5;clear hkp htk hsz;go_wp2
   change bodyPost prog _ _ Exit.ret _ (cO wr (w.heap.size+1) u);exact VL (KO (t:=u) (c:=.slice a k c) (d:=.int .i64 0) rfl _ rfl rfl rfl HZP.o) rfl ⟨⟨u,a,c,rfl,HWL.o,HEQ.o,HSD.o,HFR.o,HLO.o⟩,HBP.o⟩
def Mi:QV:=⟨none,0,0,[]⟩
def On (n:Nat):List Value:=List.replicate n (.slice none 0 0)
theorem Pw(n:Nat):ak (List.replicate n Mi)=On n:=by
 induction n with
 |zero=>rfl
 |succ n a=>
  show tt Mi++ak (List.replicate n Mi)=_
  rw[a];rfl
theorem SU(n:Nat)(h:n<=4)(w:World):(Instr.makeSlice 28 (.int .i64 n) (.int .i64 n)).run prog w=.ok (.slice (some ⟨w.heap.size,0,none⟩) n n) (w.alloc (.cells (On n).toArray 53)):=by
 obtain rfl|rfl|rfl|rfl|rfl:n=0\/n=1\/n=2\/n=3\/n=4:=by omega
 all_goals kernel_rfl
def zy (s:SV) (n gu gd j:Nat) (a:Option Addr) (c:Nat) (cs:List CV):WV:=⟨s,a,j,c,cs,some ⟨gu,0,none⟩,n,n,List.replicate n Mi,some ⟨gd,0,none⟩,n,n,List.replicate n Mi⟩
structure JI (w:World) (s:SV) (n:Nat) (l:List It) (g gu gd j:Nat) (a:Option Addr) (c:Nat) (cs:List CV) (wr:World):Prop where
 box:Blk wr g (eo (zy s n gu gd j a c cs)) 30
 iM:Blk wr w.heap.size (eo bX) 30
 eF:nU wr s
 cr:bj wr 41 7 a j c (bB cs)
 cl:∀ x ∈ cs,kE wr x
 Ri:cs.map CV.cl=List.replicate j ⟨0,l,l,0,[],[],true⟩
 ub:Blk wr gu (On n) 53
 db:Blk wr gd (On n) 53
 lo:∀ ad:Addr,a=some ad->w.heap.size<ad.block/\ad.block≠g/\ad.block≠gu/\ad.block≠gd
 ne:w.heap.size<g/\w.heap.size<gu/\w.heap.size<gd/\gu≠g/\gd≠g
 below:Below w.heap.size w wr
theorem JI.next{w:World}{s:SV}{n:Nat}{l:List It}{g B C j:Nat}{a u:Option Addr}{c D:Nat}{cs:List CV}{wr v o:World}(h:JI w s n l g B C j a c cs wr)(P:s.ln=0)(k:Below wr.heap.size wr v){t:CV}(X:kE v t)(K:t.cl=⟨0,l,l,0,[],[],true⟩)
  (A:bj o 41 7 u (j+1) D (bB cs++fS t))(b:Kept v o (oT a))(M:∀d:Addr,u=some d->d.block=v.heap.size\/a=some d):JI w s n l g B C (j+1) u D (cs++[t]) (o.setCell ⟨g,3,none⟩ (.slice u (j+1) D)):=by
 obtain⟨n1,n2,Z,S,Q⟩:=h.ne;have Y:=k.size;have L:=h.below.size;have V:=h.box.lt;have T:=h.ub.lt;have W:=h.db.lt;have U:=h.iM.lt;have O:=h.cr.below k;have i:∀x∈oT a,w.heap.size<x/\x≠g/\x≠B/\x≠C:=fun x i=>by
  obtain⟨d,H,G⟩:=dI.1 i;rw[<-G];exact h.lo d H
 have r:∀x∈oT a,NT v x:=fun x i=>by
  obtain⟨d,H,G⟩:=dI.1 i;exact O.nt (by rw[H,<-G];rfl)
 have m:=b.aM ((k.block _ V).trans h.box) (fun e=>(i _ e).2.1 rfl);have z:=b.aM ((k.block _ U).trans h.iM) (fun e=>by have:=(i _ e).1;omega);have I:=b.aM ((k.block _ T).trans h.ub) (fun e=>(i _ e).2.2.1 rfl);have N:=b.aM ((k.block _ W).trans h.db) (fun e=>(i _ e).2.2.2 rfl);have f:Kept o (o.setCell ⟨g,3,none⟩ (.slice u (j+1) D)) [g]:=(Kept.refl o [g]).setCell _ _ (.inl (by simp));have q:∀x∈[g],NT o x:=fun x i=>by rw[UY.1 i];exact NT.iJ m
 have y:∀d:Addr,u=some d->w.heap.size<d.block/\d.block≠g/\d.block≠B/\d.block≠C:=fun d e=>by
  rcases M d e with e|e
  ·omega
  ·exact h.lo d e
 refine⟨m.set 3 _,f.aM z (by simp;omega),((h.eF.below k).aw b r (fun F=>absurd P F)).aw f q (fun F=>absurd P F),?_,fun x J=>?_,?_,f.aM I (by simpa using S),f.aM N (by simpa using Q),y,h.ne,?_⟩
 ·have e:bB (cs++[t])=bB cs++fS t:=by unfold bB;rw[List.flatMap_append];simp
  rw[e];exact A.kept f (fun d e i=>(y d e).2.1 (UY.1 i))
 ·rcases VW.1 J with E|E
  ·exact(((h.cl x E).below k).aw b r).aw f q
  ·rw[UY.1 E];exact(X.aw b r).aw f q
 ·rw[WN,h.Ri,List.replicate_succ'];show _++[t.cl]=_
  rw[K]
 ·refine h.below.trans ((k.mono L).trans ((b.below (by omega) (fun x p=>by have:=(i x p).1;omega)).trans ?_))
  have:=b.size;exact f.below (by omega) (fun x p=>by rw[UY.1 p];omega)
theorem Eu{w:World}{g n:Nat}(b:n<=4)(h:Blk w g (On n) 53):Row w (some ⟨g,0,none⟩) n n 1 (ak (List.replicate n Mi)):=by
 rw[Pw];refine⟨by unfold On;rw[List.length_replicate,Nat.mul_one],UZ _,by omega,fun _=>⟨g,0,rfl,fun j u a=>by rw[VR,h.cell j];exact a⟩⟩
theorem KW(w:World):qp w Mi:=⟨Row.nil w 4,fun m a=>by cases a⟩
theorem JI.nV{w:World}{s:SV}{n:Nat}{l:List It}{g e f j:Nat}{a:Option Addr}{c:Nat}{cs:List CV}{wr:World}(h:JI w s n l g e f j a c cs wr)(d:n<=4):gD wr (zy s n e f j a c cs):=
 ⟨h.eF,h.cr.row,h.cl,Eu d h.ub,fun q b=>by rw[(List.mem_replicate.1 b).2];exact KW wr,Eu d h.db,fun q b=>by rw[(List.mem_replicate.1 b).2];exact KW wr⟩
theorem JI.cu{w:World}{s:SV}{n:Nat}{l:List It}{g f m j:Nat}{a:Option Addr}{c:Nat}{cs:List CV}{wr:World}(h:JI w s n l g f m j a c cs wr)(y:s.ln=0):iu (w.heap.size+1) wr.heap.size (zy s n f m j a c cs):=by
 obtain⟨D,v,u,C,B⟩:=h.ne;have p:∀(k:Nat)(x:Nat),((List.replicate n Mi)[k]?).bind (fun q=>q.a.map (·.block))≠some x:=fun k x e=>by
  obtain⟨q,o,d⟩:=Option.bind_eq_some_iff.1 e;rw[(List.mem_replicate.1 (WQ o)).2]at d
  cases d
 intro t x b e;match t,b,e with
 |0,b,_=>exact absurd rfl b
 |1,_,e=>
  obtain⟨A,o,d⟩:=fx (a:=a) e;rw[<-d];exact⟨(h.lo A o).1,h.cr.lt o⟩
 |2,_,e=>cases e;exact⟨v,h.ub.lt⟩
 |3,_,e=>cases e;exact⟨u,h.db.lt⟩
 |4,_,e=>
  have d:bk 0 (zy s n f m j a c cs) 4=none:=VC y;rw[d]at e
  cases e
 |k+5,_,e=>
  rcases Nat.mod_two_eq_zero_or_one k with z|z
  ·obtain⟨i,rfl⟩:∃i,k=2*i:=⟨k/2,by omega⟩;rw[BI]at e;exact absurd e (p i x)
  ·obtain⟨i,rfl⟩:∃i,k=2*i+1:=⟨k/2,by omega⟩;have r:bk 0 (zy s n f m j a c cs) (2*i+6)=some x:=e;rw[BJ]at r;exact absurd r (p i x)
theorem M9{w:World}{t:SV}{l:List It}(h:nU w t)(e:t.se=⟨l,[],l⟩):t.ln=0:=by
 have c:t.log.map EV.en=[]:=VQ Sv.Se.log e;have b:=List.map_eq_nil_iff.1 c;have a:=h.log.row.len;rw[b]at a;have d:0=t.ln*3:=a;omega
def yE (d:List It) (n:Nat):Wo.W:=⟨⟨d,[],d⟩,List.replicate n ⟨0,d,d,0,[],[],true⟩,List.replicate n [],List.replicate n []⟩
theorem JI.w{w:World}{s:SV}{n:Nat}{l:List It}{g b d:Nat}{a:Option Addr}{c:Nat}{cs:List CV}{wr:World}(h:JI w s n l g b d n a c cs wr)(e:s.se=⟨l,[],l⟩):(zy s n b d n a c cs).w=yE l n:=by
 unfold WV.w yE zy;have f:=h.Ri;simp only[e,f,List.map_replicate]
 rfl
