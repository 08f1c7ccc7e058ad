/- A part. -/
import Derived.Test.YthddphjghgdalaaGreatDoorP17
import Derived.Test.YthddphjghgdalaaGreatDoorP18
set_option maxRecDepth 100000
set_option maxHeartbeats 3200000
namespace Go.Proofs.YthddphjghgdalaaGreatDoor
open Go.RowKit Go.Proofs.Tryz
def Fz (g:Nat) (E:Int) (S:Bool) (C:Kl.Cl) (e:Ending) (w':World):Prop:=∃ c' s,e=.returned (.tuple #[.bool s,.int .i64 E])/\jK w' g c'/\(E=0->s=S/\c'.cl=C)
theorem Q7(g:Nat)(c:CV)(oa:Option Addr)(I oc:Nat)(us:List PV)(w:World)(hK:jK w g c)(hO:ae w oa I oc us)(hS:df w)(hq:0<=c.seq)(ac:c.seq<=10000):
  Calls prog 91 #[.pointer (some ⟨g,0,none⟩),.slice oa I oc] w fun e w'=>Fz g (Kl.iR c.cl (us.map PV.pt)) (Kl.OL c.cl) (Kl.kH c.cl (us.map PV.pt)) e w'/\Kept w w' [g]:=by
 have V:Hd (Ac.ag c.now (us.map PV.pt)=0->tF I us):=fun h=>by
  have h1:=jV hO (Ac.bi.2 (Ac.kj h).2.1);exact⟨h1.2.1,h1.2.2⟩
 have HK:=hId hK;have HO:=hId hO;have s:=hId hS;have A:=pF hK.ia.aJ;have B:=pF hK.ia.held;have L:=hId (jk _ _ _ _ _ _ _ _ _ hK.ia.now hO hS);have H:=IJ hK.aM;clear hK hO hS;obtain⟨D,hD⟩:∃D,Ac.done c.now (us.map PV.pt)=D:=⟨_,rfl⟩;have a7:=hId hD;rw[hD]at L;clear hD;obtain⟨q,a8⟩:∃q,D.length=q:=⟨_,rfl⟩;rw[a8]at L;clear a8;obtain⟨F,hF⟩:∃F,Ac.ag c.now (us.map PV.pt)=F:=⟨_,rfl⟩;have HF:=hId hF;rw[hF]at L;clear hF;by_cases hz:F=0
 ·have V:=hId (V.o (HF.o.trans hz));have a6:Hd (Ac.ag c.cl.now (us.map PV.pt)=0):=HF.o.trans hz;subst hz;by_cases hs:c.sn=0
  ·have m:Hd (c.cl.aJ.length=0):=A.trans hs;have U:=hId hs;clear hs;have K:Kl.iR c.cl (us.map PV.pt)=(if c.seq=10000 then 2 else 0):=by unfold Kl.iR;rw[VC a6.o,VC m.o];rfl
   have Z:Kl.kH c.cl (us.map PV.pt)=⟨c.rev,c.base,Ac.done c.now (us.map PV.pt),c.seq+1,us.map PV.pt,c.held.map PV.pt,c.jo⟩:=by unfold Kl.kH;rw[VC m.o];rfl
   have u:Kl.OL c.cl=true:=by unfold Kl.OL;exact WL m.o
   obtain⟨E0,a2⟩:∃E0,(if c.seq=10000 then(2:Int)else 0)=E0:=⟨_,rfl⟩;rw[K,Z,u,a2];have ab:=hId a2;clear K Z u A B a2;go_enter func91,ntmps91
   go_wp2_with fail
   refine L.o.mono ?_
   rintro e k⟨⟨i,f,rfl,J⟩,b⟩;have a:=HK.o.below b;have C:Hd (ae (k.setCell ⟨g,2,none⟩ (.slice i q f)) oa I oc us):=(HO.o.below b).bA a.aM (aP ..);have T:Hd (df (k.setCell ⟨g,2,none⟩ (.slice i q f))):=(s.o.below b).bA a.aM (aP ..);have d:=hId (a.kM i q f D J);have x:Hd (Kept w (k.setCell ⟨g,2,none⟩ (.slice i q f)) [g]):=(Kept.dA b).trans (aP ..);clear H;have H:=IJ a.aM;have f2:=a.aM.frozen 2;clear a b J L HK HO s;go_upto_region 2 with fail
   change Code.wp prog _ _ _ (k.setCell ⟨g,2,none⟩ (.slice i q f));generalize k.setCell ⟨g,2,none⟩ (.slice i q f)=W at*;clear H f2;have p4:=d.o.aM.c4;have Y:=d.o.aM.c5;have t:Hd (Calls prog 61 #[.slice c.sa c.sn c.sc] W fun e w'=>e=.returned (.bool false)/\w'=W):=by have:=bC c.sa c.sn c.sc W;rw[show decide (0<c.sn)=false by have h:=U.o;simp;omega]at this;exact this
   go_wp2_with fail
   refine t.o.mono ?_
   rintro e w3⟨rfl,z⟩;obtain rfl:=z.symm;try clear z
   clear t;have CP:=hId (lS _ _ _ _ _ C.o V.o);go_wp2_with fail
   refine CP.o.mono ?_
   rintro e w4⟨⟨a4,c4,u4,rfl,p,o⟩,b⟩;have n:=hId (d.o.below b);have l:=hId (x.o.trans (Kept.dA b));have a3:=hId p;have O:=hId o;clear p o b CP p4 Y;have G:Hd (Calls prog 106 #[.pointer (some ⟨g,0,none⟩),.slice a4 I c4] w4 fun e w'=>e=.returned (.bool (!decide (c.seq=10000)))/\jK w' g (if c.seq=10000 then(c.kM i q f D)else((c.kM i q f D).lh a4 I c4 u4).toSeq (c.seq+1))/\Kept w4 w' [g]):=ze g (c.kM i q f D) a4 I c4 u4 w4 n.o a3.o hq ac;by_cases r:c.seq=10000
   ·obtain rfl:E0=2:=by rw[<-ab.o,VC r]
    rw[VC r,show(!decide (c.seq=10000))=false by simp[r]]at G;go_wp2_with fail
    refine G.o.mono ?_
    rintro e w5⟨rfl,N,M⟩;have y:=hId N;have S:=hId (l.o.trans M);clear N M G r;go_wp2
    exact VL (v:=.tuple #[.bool false,.int .i64 2]) (by simp[results,Tryz.results91,go_sem]) rfl ⟨⟨_,false,rfl,y.o,fun h=>absurd h (by decide)⟩,S.o⟩
   ·obtain rfl:E0=0:=by rw[<-ab.o,VD r]
    rw[VD r,show(!decide (c.seq=10000))=true by simp[r]]at G;go_wp2_with fail
    refine G.o.mono ?_
    rintro e w5⟨rfl,N,M⟩;have y:=hId N;have S:=hId (l.o.trans M);clear N M G r;go_wp2
    refine VL (v:=.tuple #[.bool true,.int .i64 0]) (by simp[results,Tryz.results91,go_sem]) rfl ⟨⟨_,true,rfl,y.o,fun _=>⟨rfl,?_⟩⟩,S.o⟩
    show(⟨c.rev,c.base,D,c.seq+1,u4.map PV.pt,c.held.map PV.pt,c.jo⟩:Kl.Cl)=_
    rw[O.o,a7.o]
  ·have m:Hd (¬c.cl.aJ.length=0):=fun h=>hs (A.symm.trans h);have U:=hId hs;clear hs;have u:Kl.OL c.cl=false:=by unfold Kl.OL;exact VZ m.o
   by_cases hh:c.hn=0
   ·have P:Hd (c.cl.held.length=0):=B.trans hh;have a5:=hId hh;clear hh;have K:Kl.iR c.cl (us.map PV.pt)=0:=by unfold Kl.iR;rw[VC a6.o,VD m.o,VC P.o]
    have Z:Kl.kH c.cl (us.map PV.pt)=⟨c.rev,c.base,Ac.done c.now (us.map PV.pt),c.seq,c.aJ.map PV.pt,us.map PV.pt,c.jo⟩:=by unfold Kl.kH;rw[VD m.o,VC P.o];rfl
    rw[K,Z,u];clear K Z u A B;go_enter func91,ntmps91
    go_wp2_with fail
    refine L.o.mono ?_
    rintro e k⟨⟨i,f,rfl,J⟩,b⟩;have a:=HK.o.below b;have C:Hd (ae (k.setCell ⟨g,2,none⟩ (.slice i q f)) oa I oc us):=(HO.o.below b).bA a.aM (aP ..);have T:Hd (df (k.setCell ⟨g,2,none⟩ (.slice i q f))):=(s.o.below b).bA a.aM (aP ..);have d:=hId (a.kM i q f D J);have x:Hd (Kept w (k.setCell ⟨g,2,none⟩ (.slice i q f)) [g]):=(Kept.dA b).trans (aP ..);clear H;have H:=IJ a.aM;have f2:=a.aM.frozen 2;clear a b J L HK HO s;go_upto_region 2 with fail
    change Code.wp prog _ _ _ (k.setCell ⟨g,2,none⟩ (.slice i q f));generalize k.setCell ⟨g,2,none⟩ (.slice i q f)=W at*;clear H f2;have p4:=d.o.aM.c4;have Y:=d.o.aM.c5;have t:Hd (Calls prog 61 #[.slice c.sa c.sn c.sc] W fun e w'=>e=.returned (.bool true)/\w'=W):=by have:=bC c.sa c.sn c.sc W;rw[show decide (0<c.sn)=true by have h:=U.o;simp;omega]at this;exact this
    go_wp2_with fail
    refine t.o.mono ?_
    rintro e w3⟨rfl,z⟩;obtain rfl:=z.symm;try clear z
    clear t;have Q:Hd (Calls prog 61 #[.slice c.ha c.hn c.hc] W fun e w'=>e=.returned (.bool false)/\w'=W):=by have:=bC c.ha c.hn c.hc W;rw[show decide (0<c.hn)=false by have h:=a5.o;simp;omega]at this;exact this
    go_wp2_with fail
    refine Q.o.mono ?_
    rintro e w3⟨rfl,z⟩;obtain rfl:=z.symm;try clear z
    clear Q;have CP:=hId (lS _ _ _ _ _ C.o V.o);go_wp2_with fail
    refine CP.o.mono ?_
    rintro e w4⟨⟨a4,c4,u4,rfl,p,o⟩,b⟩;have n:=hId (d.o.below b);have l:=hId (x.o.trans (Kept.dA b));have a3:=hId p;have O:=hId o;clear p o b CP p4 Y;have y:=hId (n.o.mo a4 I c4 u4 a3.o);have Y:=n.o.aM.c5;have f5:=n.o.aM.frozen 5;go_wp2
    refine VL (v:=.tuple #[.bool false,.int .i64 0]) (by simp[results,Tryz.results91,go_sem]) rfl ⟨⟨_,false,rfl,y.o,fun _=>⟨rfl,?_⟩⟩,l.o.trans (aP ..)⟩
    show(⟨c.rev,c.base,D,c.seq,c.aJ.map PV.pt,u4.map PV.pt,c.jo⟩:Kl.Cl)=_
    rw[O.o,a7.o]
   ·have P:Hd (¬c.cl.held.length=0):=fun h=>hh (B.symm.trans h);have a5:=hId hh;clear hh;have K:Kl.iR c.cl (us.map PV.pt)=Ac.sP (c.held.map PV.pt) (us.map PV.pt):=by unfold Kl.iR;rw[VC a6.o,VD m.o,VD P.o];rfl
    have Z:Kl.kH c.cl (us.map PV.pt)=⟨c.rev,c.base,Ac.done c.now (us.map PV.pt),c.seq,c.aJ.map PV.pt,Ac.pG (c.held.map PV.pt) (us.map PV.pt),c.jo⟩:=by unfold Kl.kH;rw[VD m.o,VD P.o];rfl
    rw[K,Z,u];obtain⟨X,hX⟩:∃X,Ac.pG (c.held.map PV.pt) (us.map PV.pt)=X:=⟨_,rfl⟩;obtain⟨E,a0⟩:∃E,Ac.sP (c.held.map PV.pt) (us.map PV.pt)=E:=⟨_,rfl⟩;have a9:=hId hX;have aa:=hId a0;rw[hX,a0];clear K Z u A B hX a0;go_enter func91,ntmps91
    go_wp2_with fail
    refine L.o.mono ?_
    rintro e k⟨⟨i,f,rfl,J⟩,b⟩;have a:=HK.o.below b;have C:Hd (ae (k.setCell ⟨g,2,none⟩ (.slice i q f)) oa I oc us):=(HO.o.below b).bA a.aM (aP ..);have T:Hd (df (k.setCell ⟨g,2,none⟩ (.slice i q f))):=(s.o.below b).bA a.aM (aP ..);have d:=hId (a.kM i q f D J);have x:Hd (Kept w (k.setCell ⟨g,2,none⟩ (.slice i q f)) [g]):=(Kept.dA b).trans (aP ..);clear H;have H:=IJ a.aM;have f2:=a.aM.frozen 2;clear a b J L HK HO s;go_upto_region 2 with fail
    change Code.wp prog _ _ _ (k.setCell ⟨g,2,none⟩ (.slice i q f));generalize k.setCell ⟨g,2,none⟩ (.slice i q f)=W at*;clear H f2;have p4:=d.o.aM.c4;have Y:=d.o.aM.c5;have t:Hd (Calls prog 61 #[.slice c.sa c.sn c.sc] W fun e w'=>e=.returned (.bool true)/\w'=W):=by have:=bC c.sa c.sn c.sc W;rw[show decide (0<c.sn)=true by have h:=U.o;simp;omega]at this;exact this
    go_wp2_with fail
    refine t.o.mono ?_
    rintro e w3⟨rfl,z⟩;obtain rfl:=z.symm;try clear z
    clear t;have Q:Hd (Calls prog 61 #[.slice c.ha c.hn c.hc] W fun e w'=>e=.returned (.bool true)/\w'=W):=by have:=bC c.ha c.hn c.hc W;rw[show decide (0<c.hn)=true by have h:=a5.o;simp;omega]at this;exact this
    go_wp2_with fail
    refine Q.o.mono ?_
    rintro e w3⟨rfl,z⟩;obtain rfl:=z.symm;try clear z
    clear Q;have CJ:Hd (Calls prog 107 #[.slice c.ha c.hn c.hc,.slice oa I oc] W fun e w'=>Bb (Ac.pG (c.held.map PV.pt) (us.map PV.pt)) (Ac.sP (c.held.map PV.pt) (us.map PV.pt)) e w'/\Below W.heap.size W w'):=LN _ _ _ _ _ _ _ _ _ d.o.ia.held C.o T.o;rw[a9.o,aa.o]at CJ;clear a9 aa;go_wp2_with fail
    refine CJ.o.mono ?_
    rintro e w4⟨⟨a4,n4,c4,u4,rfl,p,o⟩,b⟩;have n:=hId (d.o.below b);have l:=hId (x.o.trans (Kept.dA b));have O:=hId o;have y:=hId (n.o.mo a4 n4 c4 u4 p);clear p o b CJ p4 Y;have Y:=n.o.aM.c5;have f5:=n.o.aM.frozen 5;go_wp2
    refine VL (v:=.tuple #[.bool false,.int .i64 E]) (by simp[results,Tryz.results91,go_sem]) rfl ⟨⟨_,false,rfl,y.o,fun _=>⟨rfl,?_⟩⟩,l.o.trans (aP ..)⟩
    show(⟨c.rev,c.base,D,c.seq,c.aJ.map PV.pt,u4.map PV.pt,c.jo⟩:Kl.Cl)=_
    rw[O.o,a7.o]
 ·have K:Kl.iR c.cl (us.map PV.pt)=F:=by unfold Kl.iR;rw[VD (show¬Ac.ag c.cl.now (us.map PV.pt)=0 from fun h=>hz (HF.o.symm.trans h))];exact HF.o
  rw[K];have ad:(F !=0)=true:=by simp[hz]
  clear K A B;go_enter func91,ntmps91
  go_wp2_with fail
  refine L.o.mono ?_
  rintro e k⟨⟨i,f,rfl,J⟩,b⟩;have a:=HK.o.below b;have C:Hd (ae (k.setCell ⟨g,2,none⟩ (.slice i q f)) oa I oc us):=(HO.o.below b).bA a.aM (aP ..);have T:Hd (df (k.setCell ⟨g,2,none⟩ (.slice i q f))):=(s.o.below b).bA a.aM (aP ..);have d:=hId (a.kM i q f D J);have x:Hd (Kept w (k.setCell ⟨g,2,none⟩ (.slice i q f)) [g]):=(Kept.dA b).trans (aP ..);clear H;have H:=IJ a.aM;have f2:=a.aM.frozen 2;clear a b J L HK HO s;go_upto_region 2 with fail
  change Code.wp prog _ _ _ (k.setCell ⟨g,2,none⟩ (.slice i q f));generalize k.setCell ⟨g,2,none⟩ (.slice i q f)=W at*;clear H f2;have p4:=d.o.aM.c4;have Y:=d.o.aM.c5;go_wp2
  exact VL (v:=.tuple #[.bool false,.int .i64 F]) (by simp[results,Tryz.results91,go_sem]) rfl ⟨⟨_,false,rfl,d.o,fun h=>absurd h hz⟩,x.o⟩
theorem kO{f:Func}{p u v:Tmp}{e:TypeId}(h:f.results=#[.cell p e,.tmp u,.tmp v])(b:Array Value)(P:Program)(w:World):
  (results f b).run P w=((asAddr (b.getD p undef)).run P w).andThen fun a d=>((loadVar e a).run P d).andThen fun x c=>.ok (.tuple #[x,b.getD u undef,b.getD v undef]) c:=by
 simp only[results,h]
 simp[Sem.run_bind,Result.andThen]
theorem lH{b:Func}{p u v:Tmp}{t:CV}{c d:Value}{w:World}{g:Nat}(h:b.results=#[.cell p 41,.tmp u,.tmp v])(a:Array Value)(i:a.getD p undef=.pointer (some ⟨g,0,none⟩))(f:a.getD u undef=c)(e:a.getD v undef=d)(l:Blk w g (fS t) 41):(results b a).run prog w=.ok (.tuple #[Rh t,c,d]) w:=by
 have k:=run_loadVar_row (P:=prog) w g 41 41 (fS t).toArray (0,0) _ l underlying41 rfl (Ph t);rw[kO h,i,f,e];simp only[asAddr,Sem.run_pure,Result.andThen_ok,k]
 rfl
theorem yb{w:World}{c:CV}(a:kE w c)(h:Kl.iS c.cl=0):c.bn<=80/\c.nn<=80/\tF c.sn c.aJ/\tF c.hn c.held:=by
 have R:=Kl.xL h;have k:=Dc.eM R.ck;have i:=Dc.eM R.Kk;have o:=a.base.len;have n:=a.now.len;have m:c.cl.base.length=c.base.length:=rfl;have l:c.cl.now.length=c.now.length:=rfl;refine⟨by omega,by omega,?_,?_⟩
 ·by_cases f:(c.aJ.map PV.pt).length=0
  ·have e:=VS.1 (by rw[VH]at f;exact f);exact⟨by rw[<-a.aJ.len,e];exact VN _,fun v g=>absurd g (by rw[e];simp)⟩
  ·have d:=R.e1;rw[(Kl.dG (show 0<c.cl.aJ.length by have:c.cl.aJ.length=(c.aJ.map PV.pt).length:=rfl;omega)).1]at d;have b:=jV a.aJ (Ac.bi.2 (Ac.kj d).2.1);exact⟨b.2.1,b.2.2⟩
 ·by_cases f:(c.held.map PV.pt).length=0
  ·have e:=VS.1 (by rw[VH]at f;exact f);exact⟨by rw[<-a.held.len,e];exact VN _,fun v g=>absurd g (by rw[e];simp)⟩
  ·have d:=R.e2;rw[(Kl.dG (show 0<c.cl.held.length by have:c.cl.held.length=(c.held.map PV.pt).length:=rfl;omega)).1]at d;have b:=jV a.held (Ac.bi.2 (Ac.kj d).2.1);exact⟨b.2.1,b.2.2⟩
def Ans (E:Int) (S:Bool) (C:Kl.Cl) (e:Ending) (w':World):Prop:=∃ t,e=.returned (.tuple #[Rh t,.bool S,.int .i64 E])/\kE w' t/\t.cl=C
theorem CV.Lv{t c:CV}(h:t.cl=c.cl):t.rev=c.rev/\t.base=c.base/\t.now=c.now/\t.seq=c.seq/\t.aJ.map PV.pt=c.aJ.map PV.pt/\t.held.map PV.pt=c.held.map PV.pt/\t.jo=c.jo:=by
 unfold CV.cl at h;simp only[Kl.Cl.mk.injEq]at h
 exact h
theorem RW(c:CV)(oa:Option Addr)(on oc:Nat)(us:List PV)(w:World)(hC:kE w c)(hO:ae w oa on oc us)(hS:df w):
  Calls prog 74 #[.agg #[.int .i64 c.rev,.slice c.ba c.bn c.bc,.slice c.na c.nn c.nc,.int .i64 c.seq,.slice c.sa c.sn c.sc,.slice c.ha c.hn c.hc,.bool c.jo],.slice oa on oc] w fun e w'=>Ans (Kl.vM c.cl (us.map PV.pt)) (Kl.Mm c.cl (us.map PV.pt)) (Kl.JL c.cl (us.map PV.pt)) e w'/\Below w.heap.size w w':=by
 have p:=hId ((aa c w).trans ((aa eJ _).mono (aa c w).size));have O:Hd (Blk (aO eJ (aO c w)) (w.heap.size) (fS c) 41):=(cH c w).alloc _;have N:Hd (Blk (aO eJ (aO c w)) (w.heap.size+1) (fS eJ) 41):=by have:=cH eJ (aO c w);rw[hJ]at this;exact this
 have Q:=hId (uh c _ (hC.below p.o) (hS.below p.o));have HC:=hId hC;have HO:=hId hO;have a7:=hId hS;clear hC hO hS;by_cases g:Kl.iS c.cl=0
 ·have P:=yb HC.o g;have HR:=hId (Kl.xL g);have C2:Hd (∀w',Below w.heap.size w w'->Calls prog 43 #[.agg #[.int .i64 c.rev,.slice c.ba c.bn c.bc,.slice c.na c.nn c.nc,.int .i64 c.seq,.slice c.sa c.sn c.sc,.slice c.ha c.hn c.hc,.bool c.jo]] w' fun e T=>(∃t,e=.returned (.agg #[.int .i64 t.rev,.slice t.ba t.bn t.bc,.slice t.na t.nn t.nc,.int .i64 t.seq,.slice t.sa t.sn t.sc,.slice t.ha t.hn t.hc,.bool t.jo])/\kE T t/\t.cl=c.cl)/\Below w'.heap.size w' T):=fun w' h=>n8 c w' (HC.o.below h) P.1 P.2.1 P.2.2.1 P.2.2.2;have f:Kl.vM c.cl (us.map PV.pt)=Kl.iR c.cl (us.map PV.pt):=VC g;have i:Kl.Mm c.cl (us.map PV.pt)=(if Kl.iR c.cl (us.map PV.pt)=0 then Kl.OL c.cl else false):=by unfold Kl.Mm;rw[f]
  have k:Kl.JL c.cl (us.map PV.pt)=(if Kl.iR c.cl (us.map PV.pt)=0 then Kl.kH c.cl (us.map PV.pt)else Kl.none):=by unfold Kl.JL;rw[f]
  rw[f,i,k];obtain⟨E,u⟩:∃E,Kl.iR c.cl (us.map PV.pt)=E:=⟨_,rfl⟩;obtain⟨S,r⟩:∃S,Kl.OL c.cl=S:=⟨_,rfl⟩;obtain⟨C,v⟩:∃C,Kl.kH c.cl (us.map PV.pt)=C:=⟨_,rfl⟩;have a1:=hId u;have Z:=hId r;have a2:=hId v;rw[u,r,v];obtain⟨S0,s⟩:∃S0,(if E=0 then S else false)=S0:=⟨_,rfl⟩;obtain⟨C0,x⟩:∃C0,(if E=0 then C else Kl.none)=C0:=⟨_,rfl⟩;rw[s,x];have n:=hId s;have o:=hId x;clear u r v;rw[g]at Q;clear P g f i k s x;go_enter func74,ntmps74
  go_upto_region 1 with fail
  change Code.wp prog _ _ _ (aO eJ (aO c w));generalize (aO eJ (aO c w))=W at*;obtain⟨M,L,K,J,I,H,G⟩:=Bh O.o;go_wp2_with fail
  refine Q.o.mono ?_
  rintro e F⟨rfl,h⟩;have l:=hId (p.o.trans (h.mono p.o.size));have a0:Hd (Blk F (w.heap.size) (fS c) 41):=(h.block _ O.o.lt).trans O.o;have a:Hd (Blk F (w.heap.size+1) (fS eJ) 41):=(h.block _ N.o.lt).trans N.o;clear h Q M L K J I H G O N p;obtain⟨M,L,K,J,I,H,G⟩:=Bh a0.o;go_wp2_with fail
  refine(C2.o _ l.o).mono ?_
  rintro e D⟨⟨t,rfl,ht,Y⟩,h⟩;have y:=hId (l.o.trans (h.mono l.o.size));have b:Hd (Blk D (w.heap.size+1) (fS eJ) 41):=(h.block _ a.o.lt).trans a.o;have a6:=hId ht;have B:=hId Y;clear h ht Y C2 M L K J I H G a0 a;have q0:=b.o.c0;have q1:=b.o.c1;have q2:=b.o.c2;have q3:=b.o.c3;have q4:=b.o.c4;have q5:=b.o.c5;have q6:=b.o.c6;have g0:=b.o.frozen 0;have g1:=b.o.frozen 1;have g2:=b.o.frozen 2;have g3:=b.o.frozen 3;have g4:=b.o.frozen 4;have g5:=b.o.frozen 5;have g6:=b.o.frozen 6;have a8:=hId (jK.put b.o a6.o);have m:Hd (Kept D (jt D (w.heap.size+1) t) [w.heap.size+1]):=cQ _ _ _;go_upto_region 5 with fail
  change Code.wp prog _ _ _ (jt D (w.heap.size+1) t);have CD:=hId (Q7 (w.heap.size+1) t oa on oc us _ a8.o ((HO.o.below y.o).bA b.o m.o) ((a7.o.below y.o).bA b.o m.o) (by have:=HR.o.JQ;rw[(CV.Lv B.o).2.2.2.1];exact this) (by have:=HR.o.JR;rw[(CV.Lv B.o).2.2.2.1];exact this));rw[B.o,a1.o,Z.o,a2.o]at CD;clear a1 Z a2;generalize jt D (w.heap.size+1) t=W3 at*;clear q0 q1 q2 q3 q4 q5 q6 g0 g1 g2 g3 g4 g5 g6;have a5:w.heap.size+1<=D.heap.size:=by have:=b.o.lt;omega
  have a3:Hd (∀w',Kept W3 w' [w.heap.size+1]->Below w.heap.size w w'):=fun w' hk=>y.o.trans (((m.o.trans hk).low a5).mono (by omega));go_wp2_with fail
  refine CD.o.mono ?_
  rintro e w4⟨⟨c4,s4,rfl,V,X⟩,U⟩;have d:=hId V;have z:=hId X;have q:=hId U;clear V X U CD;have M:=d.o.aM.c0;have L:=d.o.aM.c1;have K:=d.o.aM.c2;have J:=d.o.aM.c3;have I:=d.o.aM.c4;have H:=d.o.aM.c5;have G:=d.o.aM.c6;have f0:=d.o.aM.frozen 0;have f1:=d.o.aM.frozen 1;have f2:=d.o.aM.frozen 2;have f3:=d.o.aM.frozen 3;have f4:=d.o.aM.frozen 4;have f5:=d.o.aM.frozen 5;have f6:=d.o.aM.frozen 6;by_cases g:E=0
  ·obtain⟨e1,e2⟩:=z.o g;obtain rfl:S0=s4:=by have:=n.o;rw[VC g]at this;rw[<-this,e1]
   have A:Hd (c4.cl=C0):=by have:=o.o;rw[VC g]at this;show _=_;rw[<-this,e2]
   clear e1 e2 z n o;subst g;go_wp2
   change bodyPost prog _ _ Exit.ret _ (jt w4 (w.heap.size+1) c4);exact VL (lH (t:=c4) rfl _ rfl rfl rfl (fV d.o.aM)) rfl ⟨⟨c4,rfl,d.o.ia.bA d.o.aM (cQ _ _ _),A.o⟩,a3.o _ (q.o.trans (cQ _ _ _))⟩
  ·obtain rfl:S0=false:=by have:=n.o;rw[VD g]at this;exact this.symm
   have A:Hd (Kl.none=C0):=by have:=o.o;rw[VD g]at this;exact this
   have a4:(E !=0)=true:=by simp[g]
   clear z n o;go_wp2
   change bodyPost prog _ _ Exit.ret _ (jt w4 (w.heap.size+1) eJ);exact VL (lH (t:=eJ) rfl _ rfl rfl rfl (fV d.o.aM)) rfl ⟨⟨eJ,rfl,kE.nil _,A.o⟩,a3.o _ (q.o.trans (cQ _ _ _))⟩
 ·have f:Kl.vM c.cl (us.map PV.pt)=Kl.iS c.cl:=VD g;have i:Kl.Mm c.cl (us.map PV.pt)=false:=by unfold Kl.Mm;rw[f,VD g]
  have k:Kl.JL c.cl (us.map PV.pt)=Kl.none:=by unfold Kl.JL;rw[f,VD g]
  rw[f,i,k];generalize Kl.iS c.cl=E at*;have a4:(E !=0)=true:=by simp[g]
  clear f i k;go_enter func74,ntmps74
  go_upto_region 1 with fail
  change Code.wp prog _ _ _ (aO eJ (aO c w));generalize (aO eJ (aO c w))=W at*;obtain⟨M,L,K,J,I,H,G⟩:=Bh O.o;go_wp2_with fail
  refine Q.o.mono ?_
  rintro e F⟨rfl,h⟩;have l:=hId (p.o.trans (h.mono p.o.size));have a:Hd (Blk F (w.heap.size+1) (fS eJ) 41):=(h.block _ N.o.lt).trans N.o;clear h Q M L K J I H G O N p;have q0:=a.o.c0;have q1:=a.o.c1;have q2:=a.o.c2;have q3:=a.o.c3;have q4:=a.o.c4;have q5:=a.o.c5;have q6:=a.o.c6;have g0:=a.o.frozen 0;have g1:=a.o.frozen 1;have g2:=a.o.frozen 2;have g3:=a.o.frozen 3;have g4:=a.o.frozen 4;have g5:=a.o.frozen 5;have g6:=a.o.frozen 6;go_wp2
  change bodyPost prog _ _ Exit.ret _ (jt F (w.heap.size+1) eJ);exact VL (lH (t:=eJ) rfl _ rfl rfl rfl (fV a.o)) rfl ⟨⟨eJ,rfl,kE.nil _,rfl⟩,l.o.trans (((cQ F (w.heap.size+1) eJ).low (by have:=a.o.lt;omega)).mono (by omega))⟩
namespace Kl
def yo (o s h:List Ac.Pt) (k:Nat) (X S H:List Ac.Pt):Prop:=(k=0/\X=o/\S=s/\H=h)\/(k=1/\tE o s=0/\X=tX o s/\S=tY o s/\H=h)\/(k=2/\tE o s=0/\tE (tX o s) h=0/\S=tY o s/\H=tY (tX o s) h)
theorem tZ{o s:List Ac.Pt}(h:s.length=0):tE o s=0/\tX o s=o/\tY o s=s:=⟨VC h,VC h,VC h⟩
theorem oy{o s:List Ac.Pt}(h:0<s.length):tE o s=Ac.fO o s/\tX o s=Ac.lZ o s/\tY o s=Ac.gY o s:=⟨VD (by omega),VD (by omega),VD (by omega)⟩
theorem yo.Ko{o s h X S H:List Ac.Pt}(i:yo o s h 0 X S H)(a:S.length=0):yo o s h 1 X S H:=by
 rcases i with⟨_,rfl,rfl,rfl⟩|⟨e,_⟩|⟨e,_⟩
 ·exact .inr (.inl ⟨rfl,(tZ a).1,(tZ a).2.1.symm,(tZ a).2.2.symm,rfl⟩)
 ·cases e
 ·cases e
theorem yo.KB{o s h X S H:List Ac.Pt}(i:yo o s h 0 X S H)(a:0<S.length)(b:Ac.fO X S=0):yo o s h 1 (Ac.lZ X S) (Ac.gY X S) H:=by
 rcases i with⟨_,rfl,rfl,rfl⟩|⟨e,_⟩|⟨e,_⟩
 ·exact .inr (.inl ⟨rfl,(oy a).1.trans b,(oy a).2.1.symm,(oy a).2.2.symm,rfl⟩)
 ·cases e
 ·cases e
theorem yo.RQ{o s h X S H:List Ac.Pt}(i:yo o s h 0 X S H)(b:0<S.length)(a:¬Ac.fO X S=0):Bm o s h=Ac.fO X S:=by
 rcases i with⟨_,rfl,rfl,rfl⟩|⟨e,_⟩|⟨e,_⟩
 ·unfold Bm;rw[(oy b).1,VD a]
 ·cases e
 ·cases e
theorem yo.Kn{o s h X S H:List Ac.Pt}(i:yo o s h 1 X S H)(a:H.length=0):yo o s h 2 X S H:=by
 rcases i with⟨e,_⟩|⟨_,b,rfl,rfl,rfl⟩|⟨e,_⟩
 ·cases e
 ·exact .inr (.inr ⟨rfl,b,(tZ a).1,rfl,(tZ a).2.2.symm⟩)
 ·cases e
theorem yo.Em{o s h X S H:List Ac.Pt}(i:yo o s h 1 X S H)(a:0<H.length)(b:Ac.fO X H=0):yo o s h 2 (Ac.lZ X H) S (Ac.gY X H):=by
 rcases i with⟨e,_⟩|⟨_,c,rfl,rfl,rfl⟩|⟨e,_⟩
 ·cases e
 ·exact .inr (.inr ⟨rfl,c,(oy a).1.trans b,rfl,(oy a).2.2.symm⟩)
 ·cases e
theorem yo.RP{o s h X S H:List Ac.Pt}(i:yo o s h 1 X S H)(a:0<H.length)(c:¬Ac.fO X H=0):Bm o s h=Ac.fO X H:=by
 rcases i with⟨e,_⟩|⟨_,b,rfl,rfl,rfl⟩|⟨e,_⟩
 ·cases e
 ·unfold Bm;rw[VC b,(oy a).1]
 ·cases e
theorem yo.last{o s h X S H:List Ac.Pt}(i:yo o s h 2 X S H):Bm o s h=0/\S=tY o s/\H=Fp o s h:=by
 rcases i with⟨e,_⟩|⟨e,_⟩|⟨_,b,a,rfl,rfl⟩
 ·cases e
 ·cases e
 ·refine⟨?_,rfl,rfl⟩
  unfold Bm;rw[VC b,a]
end Kl
theorem Tj(a b:Option Addr)(n c m d:Nat):(prog.info? 111).map (·.size)=some ([.slice a n c,.slice b m d]:List Value).toArray.size:=by
 have h:(prog.info? 111).map (·.size)=some 2:=by kernel_rfl
 exact h
theorem tq{i:Func}{p u:Tmp}{a b:Option Addr}{n f m d:Nat}{c:Value}{w:World}{g:Nat}(h:i.results=#[.cell p 111,.tmp u])(e:Array Value)(l:e.getD p undef=.pointer (some ⟨g,0,none⟩))(k:e.getD u undef=c)(q:Blk w g [.slice a n f,.slice b m d] 111):(results i e).run prog w=.ok (.tuple #[.agg #[.slice a n f,.slice b m d],c]) w:=by
 have o:=run_loadVar_row (P:=prog) w g 111 111 ([.slice a n f,.slice b m d]:List Value).toArray (0,0) _ q underlying111 rfl (Tj a b n f m d);rw[results_cell_tmp h,l,k];simp only[asAddr,Sem.run_pure,Result.andThen_ok,o]
def TX (S H:List Ac.Pt) (E:Int) (e:Ending) (w':World):Prop:=∃ a n c us b m d vs,e=.returned (.tuple #[.agg #[.slice a n c,.slice b m d],.int .i64 E])/\(E=0->ae w' a n c us/\ae w' b m d vs/\us.map PV.pt=S/\vs.map PV.pt=H)
structure JO (w:World) (o s h:List Ac.Pt) (k:Nat) (a:Option Addr) (n c:Nat) (us:List PV) (b:Option Addr) (m d:Nat) (vs:List PV) (x:Option Addr) (xn xc:Nat) (xs:List PV) (wr:World):Prop where
 p:Blk wr (w.heap.size) [.slice a n c,.slice b m d] 111
 q:Blk wr (w.heap.size+1) [.slice none 0 0,.slice none 0 0] 111
 os:ae wr a n c us
 oh:ae wr b m d vs
 ox:ae wr x xn xc xs
 i:Kl.yo o s h k (xs.map PV.pt) (us.map PV.pt) (vs.map PV.pt)
 bf:Below w.heap.size w wr
theorem JO.under{w:World}{o s h:List Ac.Pt}{k:Nat}{a:Option Addr}{n c:Nat}{us:List PV}{b:Option Addr}{m d:Nat}{p:List PV}{x:Option Addr}{i l:Nat}{xs:List PV}{wr g:World}(e:JO w o s h k a n c us b m d p x i l xs wr)(f:Below wr.heap.size wr g):JO w o s h k a n c us b m d p x i l xs g:=
 ⟨(f.block _ e.p.lt).trans e.p,(f.block _ e.q.lt).trans e.q,e.os.below f,e.oh.below f,e.ox.below f,e.i,e.bf.trans (f.mono e.bf.size)⟩
theorem JO.to0{w:World}{o s h:List Ac.Pt}{a:Option Addr}{n c:Nat}{us:List PV}{b:Option Addr}{m d:Nat}{t:List PV}{x:Option Addr}{u v:Nat}{xs:List PV}{wr:World}(e:JO w o s h 0 a n c us b m d t x u v xs wr){r q:Option Addr}{l p g i:Nat}{k f:List PV}(B:ae wr r l p k)(A:ae wr q g i f)(z:k.map PV.pt=Ac.lZ (xs.map PV.pt) (us.map PV.pt))(y:f.map PV.pt=Ac.gY (xs.map PV.pt) (us.map PV.pt))(D:0<(us.map PV.pt).length)(C:Ac.fO (xs.map PV.pt) (us.map PV.pt)=0):
  JO w o s h 1 q g i f b m d t r l p k (wr.setCell ⟨w.heap.size,0,none⟩ (.slice q g i)):=
 ⟨e.p.set 0 _,(aP wr _ _ _).aM e.q (by simp),A.gP e.p rfl (aP ..),e.oh.gP e.p rfl (aP ..),B.gP e.p rfl (aP ..),by rw[z,y];exact e.i.KB D C,e.bf.setCell (UZ _) _⟩
theorem JO.to1{w:World}{o s h:List Ac.Pt}{a:Option Addr}{n c:Nat}{us:List PV}{b:Option Addr}{m d:Nat}{l:List PV}{x:Option Addr}{u v:Nat}{xs:List PV}{wr:World}(e:JO w o s h 1 a n c us b m d l x u v xs wr){t r:Option Addr}{p q g i:Nat}{k f:List PV}(B:ae wr t p q k)(A:ae wr r g i f)(z:k.map PV.pt=Ac.lZ (xs.map PV.pt) (l.map PV.pt))(y:f.map PV.pt=Ac.gY (xs.map PV.pt) (l.map PV.pt))(D:0<(l.map PV.pt).length)(C:Ac.fO (xs.map PV.pt) (l.map PV.pt)=0):
  JO w o s h 2 a n c us r g i f t p q k (wr.setCell ⟨w.heap.size,1,none⟩ (.slice r g i)):=
 ⟨e.p.set 1 _,(aP wr _ _ _).aM e.q (by simp),e.os.gP e.p rfl (aP ..),A.gP e.p rfl (aP ..),B.gP e.p rfl (aP ..),by rw[z,y];exact e.i.Em D C,e.bf.setCell (UZ _) _⟩
theorem MP(oa:Option Addr)(on oc:Nat)(os:List PV)(K N:Option Addr)(I J L M:Nat)(y C:List PV)(w:World)(hO:ae w oa on oc os)(af:ae w K I J y)(ag:ae w N L M C)(hS:df w):
  Calls prog 145 #[.slice oa on oc,.agg #[.slice K I J,.slice N L M]] w fun e w'=>TX (Kl.tY (os.map PV.pt) (y.map PV.pt)) (Kl.Fp (os.map PV.pt) (y.map PV.pt) (C.map PV.pt)) (Kl.Bm (os.map PV.pt) (y.map PV.pt) (C.map PV.pt)) e w'/\Below w.heap.size w w':=by
 have H1:Hd (Below w.heap.size w (jH none none 0 0 0 0 (jH K N I J L M w))):=(eY ..).trans ((eY ..).mono (eY ..).size);have ai:Hd (JO w (os.map PV.pt) (y.map PV.pt) (C.map PV.pt) 0 K I J y N L M C oa on oc os (jH none none 0 0 0 0 (jH K N I J L M w))):=
  ⟨(oB ..).alloc _,by have:=oB none none 0 0 0 0 (jH K N I J L M w);rw[EB]at this;exact this,af.below H1.o,ag.below H1.o,hO.below H1.o,.inl ⟨rfl,rfl,rfl,rfl⟩,H1.o⟩
 have ah:Hd (∀w',Below w.heap.size w w'->df w'):=fun w' S=>hS.below S;clear hO af ag hS;go_enter func145,ntmps145
 go_upto_region 1 with fail
 change Code.wp prog _ _ _ (jH none none 0 0 0 0 (jH K N I J L M w));generalize (jH none none 0 0 0 0 (jH K N I J L M w))=W at*;go_wp2
 go_loopw [8,0] (fun i v wr=>∃k:Nat,k<=2/\i=.int .i64 k/\∃a n c us b m d t x O P xs,v=.slice x O P/\JO w (os.map PV.pt) (y.map PV.pt) (C.map PV.pt) k a n c us b m d t x O P xs wr) (fun i _ _=>2-(intOf i).toNat)
 case atStart=>exact⟨0,by decide,rfl,K,I,J,y,N,L,M,C,oa,on,oc,os,rfl,ai.o⟩
 case round=>
  obtain⟨k,hk,rfl,a,n,c,us,b,m,d,t,x,O,P,xs,rfl,a5⟩:=hrel;have f:=hId a5;obtain⟨p0,p1⟩:=wz a5.p;clear a5 ai;obtain rfl|rfl|rfl:k=0\/k=1\/k=2:=by omega
  ·clear hk;by_cases u:n=0
   ·have p:Hd ((us.map PV.pt).length=0):=by show _=_;rw[VH,f.o.os.len];exact u
    have l:decide (0<n)=false:=by simp[u]
    have Z:Hd (Calls prog 61 #[.slice a n c] wr fun e w'=>e=.returned (.bool false)/\w'=wr):=by have:=bC a n c wr;rw[l]at this;exact this
    clear u l;go_wp2_with fail
    refine Z.o.mono ?_
    rintro e w1⟨rfl,Q⟩;obtain rfl:=Q.symm;have r:Hd (JO w (os.map PV.pt) (y.map PV.pt) (C.map PV.pt) 1 a n c us b m d t x O P xs wr):=⟨f.o.p,f.o.q,f.o.os,f.o.oh,f.o.ox,f.o.i.Ko p.o,f.o.bf⟩;go_wp2
    go_roundw
    case rel=>exact⟨1,by decide,rfl,a,n,c,us,b,m,d,t,x,O,P,xs,rfl,r.o⟩
    case measure=>decide
   ·have p:Hd (0<(us.map PV.pt).length):=by show 0<_;rw[VH,f.o.os.len];omega
    have l:decide (0<n)=true:=by simp;omega
    have Z:Hd (Calls prog 61 #[.slice a n c] wr fun e w'=>e=.returned (.bool true)/\w'=wr):=by have:=bC a n c wr;rw[l]at this;exact this
    have CA:=hId (zA _ _ _ _ _ _ _ _ wr f.o.ox f.o.os (ah.o _ f.o.bf));clear u l;obtain⟨X,U⟩:∃X,Ac.lZ (xs.map PV.pt) (us.map PV.pt)=X:=⟨_,rfl⟩;obtain⟨Y,T⟩:∃Y,Ac.gY (xs.map PV.pt) (us.map PV.pt)=Y:=⟨_,rfl⟩;obtain⟨E,V⟩:∃E,Ac.fO (xs.map PV.pt) (us.map PV.pt)=E:=⟨_,rfl⟩;have a9:=hId U;have a7:=hId T;have q:=hId V;rw[U,T,V]at CA;clear U T V;go_wp2_with fail
    refine Z.o.mono ?_
    rintro e w1⟨rfl,Q⟩;obtain rfl:=Q.symm;go_wp2_with fail
    refine CA.o.mono ?_
    rintro e A⟨⟨x2,a2,a3,a1,z,g,h,a0,rfl,G,hy2,F,D⟩,S⟩;have o:=hId (f.o.under S);have a8:=hId G;have a6:=hId hy2;have ab:=hId F;have aa:=hId D;clear G hy2 F D S p0 p1;obtain⟨p0,p1⟩:=wz o.o.p;obtain⟨f0,f1⟩:=O8 o.o.p;by_cases B:E=0
    ·have r:=o.o.to0 a8.o a6.o (ab.o.trans a9.o.symm) (aa.o.trans a7.o.symm) p.o (q.o.trans B);have ac:Hd _:=r;clear r;subst B;go_wp2
     go_roundw
     case rel=>exact⟨1,by decide,rfl,z,g,h,a0,b,m,d,t,x2,a2,a3,a1,rfl,ac.o⟩
     case measure=>decide
    ·have aj:(E !=0)=true:=by simp[B]
     have r:Hd (Kl.Bm (os.map PV.pt) (y.map PV.pt) (C.map PV.pt)=E):=by have:=f.o.i.RQ p.o (by rw[q.o];exact B);rw[q.o]at this;exact this
     have H:Blk (A.setCell ⟨w.heap.size,0,none⟩ (.slice z g h)) (w.heap.size+1) [.slice none 0 0,.slice none 0 0] 111:=(aP A _ _ _).aM o.o.q (by simp);have s:=hId H;have ad:Hd (Below w.heap.size w (A.setCell ⟨w.heap.size,0,none⟩ (.slice z g h))):=o.o.bf.setCell (UZ _) _;go_upto_region 7 with fail
     change Code.wp prog _ _ _ (A.setCell ⟨w.heap.size,0,none⟩ (.slice z g h));generalize A.setCell ⟨w.heap.size,0,none⟩ (.slice z g h)=W2 at*;clear p0 p1 f0 f1;obtain⟨q0,q1⟩:=wz s.o;obtain⟨g0,g1⟩:=O8 s.o;clear H;go_wp2
     refine VL (tq rfl _ rfl rfl ((s.o.set 0 (.slice none 0 0)).set 1 (.slice none 0 0))) rfl ⟨⟨none,0,0,[],none,0,0,[],by rw[r.o];rfl,fun u=>absurd (r.o.symm.trans u) B⟩,(ad.o.setCell (by show w.heap.size<=w.heap.size+1;omega) _).setCell (by show w.heap.size<=w.heap.size+1;omega) _⟩
  ·clear hk;by_cases u:m=0
   ·have p:Hd ((t.map PV.pt).length=0):=by show _=_;rw[VH,f.o.oh.len];exact u
    have l:decide (0<m)=false:=by simp[u]
    have Z:Hd (Calls prog 61 #[.slice b m d] wr fun e w'=>e=.returned (.bool false)/\w'=wr):=by have:=bC b m d wr;rw[l]at this;exact this
    clear u l;go_wp2_with fail
    refine Z.o.mono ?_
    rintro e w1⟨rfl,Q⟩;obtain rfl:=Q.symm;have r:Hd (JO w (os.map PV.pt) (y.map PV.pt) (C.map PV.pt) 2 a n c us b m d t x O P xs wr):=⟨f.o.p,f.o.q,f.o.os,f.o.oh,f.o.ox,f.o.i.Kn p.o,f.o.bf⟩;go_wp2
    go_roundw
    case rel=>exact⟨2,by decide,rfl,a,n,c,us,b,m,d,t,x,O,P,xs,rfl,r.o⟩
    case measure=>decide
   ·have p:Hd (0<(t.map PV.pt).length):=by show 0<_;rw[VH,f.o.oh.len];omega
    have l:decide (0<m)=true:=by simp;omega
    have Z:Hd (Calls prog 61 #[.slice b m d] wr fun e w'=>e=.returned (.bool true)/\w'=wr):=by have:=bC b m d wr;rw[l]at this;exact this
    have CA:=hId (zA _ _ _ _ _ _ _ _ wr f.o.ox f.o.oh (ah.o _ f.o.bf));clear u l;obtain⟨X,U⟩:∃X,Ac.lZ (xs.map PV.pt) (t.map PV.pt)=X:=⟨_,rfl⟩;obtain⟨Y,T⟩:∃Y,Ac.gY (xs.map PV.pt) (t.map PV.pt)=Y:=⟨_,rfl⟩;obtain⟨E,V⟩:∃E,Ac.fO (xs.map PV.pt) (t.map PV.pt)=E:=⟨_,rfl⟩;have a9:=hId U;have a7:=hId T;have q:=hId V;rw[U,T,V]at CA;clear U T V;go_wp2_with fail
    refine Z.o.mono ?_
    rintro e w1⟨rfl,Q⟩;obtain rfl:=Q.symm;go_wp2_with fail
    refine CA.o.mono ?_
    rintro e A⟨⟨x2,a2,a3,a1,z,g,h,a0,rfl,G,hy2,F,D⟩,S⟩;have o:=hId (f.o.under S);have a8:=hId G;have a6:=hId hy2;have ab:=hId F;have aa:=hId D;clear G hy2 F D S p0 p1;obtain⟨p0,p1⟩:=wz o.o.p;obtain⟨f0,f1⟩:=O8 o.o.p;by_cases B:E=0
    ·have r:=o.o.to1 a8.o a6.o (ab.o.trans a9.o.symm) (aa.o.trans a7.o.symm) p.o (q.o.trans B);have ac:Hd _:=r;clear r;subst B;go_wp2
     go_roundw
     case rel=>exact⟨2,by decide,rfl,a,n,c,us,z,g,h,a0,x2,a2,a3,a1,rfl,ac.o⟩
     case measure=>decide
    ·have aj:(E !=0)=true:=by simp[B]
     have r:Hd (Kl.Bm (os.map PV.pt) (y.map PV.pt) (C.map PV.pt)=E):=by have:=f.o.i.RP p.o (by rw[q.o];exact B);rw[q.o]at this;exact this
     have H:Blk (A.setCell ⟨w.heap.size,1,none⟩ (.slice z g h)) (w.heap.size+1) [.slice none 0 0,.slice none 0 0] 111:=(aP A _ _ _).aM o.o.q (by simp);have s:=hId H;have ad:Hd (Below w.heap.size w (A.setCell ⟨w.heap.size,1,none⟩ (.slice z g h))):=o.o.bf.setCell (UZ _) _;go_upto_region 7 with fail
     change Code.wp prog _ _ _ (A.setCell ⟨w.heap.size,1,none⟩ (.slice z g h));generalize A.setCell ⟨w.heap.size,1,none⟩ (.slice z g h)=W2 at*;clear p0 p1 f0 f1;obtain⟨q0,q1⟩:=wz s.o;obtain⟨g0,g1⟩:=O8 s.o;clear H;go_wp2
     refine VL (tq rfl _ rfl rfl ((s.o.set 0 (.slice none 0 0)).set 1 (.slice none 0 0))) rfl ⟨⟨none,0,0,[],none,0,0,[],by rw[r.o];rfl,fun u=>absurd (r.o.symm.trans u) B⟩,(ad.o.setCell (by show w.heap.size<=w.heap.size+1;omega) _).setCell (by show w.heap.size<=w.heap.size+1;omega) _⟩
  ·clear hk;obtain⟨e0,e1,e2⟩:=f.o.i.last;have an:=hId e0;have q:=hId e1;have am:=hId e2;clear e0 e1 e2;obtain⟨q0,q1⟩:=wz f.o.q;obtain⟨g0,g1⟩:=O8 f.o.q;have a4:Kept wr ((wr.setCell ⟨w.heap.size+1,0,none⟩ (.slice a n c)).setCell ⟨w.heap.size+1,1,none⟩ (.slice b m d)) [w.heap.size+1]:=(aP ..).trans (aP ..);have al:=hId (f.o.os.gP f.o.q rfl a4);have ak:=hId (f.o.oh.gP f.o.q rfl a4);clear a4;go_wp2
   exact VL (tq rfl _ rfl rfl ((f.o.q.set 0 (.slice a n c)).set 1 (.slice b m d))) rfl ⟨⟨a,n,c,us,b,m,d,t,by rw[an.o];rfl,fun _=>⟨al.o,ak.o,q.o,am.o⟩⟩,(f.o.bf.setCell (by show w.heap.size<=w.heap.size+1;omega) _).setCell (by show w.heap.size<=w.heap.size+1;omega) _⟩
theorem ET{c a:CV}{o:List Ac.Pt}(h:a.cl=Kl.vq c.cl o):a.rev=c.rev+1/\a.base=Ac.done c.base o/\a.now=c.now/\a.seq=c.seq/\a.aJ.map PV.pt=c.aJ.map PV.pt/\a.held.map PV.pt=c.held.map PV.pt/\a.jo=c.jo:=by
 unfold CV.cl Kl.vq at h;simp only[Kl.Cl.mk.injEq]at h
 exact h
theorem Lm{a:CV}{x:Kl.Cl}(h:a.cl=Kl.gv x):a.rev=x.rev/\a.base=x.base/\a.now=x.base/\a.seq=x.seq/\a.aJ.map PV.pt=[]/\a.held.map PV.pt=[]/\a.jo=x.jo:=by
 unfold CV.cl Kl.gv at h;simp only[Kl.Cl.mk.injEq]at h
 exact h
theorem Ar{w:World}{a:Option Addr}{n c:Nat}{d:List It}{o:List Ac.Pt}(h:Ac.ag d o=0)(b:cy w a n c (Ac.done d o)):n<=80:=by
 have:=Dc.eM (Ac.iQ h).2.1;rw[b.len]at this;exact this.2
theorem AX(g:Nat)(c:CV)(oa:Option Addr)(on oc:Nat)(us:List PV)(w:World)(hK:jK w g c)(hO:ae w oa on oc us)(hS:df w)(hR:Kl.Rc c.cl):
  Calls prog 118 #[.pointer (some ⟨g,0,none⟩),.slice oa on oc] w fun e w'=>Fz g (Ac.ag c.base (us.map PV.pt)) (Kl.mf c.cl (us.map PV.pt)) (Kl.iX c.cl (us.map PV.pt)) e w'/\Kept w w' [g]:=by
 have K:=hId (sL g c oa on oc us w hK hO hS hR.lo hR.hi);have a5:=hId hK;have a2:=hId hS;have HR:=hId hR;clear hK hO hS hR;obtain⟨E,hE⟩:∃E,Ac.ag c.base (us.map PV.pt)=E:=⟨_,rfl⟩;have HE:=hId hE;rw[hE]at K⊢;clear hE;by_cases P:E=0
 ·have a7:=hId (HE.o.trans P);rw[VC P]at K;subst P;obtain⟨B,hB⟩:∃B,Kl.mf c.cl (us.map PV.pt)=B:=⟨_,rfl⟩;have O:Hd ((decide (0<(c.held.map PV.pt).length)&&(decide (Ac.ag (Ac.done c.base (us.map PV.pt)) (c.held.map PV.pt)=0)&&!decide (c.seq=10000)))=B):=hB;obtain⟨C,hC⟩:∃C,Kl.iX c.cl (us.map PV.pt)=C:=⟨_,rfl⟩;have n:Hd ((if B=true then(⟨c.rev+1,Ac.done c.base (us.map PV.pt),Ac.done (Ac.done c.base (us.map PV.pt)) (c.held.map PV.pt),c.seq+1,c.held.map PV.pt,[],c.jo⟩:Kl.Cl)else Kl.gv (Kl.vq c.cl (us.map PV.pt)))=C):=by
   have:Kl.iX c.cl (us.map PV.pt)=C:=hC;unfold Kl.iX at this;rw[hB]at this;exact this
  rw[hB,hC];clear hB hC HE;go_enter func118,ntmps118
  go_wp2_with fail
  refine K.o.mono ?_
  rintro e w1⟨rfl,⟨b,l,L⟩,a⟩;have Z:=hId L;have t:=hId l;have A:=hId a;have G:=(ET L).2.1;have V:=Ar a7.o (by have:=l.ia.base;rw[G]at this;exact this);have CG:=hId (pH g b w1 l V);have p5:=Ta l.aM;clear L l a G K;go_wp2_with fail
  refine CG.o.mono ?_
  rintro e H⟨rfl,⟨i,S,U,-⟩,a⟩;have I:=hId S;have r:Hd (i.cl=Kl.gv (Kl.vq c.cl (us.map PV.pt))):=by show _=_;rw[U,Z.o]
  have z:=hId (A.o.trans a);have Y:=hId (t.o.ia.held.bA t.o.aM a);have a0:=hId (a2.o.bA a5.o.aM z.o);have M:=hId ((ET Z.o).2.2.2.2.2.1);have X:Hd ((c.held.map PV.pt).length=b.hn):=by show _=_;rw[<-M.o];exact pF t.o.ia.held
  clear S U a p5 CG V;by_cases h0:b.hn=0
  ·have d:B=false:=by rw[<-O.o,X.o,h0];rfl
   have p:Hd (Kl.gv (Kl.vq c.cl (us.map PV.pt))=C):=by have:=n.o;rw[d,VD WB]at this;exact this
   have CI:Hd (Calls prog 61 #[.slice b.ha b.hn b.hc] H fun e w'=>e=.returned (.bool false)/\w'=H):=by have:=bC b.ha b.hn b.hc H;rw[show decide (0<b.hn)=false by simp[h0]]at this;exact this
   subst d;clear h0;go_wp2_with fail
   refine CI.o.mono ?_
   rintro e w3⟨rfl,Q⟩;obtain rfl:=Q.symm;try clear Q
   go_wp2
   exact VL (v:=.tuple #[.bool false,.int .i64 0]) (by simp[results,Tryz.results118,go_sem]) rfl ⟨⟨i,false,rfl,I.o,fun _=>⟨rfl,r.o.trans p.o⟩⟩,z.o⟩
  ·have CI:Hd (Calls prog 61 #[.slice b.ha b.hn b.hc] H fun e w'=>e=.returned (.bool true)/\w'=H):=by have:=bC b.ha b.hn b.hc H;rw[show decide (0<b.hn)=true by simp;omega]at this;exact this
   have o:Hd (B=(decide (Ac.ag (Ac.done c.base (us.map PV.pt)) (c.held.map PV.pt)=0)&&!decide (c.seq=10000))):=by show _=_;rw[<-O.o,X.o,show decide (0<b.hn)=true by simp;omega,Bool.true_and]
   have u:Hd (Calls prog 40 #[.slice i.ba i.bn i.bc,.slice b.ha b.hn b.hc] H fun e w'=>(∃a' c',e=.returned (.tuple #[.slice a' (Ac.done (Ac.done c.base (us.map PV.pt)) (c.held.map PV.pt)).length c',.int .i64 (Ac.ag (Ac.done c.base (us.map PV.pt)) (c.held.map PV.pt))])/\cy w' a' (Ac.done (Ac.done c.base (us.map PV.pt)) (c.held.map PV.pt)).length c' (Ac.done (Ac.done c.base (us.map PV.pt)) (c.held.map PV.pt)))/\Below H.heap.size H w'):=by
    have:=jk _ _ _ _ _ _ _ _ _ I.o.ia.base Y.o a0.o;rw[M.o,show i.base=Ac.done c.base (us.map PV.pt)from(Lm r.o).2.1]at this;exact this
   have p1:=IK I.o.aM;clear h0 O;obtain⟨D,hD⟩:∃D,Ac.done (Ac.done c.base (us.map PV.pt)) (c.held.map PV.pt)=D:=⟨_,rfl⟩;obtain⟨F,J⟩:∃F,Ac.ag (Ac.done c.base (us.map PV.pt)) (c.held.map PV.pt)=F:=⟨_,rfl⟩;rw[hD]at u n;rw[J]at u o;obtain⟨q,hq⟩:∃q,D.length=q:=⟨_,rfl⟩;rw[hq]at u;clear hD J hq;go_wp2_with fail
   refine CI.o.mono ?_
   rintro e w3⟨rfl,Q⟩;obtain rfl:=Q.symm;try clear Q
   go_wp2_with fail
   refine u.o.mono ?_
   rintro e w4⟨⟨a4,k4,rfl,T⟩,hb⟩;have N:=hId (I.o.below hb);have y:=hId (z.o.trans (Kept.dA hb));have a8:=hId T;have a6:=hId (Y.o.below hb);clear T hb u CI p1;have f:i.seq=c.seq:=(Lm r.o).2.2.2.1;by_cases J:F=0
   ·have s:=hId (ze g i b.ha b.hn b.hc b.held w4 N.o a6.o (by rw[f];exact HR.o.JQ) (by rw[f];exact HR.o.JR));rw[J]at o;subst J;by_cases m:i.seq=10000
    ·rw[VC m,show(!decide (i.seq=10000))=false by simp[m]]at s;have d:B=false:=by rw[o.o,<-f,m];rfl
     have p:Hd (Kl.gv (Kl.vq c.cl (us.map PV.pt))=C):=by have:=n.o;rw[d,VD WB]at this;exact this
     subst d;clear m f o n;go_wp2_with fail
     refine s.o.mono ?_
     rintro e w5⟨rfl,k,a⟩;have W:=hId k;have x:=hId (y.o.trans a);clear k a s;go_wp2
     exact VL (v:=.tuple #[.bool false,.int .i64 0]) (by simp[results,Tryz.results118,go_sem]) rfl ⟨⟨i,false,rfl,W.o,fun _=>⟨rfl,r.o.trans p.o⟩⟩,x.o⟩
    ·rw[VD m,show(!decide (i.seq=10000))=true by simp[m]]at s;have d:B=true:=by rw[o.o,<-f];simp[m]
     have p:Hd ((⟨c.rev+1,Ac.done c.base (us.map PV.pt),D,c.seq+1,c.held.map PV.pt,[],c.jo⟩:Kl.Cl)=C):=by have:=n.o;rw[d,VC rfl]at this;exact this
     subst d;clear m f o n;go_wp2_with fail
     refine s.o.mono ?_
     rintro e w5⟨rfl,k,a⟩;have W:=hId k;have x:=hId (y.o.trans a);have a3:=hId (k.kM a4 q k4 D (a8.o.bA N.o.aM a));have p2:=k.aM.c2;have f2:=k.aM.frozen 2;clear k a s;go_wp2
     refine VL (v:=.tuple #[.bool true,.int .i64 0]) (by simp[results,Tryz.results118,go_sem]) rfl ⟨⟨_,true,rfl,a3.o,fun _=>⟨rfl,?_⟩⟩,x.o.trans (aP ..)⟩
     obtain⟨i1,i2,i3,i4,i5,i6,i7⟩:=Lm r.o;rw[<-p.o];show(⟨i.rev,i.base,D,i.seq+1,b.held.map PV.pt,i.held.map PV.pt,i.jo⟩:Kl.Cl)=_
     rw[i1,i2,i4,i6,i7,M.o];rfl
   ·have a1:(F !=0)=true:=by simp[J]
    have d:B=false:=by rw[o.o,VZ J];rfl
    have p:Hd (Kl.gv (Kl.vq c.cl (us.map PV.pt))=C):=by have:=n.o;rw[d,VD WB]at this;exact this
    subst d;clear J f o n;go_wp2
    exact VL (v:=.tuple #[.bool false,.int .i64 0]) (by simp[results,Tryz.results118,go_sem]) rfl ⟨⟨i,false,rfl,N.o,fun _=>⟨rfl,r.o.trans p.o⟩⟩,y.o⟩
 ·have a1:(E !=0)=true:=by simp[P]
  rw[VD P]at K;go_enter func118,ntmps118
  go_wp2_with fail
  refine K.o.mono ?_
  rintro e w1⟨rfl,⟨b,l,-⟩,a⟩;have t:=hId l;have A:=hId a;clear l a K;go_wp2
  exact VL (v:=.tuple #[.bool false,.int .i64 E]) (by simp[results,Tryz.results118,go_sem]) rfl ⟨⟨b,false,rfl,t.o,fun h=>absurd h P⟩,A.o⟩
namespace Wo
structure Mg where
 rev:Int
 e:Sv.En
structure W where
 s:Sv.Se
 cs:List Kl.Cl
 up:List (List Mg)
 dn:List (List Mg)
structure Hp where
 kind:Int
 aR:Int
 n:Int
 o:List Ac.Pt
 pe:Int
 pd:List It
def cl (w:W) (k:Nat):Kl.Cl:=w.cs.getD k Kl.none
def vY (w:W) (k:Nat):List Mg:=w.up.getD k []
def yr (w:W) (k:Nat):List Mg:=w.dn.getD k []
structure Vw where
 c:Kl.Cl
 u:List Mg
 d:List Mg
def vw (w:W) (k:Nat):Vw:=⟨cl w k,vY w k,yr w k⟩
def put (w:W) (k:Nat) (v:Vw):W:=⟨w.s,w.cs.set k v.c,w.up.set k v.u,w.dn.set k v.d⟩
def jo (c:Kl.Cl) (b:Bool):Kl.Cl:=⟨c.rev,c.base,c.now,c.seq,c.aJ,c.held,b⟩
def oq (v:Vw):Vw:=⟨jo v.c false,[],[]⟩
def vP (k:Nat) (v:Vw):Vw :=
 if v.c.jo=false\/v.c.aJ.length=0 then v else if 30<=v.u.length then oq v else ⟨v.c,v.u++[⟨v.c.rev,⟨k,v.c.seq,v.c.aJ⟩⟩],v.d⟩
def bb (m:Mg) (v:Vw):Vw:=if v.c.jo=false then v else if 90<=v.d.length then oq v else ⟨v.c,v.u,v.d++[m]⟩
def tK (k:Nat) (b:Bool) (v:Vw):Vw:=if b=true then vP k v else v
def tell (w:W) (m:Mg) (k:Nat):W:=put w k (bb m (vw w k))
def dY (w:W) (m:Mg):W:=(List.range w.cs.length).foldl (fun w k=>tell w m k) w
def eL:Nat->List Sv.En->List Mg
 | _,[]=>[]
 | i,x :: l=>⟨((i+1:Nat):Int),x⟩ :: eL (i+1) l
def news (log:List Sv.En) (i:Nat):List Mg:=eL i (log.drop i)
def de:List Int->Int
 | []=>0
 | x :: l=>if x=0 then de l else x
def Kx (m:Mg):Int:=if m.e.o.length=0 then 0 else Ac.gC m.e.o
def kF (l:List Mg):Int:=if 90<l.length then 2 else de (l.map Kx)
def jR (w:W):Int :=
 if Sv.dL w.s=0 then (if w.cs.length<1\/4<w.cs.length\/w.up.length≠w.cs.length\/w.dn.length≠w.cs.length then 4 else
  if de (w.cs.map Kl.iS)=0 then (if de (w.up.map kF)=0 then de (w.dn.map kF) else de (w.up.map kF)) else de (w.cs.map Kl.iS)) else Sv.dL w.s
def none:W:=⟨⟨[],[],[]⟩,[],[],[]⟩
def kp (n:Int):Ac.Pt:=⟨1,n,[],0,0,false,⟨#[]⟩⟩
def pt (d:List It):Ac.Pt:=⟨2,0,d,0,0,false,⟨#[]⟩⟩
def oM (c:Kl.Cl) (n:Int) (d:List It):List Ac.Pt:=if 0<n then [kp n,pt d,kp (c.now.length - n)] else [pt d,kp (c.now.length - n)]
def ve (c:Kl.Cl) (x:Hp):Int:=if x.pe=0 then (if x.n<0\/(c.now.length:Int)<=x.n then 3 else Kl.vM c (oM c x.n x.pd)) else x.pe
def Bl (k:Nat) (v:Vw) (o:List Ac.Pt):Vw:=tK k (Kl.Mm v.c o) ⟨Kl.JL v.c o,v.u,v.d⟩
def sh (k:Nat) (v:Vw):Vw :=
 match v.d with
 | []=>v
 | m :: r=>if Kl.jQ v.c k m.rev m.e=0 then tK k (Kl.kD v.c k m.rev m.e) ⟨Kl.gT v.c k m.rev m.e,v.u,r⟩ else oq v
def JS (k:Nat) (log:List Sv.En) (v:Vw):Vw:=vP k ((news log v.c.rev.toNat).foldl (fun v m=>bb m v) ⟨jo v.c true,v.u,v.d⟩)
def zf (w:W) (k:Nat):W :=
 match vY w k with
 | []=>w
 | m :: r=>if Sv.iV w.s m.rev ⟨k,m.e.seq,m.e.o⟩=0 then
   (news (Sv.lj w.s m.rev ⟨k,m.e.seq,m.e.o⟩).log w.s.log.length).foldl dY ⟨Sv.lj w.s m.rev ⟨k,m.e.seq,m.e.o⟩,w.cs,w.up.set k r,w.dn⟩
  else tell ⟨w.s,w.cs,w.up.set k r,w.dn⟩ ⟨0,⟨k,m.e.seq,[]⟩⟩ k
def nM (w:W) (k:Nat) (x:Hp):Int :=
 if x.kind=1 then Kl.vM (cl w k) x.o else if x.kind=2 then ve (cl w k) x else if x.kind=3 then (if (vY w k).length=0 then 7 else 0) else
 if x.kind=4 then (if (yr w k).length=0 then 7 else 0) else if x.kind=5 then 0 else if x.kind=6 then (if (cl w k).jo=true then 7 else 0) else 4
def uQ (w:W) (k:Nat) (x:Hp):W :=
 if x.kind=1 then put w k (Bl k (vw w k) x.o) else if x.kind=2 then put w k (Bl k (vw w k) (oM (cl w k) x.n x.pd)) else if x.kind=3 then zf w k else
 if x.kind=4 then put w k (sh k (vw w k)) else if x.kind=5 then put w k (oq (vw w k)) else put w k (JS k w.s.log (vw w k))
def iR (w:W) (x:Hp):Int:=if jR w=0 then (if x.aR<0\/(w.cs.length:Int)<=x.aR then 5 else nM w x.aR.toNat x) else jR w
def ue (w:W) (x:Hp):W:=if iR w x=0 then uQ w x.aR.toNat x else none
end Wo
