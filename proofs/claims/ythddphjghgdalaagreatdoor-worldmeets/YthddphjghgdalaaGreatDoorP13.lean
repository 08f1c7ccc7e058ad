/- A part. -/
import Derived.Test.YthddphjghgdalaaGreatDoorP11
import Derived.Test.YthddphjghgdalaaGreatDoorP12
set_option maxRecDepth 100000
set_option maxHeartbeats 6400000
namespace Go.Proofs.YthddphjghgdalaaGreatDoor
open Go.RowKit Go.Proofs.Tryz
namespace Ac
def tA (l:List A):List Pt:=lD [] [] 0 l
theorem xq(o:List Pt):tidy o=tA (ah o):=rfl
def tx (a b:List Pt):List Pt:=tA (bF (ah a) (ah b)).1
def ty (a b:List Pt):List Pt:=tA (bF (ah a) (ah b)).2
def jx (a b:List Pt):List Pt:=tA (join (ah a) (ah b))
def gQ (a b:List Pt):Int:=if gC a=0 then gC b else gC a
def fO (a b:List Pt):Int:=if gQ a b=0 then (if nd a=nd b then gQ (tx a b) (ty a b) else 6) else gQ a b
def lZ (a b:List Pt):List Pt:=if fO a b=0 then tx a b else []
def gY (a b:List Pt):List Pt:=if fO a b=0 then ty a b else []
def sP (a b:List Pt):Int:=if gQ a b=0 then (if lv a=nd b then gC (jx a b) else 6) else gQ a b
def pG (a b:List Pt):List Pt:=if sP a b=0 then jx a b else []
theorem ik{a b:List Pt}(h:gQ a b=0):dR a/\dR b:=by
 unfold gQ at h;by_cases c:gC a=0
 ·rw[VC c]at h;exact⟨bi.1 c,bi.1 h⟩
 ·rw[VD c]at h;exact absurd h c
end Ac
theorem di(m d:Option Addr)(n c k b:Nat)(o f:List PV)(w:World)(z:ae w m n c o)(q:ae w d k b f)(s:df w):
  Calls prog 124 #[.agg #[.slice m n c,.slice d k b]] w fun e w'=>e=.returned (.int .i64 (Ac.gQ (o.map PV.pt) (f.map PV.pt)))/\Below w.heap.size w w':=by
 have u:=hId (fun w' a=>kl m n c o w' (z.below a) (s.below a));have A:=hId (fun w' a=>kl d k b f w' (q.below a) (s.below a));obtain⟨R,l⟩:∃R,Ac.gQ (o.map PV.pt) (f.map PV.pt)=R:=⟨_,rfl⟩;rw[l];unfold Ac.gQ at l;have D:=Qj (.slice m n c) (.slice d k b);have C:=Qi (.slice m n c) (.slice d k b);have h:Hd (Below w.heap.size w (w.alloc (.cells #[.slice m n c,.slice d k b] 110))):=(VE _ _).alloc (UZ _) _;clear z q s;generalize Ac.gC (o.map PV.pt)=r at*;generalize Ac.gC (f.map PV.pt)=y at*;by_cases p:r=0
 ·rw[VC p]at l;subst l p;by_cases i:y=0
  ·subst i;go_enter func124,ntmps124
   go_wp2_with fail
   refine WH 3 ?_
   rw[VJ];go_wp2_with fail
   refine(u.o _ h.o).mono ?_
   rintro e x⟨rfl,a⟩;have g:=hId (h.o.trans (a.mono h.o.size));clear a;go_wp2_with fail
   rw[VJ];go_wp2_with fail
   refine(A.o _ g.o).mono ?_
   rintro e B⟨rfl,a⟩;have t:=hId (g.o.trans (a.mono g.o.size));clear a;go_wp2_with fail
   rw[VJ];go_wp2
   go_ret
   exact⟨rfl,t.o⟩
  ·have v:(y !=0)=true:=by simp[i]
   clear i;go_enter func124,ntmps124
   go_wp2_with fail
   refine WH 3 ?_
   rw[VJ];go_wp2_with fail
   refine(u.o _ h.o).mono ?_
   rintro e x⟨rfl,a⟩;have g:=hId (h.o.trans (a.mono h.o.size));clear a;go_wp2_with fail
   rw[VJ];go_wp2_with fail
   refine(A.o _ g.o).mono ?_
   rintro e B⟨rfl,a⟩;have t:=hId (g.o.trans (a.mono g.o.size));clear a;go_wp2
   go_ret
   exact⟨rfl,t.o⟩
 ·rw[VD p]at l;subst l;have v:(r !=0)=true:=by simp[p]
  clear p;go_enter func124,ntmps124
  go_wp2_with fail
  refine WH 3 ?_
  rw[VJ];go_wp2_with fail
  refine(u.o _ h.o).mono ?_
  rintro e x⟨rfl,a⟩;have g:=hId (h.o.trans (a.mono h.o.size));clear a;go_wp2
  go_ret
  exact⟨rfl,g.o⟩
theorem Gm(i d:Option Addr)(n c h b:Nat)(f a:List PV)(w:World)(m:ae w i n c f)(g:ae w d h b a)(l:df w)(o:¬Ac.gQ (f.map PV.pt) (a.map PV.pt)=0):
  Calls prog 116 #[.slice i n c,.slice d h b] w fun e w'=>e=.returned (.tuple #[.slice none 0 0,.slice none 0 0,.int .i64 (Ac.gQ (f.map PV.pt) (a.map PV.pt))])/\Below w.heap.size w w':=by
 have q:=hId (di i d n c h b f a w m g l);clear m g l;generalize Ac.gQ (f.map PV.pt) (a.map PV.pt)=r at*;have s:(r !=0)=true:=by simp[o]
 clear o;go_enter func116,ntmps116
 go_wp2_with fail
 refine q.o.mono ?_
 rintro e t⟨rfl,k⟩;have p:=hId k;clear k;go_wp2
 exact VL (v:=.tuple #[.slice none 0 0,.slice none 0 0,.int .i64 r]) (by simp[results,Tryz.results116,go_sem]) rfl ⟨rfl,p.o⟩
theorem B7(m f:Option Addr)(n d i b:Nat)(g a:List PV)(w:World)(o:ae w m n d g)(h:ae w f i b a)(x:df w)(p:Ac.gQ (g.map PV.pt) (a.map PV.pt)=0)(C:¬Ac.nd (g.map PV.pt)=Ac.nd (a.map PV.pt)):
  Calls prog 116 #[.slice m n d,.slice f i b] w fun e w'=>e=.returned (.tuple #[.slice none 0 0,.slice none 0 0,.int .i64 6])/\Below w.heap.size w w':=by
 have y:=hId (di m f n d i b g a w o h x);have A:=hId (fun w' c=>gO m n d g w' (o.below c));have z:=hId (fun w' c=>gO f i b a w' (h.below c));obtain⟨t,s⟩:=Ac.ik p;rw[p]at y;rw[t.lf]at A;rw[s.lf]at z;clear o h x p t s;generalize Ac.nd (g.map PV.pt)=k at*;generalize Ac.nd (a.map PV.pt)=u at*;generalize Ac.lt (g.map PV.pt)=l at*;generalize Ac.lt (a.map PV.pt)=I at*;have E:((k:Int)!=(u:Int))=true:=by simp;omega
 have B:(k !=u)=true:=by simp;omega
 clear C;go_enter func116,ntmps116
 go_wp2_with fail
 refine y.o.mono ?_
 rintro e H⟨rfl,c⟩;have r:=hId c;clear c;go_wp2_with fail
 refine(A.o _ r.o).mono ?_
 rintro e G⟨rfl,c⟩;have q:=hId (r.o.trans (c.mono r.o.size));clear c;go_wp2_with fail
 refine(z.o _ q.o).mono ?_
 rintro e F⟨rfl,c⟩;have D:=hId (q.o.trans (c.mono q.o.size));clear c;go_wp2
 exact VL (v:=.tuple #[.slice none 0 0,.slice none 0 0,.int .i64 6]) (by simp[results,Tryz.results116,go_sem]) rfl ⟨rfl,D.o⟩
structure Md (w0 w:World) (x y:Value):Prop where
 mb:Blk w w0.heap.size [x,y] 110
 bf:Below w0.heap.size w0 w
def Oa (x y:Value) (w:World):World:=w.alloc (.cells #[x,y] 110)
theorem Md.start(x y:Value)(w:World):Md w (Oa x y w) x y:=⟨Blk.new w _ _,(VE _ _).alloc (UZ _) _⟩
theorem Md.under{a w w':World}{x y:Value}(h:Md a w x y)(b:Below w.heap.size w w'):Md a w' x y:=⟨(b.block _ h.mb.lt).trans h.mb,h.bf.trans (b.mono h.bf.size)⟩
theorem Md.To{a w:World}{x y:Value}(h:Md a w x y)(z:Value):Md a (w.setCell ⟨a.heap.size,0,none⟩ z) z y:=⟨h.mb.set 0 z,h.bf.setCell (UZ _) _⟩
theorem Md.Tn{a w:World}{x y:Value}(h:Md a w x y)(z:Value):Md a (w.setCell ⟨a.heap.size,1,none⟩ z) x z:=⟨h.mb.set 1 z,h.bf.setCell (UZ _) _⟩
theorem eD.low{w:World}{B:Nat}{d:Value}{b:List PV}(h:eD w B d b){k:Nat}(l:k<B)(j:Nat)(z:Value):eD (w.setCell ⟨k,j,none⟩ z) B d b:=
 h.kept (dX w k j z [k] (by simp)) (fun x c e=>by have:=aS h.own x e;rw[UY]at c;omega) (fun v f a g i c=>by have:=h.hi v f a g i;rw[UY]at c;omega)
theorem ae.kept{w w':World}{a:Option Addr}{n c:Nat}{d:List PV}{S:List Nat}(h:ae w a n c d)(f:Kept w w' S)(i:∀b:Addr,n≠0->a=some b->b.block∉S)(g:∀v∈d,∀b:Addr,v.m≠0->v.ao=some b->b.block∉S):ae w' a n c d:=
 ⟨h.row.kept (by decide) f i,fun v e=>(h.iE v e).kept f (g v e)⟩
structure au (B:Nat) (w:World) (a:Option Addr) (n c:Nat) (vs:List PV):Prop where
 ops:ae w a n c vs
 row:∀ ad:Addr,n≠0->a=some ad->B<=ad.block
 QU:∀ v ∈ vs,∀ ad:Addr,v.m≠0->v.ao=some ad->B<=ad.block
theorem au.nil(B:Nat)(w:World):au B w none 0 0 []:=⟨jU w,fun _ h _=>absurd rfl h,fun v a=>absurd a (by simp)⟩
theorem au.below{B:Nat}{w w':World}{a:Option Addr}{n c:Nat}{b:List PV}(h:au B w a n c b)(d:Below w.heap.size w w'):au B w' a n c b:=⟨h.ops.below d,h.row,h.QU⟩
theorem au.mono{B i:Nat}{w:World}{a:Option Addr}{n c:Nat}{f:List PV}(h:au B w a n c f)(g:i<=B):au i w a n c f:=⟨h.ops,fun e d b=>VX g (h.row e d b),fun v k e d b=>VX g (h.QU v k e d b)⟩
theorem au.kept{B:Nat}{w w':World}{a:Option Addr}{n c:Nat}{g:List PV}{S:List Nat}(h:au B w a n c g)(l:Kept w w' S)(i:∀x∈S,x<B):au B w' a n c g:=
 ⟨h.ops.kept l (fun f e d b=>by have:=h.row f e d;have:=i _ b;omega) (fun v k f e d b=>by have:=h.QU v k f e d;have:=i _ b;omega),h.row,h.QU⟩
theorem eD.from{w:World}{B n c:Nat}{a:Option Addr}{us:List PV}(h:eD w B (.slice a n c) us):au B w a n c us:=by
 obtain⟨i,f,e,d⟩:=bg h.own;simp only[Value.slice.injEq]at e
 obtain⟨rfl,rfl,rfl⟩:=e;exact⟨⟨d,h.iE⟩,fun g _ e=>aS h.own _ (by rw[e];rfl),fun v b=>h.hi v b⟩
def Fy (B:Nat) (X Y:List Ac.Pt) (E:Int) (e:Ending) (w':World):Prop:=∃ a0 n0 c0 u0 a1 n1 c1 u1,e=.returned (.tuple #[.slice a0 n0 c0,.slice a1 n1 c1,.int .i64 E])/\au B w' a0 n0 c0 u0/\au B w' a1 n1 c1 u1/\u0.map PV.pt=X/\u1.map PV.pt=Y
theorem nZ(B:Nat)(E:Int)(w':World):Fy B [] [] E (.returned (.tuple #[.slice none 0 0,.slice none 0 0,.int .i64 E])) w':=⟨none,0,0,[],none,0,0,[],rfl,au.nil B w',au.nil B w',rfl,rfl⟩
def TO (X Y:List Ac.Pt) (E:Int) (e:Ending) (w':World):Prop:=∃ a0 n0 c0 u0 a1 n1 c1 u1,e=.returned (.tuple #[.slice a0 n0 c0,.slice a1 n1 c1,.int .i64 E])/\ae w' a0 n0 c0 u0/\ae w' a1 n1 c1 u1/\u0.map PV.pt=X/\u1.map PV.pt=Y
theorem Gk(V q:Option Addr)(n p T d:Nat)(c a:List PV)(w:World)(hO:ae w V n p c)(s:ae w q T d a)(hS:df w)(hE:Ac.gQ (c.map PV.pt) (a.map PV.pt)=0)(hN:Ac.nd (c.map PV.pt)=Ac.nd (a.map PV.pt)):
  Calls prog 116 #[.slice V n p,.slice q T d] w fun e w'=>Fy w.heap.size (if Ac.gQ (Ac.tx (c.map PV.pt) (a.map PV.pt)) (Ac.ty (c.map PV.pt) (a.map PV.pt))=0 then Ac.tx (c.map PV.pt) (a.map PV.pt)else[]) (if Ac.gQ (Ac.tx (c.map PV.pt) (a.map PV.pt)) (Ac.ty (c.map PV.pt) (a.map PV.pt))=0 then Ac.ty (c.map PV.pt) (a.map PV.pt)else[]) (Ac.gQ (Ac.tx (c.map PV.pt) (a.map PV.pt)) (Ac.ty (c.map PV.pt) (a.map PV.pt))) e w'/\Below w.heap.size w w':=by
 have CF:=hId (di V q n p T d c a w hO s hS);have CA:=hId (fun w' b=>gO V n p c w' (hO.below b));have CB:=hId (fun w' b=>gO q T d a w' (s.below b));obtain⟨r1,r2⟩:=Ac.ik hE;rw[hE]at CF;rw[r1.lf]at CA;rw[r2.lf,<-hN]at CB;have CT:=hId (fun w' b=>B6 V q n p T d c a w' (hO.below b) (s.below b) r1 r2 hN);have ag:Hd (∀w',Below w.heap.size w w'->df w'):=fun w' b=>hS.below b;obtain⟨X,hX⟩:∃X,Ac.tx (c.map PV.pt) (a.map PV.pt)=X:=⟨_,rfl⟩;obtain⟨Y,hY⟩:∃Y,Ac.ty (c.map PV.pt) (a.map PV.pt)=Y:=⟨_,rfl⟩;have HX:Hd (Ac.tA (Ac.bF (Ac.ah (c.map PV.pt)) (Ac.ah (a.map PV.pt))).1=X):=hX;have HY:Hd (Ac.tA (Ac.bF (Ac.ah (c.map PV.pt)) (Ac.ah (a.map PV.pt))).2=Y):=hY;rw[hX,hY];clear hO s hS hE hN r1 r2 hX hY;generalize Ac.bF (Ac.ah (c.map PV.pt)) (Ac.ah (a.map PV.pt))=TT at*;generalize Ac.nd (c.map PV.pt)=k at*;generalize Ac.lt (c.map PV.pt)=l at*;generalize Ac.lt (a.map PV.pt)=l' at*;obtain⟨E,O⟩:∃E,Ac.gQ X Y=E:=⟨_,rfl⟩;have HE:=hId O;rw[O];clear O;go_enter func116,ntmps116
 go_wp2_with fail
 refine CF.o.mono ?_
 rintro e w1⟨rfl,b⟩;have H1:=hId b;clear b;go_wp2_with fail
 refine(CA.o _ H1.o).mono ?_
 rintro e w2⟨rfl,b⟩;have H2:=hId (H1.o.trans (b.mono H1.o.size));clear b;go_wp2_with fail
 refine(CB.o _ H2.o).mono ?_
 rintro e w3⟨rfl,b⟩;have H3:=hId (H2.o.trans (b.mono H2.o.size));clear b CF CA CB;go_wp2_with fail
 refine(CT.o _ H3.o).mono ?_
 rintro e g⟨⟨G,B,D,u0,F,A,C,u1,rfl,o0,o1,ht,e0,e1,l0,l1⟩,b⟩;have H4:=hId (H3.o.trans (b.mono H3.o.size));have a3:Hd (Ac.tidy (u0.map PV.pt)=X):=by show _=_;rw[Ac.xq,<-HX.o,ht]
 have a2:Hd (Ac.tidy (u1.map PV.pt)=Y):=by show _=_;rw[Ac.xq,<-HY.o,ht]
 have ab:Hd (∀w',Below g.heap.size g w'->Calls prog 125 #[.slice G B D] w' fun e h=>(∃z us,e=.returned z/\eD h w'.heap.size z us/\us.map PV.pt=X)/\Below w'.heap.size w' h):=fun w' b=>by
  have:=rM G B D u0 w' (o0.below b) e0 (by omega);rw[a3.o]at this;exact this
 have aa:Hd (∀w',Below g.heap.size g w'->Calls prog 125 #[.slice F A C] w' fun e h=>(∃z us,e=.returned z/\eD h w'.heap.size z us/\us.map PV.pt=Y)/\Below w'.heap.size w' h):=fun w' b=>by
  have:=rM F A C u1 w' (o1.below b) e1 (by omega);rw[a2.o]at this;exact this
 have W:Hd (Md g (Oa (.slice G B D) (.slice F A C) g) (.slice G B D) (.slice F A C)):=Md.start _ _ g;have Rg:=Qj (.slice G B D) (.slice F A C);have Sp:=Qi (.slice G B D) (.slice F A C);clear b o0 o1 ht e0 e1 l0 l1 CT HX HY a3 a2;go_upto_region 9 with fail
 change Code.wp prog _ _ _ (Oa (.slice G B D) (.slice F A C) g);generalize Oa (.slice G B D) (.slice F A C) g=W5 at*;obtain⟨m0,m1⟩:=wz W.o.mb;go_wp2_with fail
 refine WH 3 ?_
 rw[VJ];go_wp2_with fail
 refine(ab.o _ W.o.bf).mono ?_
 rintro e w6⟨⟨z,us,rfl,J,U⟩,b⟩;have u:=W.o.under b;have f:=u.To z;have y:=J.low (k:=g.heap.size) W.o.mb.lt 0 z;have a8:=hId U;have d0:=ja u.mb;have f0:=u.mb.frozen 0;obtain⟨ta,tc,m,-⟩:=bg J.own;obtain⟨S,o⟩:∃S,us.length=S:=⟨_,rfl⟩;rw[o]at m;subst m;clear J U b u o m0 m1;go_wp2_with fail
 generalize w6.setCell ⟨g.heap.size,0,none⟩ (.slice ta S tc)=W7 at*;have f:=hId f;have y:=hId y;have a4:=hId W.o.mb.lt;clear d0 f0;rw[VJ];go_wp2_with fail
 refine(aa.o _ f.o.bf).mono ?_
 rintro e w8⟨⟨L,K,rfl,J,U⟩,b⟩;have t:=f.o.under b;have r:=t.Tn L;have a6:=(y.o.under b).low (k:=g.heap.size) a4.o 1 L;have a5:=J.low (k:=g.heap.size) f.o.mb.lt 1 L;have a7:=hId U;have d1:=IK t.mb;have f1:=t.mb.frozen 1;obtain⟨N,M,m,-⟩:=bg J.own;obtain⟨i,o⟩:∃i,K.length=i:=⟨_,rfl⟩;rw[o]at m;subst m;clear J U b t o;go_wp2_with fail
 generalize w8.setCell ⟨g.heap.size,1,none⟩ (.slice N i M)=W9 at*;clear d1 f1;have r:=hId r;have P:w.heap.size<=W5.heap.size/\w.heap.size<=W7.heap.size:=⟨VX H4.o.size (YB a4.o),VX H4.o.size f.o.bf.size⟩;have I:=hId ((eD.from a6).mono P.1);have H:=hId ((eD.from a5).mono P.2);have ai:=hId I.o.ops;have ah:=hId H.o.ops;clear P;have H9:=hId (H4.o.trans (r.o.bf.mono H4.o.size));have Z:=di ta N S tc i M us K W9 ai.o ah.o (ag.o _ H9.o);rw[a8.o,a7.o,HE.o]at Z;have Z:=hId Z;clear a6 a5 y f ab aa;obtain⟨m0,m1⟩:=wz r.o.mb;rw[VJ];go_wp2_with fail
 refine Z.o.mono ?_
 rintro e ak⟨rfl,b⟩;have af:=hId (r.o.under b);have Q:=hId (H9.o.trans (b.mono H9.o.size));have ad:=hId (I.o.below b);have ac:=hId (H.o.below b);clear b Z m0 m1;by_cases x:E=0
 ·subst x;obtain⟨m0,m1⟩:=wz af.o.mb;go_wp2
  go_quiet (fail)
  go_wp2
  exact VL (v:=.tuple #[.slice ta S tc,.slice N i M,.int .i64 0]) (by simp[results,Tryz.results116,go_sem]) rfl ⟨by show Fy w.heap.size X Y 0 _ _;exact⟨_,_,_,us,_,_,_,K,rfl,ad.o.below (bJ _ _),ac.o.below (bJ _ _),a8.o,a7.o⟩,Q.o.trans ((bJ _ _).mono Q.o.size)⟩
 ·have aj:(E !=0)=true:=by simp[x]
  have a9:=hId x;clear x;go_wp2
  exact VL (v:=.tuple #[.slice none 0 0,.slice none 0 0,.int .i64 E]) (by simp[results,Tryz.results116,go_sem]) rfl ⟨by first|exact nZ _ _ _|(rw[VD a9.o,VD a9.o];exact nZ _ _ _),Q.o⟩
theorem v7(k d:Option Addr)(n c i b:Nat)(f a:List PV)(w:World)(p:ae w k n c f)(h:ae w d i b a)(o:df w):
  Calls prog 116 #[.slice k n c,.slice d i b] w fun e w'=>Fy w.heap.size (Ac.lZ (f.map PV.pt) (a.map PV.pt)) (Ac.gY (f.map PV.pt) (a.map PV.pt)) (Ac.fO (f.map PV.pt) (a.map PV.pt)) e w'/\Below w.heap.size w w':=by
 unfold Ac.lZ Ac.gY Ac.fO;by_cases g:Ac.gQ (f.map PV.pt) (a.map PV.pt)=0
 ·rw[VC g];by_cases l:Ac.nd (f.map PV.pt)=Ac.nd (a.map PV.pt)
  ·rw[VC l];exact Gk k d n c i b f a w p h o g l
  ·rw[VD l,VD (show¬(6:Int)=0 by decide),VD (show¬(6:Int)=0 by decide)];refine(B7 k d n c i b f a w p h o g l).mono ?_
   rintro e w'⟨rfl,m⟩;exact⟨nZ _ _ _,m⟩
 ·rw[VD g,VD g,VD g];refine(Gm k d n c i b f a w p h o g).mono ?_
  rintro e w'⟨rfl,m⟩;exact⟨nZ _ _ _,m⟩
theorem zA(h d:Option Addr)(n c g b:Nat)(f a:List PV)(w:World)(r:ae w h n c f)(i:ae w d g b a)(q:df w):
  Calls prog 116 #[.slice h n c,.slice d g b] w fun e w'=>TO (Ac.lZ (f.map PV.pt) (a.map PV.pt)) (Ac.gY (f.map PV.pt) (a.map PV.pt)) (Ac.fO (f.map PV.pt) (a.map PV.pt)) e w'/\Below w.heap.size w w':=by
 refine(v7 h d n c g b f a w r i q).mono ?_
 rintro e w'⟨⟨A,o,y,l,z,m,x,k,v,u,t,s⟩,p⟩;exact⟨⟨A,o,y,l,z,m,x,k,v,u.ops,t.ops,s⟩,p⟩
def Bb (X:List Ac.Pt) (E:Int) (e:Ending) (w':World):Prop:=∃ a0 n0 c0 u0,e=.returned (.tuple #[.slice a0 n0 c0,.int .i64 E])/\ae w' a0 n0 c0 u0/\u0.map PV.pt=X
theorem ns(E:Int)(w':World):Bb [] E (.returned (.tuple #[.slice none 0 0,.int .i64 E])) w':=⟨none,0,0,[],rfl,jU w',rfl⟩
theorem IP(i d:Option Addr)(n c h b:Nat)(f a:List PV)(w:World)(m:ae w i n c f)(g:ae w d h b a)(l:df w)(o:¬Ac.gQ (f.map PV.pt) (a.map PV.pt)=0):
  Calls prog 107 #[.slice i n c,.slice d h b] w fun e w'=>e=.returned (.tuple #[.slice none 0 0,.int .i64 (Ac.gQ (f.map PV.pt) (a.map PV.pt))])/\Below w.heap.size w w':=by
 have q:=hId (di i d n c h b f a w m g l);clear m g l;generalize Ac.gQ (f.map PV.pt) (a.map PV.pt)=r at*;have s:(r !=0)=true:=by simp[o]
 clear o;go_enter func107,ntmps107
 go_wp2_with fail
 refine q.o.mono ?_
 rintro e t⟨rfl,k⟩;have p:=hId k;clear k;go_wp2
 go_ret2
 exact⟨rfl,p.o⟩
theorem DP(m f:Option Addr)(n d i b:Nat)(g a:List PV)(w:World)(o:ae w m n d g)(h:ae w f i b a)(v:df w)(p:Ac.gQ (g.map PV.pt) (a.map PV.pt)=0)(B:¬Ac.lv (g.map PV.pt)=Ac.nd (a.map PV.pt)):
  Calls prog 107 #[.slice m n d,.slice f i b] w fun e w'=>e=.returned (.tuple #[.slice none 0 0,.int .i64 6])/\Below w.heap.size w w':=by
 have x:=hId (di m f n d i b g a w o h v);have z:=hId (fun w' c=>gO m n d g w' (o.below c));have y:=hId (fun w' c=>gO f i b a w' (h.below c));obtain⟨t,s⟩:=Ac.ik p;rw[p]at x;rw[t.lt]at z;rw[s.lf]at y;clear o h v p t s;generalize Ac.lv (g.map PV.pt)=k at*;generalize Ac.nd (a.map PV.pt)=u at*;generalize Ac.lf (g.map PV.pt)=l at*;generalize Ac.lt (a.map PV.pt)=H at*;have D:((k:Int)!=(u:Int))=true:=by simp;omega
 have A:(k !=u)=true:=by simp;omega
 clear B;go_enter func107,ntmps107
 go_wp2_with fail
 refine x.o.mono ?_
 rintro e G⟨rfl,c⟩;have r:=hId c;clear c;go_wp2_with fail
 refine(z.o _ r.o).mono ?_
 rintro e F⟨rfl,c⟩;have q:=hId (r.o.trans (c.mono r.o.size));clear c;go_wp2_with fail
 refine(y.o _ q.o).mono ?_
 rintro e E⟨rfl,c⟩;have C:=hId (q.o.trans (c.mono q.o.size));clear c;go_wp2
 go_ret2
 exact⟨rfl,C.o⟩
theorem IM(q h:Option Addr)(n g p c:Nat)(d b:List PV)(w:World)(y:ae w q n g d)(i:ae w h p c b)(F:df w)(H:Ac.gQ (d.map PV.pt) (b.map PV.pt)=0)(G:Ac.lv (d.map PV.pt)=Ac.nd (b.map PV.pt)):
  Calls prog 107 #[.slice q n g,.slice h p c] w fun e w'=>Bb (if Ac.gC (Ac.jx (d.map PV.pt) (b.map PV.pt))=0 then Ac.jx (d.map PV.pt) (b.map PV.pt)else[]) (Ac.gC (Ac.jx (d.map PV.pt) (b.map PV.pt))) e w'/\Below w.heap.size w w':=by
 have M:=hId (di q h n g p c d b w y i F);have O:=hId (fun w' a=>gO q n g d w' (y.below a));have N:=hId (fun w' a=>gO h p c b w' (i.below a));obtain⟨B,A⟩:=Ac.ik H;rw[H]at M;rw[B.lt]at O;rw[A.lf,<-G]at N;have CT:=hId (fun w' a=>DO q h n g p c d b w' (y.below a) (i.below a) B A G);have P:Hd (∀w',Below w.heap.size w w'->df w'):=fun w' a=>F.below a;obtain⟨X,D⟩:∃X,Ac.jx (d.map PV.pt) (b.map PV.pt)=X:=⟨_,rfl⟩;have Z:Hd (Ac.tA (Ac.join (Ac.ah (d.map PV.pt)) (Ac.ah (b.map PV.pt)))=X):=D;rw[D];clear y i F H G B A D;generalize Ac.join (Ac.ah (d.map PV.pt)) (Ac.ah (b.map PV.pt))=TT at*;generalize Ac.lv (d.map PV.pt)=k at*;generalize Ac.lf (d.map PV.pt)=l at*;generalize Ac.lt (b.map PV.pt)=l' at*;obtain⟨E,o⟩:∃E,Ac.gC X=E:=⟨_,rfl⟩;have HE:=hId o;rw[o];clear o;go_enter func107,ntmps107
 go_wp2_with fail
 refine M.o.mono ?_
 rintro e w1⟨rfl,a⟩;have L:=hId a;clear a;go_wp2_with fail
 refine(O.o _ L.o).mono ?_
 rintro e w2⟨rfl,a⟩;have K:=hId (L.o.trans (a.mono L.o.size));clear a;go_wp2_with fail
 refine(N.o _ K.o).mono ?_
 rintro e w3⟨rfl,a⟩;have J:=hId (K.o.trans (a.mono K.o.size));clear a M O N;go_wp2_with fail
 refine(CT.o _ J.o).mono ?_
 rintro e w4⟨⟨a0,n0,c0,T,rfl,U,V,Y,l0⟩,a⟩;have H4:=hId (J.o.trans (a.mono J.o.size));have v:Ac.tidy (T.map PV.pt)=X:=by rw[Ac.xq,<-Z.o,V]
 have s:=rM a0 n0 c0 T w4 U Y (by omega);rw[v]at s;have s:=hId s;clear a U V Y l0 CT Z v;go_wp2_with fail
 refine s.o.mono ?_
 rintro e w5⟨⟨tv,us,rfl,W,C⟩,a⟩;have I:=hId (H4.o.trans (a.mono H4.o.size));obtain⟨ta,tc,t,f⟩:=W.ops;obtain⟨z,u⟩:∃z,us.length=z:=⟨_,rfl⟩;rw[u]at t f;have Q:=hId f;have HP:=hId C;have r:=kl ta z tc us w5 f (P.o _ I.o);rw[C,HE.o]at r;have r:=hId r;subst t;clear W C a f u s;go_wp2_with fail
 refine r.o.mono ?_
 rintro e w6⟨rfl,a⟩;have H6:=hId (I.o.trans (a.mono I.o.size));have x:=hId (Q.o.below a);clear a r;by_cases m:E=0
 ·subst m;go_wp2
  go_ret2
  exact⟨by show Bb X 0 _ _;exact⟨_,_,_,us,rfl,x.o,HP.o⟩,H6.o⟩
 ·have a1:(E !=0)=true:=by simp[m]
  have S:=hId m;clear m;go_wp2
  go_ret2
  exact⟨by first|exact ns _ _|(rw[VD S.o];exact ns _ _),H6.o⟩
theorem LN(k d:Option Addr)(n c i b:Nat)(f a:List PV)(w:World)(p:ae w k n c f)(g:ae w d i b a)(o:df w):
  Calls prog 107 #[.slice k n c,.slice d i b] w fun e w'=>Bb (Ac.pG (f.map PV.pt) (a.map PV.pt)) (Ac.sP (f.map PV.pt) (a.map PV.pt)) e w'/\Below w.heap.size w w':=by
 unfold Ac.pG Ac.sP;by_cases h:Ac.gQ (f.map PV.pt) (a.map PV.pt)=0
 ·rw[VC h];by_cases l:Ac.lv (f.map PV.pt)=Ac.nd (a.map PV.pt)
  ·rw[VC l];exact IM k d n c i b f a w p g o h l
  ·rw[VD l,VD (show¬(6:Int)=0 by decide)];refine(DP k d n c i b f a w p g o h l).mono ?_
   rintro e w'⟨rfl,m⟩;exact⟨ns _ _,m⟩
 ·rw[VD h,VD h];refine(IP k d n c i b f a w p g o h).mono ?_
  rintro e w'⟨rfl,m⟩;exact⟨ns _ _,m⟩
namespace Sv
structure En where
 aR:Int
 seq:Int
 o:List Ac.Pt
structure Se where
 first:List It
 log:List En
 now:List It
def eG (x:En):Int:=if x.aR<0\/4<=x.aR then 5 else if x.seq<1\/10000<x.seq then 3 else Ac.gC x.o
def dQ:List En->Int
 | []=>0
 | x :: l=>if eG x=0 then dQ l else eG x
theorem Dq(l:List En)(k:Nat)(h:k<l.length):dQ (l.drop k)=if eG l[k]=0 then dQ (l.drop (k+1))else eG l[k]:=by
 rw[VU h];rfl
def cM:List It->List En->Int
 | _,[]=>0
 | d,x :: l=>if Ac.ag d x.o=0 then cM (Ac.done d x.o) l else Ac.ag d x.o
def cS:List It->List En->List It
 | d,[]=>d
 | d,x :: l=>if Ac.ag d x.o=0 then cS (Ac.done d x.o) l else Ac.done d x.o
def ky (d:List It) (l:List En):Int:=if Dc.check d=0 then (if 60<l.length then 2 else cM d l) else Dc.check d
def k7 (d:List It) (l:List En):List It:=if Dc.check d=0 then (if 60<l.length then [] else cS d l) else []
def dL (s:Se):Int:=if 60<s.log.length then 2 else if dQ s.log=0 then (if ky s.first s.log=0 then (if Dc.same s.now (k7 s.first s.log)=true then 0 else 4) else ky s.first s.log) else dQ s.log
def Bi (c q:Int) (x:En):Bool:=(x.aR == c)&&(x.seq == q)
def has (s:Se) (c q:Int):Bool:=s.log.any (Bi c q)
def pq (a b:En):Bool:=(a.aR == b.aR)&&((a.seq == b.seq)&&Ac.eU a.o b.o)
def iY:List En->List En->Bool
 | [],[]=>true
 | x :: l,y :: m=>pq x y&&iY l m
 | _,_=>false
theorem wU:∀(s t:List En),¬s.length=t.length->iY s t=false
 |[],[],h=>absurd rfl h
 |[],_::_,_=>rfl
 |_::_,[],_=>rfl
 |x::s,y::t,h=>by
  unfold iY;rw[wU s t (fun e=>h (by simp[e])),Bool.and_false]
theorem Ct(s t:List En)(k:Nat)(h:k<s.length)(a:k<t.length):iY (s.drop k) (t.drop k)=(pq s[k] t[k]&&iY (s.drop (k+1)) (t.drop (k+1))):=by
 rw[VU h,VU a];rfl
def wS (a b:Se):Bool:=(Dc.same a.first b.first&&iY a.log b.log)&&Dc.same a.now b.now
def je:List En->List Ac.Pt->Int
 | [],_=>0
 | x :: l,o=>if Ac.fO x.o o=0 then je l (Ac.gY x.o o) else Ac.fO x.o o
def jJ:List En->List Ac.Pt->List Ac.Pt
 | [],o=>o
 | x :: l,o=>if Ac.fO x.o o=0 then jJ l (Ac.gY x.o o) else Ac.gY x.o o
def iV (s:Se) (rev:Int) (x:En):Int :=
 if dL s=0 then (if eG x=0 then (if has s x.aR x.seq=true then 0 else if rev<0\/(s.log.length:Int)<rev then 6 else if s.log.length=60 then 2 else
  if je (s.log.drop rev.toNat) x.o=0 then Ac.ag s.now (jJ (s.log.drop rev.toNat) x.o) else je (s.log.drop rev.toNat) x.o) else eG x) else dL s
def lj (s:Se) (rev:Int) (x:En):Se :=
 if iV s rev x=0 then (if has s x.aR x.seq=true then s else ⟨s.first,s.log++[⟨x.aR,x.seq,jJ (s.log.drop rev.toNat) x.o⟩],Ac.done s.now (jJ (s.log.drop rev.toNat) x.o)⟩) else ⟨[],[],[]⟩
end Sv
structure EV where
 aR:Int
 seq:Int
 ao:Option Addr
 n:Nat
 cap:Nat
 vs:List PV
def EV.en (v:EV):Sv.En:=⟨v.aR,v.seq,v.vs.map PV.pt⟩
def xI (v:EV):List Value:=[.int .i64 v.aR,.int .i64 v.seq,.slice v.ao v.n v.cap]
def bD (l:List EV):List Value:=l.flatMap xI
theorem sD(l a:List EV):bD (l++a)=bD l++bD a:=List.flatMap_append
theorem sC(v:EV):bD [v]=xI v:=by simp[bD]
theorem fe:∀l:List EV,(bD l).length=l.length*3
 |[]=>rfl
 |a::l=>by
  show(xI a++bD l).length=_
  rw[VI,fe l,VG];show 3+_=_
  omega
theorem im:∀(l:List EV)(i:Nat)(h:i<l.length)(j:Nat),j<3->(bD l)[i*3+j]?=(xI l[i])[j]?
 |[],_,h,_,_=>by simp at h
 |a::l,0,_,j,b=>by
  show(xI a++bD l)[0*3+j]?=_
  rw[XQ,VR,List.getElem?_append_left (by show j<3;exact b)];rfl
 |a::l,i+1,h,j,b=>by
  have:=im l i (by simpa using h) j b;show(xI a++bD l)[(i+1)*3+j]?=_
  rw[List.getElem?_append_right (by show 3<=_;omega),show(i+1)*3+j-(xI a).length=i*3+j by show _-3=_;omega,this];rfl
theorem mZ(l:List EV):∀u∈bD l,u.oneCell'=true:=by
 intro u a;obtain⟨v,-,h⟩:=List.mem_flatMap.1 a;unfold xI at h;simp only[WG,List.not_mem_nil,or_false]at h
 rcases h with rfl|rfl|rfl<;>rfl
structure PR (w:World) (b off:Nat) (v:EV):Prop where
 c0:w.cell? ⟨b,off,none⟩=some (.int .i64 v.aR)
 c1:w.cell? ⟨b,off+1,none⟩=some (.int .i64 v.seq)
 c2:w.cell? ⟨b,off+2,none⟩=some (.slice v.ao v.n v.cap)
theorem PR.below{w w':World}{b a:Nat}{v:EV}(h:PR w b a v)(c:Below w.heap.size w w'):PR w' b a v:=
 ⟨aA h.c0 c,aA h.c1 c,aA h.c2 c⟩
structure fQ (w:World) (ao:Option Addr) (n cap:Nat) (es:List EV):Prop where
 row:Row w ao n cap 3 (bD es)
 ops:∀ v ∈ es,ae w v.ao v.n v.cap v.vs
theorem fQ.below{w w':World}{d:Option Addr}{n a:Nat}{c:List EV}(h:fQ w d n a c)(b:Below w.heap.size w w'):fQ w' d n a c:=
 ⟨h.row.below b,fun v e=>(h.ops v e).below b⟩
theorem fQ.len{w:World}{c:Option Addr}{n a:Nat}{b:List EV}(h:fQ w c n a b):b.length=n:=by
 have:=h.row.len;rw[fe]at this;omega
theorem fQ.nil(w:World):fQ w none 0 0 []:=⟨Row.nil w 3,fun v a=>absurd a (by simp)⟩
theorem fQ.get{w:World}{k:Option Addr}{n g:Nat}{c:List EV}(h:fQ w k n g c)(l:n≠0):∃b a,k=some ⟨b,a,none⟩/\∀i(d:i<c.length),PR w b (a+i*3) c[i]:=by
 obtain⟨b,a,e,f⟩:=h.row.bH l;refine⟨b,a,e,fun i d=>?_⟩
 have p:=im c i d 0 (by decide);have o:=im c i d 1 (by decide);have m:=im c i d 2 (by decide);exact⟨f _ _ p,by rw[WX];exact f _ _ o,by rw[WX];exact f _ _ m⟩
def dU (v:EV) (w:World):World:=w.alloc (.cells #[.int .i64 v.aR,.int .i64 v.seq,.slice v.ao v.n v.cap] 71)
theorem aW(v:EV)(w:World):Below w.heap.size w (dU v w):=(VE _ _).alloc (UZ _) _
theorem I4(v:EV)(w:World):(dU v w).heap.size=w.heap.size+1:=WO ..
theorem uv(v:EV)(w:World):Blk (dU v w) w.heap.size (xI v) 71:=Blk.new w _ _
theorem Mz{w:World}{b:Nat}{v:EV}(h:Blk w b (xI v) 71):PR w b 0 v:=⟨h.cell 0,h.cell 1,h.cell 2⟩
theorem km(v:EV)(w:World):PR (dU v w) w.heap.size 0 v:=Mz (uv v w)
theorem sH(v u:EV)(w:World):Below w.heap.size w (dU u (dU v w)):=(aW v w).trans ((aW u _).mono (aW v w).size)
theorem I5(v u:EV)(w:World):PR (dU u (dU v w)) w.heap.size 0 v:=(km v w).below (aW u _)
structure SV where
 fa:Option Addr
 fn:Nat
 fc:Nat
 first:List It
 la:Option Addr
 ln:Nat
 lc:Nat
 log:List EV
 na:Option Addr
 nn:Nat
 nc:Nat
 now:List It
def SV.se (s:SV):Sv.Se:=⟨s.first,s.log.map EV.en,s.now⟩
def SC (s:SV):Value:=.agg #[.slice s.fa s.fn s.fc,.slice s.la s.ln s.lc,.slice s.na s.nn s.nc]
def lA (s:SV):List Value:=[.slice s.fa s.fn s.fc,.slice s.la s.ln s.lc,.slice s.na s.nn s.nc]
structure nU (w:World) (s:SV):Prop where
 first:cy w s.fa s.fn s.fc s.first
 log:fQ w s.la s.ln s.lc s.log
 now:cy w s.na s.nn s.nc s.now
theorem nU.below{w w':World}{s:SV}(h:nU w s)(a:Below w.heap.size w w'):nU w' s:=⟨h.first.below a,h.log.below a,h.now.below a⟩
def ai (s:SV) (w:World):World:=w.alloc (.cells #[.slice s.fa s.fn s.fc,.slice s.la s.ln s.lc,.slice s.na s.nn s.nc] 26)
theorem bM(s:SV)(w:World):Below w.heap.size w (ai s w):=(VE _ _).alloc (UZ _) _
theorem fN(s:SV)(w:World):(ai s w).heap.size=w.heap.size+1:=WO ..
theorem fI(s:SV)(w:World):Blk (ai s w) w.heap.size (lA s) 26:=Blk.new w _ _
def eP:SV:=⟨none,0,0,[],none,0,0,[],none,0,0,[]⟩
