/- A part. -/
import Derived.Test.YthddphjghgdalaaGreatDoorP35
set_option maxRecDepth 100000
set_option maxHeartbeats 25600000
namespace Go.Proofs.YthddphjghgdalaaGreatDoor
open Go.RowKit Go.Proofs.Tryz
def aQ (t:WV) (w:World):World:=w.alloc (.cells #[.slice t.s.fa t.s.fn t.s.fc,.slice t.s.la t.s.ln t.s.lc,.slice t.s.na t.s.nn t.s.nc,.slice t.ca t.cn t.cc,.slice t.ua t.un t.uc,.slice t.da t.dn t.dc] 30)
theorem aV(t:WV)(w:World):Below w.heap.size w (aQ t w):=(VE _ _).alloc (UZ _) _
theorem bU(t:WV)(w:World):Blk (aQ t w) w.heap.size (eo t) 30:=Blk.new w _ _
theorem cA(t:WV)(w:World):(aQ t w).heap.size=w.heap.size+1:=WO ..
def cO (w:World) (g:Nat) (t:WV):World:=(((((w.setCell ⟨g,0,none⟩ (.slice t.s.fa t.s.fn t.s.fc)).setCell ⟨g,1,none⟩ (.slice t.s.la t.s.ln t.s.lc)).setCell ⟨g,2,none⟩ (.slice t.s.na t.s.nn t.s.nc)).setCell ⟨g,3,none⟩ (.slice t.ca t.cn t.cc)).setCell ⟨g,4,none⟩ (.slice t.ua t.un t.uc)).setCell ⟨g,5,none⟩ (.slice t.da t.dn t.dc)
theorem dM{w:World}{g:Nat}{x t:WV}(h:Blk w g (eo x) 30):Blk (cO w g t) g (eo t) 30:=(((((h.set 0 (.slice t.s.fa t.s.fn t.s.fc)).set 1 (.slice t.s.la t.s.ln t.s.lc)).set 2 (.slice t.s.na t.s.nn t.s.nc)).set 3 (.slice t.ca t.cn t.cc)).set 4 (.slice t.ua t.un t.uc)).set 5 (.slice t.da t.dn t.dc)
theorem bP(w:World)(g:Nat)(t:WV):Kept w (cO w g t) [g]:=((((((Kept.refl w [g]).setCell _ _ (.inl (by simp))).setCell _ _ (.inl (by simp))).setCell _ _ (.inl (by simp))).setCell _ _ (.inl (by simp))).setCell _ _ (.inl (by simp))).setCell _ _ (.inl (by simp))
theorem Tryz.M7(t:WV):(prog.info? 30).map (·.size)=some (eo t).toArray.size:=by
 show _=some 6
 kernel_rfl
structure TM (v:WV):Prop where
 s1:v.s.fn<=80
 s2:v.s.nn<=80
 s3:v.s.ln<=60
 s4:∀ x ∈ v.s.log,0<x.n/\x.n<=40/\∀ u ∈ x.vs,u.m<=80
 cn:v.cn<=100/\v.un<=100/\v.dn<=100
 c:∀ c ∈ v.cs,c.bn<=80/\c.nn<=80/\tF c.sn c.aJ/\tF c.hn c.held
 u:∀ q ∈ v.up,q.n<=100/\∀ m ∈ q.ms,tF m.e.n m.e.vs
 d:∀ q ∈ v.down,q.n<=100/\∀ m ∈ q.ms,tF m.e.n m.e.vs
def Mn (h:Nat) (v:WV) (w:World):Prop:=w.cell? ⟨h,0,none⟩=some (.slice v.s.fa v.s.fn v.s.fc)/\w.cell? ⟨h,1,none⟩=some (.slice v.s.la v.s.ln v.s.lc)/\w.cell? ⟨h,2,none⟩=some (.slice v.s.na v.s.nn v.s.nc)/\w.cell? ⟨h,3,none⟩=some (.slice v.ca v.cn v.cc)/\w.cell? ⟨h,4,none⟩=some (.slice v.ua v.un v.uc)/\w.cell? ⟨h,5,none⟩=some (.slice v.da v.dn v.dc)
def US (w:World) (v:WV) (wx:World):Prop:=∃ t:WV,Blk wx (w.heap.size+1) (eo t) 30/\pQ w.heap.size wx t/\t.w=v.w/\Below w.heap.size w wx
theorem NT.iJ{w:World}{g:Nat}{t:WV}(h:Blk w g (eo t) 30):NT w g:=NT.of h rfl
theorem pQ.put{B o:Nat}{w w':World}{v:WV}{g:Nat}(h:pQ B w v)(A:g<B)(t:o<=B)(b:Kept w w' [g])(r:NT w g):pQ o w' v:=by
 have i:∀x∈[g],NT w x:=fun x l=>by rw[UY.1 l];exact r
 have d:∀(a:Option Addr)(s:Nat),s≠0->a.map (·.block)=bk 0 v s->Ht a [g]:=fun a s f e z y l=>by
  have:=(h.yp s z.block f (by rw[<-e,y];rfl)).1;have:=UY.1 l;omega
 refine⟨h.eF.aw b i (fun u=>d _ 4 (by decide) (pN u)),h.cr.kept b (d _ 1 (by decide) rfl),fun c p=>(h.cl c p).aw b i,h.ur.kept b (d _ 2 (by decide) rfl),h.dr.kept b (d _ 3 (by decide) rfl),fun k q e=>⟨(h.uq k q e).1.kept b (d _ (2*k+5) (by omega) (fP e)),fun m n=>((h.uq k q e).2 m n).aw b i⟩,fun k q e=>⟨(h.dq k q e).1.kept b (d _ (2*k+6) (by omega) (ei e)),fun m n=>((h.dq k q e).2 m n).aw b i⟩,h.dj,fun s x f e=>⟨VX t (h.yp s x f e).1,WJ (h.yp s x f e).2 b.size⟩⟩
theorem xK(v:WV)(w:World)(hW:gD w v)(F:TM v):
  Calls prog 19 #[.agg #[.slice v.s.fa v.s.fn v.s.fc,.slice v.s.la v.s.ln v.s.lc,.slice v.s.na v.s.nn v.s.nc,.slice v.ca v.cn v.cc,.slice v.ua v.un v.uc,.slice v.da v.dn v.dc]] w fun e w'=>(∃t:WV,e=.returned (Mh t)/\pQ w.heap.size w' t/\t.w=v.w)/\Below w.heap.size w w':=by
 have a6:(aQ bX (aQ v w)).heap.size=w.heap.size+2:=by rw[cA,cA]
 have V:Below w.heap.size w (aQ bX (aQ v w)):=(aV v w).trans ((aV bX _).mono (aV v w).size);have HP:Hd (Blk (aQ bX (aQ v w)) w.heap.size (eo v) 30):=(bU v w).alloc _;have HZ:Hd (Blk (aQ bX (aQ v w)) (w.heap.size+1) (eo bX) 30):=by have:=bU bX (aQ v w);rw[cA]at this;exact this
 have T:=hW.below V;have CS:Hd (∀w',Below (aQ bX (aQ v w)).heap.size (aQ bX (aQ v w)) w'->Calls prog 41 #[.agg #[.slice v.s.fa v.s.fn v.s.fc,.slice v.s.la v.s.ln v.s.lc,.slice v.s.na v.s.nn v.s.nc]] w' fun e l=>(∃t:SV,e=.returned (.agg #[.slice t.fa t.fn t.fc,.slice t.la t.ln t.lc,.slice t.na t.nn t.nc])/\qo w'.heap.size l t/\t.se=v.s.se)/\Below w'.heap.size w' l):=fun w' d=>(pJ v.s w' (T.eF.below d) F.s1 F.s2 F.s3 F.s4).mono (fun e l h=>⟨h.1.elim fun t g=>⟨t,g.1,⟨g.2.1.eF,fun ad _ e=>aS g.2.1.own ad.block (by rw[e];rfl)⟩,g.2.2.1⟩,h.2⟩);have CC:Hd (∀w',Below (aQ bX (aQ v w)).heap.size (aQ bX (aQ v w)) w'->Calls prog 42 #[.slice v.ca v.cn v.cc,.func (.func 43) #[] #[]] w' fun e l=>(∃(a:Option Addr)(c:Nat)(us:List CV),e=.returned (.slice a v.cn c)/\EY w'.heap.size v.cn v.cs us a c l)/\Below w'.heap.size w' l):=fun w' d=>Az v.cs v.ca v.cn v.cc w' (T.cr.below d) F.cn.1 (fun c hc=>⟨(T.cl c hc).below d,F.c c hc⟩);have CU:Hd (∀w',Below (aQ bX (aQ v w)).heap.size (aQ bX (aQ v w)) w'->Calls prog 44 #[.slice v.ua v.un v.uc,.func (.func 45) #[] #[]] w' fun e l=>(∃(a:Option Addr)(c:Nat)(us:List QV),e=.returned (.slice a v.un c)/\vO w'.heap.size v.un v.up us a c l)/\Below w'.heap.size w' l):=fun w' d=>sF v.up v.ua v.un v.uc w' (T.ur.below d) F.cn.2.1 (fun q hq=>⟨(T.uq q hq).below d,F.u q hq⟩);have CD:Hd (∀w',Below (aQ bX (aQ v w)).heap.size (aQ bX (aQ v w)) w'->Calls prog 44 #[.slice v.da v.dn v.dc,.func (.func 45) #[] #[]] w' fun e l=>(∃(a:Option Addr)(c:Nat)(us:List QV),e=.returned (.slice a v.dn c)/\vO w'.heap.size v.dn v.down us a c l)/\Below w'.heap.size w' l):=fun w' d=>sF v.down v.da v.dn v.dc w' (T.dr.below d) F.cn.2.2 (fun q hq=>⟨(T.dq q hq).below d,F.d q hq⟩);have z:Hd (∀w',Below (aQ bX (aQ v w)).heap.size (aQ bX (aQ v w)) w'->Mn w.heap.size v w'):=fun w' d=>⟨aA (HP.o.cell 0) d,aA (HP.o.cell 1) d,aA (HP.o.cell 2) d,aA (HP.o.cell 3) d,aA (HP.o.cell 4) d,aA (HP.o.cell 5) d⟩;have a5:Hd (∀t p q r A,sM (aQ bX (aQ v w)) v (some t) (some p) (some q) (some r) A->US w v (cO A (w.heap.size+1) (Ks v t p q r))):=fun t p q r A h=>by
  have hZ:Blk A (w.heap.size+1) (eo bX) 30:=(h.below.block _ HZ.o.lt).trans HZ.o;have I:=bP A (w.heap.size+1) (Ks v t p q r);have hs:=h.below.size;exact⟨_,dM hZ,h.lone.1.put (by omega) (by omega) I (NT.iJ hZ),h.lone.2,V.trans ((h.below.mono (by omega)).trans (I.below (by omega) (fun x hx=>by rw[UY.1 hx];omega)))⟩
 have a3:Hd (∀A t,Mn w.heap.size v A->Mn w.heap.size v (cO A (w.heap.size+1) t)):=fun A t h=>by
  have I:=bP A (w.heap.size+1) t;have D:∀j u,A.cell? ⟨w.heap.size,j,none⟩=some u->(cO A (w.heap.size+1) t).cell? ⟨w.heap.size,j,none⟩=some u:=fun j u o=>(WC (w:=A) (a:=⟨w.heap.size,j,none⟩) (I.block _ (WW _ _ o) (by simp))).trans o;exact⟨D 0 _ h.1,D 1 _ h.2.1,D 2 _ h.2.2.1,D 3 _ h.2.2.2.1,D 4 _ h.2.2.2.2.1,D 5 _ h.2.2.2.2.2⟩
 have W:Hd (sM (aQ bX (aQ v w)) v none none none none (aQ bX (aQ v w)).drew):=(sM.start _ v).drew;clear hW F T V;go_enter func19,ntmps19
 go_upto_region 1 with fail
 change Code.wp prog _ _ _ (aQ bX (aQ v w));go_cut []from 3 to 16 (fun A=>US w v A)
 case first=>
  have y:Mn w.heap.size v (aQ bX (aQ v w)).drew:=z.o _ W.o.below;refine gj (S:=Mn w.heap.size v) (f:=fun _=>true) (by kernel_rfl) ?_
  refine aT (i:=0) (v:=?vv0) rfl (by kernel_rfl) (fun _ _ _ h=>h) (Or.inl ⟨by rfl,fun u o=>?hy0⟩) y ?rest0
  case hy0=>obtain⟨Q,P,O,N,M,L⟩:=o;go_simp;try with_reducible rfl
  try simp only[Act.put,UX]
  refine aT (i:=1) (v:=?vv1) rfl (by kernel_rfl) (fun _ _ _ h=>h) (Or.inl ⟨by rfl,fun u o=>?hy1⟩) y ?rest1
  case hy1=>obtain⟨Q,P,O,N,M,L⟩:=o;go_simp;try with_reducible rfl
  try simp only[Act.put]
  refine aT (i:=3) (v:=?vv3) rfl (by kernel_rfl) (fun _ _ _ h=>h) (Or.inl ⟨by rfl,fun u o=>?hy3⟩) y ?rest3
  case hy3=>obtain⟨Q,P,O,N,M,L⟩:=o;go_simp;try with_reducible rfl
  try simp only[Act.put]
  refine aT (i:=4) (v:=?vv4) rfl (by kernel_rfl) (fun _ _ _ h=>h) (Or.inl ⟨by rfl,fun u o=>?hy4⟩) y ?rest4
  case hy4=>obtain⟨Q,P,O,N,M,L⟩:=o;go_simp;try with_reducible rfl
  try simp only[Act.put]
  refine aT (i:=6) (v:=?vv6) rfl (by kernel_rfl) (fun _ _ _ h=>h) (Or.inl ⟨by rfl,fun u o=>?hy6⟩) y ?rest6
  case hy6=>obtain⟨Q,P,O,N,M,L⟩:=o;go_simp;try with_reducible rfl
  try simp only[Act.put]
  refine aT (i:=7) (v:=?vv7) rfl (by kernel_rfl) (fun _ _ _ h=>h) (Or.inl ⟨by rfl,fun u o=>?hy7⟩) y ?rest7
  case hy7=>obtain⟨Q,P,O,N,M,L⟩:=o;go_simp;try with_reducible rfl
  try simp only[Act.put]
  refine aT (i:=9) (v:=?vv9) rfl (by kernel_rfl) (fun _ _ _ h=>h) (Or.inl ⟨by rfl,fun u o=>?hy9⟩) y ?rest9
  case hy9=>obtain⟨Q,P,O,N,M,L⟩:=o;go_simp;try with_reducible rfl
  try simp only[Act.put]
  refine aT (i:=10) (v:=?vv10) rfl (by kernel_rfl) (fun _ _ _ h=>h) (Or.inl ⟨by rfl,fun u o=>?hy10⟩) y ?rest10
  case hy10=>obtain⟨Q,P,O,N,M,L⟩:=o;go_simp;try with_reducible rfl
  try simp only[Act.put]
  refine ar (i:=2) (by kernel_rfl) rfl (fun K C=>?_)
  go_simp
  refine(CS.o _ W.o.below).mono ?_
  rintro e a0⟨⟨t,rfl,E,a1⟩,d⟩;have G:Hd (sM (aQ bX (aQ v w)) v (some t) none none none a0):=W.o.UJ E a1 d;have a2:Mn w.heap.size v a0:=z.o _ G.o.below;refine C.out _ _ (fun _=>a2) ?_
  clear C K E a1 d;try simp only[Act.put,UX,VA,VB]
  refine ar (i:=5) (by kernel_rfl) rfl (fun K C=>?_)
  go_simp
  refine(CC.o _ G.o.below).mono ?_
  rintro e U⟨⟨aC,Z,Y,rfl,E⟩,d⟩;have B:Hd (sM (aQ bX (aQ v w)) v (some t) (some (aC,Z,Y)) none none U):=G.o.UL E d;have X:Mn w.heap.size v U:=z.o _ B.o.below;refine C.out _ _ (fun _=>X) ?_
  clear C K E d;try simp only[Act.put,UX,VA,VB]
  refine ar (i:=8) (by kernel_rfl) rfl (fun K C=>?_)
  go_simp
  refine(CU.o _ B.o.below).mono ?_
  rintro e H⟨⟨aU,cU,uU,rfl,E⟩,d⟩;have s:Hd (sM (aQ bX (aQ v w)) v (some t) (some (aC,Z,Y)) (some (aU,cU,uU)) none H):=B.o.UI E d;have J:Mn w.heap.size v H:=z.o _ s.o.below;refine C.out _ _ (fun _=>J) ?_
  clear C K E d;try simp only[Act.put,UX,VA,VB]
  refine ar (i:=11) (by kernel_rfl) rfl (fun K C=>?_)
  go_simp
  refine(CD.o _ s.o.below).mono ?_
  rintro e b⟨⟨aD,cD,uD,rfl,E⟩,d⟩;have n:Hd (sM (aQ bX (aQ v w)) v (some t) (some (aC,Z,Y)) (some (aU,cU,uU)) (some (aD,cD,uD)) b):=s.o.UK E d;have m:Mn w.heap.size v b:=z.o _ n.o.below;refine C.out _ _ (fun _=>m) ?_
  clear C K E d;try simp only[Act.put,UX,VA,VB]
  refine aT (i:=12) (v:=?vv12_SCUD) rfl (by kernel_rfl) (fun _ _ _ h=>h) (Or.inl ⟨by rfl,fun u o=>?hy12_SCUD⟩) m ?rest12_SCUD
  case hy12_SCUD=>obtain⟨Q,P,O,N,M,L⟩:=o;go_simp;try with_reducible rfl
  try simp only[Act.put,UX]
  have k:Blk b (w.heap.size+1) (eo bX) 30:=(n.o.below.block _ HZ.o.lt).trans HZ.o;have z0:=k.c0;have g0:=k.frozen 0;have z1:=k.c1;have g1:=k.frozen 1;have z2:=k.c2;have g2:=k.frozen 2;have z3:=k.c3;have g3:=k.frozen 3;have z4:=k.c4;have g4:=k.frozen 4;have z5:=k.c5;have g5:=k.frozen 5;have HR:Hd (US w v (cO b (w.heap.size+1) (Ks v t (aC,Z,Y) (aU,cU,uU) (aD,cD,uD)))):=a5.o _ _ _ _ _ n.o;have a4:Mn w.heap.size v (cO b (w.heap.size+1) (Ks v t (aC,Z,Y) (aU,cU,uU) (aD,cD,uD))):=a3.o _ _ m;clear k;refine ar (i:=13) (by kernel_rfl) rfl (fun K C=>?_)
  go_simp
  refine C.out _ (cO b (w.heap.size+1) (Ks v t (aC,Z,Y) (aU,cU,uU) (aD,cD,uD))) (fun _=>a4) ?_
  clear C K;try simp only[Act.put,UX,VA,VB]
  refine et (by kernel_rfl) ?_ _
  go_wp2_with fail
  go_meet
  case rel=>exact HR.o
 case rest=>
  obtain⟨t,h1,h2,h3,h4⟩:=hcut;go_wp2
  exact VL (results_cell_row rfl _ _ (w.heap.size+1) 30 (eo t).toArray (0,0) _ rfl h1 underlying30 rfl (Tryz.M7 t)) rfl ⟨⟨t,rfl,h2,h3⟩,h4⟩
theorem uW{α:Type}(E:α->Int){xs:List α}{k:Nat}{x:α}(h:xs[k]?=some x):Wo.de ((xs.drop k).map E)=if E x=0 then Wo.de ((xs.drop (k+1)).map E)else E x:=by
 obtain⟨a,e⟩:=VO.1 h;rw[VU a,e];rfl
theorem Ty(xs:List MV)(E:MV->Int)(O:Option Addr)(n B:Nat)(w:World)(m:Row w O n B 4 (bN xs))
  (q:∀x∈xs,∀wr,Below w.heap.size w wr->Calls prog 64 #[.agg #[.int .i64 x.mr,.int .i64 x.e.aR,.int .i64 x.e.seq,.slice x.e.ao x.e.n x.e.cap]] wr fun e w'=>e=.returned (.int .i64 (E x))/\Below wr.heap.size wr w'):
  Calls prog 63 #[.slice O n B,.func (.func 64) #[] #[]] w fun e w'=>e=.returned (.int .i64 (Wo.de (xs.map E)))/\Below w.heap.size w w':=by
 have v:xs.length=n:=by have h:=m.len;rw[yF]at h;omega
 have P:=hId v;have L:=hId q;have HR:=hId m;have a0:=m.room;have s:=m.fg;have a1:=s;obtain⟨R,g⟩:∃R,Wo.de (xs.map E)=R:=⟨_,rfl⟩;have HD:Hd (∀k x,xs[k]?=some x->Wo.de ((xs.drop k).map E)=if E x=0 then Wo.de ((xs.drop (k+1)).map E)else E x):=fun k x h=>uW E h;have M:Hd (Wo.de ((xs.drop 0).map E)=R):=g;rw[g];clear m q v g s;go_enter func63,ntmps63
 go_wp2
 go_loopw [10] (fun i wr=>∃k:Nat,k<=n/\i=.int .i64 k/\Wo.de ((xs.drop k).map E)=R/\Below w.heap.size w wr) (fun i _=>n-(intOf i).toNat)
 case atStart=>exact⟨0,VN _,rfl,M.o,VE _ _⟩
 case round=>
  obtain⟨k,hk,rfl,r,A⟩:=hrel;have C:=hId r;have a:=hId A;clear r A;by_cases t:k<n
  ·have J:k<xs.length:=by rw[P.o];exact t
   obtain⟨x,d⟩:∃x,xs[k]?=some x:=⟨_,VM J⟩;obtain⟨b,p,rfl,y⟩:=HR.o.bH (by omega);have c:Hd (∀k x,xs[k]?=some x->∀wr,Below w.heap.size w wr->∀j,j<4->∀u,(jX x)[j]?=some u->wr.cell? ⟨b,p+k*4+j,none⟩=some u):=fun k x d wr H j Z u Y=>aA (by
    rw[WX];refine y (k*4+j) u ?_
    have N:=get_at (f:=jX) (sp:=[]) (fun _=>rfl) d j Z;rw[VY]at N;exact N.trans Y) H
   have X:wr.cell? ⟨b,p+k*4,none⟩=some (.int .i64 x.mr):=c.o k x d wr a.o 0 (by decide) _ rfl;have V:=c.o k x d wr a.o 1 (by decide) _ rfl;have U:=c.o k x d wr a.o 2 (by decide) _ rfl;have T:=c.o k x d wr a.o 3 (by decide) _ rfl;have l:=hId (ay x wr);have K:=hId (dE x wr);have Q:=hId (L.o x (WQ d) _ (a.o.trans (l.o.mono a.o.size)));go_upto_region 4 with fail
   change Code.wp prog _ _ _ (aj x wr);generalize aj x wr=W at*;obtain⟨x0,x1,x2,x3⟩:=AV K.o;have D:=hId (C.o.symm.trans (HD.o k x d));clear d y c;generalize E x=I at*;go_wp2_with fail
   refine Q.o.mono ?_
   rintro e S⟨rfl,H⟩;have F:=hId (a.o.trans ((l.o.trans (H.mono l.o.size):Below wr.heap.size wr S).mono a.o.size));clear H Q X V U T x0 x1 x2 x3;by_cases G:I=0
   ·have o:Hd (Wo.de ((xs.drop (k+1)).map E)=R):=by have:=D.o;rw[VC G]at this;exact this.symm
    subst G;go_wp2
    go_roundw
    case rel=>exact⟨k+1,t,by go_num,o.o,F.o⟩
    case measure=>simp[intOf];omega
   ·have o:Hd (I=R):=by have:=D.o;rw[VD G]at this;exact this.symm
    have a2:(I !=0)=true:=by simpa using G
    go_wp2
    go_ret
    exact⟨VQ (fun z=>Ending.returned (.int .i64 z)) o.o,F.o⟩
  ·obtain rfl:k=n:=by omega
   have o:Hd (0=R):=by have:=C.o;rw[List.drop_of_length_le (by rw[P.o];exact UZ _)]at this;exact this
   go_wp2
   go_ret
   exact⟨VQ (fun z=>Ending.returned (.int .i64 z)) o.o,a.o⟩
theorem Tz(xs:List CV)(E:CV->Int)(O:Option Addr)(n B:Nat)(w:World)(m:Row w O n B 7 (bB xs))
  (q:∀x∈xs,∀wr,Below w.heap.size w wr->Calls prog 34 #[.agg #[.int .i64 x.rev,.slice x.ba x.bn x.bc,.slice x.na x.nn x.nc,.int .i64 x.seq,.slice x.sa x.sn x.sc,.slice x.ha x.hn x.hc,.bool x.jo]] wr fun e w'=>e=.returned (.int .i64 (E x))/\Below wr.heap.size wr w'):
  Calls prog 33 #[.slice O n B,.func (.func 34) #[] #[]] w fun e w'=>e=.returned (.int .i64 (Wo.de (xs.map E)))/\Below w.heap.size w w':=by
 have v:xs.length=n:=by have h:=m.len;rw[mK]at h;omega
 have P:=hId v;have L:=hId q;have HR:=hId m;have a0:=m.room;have s:=m.fg;have a1:=s;obtain⟨R,g⟩:∃R,Wo.de (xs.map E)=R:=⟨_,rfl⟩;have HD:Hd (∀k x,xs[k]?=some x->Wo.de ((xs.drop k).map E)=if E x=0 then Wo.de ((xs.drop (k+1)).map E)else E x):=fun k x h=>uW E h;have M:Hd (Wo.de ((xs.drop 0).map E)=R):=g;rw[g];clear m q v g s;go_enter func33,ntmps33
 go_wp2
 go_loopw [10] (fun i wr=>∃k:Nat,k<=n/\i=.int .i64 k/\Wo.de ((xs.drop k).map E)=R/\Below w.heap.size w wr) (fun i _=>n-(intOf i).toNat)
 case atStart=>exact⟨0,VN _,rfl,M.o,VE _ _⟩
 case round=>
  obtain⟨k,hk,rfl,r,A⟩:=hrel;have C:=hId r;have a:=hId A;clear r A;by_cases t:k<n
  ·have J:k<xs.length:=by rw[P.o];exact t
   obtain⟨x,d⟩:∃x,xs[k]?=some x:=⟨_,VM J⟩;obtain⟨b,p,rfl,y⟩:=HR.o.bH (by omega);have c:Hd (∀k x,xs[k]?=some x->∀wr,Below w.heap.size w wr->∀j,j<7->∀u,(fS x)[j]?=some u->wr.cell? ⟨b,p+k*7+j,none⟩=some u):=fun k x d wr H j hj u hu=>aA (by
    rw[WX];refine y (k*7+j) u ?_
    have N:=get_at (f:=fS) (sp:=[]) (fun _=>rfl) d j hj;rw[VY]at N;exact N.trans hu) H
   have m0:wr.cell? ⟨b,p+k*7,none⟩=some (.int .i64 x.rev):=c.o k x d wr a.o 0 (by decide) _ rfl;have Z:=c.o k x d wr a.o 1 (by decide) _ rfl;have Y:=c.o k x d wr a.o 2 (by decide) _ rfl;have X:=c.o k x d wr a.o 3 (by decide) _ rfl;have V:=c.o k x d wr a.o 4 (by decide) _ rfl;have U:=c.o k x d wr a.o 5 (by decide) _ rfl;have T:=c.o k x d wr a.o 6 (by decide) _ rfl;have l:=hId (aa x wr);have K:=hId (cH x wr);have Q:=hId (L.o x (WQ d) _ (a.o.trans (l.o.mono a.o.size)));go_upto_region 4 with fail
   change Code.wp prog _ _ _ (aO x wr);generalize aO x wr=W at*;obtain⟨x0,x1,x2,x3,x4,x5,x6⟩:=Bh K.o;have D:=hId (C.o.symm.trans (HD.o k x d));clear d y c;generalize E x=I at*;go_wp2_with fail
   refine Q.o.mono ?_
   rintro e S⟨rfl,H⟩;have F:=hId (a.o.trans ((l.o.trans (H.mono l.o.size):Below wr.heap.size wr S).mono a.o.size));clear H Q m0 Z Y X V U T x0 x1 x2 x3 x4 x5 x6;by_cases G:I=0
   ·have o:Hd (Wo.de ((xs.drop (k+1)).map E)=R):=by have:=D.o;rw[VC G]at this;exact this.symm
    subst G;go_wp2
    go_roundw
    case rel=>exact⟨k+1,t,by go_num,o.o,F.o⟩
    case measure=>simp[intOf];omega
   ·have o:Hd (I=R):=by have:=D.o;rw[VD G]at this;exact this.symm
    have a2:(I !=0)=true:=by simpa using G
    go_wp2
    go_ret
    exact⟨VQ (fun z=>Ending.returned (.int .i64 z)) o.o,F.o⟩
  ·obtain rfl:k=n:=by omega
   have o:Hd (0=R):=by have:=C.o;rw[List.drop_of_length_le (by rw[P.o];exact UZ _)]at this;exact this
   go_wp2
   go_ret
   exact⟨VQ (fun z=>Ending.returned (.int .i64 z)) o.o,a.o⟩
theorem TA(xs:List QV)(E:QV->Int)(M:Option Addr)(n y:Nat)(w:World)(g:Row w M n y 1 (ak xs))
  (o:∀x∈xs,∀wr,Below w.heap.size w wr->Calls prog 36 #[.slice x.a x.n x.cap] wr fun e w'=>e=.returned (.int .i64 (E x))/\Below wr.heap.size wr w'):
  Calls prog 35 #[.slice M n y,.func (.func 36) #[] #[]] w fun e w'=>e=.returned (.int .i64 (Wo.de (xs.map E)))/\Below w.heap.size w w':=by
 have s:xs.length=n:=by have h:=g.len;rw[kr]at h;omega
 have N:=hId s;have J:=hId o;have U:=hId g;have W:=g.room;have q:=g.fg;have X:=q;obtain⟨R,c⟩:∃R,Wo.de (xs.map E)=R:=⟨_,rfl⟩;have V:Hd (∀k x,xs[k]?=some x->Wo.de ((xs.drop k).map E)=if E x=0 then Wo.de ((xs.drop (k+1)).map E)else E x):=fun k x h=>uW E h;have K:Hd (Wo.de ((xs.drop 0).map E)=R):=c;rw[c];clear g o s c q;go_enter func35,ntmps35
 go_wp2
 go_loopw [10] (fun i wr=>∃k:Nat,k<=n/\i=.int .i64 k/\Wo.de ((xs.drop k).map E)=R/\Below w.heap.size w wr) (fun i _=>n-(intOf i).toNat)
 case atStart=>exact⟨0,VN _,rfl,K.o,VE _ _⟩
 case round=>
  obtain⟨k,Z,rfl,p,v⟩:=hrel;have A:=hId p;have a:=hId v;clear p v;by_cases r:k<n
  ·have I:k<xs.length:=by rw[N.o];exact r
   obtain⟨x,d⟩:∃x,xs[k]?=some x:=⟨_,VM I⟩;obtain⟨b,m,rfl,t⟩:=U.o.bH (by omega);have D:Hd (∀k x,xs[k]?=some x->∀wr,Below w.heap.size w wr->∀j,j<1->∀u,(tt x)[j]?=some u->wr.cell? ⟨b,m+k*1+j,none⟩=some u):=fun k x d wr G j T u S=>aA (by
    rw[WX];refine t (k*1+j) u ?_
    have L:=get_at (f:=tt) (sp:=[]) (fun _=>rfl) d j T;rw[VY]at L;exact L.trans S) G
   have Q:wr.cell? ⟨b,m+k,none⟩=some (.slice x.a x.n x.cap):=by have:=D.o k x d wr a.o 0 (by decide) _ rfl;rw[Nat.mul_one]at this;exact this
   have O:=hId (J.o x (WQ d) _ a.o);have B:=hId (A.o.symm.trans (V.o k x d));clear d t D;generalize E x=H at*;go_wp2_with fail
   refine O.o.mono ?_
   rintro e P⟨rfl,G⟩;have C:=hId (a.o.trans ((G:Below wr.heap.size wr P).mono a.o.size));clear G O Q;by_cases F:H=0
   ·have l:Hd (Wo.de ((xs.drop (k+1)).map E)=R):=by have:=B.o;rw[VC F]at this;exact this.symm
    subst F;go_wp2
    go_roundw
    case rel=>exact⟨k+1,r,by go_num,l.o,C.o⟩
    case measure=>simp[intOf];omega
   ·have l:Hd (H=R):=by have:=B.o;rw[VD F]at this;exact this.symm
    have Y:(H !=0)=true:=by simpa using F
    go_wp2
    go_ret
    exact⟨VQ (fun z=>Ending.returned (.int .i64 z)) l.o,C.o⟩
  ·obtain rfl:k=n:=by omega
   have l:Hd (0=R):=by have:=A.o;rw[List.drop_of_length_le (by rw[N.o];exact UZ _)]at this;exact this
   go_wp2
   go_ret
   exact⟨VQ (fun z=>Ending.returned (.int .i64 z)) l.o,a.o⟩
theorem Nk(m:MV)(w:World)(f:ae w m.e.ao m.e.n m.e.cap m.e.vs)(o:df w):
  Calls prog 64 #[.agg #[.int .i64 m.mr,.int .i64 m.e.aR,.int .i64 m.e.seq,.slice m.e.ao m.e.n m.e.cap]] w fun e w'=>e=.returned (.int .i64 (Wo.Kx m.mg))/\Below w.heap.size w w':=by
 have a:=hId (ay m w);have q:=hId (dE m w);have c:=hId (kl _ _ _ _ _ (f.below a.o) (o.below a.o));have l:(m.e.vs.map PV.pt).length=m.e.n:=by rw[VH];exact f.len
 have i:Hd (Wo.Kx m.mg=if m.e.n=0 then 0 else Ac.gC (m.e.vs.map PV.pt)):=by
  show Wo.Kx m.mg=_
  unfold Wo.Kx;show(if(m.e.vs.map PV.pt).length=0 then _ else _)=_
  rw[l];rfl
 obtain⟨R,d⟩:∃R,Wo.Kx m.mg=R:=⟨_,rfl⟩;obtain⟨C,g⟩:∃C,Ac.gC (m.e.vs.map PV.pt)=C:=⟨_,rfl⟩;rw[d,g]at i;rw[g]at c;rw[d];have x3:=Bg q.o;clear f o l d g q;go_enter func64,ntmps64
 go_upto_region 1 with fail
 change Code.wp prog _ _ _ (aj m w);generalize aj m w=W at*;generalize m.e.n=p at*;by_cases b:p=0
 ·have h:Hd (0=R):=by have:=i.o;rw[VC b]at this;exact this.symm
  subst b;clear c;go_wp2
  go_ret
  exact⟨VQ (fun z=>Ending.returned (.int .i64 z)) h.o,a.o⟩
 ·have h:Hd (C=R):=by have:=i.o;rw[VD b]at this;exact this.symm
  have s:((p:Int)==0)=false:=by simpa using b
  go_wp2_with fail
  refine c.o.mono ?_
  rintro e r⟨rfl,n⟩;have k:=hId (a.o.trans (n.mono a.o.size));clear n c x3;go_wp2
  go_ret
  exact⟨VQ (fun z=>Ending.returned (.int .i64 z)) h.o,k.o⟩
theorem zn(q:QV)(w:World)(b:qp w q)(l:df w):
  Calls prog 36 #[.slice q.a q.n q.cap] w fun e w'=>e=.returned (.int .i64 (Wo.kF q.eV))/\Below w.heap.size w w':=by
 have c:=hId (Ty q.ms (fun m=>Wo.Kx m.mg) q.a q.n q.cap w b.row (fun m o wr a=>Nk m wr ((b.ops m o).below a) (l.below a)));have k:q.eV.length=q.n:=by unfold QV.eV;rw[VH];exact b.len
 have h:Hd (Wo.kF q.eV=if 90<q.n then 2 else Wo.de (q.ms.map (fun m=>Wo.Kx m.mg))):=by
  show Wo.kF q.eV=_
  unfold Wo.kF;rw[k];unfold QV.eV;rw[List.map_map];rfl
 obtain⟨R,d⟩:∃R,Wo.kF q.eV=R:=⟨_,rfl⟩;obtain⟨C,f⟩:∃C,Wo.de (q.ms.map (fun m=>Wo.Kx m.mg))=C:=⟨_,rfl⟩;rw[d,f]at h;rw[f]at c;rw[d];clear b l k d f;go_enter func36,ntmps36
 by_cases n:90<q.n
 ·have g:Hd (2=R):=by have:=h.o;rw[VC n]at this;exact this.symm
  have p:decide ((90:Int)<(q.n:Int))=true:=by simp;omega
  clear c;go_wp2
  go_ret
  exact⟨VQ (fun z=>Ending.returned (.int .i64 z)) g.o,VE _ _⟩
 ·have g:Hd (C=R):=by have:=h.o;rw[VD n]at this;exact this.symm
  have p:decide ((90:Int)<(q.n:Int))=false:=by simp;omega
  go_wp2_with fail
  refine c.o.mono ?_
  rintro e r⟨rfl,a⟩;have i:=hId a;clear a c;go_wp2
  go_ret
  exact⟨VQ (fun z=>Ending.returned (.int .i64 z)) g.o,i.o⟩
