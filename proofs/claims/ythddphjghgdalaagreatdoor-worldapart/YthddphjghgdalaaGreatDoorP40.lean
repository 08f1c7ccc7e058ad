/- A part. -/
import Derived.Test.YthddphjghgdalaaGreatDoorP39
set_option maxRecDepth 100000
set_option maxHeartbeats 6400000
namespace Go.Proofs.YthddphjghgdalaaGreatDoor
open Go.RowKit Go.Proofs.Tryz
namespace Wo
def Jq (c c':Kl.Cl):Prop:=∃ b,c'=jo c b
theorem Jq.refl(c:Kl.Cl):Jq c c:=⟨c.jo,rfl⟩
theorem Jq.trans{a b c:Kl.Cl}(h:Jq a b)(g:Jq b c):Jq a c:=by
 obtain⟨x,rfl⟩:=h;obtain⟨y,rfl⟩:=g;exact⟨y,rfl⟩
theorem Jq.back{a b:Kl.Cl}(h:Jq a b):jo b a.jo=a:=by
 obtain⟨x,rfl⟩:=h;rfl
theorem Eh(m:Mg)(v:Vw):Jq v.c (bb m v).c:=by
 rcases tR m v with h|h
 ·rw[h];exact Jq.refl _
 ·rw[h];exact⟨false,rfl⟩
theorem zK{n:Nat}:∀(a:List Mg)(w:W),gi w n->gi (a.foldl dY w) n/\∀j,j<n->Jq (cl w j) (cl (a.foldl dY w) j)
 |[],w,h=>⟨h,fun j _=>Jq.refl _⟩
 |m::a,w,h=>by
  obtain⟨d,i,c⟩:=ow h m;obtain⟨g,f⟩:=zK a (dY w m) d;refine⟨g,fun j b=>Jq.trans ?_ (f j b)⟩
  have e:cl (dY w m) j=(bb m (vw w j)).c:=VQ Vw.c (c j b);rw[e];exact Eh m (vw w j)
theorem KJ{w:W}{n:Nat}(h:gi w n){k:Nat}(b:k<n):gi (zf w k) n/\∀j,j<n->Jq (cl w j) (cl (zf w k) j):=by
 unfold zf
 cases f:vY w k with
 |nil=>exact⟨h,fun j _=>Jq.refl _⟩
 |cons m r=>
  by_cases c:Sv.iV w.s m.rev ⟨k,m.e.seq,m.e.o⟩=0
  ·simp only[VC c]
   obtain⟨a,_,_⟩:=ot h b (Sv.lj w.s m.rev ⟨k,m.e.seq,m.e.o⟩) r;exact zK _ _ a
  ·simp only[VD c]
   obtain⟨a,_,_⟩:=ot h b w.s r;refine⟨a.put _ _,fun j i=>?_⟩
   have e:=VQ Vw.c (xo a b (bb ⟨0,⟨k,m.e.seq,[]⟩⟩ (vw ⟨w.s,w.cs,w.up.set k r,w.dn⟩ k)) j);have d:cl (tell ⟨w.s,w.cs,w.up.set k r,w.dn⟩ ⟨0,⟨k,m.e.seq,[]⟩⟩ k) j=(if j=k then bb ⟨0,⟨k,m.e.seq,[]⟩⟩ (vw ⟨w.s,w.cs,w.up.set k r,w.dn⟩ k)else vw ⟨w.s,w.cs,w.up.set k r,w.dn⟩ j).c:=e;rw[d];by_cases g:j=k
   ·rw[VC g,g];exact Eh _ (vw ⟨w.s,w.cs,w.up.set k r,w.dn⟩ k)
   ·rw[VD g];exact Jq.refl _
theorem Py{w:W}{n:Nat}(h:gi w n){k:Nat}(a:k<n)(v:Vw){j:Nat}(e:j≠k):Jq (cl w j) (cl (put w k v) j):=by
 have b:cl (put w k v) j=cl w j:=VQ Vw.c (mj h a v e);rw[b];exact Jq.refl _
structure UT (w:W) (x:Hp) (v:W) (n:Nat):Prop where
 len:gi v n
 cl:∀ j,j<n->((j:Int)≠x.aR\/x.kind=3)->Jq (cl w j) (cl v j)
 eF:x.kind≠3->v.s=w.s
theorem apart{w:W}{x:Hp}{n:Nat}(h:gi w n)(r:jR w=0)(d:iR w x=0):UT w x (ue w x) n:=by
 have e:ue w x=uQ w x.aR.toNat x:=VC d;rw[e];unfold iR at d;rw[VC r]at d;by_cases p:x.aR<0\/(w.cs.length:Int)<=x.aR
 ·rw[VC p]at d;cases d
 have t:=h.c;obtain⟨k,q⟩:∃k,x.aR.toNat=k:=⟨_,rfl⟩;rw[q];have a:k<n:=by omega
 have c:∀v:Vw,x.kind≠3->UT w x (put w k v) n:=fun v s=>⟨h.put k v,fun j f g=>Py h a v (by rcases g with g|g;omega;exact absurd g s),fun _=>rfl⟩;unfold uQ;by_cases o:x.kind=1
 ·rw[VC o];exact c _ (by omega)
 rw[VD o];by_cases m:x.kind=2
 ·rw[VC m];exact c _ (by omega)
 rw[VD m];by_cases b:x.kind=3
 ·rw[VC b];exact⟨(KJ h a).1,fun j f _=>(KJ h a).2 j f,fun g=>absurd b g⟩
 rw[VD b];by_cases l:x.kind=4
 ·rw[VC l];exact c _ b
 rw[VD l];by_cases i:x.kind=5
 ·rw[VC i];exact c _ b
 rw[VD i];exact c _ b
end Wo
theorem Q6{v:Wo.W}{x:Wo.Hp}(h:Wo.iR v x=0):Wo.jR v=0:=by
 by_cases g:Wo.jR v=0
 ·exact g
 ·unfold Wo.iR at h;rw[VD g]at h;exact h
def Tb (d:CV) (b:Bool):CV:=⟨d.rev,d.ba,d.bn,d.bc,d.base,d.na,d.nn,d.nc,d.now,d.seq,d.sa,d.sn,d.sc,d.aJ,d.ha,d.hn,d.hc,d.held,b⟩
structure UU (v t:WV) (x:HV) (n:Nat):Prop where
 apt:Wo.UT v.w x.hp t.w n
 lv:v.cs.length=n
 lt:t.cs.length=n
 pos:1<=n
theorem UU.same{v t:WV}{x:HV}{n:Nat}(h:UU v t x n){k:Nat}{c d:CV}(a:v.cs[k]?=some c)(e:t.cs[k]?=some d)(g:(k:Int)≠x.aR\/x.kind=3):Kl.same c.cl (Tb d c.jo).cl=true:=by
 have m:=(VO.1 a).1;have l:Wo.cl v.w k=c.cl:=by show(v.cs.map CV.cl).getD k Kl.none=_;rw[WM,List.getElem?_map,a];rfl
 have i:Wo.cl t.w k=d.cl:=by show(t.cs.map CV.cl).getD k Kl.none=_;rw[WM,List.getElem?_map,e];rfl
 have b:=h.apt.cl k (by have:=h.lv;omega) g;rw[l,i]at b;have f:(Tb d c.jo).cl=c.cl:=b.back;rw[f];exact Kl.rC _
theorem Bz(v:WV)(x:HV)(w:World)(S:gD w v)(hX:qq w x)(hG:Gl w w.heap.size):
  Calls prog 3 #[.agg #[.slice v.s.fa v.s.fn v.s.fc,.slice v.s.la v.s.ln v.s.lc,.slice v.s.na v.s.nn v.s.nc,.slice v.ca v.cn v.cc,.slice v.ua v.un v.uc,.slice v.da v.dn v.dc],.agg #[.int .i64 x.kind,.int .i64 x.aR,.int .i64 x.n,.slice x.oa x.on x.oc,.slice x.ya x.yn x.yc]] w fun e w'=>e=.returned (.bool true)/\Below w.heap.size w w':=by
 have n:=(aV v w).trans ((cq x _).mono (aV v w).size);have p:=hId n;have a2:Hd (∀w',Below w.heap.size w w'->Gl w' w'.heap.size):=fun w' h=>(hG.below h).mono h.size (UZ _);have J:Hd (Blk (bQ x (aQ v w)) w.heap.size (eo v) 30):=(bU v w).alloc _;have I:Hd (Blk (bQ x (aQ v w)) (w.heap.size+1) (uO x) 35):=by have:=gR x (aQ v w);rw[cA]at this;exact this
 have a1:=hId (S.below n);have CD:Hd (Calls prog 6 #[.agg #[.slice v.s.fa v.s.fn v.s.fc,.slice v.s.la v.s.ln v.s.lc,.slice v.s.na v.s.nn v.s.nc,.slice v.ca v.cn v.cc,.slice v.ua v.un v.uc,.slice v.da v.dn v.dc],.agg #[.int .i64 x.kind,.int .i64 x.aR,.int .i64 x.n,.slice x.oa x.on x.oc,.slice x.ya x.yn x.yc]] (bQ x (aQ v w)) fun e w'=>(∃t:WV,e=.returned (.tuple #[.agg #[.slice t.s.fa t.s.fn t.s.fc,.slice t.s.la t.s.ln t.s.lc,.slice t.s.na t.s.nn t.s.nc,.slice t.ca t.cn t.cc,.slice t.ua t.un t.uc,.slice t.da t.dn t.dc],.int .i64 (Wo.iR v.w x.hp)])/\gD w' t/\t.w=Wo.ue v.w x.hp/\iu (bQ x (aQ v w)).heap.size w'.heap.size t)/\Below (bQ x (aQ v w)).heap.size (bQ x (aQ v w)) w'):=nz v x _ (S.below n) (hX.below n) (a2.o _ n);have ac:=hId S.lens.1;have a8:Hd (∀t:WV,t.w=Wo.ue v.w x.hp->Wo.iR v.w x.hp=0->UU v t x v.cn):=fun t e h=>by
  have m:=Q6 h;obtain⟨l1,l2,l3⟩:=S.xm;have hA:=Wo.apart ⟨l1,by obtain⟨_,h2,_⟩:=Wo.jh m;omega,by obtain⟨_,h2,_⟩:=Wo.jh m;omega⟩ m h;rw[<-e]at hA;exact⟨hA,S.lens.1,by have:=hA.len.c;have e2:t.w.cs.length=t.cs.length:=VH _;omega,by obtain⟨_,h2,_⟩:=Wo.jh m;omega⟩
 clear S hX hG n;go_enter func3,ntmps3
 go_upto_region 1 with fail
 change Code.wp prog _ _ _ (bQ x (aQ v w));generalize bQ x (aQ v w)=W at*;obtain⟨p0,p1,p2,p3,p4,p5⟩:=vT J.o;obtain⟨x0,x1,x2,x3,x4⟩:=hv5 I.o;generalize Wo.iR v.w x.hp=E at*;generalize Wo.ue v.w x.hp=DW at*;go_wp2_with fail
 refine CD.o.mono ?_
 rintro e T⟨⟨t,rfl,m,X,-⟩,G⟩;have l:=aV t T;have f:=hId (G.trans (l.mono G.size));have o:=hId (m.below l);have P:=hId (bU t T);have a7:=hId (a8.o t X);clear G l m X CD a8 p0 p1 p2 p3 p4 p5 x0 x1 x2 x3 x4;go_upto_region 2 with fail
 change Code.wp prog _ _ _ (aQ t T);generalize aQ t T=q at*;generalize T.heap.size=b5 at*;have CM:Hd (∀w',Below q.heap.size q w'->Calls prog 7 #[] w' fun e a9=>e=.returned (.bool true)/\Below w'.heap.size w' a9):=fun w' G=>yI w' (a2.o w' (p.o.trans ((f.o.trans (G.mono f.o.size)).mono p.o.size)));go_wp2_with fail
 refine(CM.o q (VE _ _)).mono ?_
 rintro e w3⟨rfl,z⟩;have L:=hId z;clear z;by_cases gE:E=0
 ·have U:=hId (a7.o gE);have a5:Hd (∀w',Below q.heap.size q w'->Below w.heap.size w w'):=fun w' G=>p.o.trans ((f.o.trans (G.mono f.o.size)).mono p.o.size);have D:Hd (Blk q w.heap.size (eo v) 30):=(f.o.block _ J.o.lt).trans J.o;have C:Hd (Blk q (w.heap.size+1) (uO x) 35):=(f.o.block _ I.o.lt).trans I.o;have b:=hId (a1.o.below f.o);subst gE;clear a7 J I a1;obtain⟨cb,co,N,-⟩:=b.o.cr.bH (by have:=U.o.pos;omega);have v3:w3.cell? ⟨w.heap.size,3,none⟩=some (.slice (some ⟨cb,co,none⟩) v.cn v.cc):=by rw[<-N];exact aA (D.o.cell 3) L.o
  have af:=hId N;clear N;have az:v.cn<=v.cc/\v.cc<=9223372036854775807:=⟨b.o.cr.room,b.o.cr.fg⟩;go_wp2_with fail
  go_loopw [26] (fun i wr=>∃k:Nat,k<=v.cn/\i=.int .i64 k/\Below q.heap.size q wr) (fun i _=>v.cn-(intOf i).toNat)
  case atStart=>exact⟨0,VN _,rfl,L.o⟩
  case round=>
   obtain⟨k,hk,rfl,Z⟩:=hrel;have a:=hId Z;clear Z v3;by_cases H:k<v.cn
   ·obtain⟨c,hc⟩:∃c,v.cs[k]?=some c:=⟨_,VM (by rw[ac.o];exact H)⟩;obtain⟨d,F⟩:∃d,t.cs[k]?=some d:=⟨_,VM (by rw[U.o.lt];exact H)⟩;have Y:t.cn=v.cn:=by have:=U.o.lt;have:=o.o.lens.1;omega
    obtain⟨m0,m1,m2,m3,m4,m5,m6⟩:=TK (b.o.cr.below a.o) hc af.o;obtain⟨db,dO,M,-⟩:=o.o.cr.bH (by omega);obtain⟨n0,n1,n2,n3,n4,n5,n6⟩:=TK (o.o.cr.below (a.o.trans ((aa c wr).mono a.o.size))) F M;have l:=aa c wr;have z:=aa d (aO c wr);have B:=hId (l.trans (z.mono l.size));have A:=hId (a.o.trans (B.o.mono a.o.size));have a3:Hd (Blk (aO d (aO c wr)) wr.heap.size (fS c) 41):=(cH c wr).alloc _;have K:Hd (Blk (aO d (aO c wr)) (wr.heap.size+1) (fS d) 41):=by have:=cH d (aO c wr);rw[hJ]at this;exact this
    have ae:=hId ((b.o.cl c (WQ hc)).below A.o);have ad:=hId ((o.o.cl d (WQ F)).below A.o);have ab:=hId (U.o.same hc F);have ah:Hd (∀w',Below wr.heap.size wr w'->Below q.heap.size q w'):=fun w' G=>a.o.trans (G.mono a.o.size);have tb:(aO c wr).cell? ⟨b5,3,none⟩=some (.slice (some ⟨db,dO,none⟩) v.cn t.cc):=by rw[<-M,<-Y];exact aA (P.o.cell 3) (a.o.trans (l.mono a.o.size))
    have ay:v.cn<=t.cc:=by have:=o.o.cr.room;omega
    clear hc F Y M l z;go_upto_region 7 with fail
    change Code.wp prog _ _ _ (aO c wr);go_upto_region 8 with fail
    change Code.wp prog _ _ _ (aO d (aO c wr));rw[hJ c wr];generalize aO d (aO c wr)=W3 at*;obtain⟨k0,k1,k2,k3,k4,k5,k6⟩:=Tc a3.o;obtain⟨j0,j1,j2,j3,j4,j5,j6⟩:=Tc K.o;have g6:=K.o.frozen 6;have x0:=aA (C.o.cell 0) A.o;have x1:=aA (C.o.cell 1) A.o;clear m0 m1 m2 m3 m4 m5 m6 n0 n1 n2 n3 n4 n5 n6 tb;go_cut [44]from 36 to 44 (fun r wx=>r=.bool (decide ((k:Int)≠x.aR\/x.kind=3))/\wx=W3)
    case first=>
     by_cases g1:(k:Int)=x.aR
     ·have b1:((k:Int)!=x.aR)=false:=by simpa using g1
      go_wp2
      go_meet
      case rel=>exact⟨by simp[g1];rfl,rfl⟩
     ·have b1:((k:Int)!=x.aR)=true:=by simpa using g1
      go_wp2
      go_meet
      case rel=>exact⟨by simp[g1],rfl⟩
    case rest=>
     obtain⟨rfl,rfl⟩:=hcut;by_cases g:(k:Int)≠x.aR\/x.kind=3
     ·have s:Kept wc (wc.setCell ⟨wr.heap.size+1,6,none⟩ (.bool c.jo)) [wr.heap.size+1]:=(Kept.refl wc _).setCell _ _ (.inl (by simp));have O:∀y∈[wr.heap.size+1],NT wc y:=fun y hy=>by rw[UY.1 hy];exact NT.of K.o rfl
      have a6:=hId (B.o.trans (s.below B.o.size (fun y hy=>by rw[UY.1 hy];omega)));obtain⟨ao,an,am,al,ak,aj,ai⟩:=Tc (s.aM a3.o (by simp));obtain⟨ax,aw,av,au,ar,aq,ap⟩:=Tc (c:=Tb d c.jo) (K.o.set 6 (.bool c.jo));have V:Hd (Calls prog 8 #[.agg #[.int .i64 c.rev,.slice c.ba c.bn c.bc,.slice c.na c.nn c.nc,.int .i64 c.seq,.slice c.sa c.sn c.sc,.slice c.ha c.hn c.hc,.bool c.jo],.agg #[.int .i64 d.rev,.slice d.ba d.bn d.bc,.slice d.na d.nn d.nc,.int .i64 d.seq,.slice d.sa d.sn d.sc,.slice d.ha d.hn d.hc,.bool c.jo]] (wc.setCell ⟨wr.heap.size+1,6,none⟩ (.bool c.jo)) fun e w'=>e=.returned (.bool true)/\Below (wc.setCell ⟨wr.heap.size+1,6,none⟩ (.bool c.jo)).heap.size (wc.setCell ⟨wr.heap.size+1,6,none⟩ (.bool c.jo)) w'):=by
       have F:=ad.o.aw s O;have:=G6 c (Tb d c.jo) _ (ae.o.aw s O) ⟨F.base,F.now,F.aJ,F.held⟩;rw[ab.o g]at this;exact this
      clear s O;go_upto_region 10 with fail
      generalize wc.setCell ⟨wr.heap.size+1,6,none⟩ (.bool c.jo)=W4 at*;go_wp2_with fail
      refine V.o.mono ?_
      rintro e w5⟨rfl,u⟩;have Q:=hId (ah.o _ (a6.o.trans (u.mono a6.o.size)));clear u V;go_wp2
      go_roundw
      case rel=>exact⟨k+1,H,by go_num,Q.o⟩
      case measure=>simp[intOf];omega
     ·go_wp2
      go_roundw
      case rel=>exact⟨k+1,H,by go_num,A.o⟩
      case measure=>simp[intOf];omega
   ·obtain rfl:k=v.cn:=by omega
    have x0:=aA (C.o.cell 0) a.o;by_cases g3:x.kind=3
    ·have b3:(x.kind==3)=true:=by simpa using g3
     have ag:=hId (a5.o _ a.o);go_wp2
     go_ret
     exact⟨rfl,ag.o⟩
    ·have b3:(x.kind==3)=false:=by simpa using g3
     obtain⟨p0,p1,p2,-⟩:=vT ((a.o.block _ D.o.lt).trans D.o);obtain⟨q0,q1,q2,-⟩:=vT ((a.o.block _ P.o.lt).trans P.o);have V:Hd (Calls prog 9 #[.agg #[.slice v.s.fa v.s.fn v.s.fc,.slice v.s.la v.s.ln v.s.lc,.slice v.s.na v.s.nn v.s.nc],.agg #[.slice t.s.fa t.s.fn t.s.fc,.slice t.s.la t.s.ln t.s.lc,.slice t.s.na t.s.nn t.s.nc]] wr fun e w'=>e=.returned (.bool true)/\Below wr.heap.size wr w'):=by
      have:=G5 v.s t.s wr (b.o.eF.below a.o) (o.o.eF.below a.o);have e:t.s.se=v.s.se:=U.o.apt.eF g3;rw[e,Sv.tk]at this;exact this
     go_wp2_with fail
     refine V.o.mono ?_
     rintro e w5⟨rfl,u⟩;have Q:=hId (a5.o _ (a.o.trans (u.mono a.o.size)));clear u V;go_wp2
     go_ret
     exact⟨rfl,Q.o⟩
 ·have a4:=hId (p.o.trans ((f.o.trans (L.o.mono f.o.size)).mono p.o.size));have sE:(E !=0)=true:=by simpa using gE
  go_wp2_with fail
  refine(CM.o w3 L.o).mono ?_
  rintro e w4⟨rfl,a0⟩;have B:=hId (a4.o.trans (a0.mono a4.o.size));clear a0;go_wp2
  go_ret
  exact⟨rfl,B.o⟩
