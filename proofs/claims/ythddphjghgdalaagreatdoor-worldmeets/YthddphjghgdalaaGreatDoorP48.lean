/- A part. -/
import Derived.Test.YthddphjghgdalaaGreatDoorP39
import Derived.Test.YthddphjghgdalaaGreatDoorP44
set_option maxRecDepth 100000
set_option maxHeartbeats 12800000
namespace Go.Proofs.YthddphjghgdalaaGreatDoor
open Go.RowKit Go.Proofs.Tryz
namespace Wo
def tr (k:Nat):Nat->W->W
 | 0,w=>iz w k
 | 1,w=>qt (hp 4 k) 70 (qt (hp 3 k) 70 w)
 | 2,w=>qt (hp 4 k) 70 w
 | _+3,w=>w
def kd:Nat->Int
 | 0=>6
 | 1=>3
 | _+2=>4
theorem Mw(k:Nat)(w:W):∀j,j<3->tr k j w=tr k (j+1) (qt (hp (kd j) k) 70 w)
 |0,_=>rfl
 |1,_=>rfl
 |2,_=>rfl
 |j+3,h=>by omega
theorem Sl(j:Nat):kd j≠2:=by
 match j with
 |0=>exact(by decide:(6:Int)≠2)
 |1=>exact(by decide:(3:Int)≠2)
 |_+2=>exact(by decide:(4:Int)≠2)
theorem PK(w:W)(b:Int)(k:Nat)(a:Int)(d:List It)(h:b≠2):iR w ⟨b,k,0,[],a,d⟩=iR w (hp b k)/\ue w ⟨b,k,0,[],a,d⟩=ue w (hp b k):=by
 have e:iR w ⟨b,k,0,[],a,d⟩=iR w (hp b k):=by
  unfold iR nM hp;simp only[VD h]
 refine⟨e,?_⟩
 unfold ue;rw[e];unfold uQ hp;simp only[VD h]
end Wo
structure Br (w:World) (n g:Nat) (u:WV) (wr:World):Prop where
 box:Blk wr w.heap.size (eo u) 30
 iM:Blk wr (w.heap.size+1) (eo bX) 30
 nV:gD wr u
 inv:Wo.Inv u.w n
 cu:∀ s x,s≠0->bk 0 u s=some x->x≠w.heap.size/\x≠w.heap.size+1/\x<wr.heap.size/\x≠g
 below:Below w.heap.size w wr
theorem Br.mono{w:World}{n g:Nat}{u:WV}{wr w':World}(h:Br w n g u wr)(a:Below wr.heap.size wr w'):Br w n g u w':=
 ⟨(a.block _ h.box.lt).trans h.box,(a.block _ h.iM.lt).trans h.iM,h.nV.below a,h.inv,fun s x b e=>⟨(h.cu s x b e).1,(h.cu s x b e).2.1,WJ (h.cu s x b e).2.2.1 a.size,(h.cu s x b e).2.2.2⟩,h.below.trans (a.mono h.below.size)⟩
theorem Br.put{w:World}{n g:Nat}{u t:WV}{wr:World}(h:Br w n g u wr)(k:g<w.heap.size)(f:gD wr t)(i:Wo.Inv t.w n)(c:∀s x,s≠0->bk 0 t s=some x->w.heap.size+1<x/\x<wr.heap.size):Br w n g t (cO wr w.heap.size t):=by
 have b:=bP wr w.heap.size t;have a:=h.below.size;exact⟨dM h.box,b.aM h.iM (by simp),f.mY (g:=w.heap.size) (fun s x a e=>by have:=(c s x a e).1;omega) b (NT.iJ h.box),i,fun s x a e=>by have:=c s x a e;have:=b.size;omega,h.below.trans (b.below (by omega) (fun x d=>by rw[UY.1 d];exact UZ _))⟩
theorem Br.ret{w:World}{n g:Nat}{u:WV}{wr:World}(h:Br w n g u wr):Blk (cO wr (w.heap.size+1) u) (w.heap.size+1) (eo u) 30/\gD (cO wr (w.heap.size+1) u) u/\Below w.heap.size w (cO wr (w.heap.size+1) u):=by
 have b:=bP wr (w.heap.size+1) u;have a:=h.below.size;exact⟨dM h.iM,h.nV.mY (g:=w.heap.size+1) (fun s x a e=>(h.cu s x a e).2.1) b (NT.iJ h.iM),h.below.trans (b.below (by omega) (fun x c=>by rw[UY.1 c];omega))⟩
theorem Br.cn{w:World}{n g:Nat}{u:WV}{wr:World}(h:Br w n g u wr):u.cn=n:=by
 have:=h.inv.len.c;have e:u.w.cs.length=u.cs.length:=VH _;have:=h.nV.lens.1;omega
theorem Cy{n k:Nat}(h:k<n):(List.range n).drop k=k::(List.range n).drop (k+1):=by
 rw[VU (by rw[List.length_range];exact h),List.getElem_range]
theorem N4{w:World}{g:Nat}{T:TypeId}(h:Blk w g [.int .i64 6,.int .i64 3,.int .i64 4] T):∀j,j<3->w.cell? ⟨g,j,none⟩=some (.int .i64 (Wo.kd j))
 |0,_=>h.cell 0
 |1,_=>h.cell 1
 |2,_=>h.cell 2
 |j+3,a=>by omega
theorem MD(v:WV)(n g:Nat)(w:World)(hW:gD w v)(d:Wo.Inv v.w n)(ad:g<w.heap.size)(hf:∀s x,s≠0->bk 0 v s=some x->x<w.heap.size/\x≠g)(hG:Gl w w.heap.size):
  Calls prog 14 #[.agg #[.slice v.s.fa v.s.fn v.s.fc,.slice v.s.la v.s.ln v.s.lc,.slice v.s.na v.s.nn v.s.nc,.slice v.ca v.cn v.cc,.slice v.ua v.un v.uc,.slice v.da v.dn v.dc]] w fun e w'=>(∃t:WV,e=.returned (.agg #[.slice t.s.fa t.s.fn t.s.fc,.slice t.s.la t.s.ln t.s.lc,.slice t.s.na t.s.nn t.s.nc,.slice t.ca t.cn t.cc,.slice t.ua t.un t.uc,.slice t.da t.dn t.dc])/\gD w' t/\t.w=Wo.calm v.w 8/\∀s x,s≠0->bk 0 t s=some x->x≠g)/\Below w.heap.size w w':=by
 have L:=(aV v w).trans ((aV bX _).mono (aV v w).size);have aa:(aQ bX (aQ v w)).heap.size=w.heap.size+1+1:=by rw[cA,cA]
 have ak:Hd (∀w',Below w.heap.size w w'->Gl w' w'.heap.size):=fun w' h=>(hG.below h).mono h.size (UZ _);have aj:Hd (Br w n g v (aQ bX (aQ v w))):=⟨(bU v w).alloc _,by have:=bU bX (aQ v w);rw[cA]at this;exact this,hW.below L,d,fun s x X e=>by have:=hf s x X e;omega,L⟩;have HN:Hd (1<=n/\n<=4):=⟨d.lo,d.hi⟩;have av:=d.hi;obtain⟨C,hC⟩:∃C,Wo.calm v.w 8=C:=⟨_,rfl⟩;have an:Hd (Wo.calm v.w (8-0)=C):=hC;have ap:Hd (∀(u:WV)(B:Int)(k:Nat)(w':World),B≠2->Br w n g u w'->Calls prog 6 #[.agg #[.slice u.s.fa u.s.fn u.s.fc,.slice u.s.la u.s.ln u.s.lc,.slice u.s.na u.s.nn u.s.nc,.slice u.ca u.cn u.cc,.slice u.ua u.un u.uc,.slice u.da u.dn u.dc],.agg #[.int .i64 B,.int .i64 k,.int .i64 0,.slice none 0 0,.slice none 0 0]] w' fun e y=>(∃(t:WV)(E:Int),e=.returned (.tuple #[.agg #[.slice t.s.fa t.s.fn t.s.fc,.slice t.s.la t.s.ln t.s.lc,.slice t.s.na t.s.nn t.s.nc,.slice t.ca t.cn t.cc,.slice t.ua t.un t.uc,.slice t.da t.dn t.dc],.int .i64 E])/\gD y t/\E=Wo.iR u.w (Wo.hp B k)/\t.w=Wo.ue u.w (Wo.hp B k)/\∀s x,s≠0->bk 0 t s=some x->w'.heap.size<=x/\x<y.heap.size)/\Below w'.heap.size w' y):=fun u B k w' hk h=>(nz u (Mk B k) w' h.nV ⟨⟨Row.nil w' 7,fun v hv=>by cases hv⟩,Row.nil w' 1⟩ (ak.o w' h.below)).mono fun e y g=>⟨g.1.elim fun t g=>⟨t,_,g.1,g.2.1,(Wo.PK u.w B k (Kd []) (Ey []) hk).1,g.2.2.1.trans (Wo.PK u.w B k (Kd []) (Ey []) hk).2,g.2.2.2⟩,g.2⟩;rw[hC];clear hW d hf hG L aa hC;go_enter func14,ntmps14
 go_upto_region 1 with fail
 change Code.wp prog _ _ _ (aQ bX (aQ v w));generalize aQ bX (aQ v w)=W at*;go_wp2
 go_loopw [8] (fun i wr=>∃(a:Nat)(u:WV),a<=8/\i=.int .i64 a/\Br w n g u wr/\Wo.calm u.w (8-a)=C) (fun i _=>8-(intOf i).toNat)
 case atStart=>exact⟨0,v,VN _,rfl,aj.o,an.o⟩
 case round=>
  obtain⟨a,u,ha,rfl,d,o⟩:=hrel;have b:=hId d;have f:=hId o;clear d o;by_cases ac:a<8
  ·obtain⟨J,a2⟩:∃J:Wo.W->Wo.W,∀x,J x=Wo.calm x (8-(a+1)):=⟨_,fun _=>rfl⟩;have a5:=hId a2;have a8:Hd (J (((List.range n).drop 0).foldl Wo.iz u.w)=C):=by
    show _=_
    have h:=f.o;rw[show 8-a=(8-(a+1))+1 by omega]at h;have m:Wo.calm (Wo.round u.w) (8-(a+1))=C:=h;rw[a5.o,<-m,Wo.round,b.o.inv.len.c];rfl
   have c3:wr.cell? ⟨w.heap.size,3,none⟩=some (.slice u.ca n u.cc):=by have:=b.o.box.cell 3;have e:=b.o.cn;rw[<-e];exact this
   clear a2;have aq:decide ((a:Int)<8)=true:=by simp;omega
   go_wp2
   go_loopw [13] (fun i wr=>∃(k:Nat)(u:WV),k<=n/\i=.int .i64 k/\Br w n g u wr/\J (((List.range n).drop k).foldl Wo.iz u.w)=C) (fun i _=>n-(intOf i).toNat)
   case atStart=>exact⟨0,u,VN _,rfl,b.o,a8.o⟩
   case round=>
    clear b f a8 c3;obtain⟨k,u,hk,rfl,d,o⟩:=hrel;have b:=hId d;have f:=hId o;clear d o;by_cases Z:k<n
    ·obtain⟨D,a1⟩:∃D:Wo.W->Wo.W,∀x,D x=J (((List.range n).drop (k+1)).foldl Wo.iz x):=⟨_,fun _=>rfl⟩;have a4:=hId a1;have a7:Hd (D (Wo.tr k 0 u.w)=C):=by
      show _=_
      have h:=f.o;rw[Cy Z]at h;rw[a4.o];exact h
     clear a1;have a9:Hd (Below wr.heap.size wr (wr.alloc (.cells #[.int .i64 6,.int .i64 3,.int .i64 4] 3))):=(VE _ _).alloc (UZ _) _;have a3:=hId (b.o.mono a9.o);have c:Hd (Blk (wr.alloc (.cells #[.int .i64 6,.int .i64 3,.int .i64 4] 3)) wr.heap.size [.int .i64 6,.int .i64 3,.int .i64 4] 3):=Blk.new _ _ _;have ar:=b.o.iM.lt;go_wp2
     generalize wr.alloc (.cells #[.int .i64 6,.int .i64 3,.int .i64 4] 3)=WK at*;generalize wr.heap.size=gk at*;go_loopw [18] (fun i wr=>∃(j:Nat)(u:WV),j<=3/\i=.int .i64 j/\Br w n g u wr/\Blk wr gk [.int .i64 6,.int .i64 3,.int .i64 4] 3/\D (Wo.tr k j u.w)=C) (fun i _=>3-(intOf i).toNat)
     case atStart=>exact⟨0,u,VN _,rfl,a3.o,c.o,a7.o⟩
     case round=>
      clear b f a7 a3 c a9;obtain⟨j,u,hj,rfl,d,p,o⟩:=hrel;have b:=hId d;have c:=hId p;have f:=hId o;clear d o p;by_cases z:j<3
      ·obtain⟨I,a0⟩:∃I:Wo.W->Wo.W,∀x,I x=D (Wo.tr k (j+1) x):=⟨_,fun _=>rfl⟩;have T:=hId a0;have kc:=N4 c.o j z;have ag:=hId (Wo.Sl j);have aw:decide ((j:Int)<3)=true:=by simp;omega
       have a6:Hd (I (Wo.qt (Wo.hp (Wo.kd j) k) (70-0) u.w)=C):=by
        show _=_
        rw[T.o,<-Wo.Mw k u.w j z];exact f.o
       clear a0;generalize Wo.kd j=V at*;go_wp2
       go_loopw [22] (fun i wr=>∃(q:Nat)(u:WV),q<=70/\i=.int .i64 q/\Br w n g u wr/\Blk wr gk [.int .i64 6,.int .i64 3,.int .i64 4] 3/\I (Wo.qt (Wo.hp V k) (70-q) u.w)=C) (fun i _=>70-(intOf i).toNat)
       case atStart=>exact⟨0,u,VN _,rfl,b.o,c.o,a6.o⟩
       case round=>
        clear b f a6 c kc;obtain⟨q,u,hq,rfl,d,p,o⟩:=hrel;have b:=hId d;have c:=hId p;have f:=hId o;clear d o p;by_cases ab:q<70
        ·obtain⟨o0,o1,o2,o3,o4,o5⟩:=vT b.o.box;have CD:=ap.o u V k wr ag.o b.o;have au:decide ((q:Int)<70)=true:=by simp;omega
         go_wp2_with fail
         refine CD.mono ?_
         rintro e G⟨⟨t,E,rfl,Y,hE,K,F⟩,hb⟩;have A:=aV t G;have M:=hb.trans (A.mono hb.size);have r:=hId (b.o.mono M);have O:=hId (bU t G);have N:=hId (Y.below A);have Q:Hd (Blk (aQ t G) gk [.int .i64 6,.int .i64 3,.int .i64 4] 3):=(M.block _ c.o.lt).trans c.o;have U:Hd (∀s x,s≠0->bk 0 t s=some x->w.heap.size+1<x/\x<(aQ t G).heap.size):=fun s x X e=>by have:=F s x X e;have:=b.o.iM.lt;have:=A.size;omega
         have S:Hd (E=0->Wo.Inv t.w n/\I (Wo.qt (Wo.hp V k) (70-(q+1)) t.w)=C):=fun h0=>by
          have H:Wo.iR u.w (Wo.hp V k)=0:=by rw[<-hE];exact h0
          refine⟨by rw[K];exact b.o.inv.step _ H,?_⟩
          have m:=f.o;rw[show 70-q=(70-(q+1))+1 by omega,Wo.qt,VC H,<-K]at m;exact m
         have P:Hd (E≠0->I u.w=C):=fun h0=>by
          have H:¬Wo.iR u.w (Wo.hp V k)=0:=by rw[<-hE];exact h0
          have m:=f.o;rw[show 70-q=(70-(q+1))+1 by omega,Wo.qt,VD H]at m;exact m
         clear CD Y hE K F hb A M o0 o1 o2 o3 o4 o5 b f c;go_upto_region 12 with fail
         change Code.wp prog _ _ _ (aQ t G);generalize aQ t G=W5 at*;generalize G.heap.size=g5 at*;by_cases gE:E=0
         ·obtain⟨i1,i2⟩:=S.o gE;have ai:=hId (r.o.put ad N.o i1 U.o);have ah:=hId ((bP W5 w.heap.size t).aM Q.o (by simp;omega));have am:=hId i2;obtain⟨o0,o1,o2,o3,o4,o5⟩:=vT O.o;obtain⟨z0,z1,z2,z3,z4,z5⟩:=vT r.o.box;obtain⟨f0,f1,f2,f3,f4,f5⟩:=PG r.o.box;subst gE;clear i1 i2 S P r O N Q U;go_upto_region 14 with fail
          change Code.wp prog _ _ _ (cO W5 w.heap.size t);generalize cO W5 w.heap.size t=W6 at*;clear o0 o1 o2 o3 o4 o5 z0 z1 z2 z3 z4 z5 f0 f1 f2 f3 f4 f5;go_wp2
          go_roundw
          case rel=>exact⟨q+1,t,ab,by go_num,ai.o,ah.o,am.o⟩
          case measure=>simp[intOf];omega
         ·have sE:(E !=0)=true:=by simpa using gE
          have l:Hd (D (Wo.tr k (j+1) u.w)=C):=by have h:=P.o gE;rw[T.o]at h;exact h
          clear S P O N U;go_wp2
          go_roundw
          case rel=>exact⟨j+1,u,z,by go_num,r.o,Q.o,l.o⟩
          case measure=>simp[intOf];omega
        ·obtain rfl:q=70:=by omega
         have l:Hd (D (Wo.tr k (j+1) u.w)=C):=by have h:I u.w=C:=f.o;rw[T.o]at h;exact h
         go_wp2
         go_roundw
         case rel=>exact⟨j+1,u,z,by go_num,b.o,c.o,l.o⟩
         case measure=>simp[intOf];omega
      ·obtain rfl:j=3:=by omega
       have l:Hd (J (((List.range n).drop (k+1)).foldl Wo.iz u.w)=C):=by have h:D u.w=C:=f.o;rw[a4.o]at h;exact h
       go_wp2
       go_roundw
       case rel=>exact⟨k+1,u,Z,by go_num,b.o,l.o⟩
       case measure=>simp[intOf];omega
    ·obtain rfl:k=n:=by omega
     have l:Hd (Wo.calm u.w (8-(a+1))=C):=by
      have h:=f.o;rw[WI (by rw[List.length_range];exact UZ _)]at h;have m:J u.w=C:=h;rw[a5.o]at m;exact m
     go_wp2
     go_roundw
     case rel=>exact⟨a+1,u,ac,by go_num,b.o,l.o⟩
     case measure=>simp[intOf];omega
  ·obtain rfl:a=8:=by omega
   have al:Hd (u.w=C):=f.o;obtain⟨H,m,h3⟩:=b.o.ret;have ae:=hId H;have af:=hId m;have ao:=hId h3;obtain⟨o0,o1,o2,o3,o4,o5⟩:=vT b.o.box;obtain⟨z0,z1,z2,z3,z4,z5⟩:=vT b.o.iM;obtain⟨f0,f1,f2,f3,f4,f5⟩:=PG b.o.iM;clear H m h3;go_wp2
   change bodyPost prog _ _ Exit.ret _ (cO wr (w.heap.size+1) u);exact VL (results_cell_row rfl _ _ (w.heap.size+1) 30 (eo u).toArray (0,0) _ rfl ae.o underlying30 rfl (Tryz.M7 u)) rfl ⟨⟨u,rfl,af.o,al.o,fun s x X e=>(b.o.cu s x X e).2.2.2⟩,ao.o⟩
theorem DI(u:WV)(w:World):Calls prog 13 #[.agg #[.slice u.s.fa u.s.fn u.s.fc,.slice u.s.la u.s.ln u.s.lc,.slice u.s.na u.s.nn u.s.nc,.slice u.ca u.cn u.cc,.slice u.ua u.un u.uc,.slice u.da u.dn u.dc]] w fun e w'=>e=.returned (.bool true)/\Below w.heap.size w w':=by
 have a:=hId (aV u w);go_enter func13,ntmps13
 go_wp2
 go_ret
 exact⟨rfl,a.o⟩
theorem qr1{w:World}{a:Option Addr}{n d:Nat}{g:List QV}(h:Row w a n d 1 (ak g)){k:Nat}{q:QV}(i:g[k]?=some q){b c:Nat}(e:a=some ⟨b,c,none⟩):w.cell? ⟨b,c+k,none⟩=some (.slice q.a q.n q.cap):=by
 have p:=h.len;rw[kr]at p;have t:=(VO.1 i).1;obtain⟨u,o,m,r⟩:=h.bH (by omega);rw[e]at m
 cases m
 refine r k _ ?_
 have l:=get_at (f:=tt) (s:=1) (sp:=[]) (fun _=>rfl) i 0 (by decide);rw[VY,Nat.mul_one,Nat.add_zero]at l;exact l
structure MeK (t:WV) (c:CV) (q d:QV):Prop where
 jo:c.jo=true
 rev:c.rev=t.s.ln
 sn:c.sn=0
 hn:c.hn=0
 now:c.now=t.s.now
 q:q.n=0
 d:d.n=0
theorem SZ{w:World}{t:WV}{k:Nat}(b:gD w t)(h:Wo.Met t.w k){c:CV}{q d:QV}(i:t.cs[k]?=some c)(f:t.up[k]?=some q)(g:t.down[k]?=some d):MeK t c q d:=by
 have v:(Wo.vw t.w k).c=c.cl:=by show(t.cs.map CV.cl).getD k Kl.none=_;rw[WM,List.getElem?_map,i];rfl
 have u:(Wo.vw t.w k).u=q.eV:=by show(t.up.map QV.eV).getD k []=_;rw[WM,List.getElem?_map,f];rfl
 have e3:(Wo.vw t.w k).d=d.eV:=by show(t.down.map QV.eV).getD k []=_;rw[WM,List.getElem?_map,g];rfl
 obtain⟨s,r,p,o,n,m,l⟩:=h;rw[v]at s r p o n;rw[u]at m;rw[e3]at l;have a:=b.cl c (WQ i);refine⟨s,?_,?_,?_,n,?_,?_⟩
 ·have e:t.w.s.log.length=t.s.ln:=by show(t.s.log.map EV.en).length=_;rw[VH];exact b.eF.log.len
  rw[<-e];exact r
 ·have:(c.aJ.map PV.pt).length=0:=p;rw[VH,a.aJ.len]at this;exact this
 ·have:(c.held.map PV.pt).length=0:=o;rw[VH,a.held.len]at this;exact this
 ·have:(q.ms.map MV.mg).length=0:=m;rw[VH,(b.uq q (WQ f)).len]at this;exact this
 ·have:(d.ms.map MV.mg).length=0:=l;rw[VH,(b.dq d (WQ g)).len]at this;exact this
theorem Bu(ao:Option Addr)(m z:Nat)(l:List It)(q:Int)(la:Option Addr)(ln lc:Nat)(xs:List HV)(w:World)(hD:cy w ao m z l)(hR:Row w la ln lc 5 (eI xs))(hX:∀x∈xs,qq w x)(hG:Gl w w.heap.size):
  Calls prog 4 #[.slice ao m z,.int .i64 q,.slice la ln lc] w fun e w'=>e=.returned (.bool true)/\Below w.heap.size w w':=by
 have I:Hd (∀w',Below w.heap.size w w'->Gl w' w'.heap.size):=fun w' h=>(hG.below h).mono h.size (UZ _);have CM:=hId (fun w' f=>yI w' (I.o w' f));have CC:=hId (fun w' f=>iq ao m z l w' (hD.below f) (I.o w' f).zt.Be);have CP:Hd (∀(n:Nat)(w':World),Dc.check l=0->1<=n->n<=4->Below w.heap.size w w'->Calls prog 11 #[.slice ao m z,.int .i64 n,.slice la ln lc,.func (.func 13) #[] #[]] w' fun e L=>(∃t:WV,e=.returned (.tuple #[.agg #[.slice t.s.fa t.s.fn t.s.fc,.slice t.s.la t.s.ln t.s.lc,.slice t.s.na t.s.nn t.s.nc,.slice t.ca t.cn t.cc,.slice t.ua t.un t.uc,.slice t.da t.dn t.dc],.bool true])/\gD L t/\Wo.Inv t.w n/\iu w'.heap.size L.heap.size t)/\Below w'.heap.size w' L):=fun n w' hc h1 h4 f=>tz _ (.inl rfl) ao m z l n la ln lc xs w' (hD.below f) hc h1 h4 (hR.below f) (fun x hx=>(hX x hx).below f) (I.o w' f) (fun u w2 _ _ _=>DI u w2);clear hD hR hX hG;generalize Dc.check l=E at*;go_enter func4,ntmps4
 go_wp2_with fail
 refine(CM.o w (VE _ _)).mono ?_
 rintro e w1⟨rfl,a6⟩;have Y:=hId a6;clear a6;go_wp2_with fail
 refine(CC.o w1 Y.o).mono ?_
 rintro e w2⟨rfl,a5⟩;have b:=hId (Y.o.trans (a5.mono Y.o.size));clear a5;by_cases gE:E=0
 ·have CA:=EO q 4 w2 (by decide) (by decide);have a9:=hId (fun n w' h1 h4 f=>CP.o n w' gE h1 h4 f);subst gE;clear CP;go_wp2_with fail
  refine CA.mono ?_
  rintro e w3⟨⟨r,rfl,hr⟩,rfl⟩;have hw:wrap64 (1+(r:Int))=((r+1:Nat):Int):=by have:=(wrap_add (g:=1) (q:=r) (gq:=r+1) (by omega) (by omega)).1;exact this
  have Z:=a9.o (r+1) w3 (by omega) (by omega) b.o;obtain⟨n,hn⟩:∃n,r+1=n:=⟨_,rfl⟩;rw[hn]at hw Z;clear a9 CA hr hn;go_wp2_with fail
  refine Z.mono ?_
  rintro e w4⟨⟨t0,rfl,o,P,d⟩,G⟩;have T:=aV t0 w4;have D:=hId ((b.o.trans (G.mono b.o.size)).trans (T.mono (VX b.o.size G.size)));have K:=hId (bU t0 w4);have ad:=hId (VX b.o.size G.size);have X:=hId P;have CK:=hId (MD t0 n w4.heap.size _ (o.below T) P (by rw[cA];omega) (fun s x hs e=>by have:=d s x hs e;rw[cA];omega) (I.o _ D.o));clear G T o P d Z;go_upto_region 4 with fail
  change Code.wp prog _ _ _ (aQ t0 w4);generalize aQ t0 w4=W at*;generalize w4.heap.size=g at*;obtain⟨o0,o1,o2,o3,o4,o5⟩:=vT K.o;go_wp2_with fail
  refine CK.o.mono ?_
  rintro e w6⟨⟨t,rfl,o,N,d⟩,F⟩;have y:Blk w6 g (eo t0) 30:=(F.block _ K.o.lt).trans K.o;have O:=bP w6 g t;have a7:=hId ((D.o.trans (F.mono D.o.size)).trans (O.below (VX D.o.size F.size) (fun x hx=>by rw[UY.1 hx];exact ad.o)));have a:=hId (o.mY (g:=g) d O (NT.iJ y));have H:Hd (Blk (cO w6 g t) g (eo t) 30):=dM y;have a1:=Wo.Fj X.o;have B:Hd (Wo.Inv t.w n):=by rw[N];exact a1.1
  have ac:Hd (∀k,k<n->Wo.Met t.w k):=fun k hk=>by rw[N];exact Wo.meets X.o k hk
  obtain⟨z0,z1,z2,z3,z4,z5⟩:=vT y;obtain⟨f0,f1,f2,f3,f4,f5⟩:=PG y;clear o N d F y O a1 CK o0 o1 o2 o3 o4 o5 K X D;go_upto_region 7 with fail
  change Code.wp prog _ _ _ (cO w6 g t);generalize cO w6 g t=W7 at*;clear z0 z1 z2 z3 z4 z5 f0 f1 f2 f3 f4 f5;obtain⟨l1,l2,l3⟩:=a.o.lens;have ec:t.cs.length=n:=by have:=B.o.len.c;have e:t.w.cs.length=t.cs.length:=VH _;omega
  have eu:t.up.length=n:=by have:=B.o.len.u;have e:t.w.up.length=t.up.length:=VH _;omega
  have ed:t.down.length=n:=by have:=B.o.len.d;have e:t.w.dn.length=t.down.length:=VH _;omega
  have ab:=B.o.lo;obtain⟨cb,co,S,-⟩:=a.o.cr.bH (by omega);obtain⟨ub,uo,M,-⟩:=a.o.ur.bH (by omega);obtain⟨db,dO,Q,-⟩:=a.o.dr.bH (by omega);have rc:=a.o.cr.room;have ru:=a.o.ur.room;have rd:=a.o.dr.room;have e3:W7.cell? ⟨g,3,none⟩=some (.slice (some ⟨cb,co,none⟩) n t.cc):=by rw[<-S,show n=t.cn by omega];exact H.o.cell 3
  have e4:W7.cell? ⟨g,4,none⟩=some (.slice (some ⟨ub,uo,none⟩) n t.uc):=by rw[<-M,show n=t.un by omega];exact H.o.cell 4
  have e5:W7.cell? ⟨g,5,none⟩=some (.slice (some ⟨db,dO,none⟩) n t.dc):=by rw[<-Q,show n=t.dn by omega];exact H.o.cell 5
  obtain⟨-,e1,e2⟩:=mi H.o;have HA:Hd (t.ca=some ⟨cb,co,none⟩/\t.ua=some ⟨ub,uo,none⟩/\t.da=some ⟨db,dO,none⟩):=⟨S,M,Q⟩;have V:Hd (t.cs.length=n/\t.up.length=n/\t.down.length=n):=⟨ec,eu,ed⟩;have an:n<=t.cc:=by omega
  have al:n<=t.uc:=by omega
  have am:n<=t.dc:=by omega
  have ap:=B.o.hi;clear S M Q ec eu ed l1 l2 l3 rc ru rd ab;go_wp2
  go_loopw [35] (fun i wr=>∃k:Nat,k<=n/\i=.int .i64 k/\Below W7.heap.size W7 wr) (fun i _=>n-(intOf i).toNat)
  case atStart=>exact⟨0,VN _,rfl,VE _ _⟩
  case round=>
   obtain⟨k,hk,rfl,a2⟩:=hrel;have J:=hId a2;clear a2;by_cases v:k<n
   ·obtain⟨c,hc⟩:∃c,t.cs[k]?=some c:=⟨_,VM (by rw[V.o.1];exact v)⟩;obtain⟨qu,hq⟩:∃c,t.up[k]?=some c:=⟨_,VM (by rw[V.o.2.1];exact v)⟩;obtain⟨qd,hd⟩:∃c,t.down[k]?=some c:=⟨_,VM (by rw[V.o.2.2];exact v)⟩;have hm:=SZ a.o (ac.o k v) hc hq hd;have a0:=a.o.below J.o;obtain⟨m0,m1,m2,m3,m4,m5,m6⟩:=TK a0.cr hc HA.o.1;have a3:=aa c wr;have U:=J.o.trans (a3.mono J.o.size);have C:=hId U;have p:=a.o.below U;have A:=hId (cH c wr);have HQ:Hd ((aO c wr).cell? ⟨ub,uo+k,none⟩=some (.slice qu.a 0 qu.cap)):=by have:=qr1 p.ur hq HA.o.2.1;rw[hm.q]at this;exact this
    have HD:Hd ((aO c wr).cell? ⟨db,dO+k,none⟩=some (.slice qd.a 0 qd.cap)):=by have:=qr1 p.dr hd HA.o.2.2;rw[hm.d]at this;exact this
    have HM:=hId hm;have a8:Hd (Calls prog 15 #[.slice c.na c.nn c.nc,.slice t.s.na t.s.nn t.s.nc] (aO c wr) fun e w'=>e=.returned (.bool true)/\∃m,w'=(aO c wr).drewN m):=by
     have:=gJ c.na t.s.na c.nn c.nc t.s.nn t.s.nc c.now t.s.now _ (p.cl c (WQ hc)).now p.eF.now;rw[hm.now,Sv.nJ]at this;exact this
    clear hc hq hd hm a0 a3 U p;go_upto_region 10 with fail
    change Code.wp prog _ _ _ (aO c wr);generalize aO c wr=W8 at*;generalize wr.heap.size=b8 at*;have k6:W8.cell? ⟨b8,6,none⟩=some (.bool true):=by rw[<-HM.o.jo];exact A.o.cell 6
    have k0:W8.cell? ⟨b8,0,none⟩=some (.int .i64 t.s.ln):=by rw[<-HM.o.rev];exact A.o.cell 0
    have k4:W8.cell? ⟨b8,4,none⟩=some (.slice c.sa 0 c.sc):=by have:=A.o.cell 4;have e:=HM.o.sn;rw[<-e];exact this
    have k5:W8.cell? ⟨b8,5,none⟩=some (.slice c.ha 0 c.hc):=by have:=A.o.cell 5;have e:=HM.o.hn;rw[<-e];exact this
    have k2:=IJ A.o;have ak:=aA e1 C.o;have aj:=aA e2 C.o;have ai:=aA e4 C.o;have ah:=aA e5 C.o;have q1:=HQ.o;have d1:=HD.o;clear m0 m1 m2 m3 m4 m5 m6 HQ HD;go_wp2_with fail
    refine a8.o.mono ?_
    rintro e w9⟨rfl,mm,rfl⟩;have af:=hId (Go.below_drewN C.o mm);clear a8;go_wp2
    go_roundw
    case rel=>exact⟨k+1,v,by go_num,af.o⟩
    case measure=>simp[intOf];omega
   ·obtain rfl:k=n:=by omega
    have ae:=hId (a7.o.trans (J.o.mono a7.o.size));go_wp2
    go_ret
    exact⟨rfl,ae.o⟩
 ·have sE:(E !=0)=true:=by simpa using gE
  go_wp2_with fail
  refine(CM.o w2 b.o).mono ?_
  rintro e w3⟨rfl,a4⟩;have ag:=hId (b.o.trans (a4.mono b.o.size));clear a4;go_wp2
  go_ret
  exact⟨rfl,ag.o⟩
