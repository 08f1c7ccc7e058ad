/- A part. -/
import Derived.Test.YthddphjghgdalaaGreatDoorP39
import Derived.Test.YthddphjghgdalaaGreatDoorP44
set_option maxRecDepth 100000
set_option maxHeartbeats 6400000
namespace Go.Proofs.YthddphjghgdalaaGreatDoor
open Go.RowKit Go.Proofs.Tryz
theorem Qc{u:WV}{n:Nat}(h:Wo.Inv u.w n){k:Nat}{c:CV}(a:u.cs[k]?=some c):Wo.CI u.s.se.first u.s.se.log k ⟨c.cl,Wo.vY u.w k,Wo.yr u.w k⟩:=by
 have f:u.cs.length=n:=by have:=h.len.c;have e:u.w.cs.length=u.cs.length:=VH _;omega
 have e:Wo.cl u.w k=c.cl:=by show(u.cs.map CV.cl).getD k Kl.none=_;rw[WM,List.getElem?_map,a];rfl
 have b:=h.cl k (by have:=(VO.1 a).1;omega);have d:Wo.vw u.w k=⟨c.cl,Wo.vY u.w k,Wo.yr u.w k⟩:=by unfold Wo.vw;rw[e]
 rw[d]at b;exact b
theorem Lq{s:Sv.Se}(h:Sv.dL s=0)(i:Nat):Sv.ky s.first (s.log.take i)=0/\Sv.k7 s.first (s.log.take i)=Sv.cS s.first (s.log.take i):=by
 obtain⟨g,d,c,f,e⟩:=Sv.mW h;have a:¬60<(s.log.take i).length:=by rw[List.length_take];omega
 have b:Dc.check s.first=0:=by first|exact c|exact d
 unfold Sv.ky Sv.k7;rw[VC b,VC b,VD a,VD a];exact⟨Wo.xG h i,rfl⟩
theorem DU(u:WV)(n:Nat)(w:World)(o:gD w u)(A:Wo.Inv u.w n)(hS:df w):
  Calls prog 16 #[.agg #[.slice u.s.fa u.s.fn u.s.fc,.slice u.s.la u.s.ln u.s.lc,.slice u.s.na u.s.nn u.s.nc,.slice u.ca u.cn u.cc,.slice u.ua u.un u.uc,.slice u.da u.dn u.dc]] w fun e w'=>e=.returned (.bool true)/\Below w.heap.size w w':=by
 have z:=hId (aV u w);have y:=hId (bU u w);have I:Hd (∀w',Below w.heap.size w w'->df w'):=fun w' b=>hS.below b;have l:=hId (o.below z.o);have HI:=hId A;have CW:Hd (Calls prog 17 #[.agg #[.slice u.s.fa u.s.fn u.s.fc,.slice u.s.la u.s.ln u.s.lc,.slice u.s.na u.s.nn u.s.nc,.slice u.ca u.cn u.cc,.slice u.ua u.un u.uc,.slice u.da u.dn u.dc]] (aQ u w) fun e w'=>e=.returned (.int .i64 0)/\Below (aQ u w).heap.size (aQ u w) w'):=by have:=tI u _ l.o (I.o _ z.o);rw[A.check]at this;exact this
 have Y:=hId o.lens.1;have a4:1<=u.cn:=by have:=A.len.c;have e:u.w.cs.length=u.cs.length:=VH _;have:=A.lo;have:=o.lens.1;omega
 obtain⟨cb,co,F,-⟩:=o.cr.bH (by omega);have K:=hId F;have a8:=o.cr.room;have a9:=o.cr.fg;have S:=o.eF.log.row.room;have a7:=o.eF.log.row.fg;clear o A hS F;go_enter func16,ntmps16
 go_upto_region 1 with fail
 change Code.wp prog _ _ _ (aQ u w);generalize aQ u w=W at*;obtain⟨Q,P,p2,p3,p4,p5⟩:=vT y.o;go_wp2_with fail
 refine CW.o.mono ?_
 rintro e w1⟨rfl,b⟩;have a3:=hId b;have v3:w1.cell? ⟨w.heap.size,3,none⟩=some (.slice (some ⟨cb,co,none⟩) u.cn u.cc):=by rw[<-K.o];exact aA p3 b
 clear b CW Q P p2 p3 p4 p5;go_wp2_with fail
 go_loopw [13] (fun i wr=>∃k:Nat,k<=u.cn/\i=.int .i64 k/\Below W.heap.size W wr) (fun i _=>u.cn-(intOf i).toNat)
 case atStart=>exact⟨0,VN _,rfl,a3.o⟩
 case round=>
  obtain⟨k,hk,rfl,G⟩:=hrel;have q:=hId G;clear G v3;by_cases E:k<u.cn
  ·obtain⟨c,O⟩:∃c,u.cs[k]?=some c:=⟨_,VM (by rw[Y.o];exact E)⟩;obtain⟨m0,m1,m2,m3,m4,m5,m6⟩:=TK (l.o.cr.below q.o) O K.o;have p:=(Qc HI.o O).c0;have T:u.s.se.log.length=u.s.ln:=by show(u.s.log.map EV.en).length=_;rw[VH];exact l.o.eF.log.len
   obtain⟨r,hr⟩:∃r:Nat,c.rev=r:=⟨c.rev.toNat,by have h0:0<=c.rev:=p.rc.lo;omega⟩;have D:c.cl.rev.toNat=r:=by have e:c.cl.rev=c.rev:=rfl;omega
   have x:r<=u.s.ln:=by have h0:c.rev.toNat<=u.s.se.log.length:=p.rev;omega
   have H:=aa c wr;have s:=hId (q.o.trans (H.mono q.o.size));have J:=hId (cH c wr);have Z:Hd (∀w',Below W.heap.size W w'->cy w' c.ba c.bn c.bc c.base):=fun w' b=>(l.o.cl c (WQ O)).base.below b;have N:Hd (∀w',Below W.heap.size W w'->Calls prog 18 #[.slice u.s.fa u.s.fn u.s.fc,.slice (vd u.s.la 0 u.s.lc) r u.s.lc] w' fun e B=>(∃a f g,e=.returned (.tuple #[.slice a f g,.int .i64 0])/\cy B a f g c.base)/\Below w'.heap.size w' B):=fun w' b=>by
    have C:=l.o.below b;have:=AZ u.s.fa u.s.fn u.s.fc u.s.first (vd u.s.la 0 u.s.lc) r u.s.lc (u.s.log.take r) w' C.eF.first (C.eF.log.take r x) (I.o w' (z.o.trans (b.mono z.o.size)));have e1:(u.s.log.take r).map EV.en=u.s.se.log.take r:=List.map_take ..;obtain⟨f1,f2⟩:=Lq HI.o.eF r;have V:Sv.ky u.s.first (u.s.se.log.take r)=0:=f1;have U:Sv.k7 u.s.first (u.s.se.log.take r)=c.base:=by have h3:=p.base;rw[D]at h3;exact f2.trans h3
    rw[e1,V,U]at this;exact this
   have d1:decide ((u.s.ln:Int)<(r:Int))=false:=by simp;omega
   have ab:decide (u.s.ln<r)=false:=by simp;omega
   have a6:=zY u.s.la u.s.ln u.s.lc r x S;have HR:=hId hr;clear hr D x p O T H;go_upto_region 6 with fail
   change Code.wp prog _ _ _ (aO c wr);generalize aO c wr=v at*;generalize wr.heap.size=b3 at*;have q0:v.cell? ⟨b3,0,none⟩=some (.int .i64 r):=by rw[<-HR.o];exact J.o.cell 0
   have q1:=IK J.o;have t:Blk v w.heap.size (eo u) 30:=(s.o.block _ y.o.lt).trans y.o;obtain⟨Q,P,-,-,-,-⟩:=vT t;clear t m0 m1 m2 m3 m4 m5 m6;go_upto_region 8 with fail
   go_cut [5,6]from 24 to 36 (fun d e wx=>∃a f g,d=.slice a f g/\e=.int .i64 0/\cy wx a f g c.base/\Below v.heap.size v wx)
   case first=>
    go_region_with (go_at_call 18;refine(N.o _ (s.o.trans ((by repeat (first|exact VE _ _|refine Below.drew ?_)):Below W.heap.size v _))).mono ?_;rintro e wt⟨⟨a,f,g,rfl,h⟩,b⟩;have X:Hd (cy wt a f g c.base):=h;have a0:Hd (Below v.heap.size v wt):=cT b;clear h b)
    all_goals
     first|go_meet|(go_wp2_with fail;go_meet)
     case rel=>exact⟨a,f,g,rfl,rfl,X.o,a0.o⟩
   case rest=>
    obtain⟨a,f,g,rfl,rfl,h,b⟩:=hcut;have L:=hId (s.o.trans (b.mono s.o.size));have a5:=aA q1 b;have M:Hd (Calls prog 15 #[.slice a f g,.slice c.ba c.bn c.bc] wc fun e w'=>e=.returned (.bool true)/\∃m,w'=wc.drewN m):=by
     have:=gJ a c.ba f g c.bn c.bc c.base c.base wc h (Z.o wc L.o);rw[Sv.nJ]at this;exact this
    clear b h q0 q1 Q P N;go_wp2_with fail
    refine M.o.mono ?_
    rintro e w6⟨rfl,m,rfl⟩;have a2:=hId (Go.below_drewN L.o m);clear M;go_wp2
    go_roundw
    case rel=>exact⟨k+1,E,by go_num,a2.o⟩
    case measure=>simp[intOf];omega
  ·obtain rfl:k=u.cn:=by omega
   have a1:=hId (z.o.trans (q.o.mono z.o.size));go_wp2
   go_ret
   exact⟨rfl,a1.o⟩
theorem By(v:Option Addr)(m c:Nat)(l:List It)(q:Int)(D:Option Addr)(B C:Nat)(xs:List HV)(w:World)(G:cy w v m c l)(P:Row w D B C 5 (eI xs))(O:∀x∈xs,qq w x)(Q:Gl w w.heap.size):
  Calls prog 5 #[.slice v m c,.int .i64 q,.slice D B C] w fun e w'=>e=.returned (.bool true)/\Below w.heap.size w w':=by
 have f:Hd (∀w',Below w.heap.size w w'->Gl w' w'.heap.size):=fun w' h=>(Q.below h).mono h.size (UZ _);have T:=hId (fun w' b=>yI w' (f.o w' b));have CC:=hId (fun w' b=>iq v m c l w' (G.below b) (f.o w' b).zt.Be);have S:Hd (∀(n:Nat)(w':World),Dc.check l=0->1<=n->n<=4->Below w.heap.size w w'->Calls prog 11 #[.slice v m c,.int .i64 n,.slice D B C,.func (.func 16) #[] #[]] w' fun e i=>(∃t:WV,e=.returned (.tuple #[.agg #[.slice t.s.fa t.s.fn t.s.fc,.slice t.s.la t.s.ln t.s.lc,.slice t.s.na t.s.nn t.s.nc,.slice t.ca t.cn t.cc,.slice t.ua t.un t.uc,.slice t.da t.dn t.dc],.bool true])/\gD i t/\Wo.Inv t.w n/\iu w'.heap.size i.heap.size t)/\Below w'.heap.size w' i):=fun n w' hc I H b=>tz _ (.inr rfl) v m c l n D B C xs w' (G.below b) hc I H (P.below b) (fun x X=>(O x X).below b) (f.o w' b) (fun u s d F Z=>DU u n s F Z (f.o s (b.trans (d.mono b.size))).zt.Be);clear G P O Q;generalize Dc.check l=E at*;go_enter func5,ntmps5
 go_wp2_with fail
 refine(T.o w (VE _ _)).mono ?_
 rintro e W⟨rfl,z⟩;have o:=hId z;clear z;go_wp2_with fail
 refine(CC.o W o.o).mono ?_
 rintro e s⟨rfl,d⟩;have a:=hId (o.o.trans (d.mono o.o.size));clear d;by_cases J:E=0
 ·have U:=EO q 4 s (by decide) (by decide);have A:=hId (fun n w' I H b=>S.o n w' J I H b);subst J;clear S;go_wp2_with fail
  refine U.mono ?_
  rintro e M⟨⟨r,rfl,Y⟩,rfl⟩;have F:wrap64 (1+(r:Int))=((r+1:Nat):Int):=by have:=(wrap_add (g:=1) (q:=r) (gq:=r+1) (by omega) (by omega)).1;exact this
  have p:=A.o (r+1) M (by omega) (by omega) a.o;obtain⟨n,N⟩:∃n,r+1=n:=⟨_,rfl⟩;rw[N]at F p;clear A U Y N;go_wp2_with fail
  refine p.mono ?_
  rintro e V⟨⟨t,rfl,-,-,-⟩,k⟩;have K:=hId ((a.o.trans (k.mono a.o.size)).trans ((aV t V).mono (VX a.o.size k.size)));clear k p;go_wp2
  go_ret
  exact⟨rfl,K.o⟩
 ·have sE:(E !=0)=true:=by simpa using J
  go_wp2_with fail
  refine(T.o s a.o).mono ?_
  rintro e M⟨rfl,y⟩;have L:=hId (a.o.trans (y.mono a.o.size));clear y;go_wp2
  go_ret
  exact⟨rfl,L.o⟩
