/- A part. -/
import Derived.Test.YthddphjghgdalaaGreatDoorP7
set_option maxRecDepth 100000
set_option maxHeartbeats 6400000
namespace Go.Proofs.YthddphjghgdalaaGreatDoor
open Go.RowKit Go.Proofs.Tryz
theorem KG{α:Type}(l:List α)(i:Nat)(x:α)(h:l[i]?=some x):l.set i x=l:=by
 apply List.ext_getElem?
 intro j;rw[XB];by_cases e:i=j
 ·subst e;rw[VC rfl,VC (VO.1 h).1,h]
 ·rw[VD e]
theorem Ej(b o:Nat)(cs:List Value)(r:RV)(v:PV)(t:List PV)(q:Nat)(w:World)(Y:Blk w b cs 180)(h0:cs[o]?=some (.slice r.ao r.n r.cap))(h1:cs[o+1]?=some (.int .i64 r.g))(Q:ae w r.ao r.n r.cap (v::t))(U:∀a,r.ao=some a->a.block≠b)(hq:1<=q)(hl:((r.g+q:Nat):Int)<=ef v)(a5:ef v<=1000):
  Calls prog 171 #[.pointer (some ⟨b,o,none⟩),.int .i64 q] w fun e w'=>e=.returned (.agg #[.int .i64 (aE v r.g q).kind,.int .i64 (aE v r.g q).n,.slice (aE v r.g q).ao (aE v r.g q).m (aE v r.g q).cap,.int .i64 (aE v r.g q).set,.int .i64 (aE v r.g q).bm,.bool (aE v r.g q).goes,.string (aE v r.g q).link])/\Blk w' b ((cs.set o (.slice (r.next v t q).ao (r.next v t q).n (r.next v t q).cap)).set (o+1) (.int .i64 (r.next v t q).g)) 180/\Kept w w' [b]:=by
 have a3:r.g+q<=1000:=by omega
 obtain⟨x,I,m,n,hn,-⟩:=Q.head;have F:=Q.iE v (VK ..);have V:x<w.heap.size:=gW n.c0;have f:b<w.heap.size:=Y.lt;have ad:=Q.row.fg;have ac:=Q.row.room;have O:=hId (vR.start Y v);have CL:=hId (fun w'=>wo v w');have a8:Hd (∀w':World,Kept w w' [b]->bV w' x I v):=fun w' y=>n.same (y.block x V (by simp;exact U _ m));have A:=hId n;have H0:=hId h0;have H1:=hId h1;obtain⟨M,p⟩:∃N,r.next v t q=N:=⟨_,rfl⟩;have H:Hd (((r.g+q:Nat):Int)=ef v->M=⟨wJ (some ⟨x,I,none⟩) r.cap,r.n-1,r.cap-1,t,0⟩):=fun h=>by rw[<-p,<-m];exact VC h
 have G:Hd (¬((r.g+q:Nat):Int)=ef v->M=⟨r.ao,r.n,r.cap,v::t,r.g+q⟩):=fun h=>by rw[<-p];exact VD h
 rw[p];obtain⟨u,X⟩:∃u,aE v r.g q=u:=⟨_,rfl⟩;have a7:Hd (¬v.kind=2->(iD v).set 1 (.int .i64 q)=iD u):=fun h=>by rw[<-X];unfold aE;rw[VD h];rfl
 have a6:Hd (v.kind=2->∃C B,v.ao=some ⟨C,B,none⟩/\r.g+q<=v.m/\v.m<=v.cap/\(iD v).set 2 (.slice (some ⟨C,B+r.g*3,none⟩) q (v.cap-r.g))=iD u):=fun h=>by
  have Z:ef v=(v.m:Int):=VC h;have J:r.g+q<=v.m:=by omega
  obtain⟨C,B,e,-⟩:=F.jd.bH (by omega);refine⟨C,B,e,J,F.jd.room,?_⟩
  rw[<-X];unfold aE;rw[VC h,e,Option.map_some,iU];rfl
 rw[X];obtain⟨L,Z⟩:∃L,ef v=L:=⟨_,rfl⟩;rw[Z]at CL hl a5 H G;obtain⟨gq,l⟩:∃gq,r.g+q=gq:=⟨_,rfl⟩;have al:(0:Int)<=(r.g:Int):=Int.natCast_nonneg _;have ak:(r.g:Int)<=(gq:Int):=by omega
 have a1:r.g<gq:=by omega
 have a9:Hd (gq-r.g=q):=by show _=_;omega
 have am:(0:Int)<(r.n:Int):=by omega
 obtain⟨ah,ag⟩:=wrap_add l (by rw[<-l];exact a3);rw[l]at H G hl;have ai:=Ci x I r.n r.cap hn;obtain⟨e0,e1,e2,e3,e4,e5,e6⟩:=A.o;have T:w.cell? ⟨b,o,none⟩=some (.slice (some ⟨x,I,none⟩) r.n r.cap):=by rw[<-m];exact(Y.cell o).trans h0
 have ab:=hId m;have aa:=hId l;clear Q U X Z p n Y F A h0 h1 m l;go_enter func171,ntmps171
 go_upto_region 2 with fail
 change Code.wp prog _ _ _ (aH v (aH iZ w));generalize aH v (aH iZ w)=W2 at*;clear T e0 e1 e2 e3 e4 e5 e6;obtain⟨p0,p1,W,-⟩:=AV O.o.pb;obtain⟨f0,S,f2⟩:=IR O.o.pb;have D:W2.cell? ⟨b,o+1,none⟩=some (.int .i64 r.g):=(O.o.cb.cell (o+1)).trans H1.o;go_upto_if 14 with fail
 go_cut []from 15 to 30 (fun P=>vR w P b cs u)
 case first=>
  by_cases y:v.kind=2
  ·have a2:(v.kind==2)=true:=by simpa using y
   obtain⟨C,B,z,J,E,hU⟩:=a6.o y;rw[aa.o]at J;have a0:=KE C B v.m v.cap r.g gq a1 J E;rw[a9.o]at a0;have af:W2.cell? ⟨w.heap.size+1,2,none⟩=some (.slice (some ⟨C,B,none⟩) v.m v.cap):=by rw[<-z];exact W
   have aj:(gq:Int)<=(v.cap:Int):=Int.ofNat_le.2 (VX J E);have i:=hId (O.o.drew.own f 2 _ hU);clear y z hU W J E;go_upto_region 3 with fail
   go_region
   all_goals
    go_wp2
    go_meet
    case rel=>exact i.o
  ·have a2:(v.kind==2)=false:=by simpa using y
   have i:=hId (O.o.own f 1 _ (a7.o y));clear y;go_wp2
   go_meet
   case rel=>exact i.o
 case rest=>
  have i:=hId hcut;clear hcut O p0 p1 W f0 S f2 D;generalize wc=W3 at*;have D:W3.cell? ⟨b,o+1,none⟩=some (.int .i64 r.g):=(i.o.cb.cell (o+1)).trans H1.o;have S:=i.o.cb.frozen (o+1);go_upto_region 6 with fail
  change Code.wp prog _ _ _ (W3.setCell ⟨b,o+1,none⟩ (.int .i64 gq));have s:=hId (i.o.pair f (o+1) (.int .i64 gq));generalize W3.setCell ⟨b,o+1,none⟩ (.int .i64 gq)=W4 at*;clear D S i;have HC:Hd (∀w',vR w w' b (cs.set (o+1) (.int .i64 gq)) u->w'.cell? ⟨b,o,none⟩=some (.slice (some ⟨x,I,none⟩) r.n r.cap)/\w'.cell? ⟨b,o+1,none⟩=some (.int .i64 gq)):=fun w' h=>by
   have l1:=(VO.1 H1.o).1;refine⟨?_,(h.cb.cell (o+1)).trans (by rw[XB,VC rfl,VC l1])⟩
   rw[<-ab.o];exact(h.cb.cell o).trans (by rw[XB,VD (by omega)];exact H0.o)
  obtain⟨T,D⟩:=HC.o W4 s.o;obtain⟨e0,e1,e2,e3,e4,e5,e6⟩:=a8.o W4 s.o.kept;go_cut [50]from 39 to 49 (fun c P=>c=.bool ((gq:Int)==L)/\vR w P b (cs.set (o+1) (.int .i64 gq)) u)
  case first=>
   go_region_with ((go_at_call 188;refine(CL.o _).mono ?_;rintro e w5⟨rfl,hb⟩;have g:=s.o.drew.under hb;obtain⟨b2,b3⟩:=HC.o w5 g;clear hb))
   all_goals
    go_wp2_with fail
    go_meet
    case rel=>exact⟨rfl,g⟩
  case rest=>
   obtain⟨rfl,hT⟩:=hcut;have g:=hId hT;clear hT s T D e0 e1 e2 e3 e4 e5 e6;generalize wc=W5 at*;obtain⟨T,D⟩:=HC.o W5 g.o;have f0:=g.o.cb.frozen o;have S:=g.o.cb.frozen (o+1);go_upto_if 50 with fail
   go_cut []from 51 to 58 (fun P=>vR w P b ((cs.set o (.slice M.ao M.n M.cap)).set (o+1) (.int .i64 M.g)) u)
   case first=>
    by_cases K:(gq:Int)=L
    ·have a4:((gq:Int)==L)=true:=by simpa using K
     have d:=hId ((g.o.pair f o (.slice (wJ (some ⟨x,I,none⟩) r.cap) (r.n-1) (r.cap-1))).pair f (o+1) (.int .i64 0));have HN:=hId (H.o K);clear K;go_wp2
     go_meet
     case rel=>
      rw[HN.o];have h:=d.o;rw[List.set_comm _ _ (by omega),List.set_set,List.set_comm _ _ (by omega)]at h;exact h
    ·have a4:((gq:Int)==L)=false:=by simpa using K
     have HN:=hId (G.o K);clear K;go_wp2
     go_meet
     case rel=>
      rw[HN.o];show vR w W5 b ((cs.set o (.slice r.ao r.n r.cap)).set (o+1) (.int .i64 (gq:Nat))) u
      rw[KG cs o _ H0.o];exact g.o
   case rest=>
    have d:=hId hcut;clear hcut T D f0 S;generalize wc=W6 at*;obtain⟨p0,p1,W,p3,p4,p5,p6⟩:=Bh d.o.pb;have r0:=d.o.rb.c0;have r1:=d.o.rb.c1;have r2:=d.o.rb.c2;have r3:=d.o.rb.c3;have r4:=d.o.rb.c4;have r5:=d.o.rb.c5;have r6:=d.o.rb.c6;obtain⟨g0,g1,g2,g3,g4,g5,g6⟩:=jf6 d.o.rb;go_wp2
    change bodyPost prog _ _ Exit.ret _ (iW W6 w.heap.size u);obtain⟨d1,d2,d3⟩:=d.o.done f u;exact VL (gL (k:=u) rfl _ rfl d1) rfl ⟨rfl,d2,d3⟩
theorem wI(b:Nat)(r s:RV)(v:PV)(t:List PV)(q:Nat)(w:World)(i:Blk w b (oK r s) 180)(h:ae w r.ao r.n r.cap (v::t))(c:∀a,r.ao=some a->a.block≠b)(f:1<=q)(g:((r.g+q:Nat):Int)<=ef v)(d:ef v<=1000):
  Calls prog 171 #[.pointer (some ⟨b,0,none⟩),.int .i64 q] w fun e w'=>e=.returned (.agg #[.int .i64 (aE v r.g q).kind,.int .i64 (aE v r.g q).n,.slice (aE v r.g q).ao (aE v r.g q).m (aE v r.g q).cap,.int .i64 (aE v r.g q).set,.int .i64 (aE v r.g q).bm,.bool (aE v r.g q).goes,.string (aE v r.g q).link])/\Blk w' b (oK (r.next v t q) s) 180/\Kept w w' [b]:=
 Ej b 0 (oK r s) r v t q w i rfl rfl h c f g d
theorem wH(b:Nat)(r s:RV)(v:PV)(t:List PV)(q:Nat)(w:World)(i:Blk w b (oK r s) 180)(h:ae w s.ao s.n s.cap (v::t))(c:∀a,s.ao=some a->a.block≠b)(f:1<=q)(g:((s.g+q:Nat):Int)<=ef v)(d:ef v<=1000):
  Calls prog 171 #[.pointer (some ⟨b,2,none⟩),.int .i64 q] w fun e w'=>e=.returned (.agg #[.int .i64 (aE v s.g q).kind,.int .i64 (aE v s.g q).n,.slice (aE v s.g q).ao (aE v s.g q).m (aE v s.g q).cap,.int .i64 (aE v s.g q).set,.int .i64 (aE v s.g q).bm,.bool (aE v s.g q).goes,.string (aE v s.g q).link])/\Blk w' b (oK r (s.next v t q)) 180/\Kept w w' [b]:=
 Ej b 2 (oK r s) s v t q w i rfl rfl h c f g d
theorem mE(b:Nat)(r s:RV)(w:World)(x:Bool)(a:decide (0<r.n)=x)(d:Blk w b (oK r s) 180):
  Calls prog 152 #[.pointer (some ⟨b,0,none⟩)] w fun e w'=>e=.returned (.bool x)/\w'=w:=by
 have f:=ja d;clear d
 cases x
 ·have c:r.n=0:=by simpa using a
  rw[c]at f;clear a c;go_enter func152,ntmps152
  go_wp2
  go_ret
  exact⟨rfl,rfl⟩
 ·have c:0<r.n:=by simpa using a
  go_enter func152,ntmps152
  go_wp2
  go_ret
  exact⟨rfl,rfl⟩
theorem Hc(b:Nat)(r s:RV)(w:World)(c:Blk w b (oK r s) 180)(f:RV.ok w r)(d:RV.ok w s)(g:xU r.vs 2=true):
  Calls prog 166 #[.pointer (some ⟨b,0,none⟩)] w fun e w'=>e=.returned (.tuple #[.int .i64 0,.bool true])/\w'=w:=by
 have a:=jE b 0 r.ao r.n r.cap r.vs 2 w (c.cell 0) f;have h:=jE b 2 s.ao s.n s.cap s.vs 2 w (c.cell 2) d;rw[g]at a;skip
 have a:Hd _:=a;have h:Hd _:=h;clear c f d g;go_enter func166,ntmps166
 go_wp2_with fail
 refine WH 3 ?_
 rw[VJ];go_wp2_with fail
 refine Calls.mono a.o ?_
 rintro e i⟨rfl,rfl⟩;go_wp2_with fail
 go_ret2
 exact⟨rfl,rfl⟩
theorem Hb(b:Nat)(r s:RV)(w:World)(d:Blk w b (oK r s) 180)(g:RV.ok w r)(f:RV.ok w s)(h:xU r.vs 2=false)(k:xU s.vs 2=true):
  Calls prog 166 #[.pointer (some ⟨b,0,none⟩)] w fun e w'=>e=.returned (.tuple #[.int .i64 1,.bool true])/\w'=w:=by
 have c:=jE b 0 r.ao r.n r.cap r.vs 2 w (d.cell 0) g;have a:=jE b 2 s.ao s.n s.cap s.vs 2 w (d.cell 2) f;rw[h]at c;rw[k]at a;have c:Hd _:=c;have a:Hd _:=a;clear d g f h;go_enter func166,ntmps166
 go_wp2_with fail
 refine WH 3 ?_
 rw[VJ];go_wp2_with fail
 refine Calls.mono c.o ?_
 rintro e i⟨rfl,rfl⟩;go_wp2_with fail
 rw[VJ];go_wp2_with fail
 refine Calls.mono a.o ?_
 rintro e i⟨rfl,rfl⟩;go_wp2_with fail
 go_ret2
 exact⟨rfl,rfl⟩
theorem Ha(b:Nat)(r s:RV)(w:World)(d:Blk w b (oK r s) 180)(g:RV.ok w r)(f:RV.ok w s)(h:xU r.vs 2=false)(k:xU s.vs 2=false):
  Calls prog 166 #[.pointer (some ⟨b,0,none⟩)] w fun e w'=>e=.returned (.tuple #[.int .i64 0,.bool false])/\w'=w:=by
 have c:=jE b 0 r.ao r.n r.cap r.vs 2 w (d.cell 0) g;have a:=jE b 2 s.ao s.n s.cap s.vs 2 w (d.cell 2) f;rw[h]at c;rw[k]at a;have c:Hd _:=c;have a:Hd _:=a;clear d g f h;go_enter func166,ntmps166
 go_wp2_with fail
 refine WH 3 ?_
 rw[VJ];go_wp2_with fail
 refine Calls.mono c.o ?_
 rintro e i⟨rfl,rfl⟩;go_wp2_with fail
 rw[VJ];go_wp2_with fail
 refine Calls.mono a.o ?_
 rintro e i⟨rfl,rfl⟩;go_wp2_with fail
 rw[VJ];go_wp2
 go_ret2
 exact⟨rfl,rfl⟩
theorem oW(b:Nat)(r s:RV)(v:PV)(t:List PV)(q:Nat)(w:World)(z:Blk w b (oK r s) 180)(y:ae w r.ao r.n r.cap (v::t))(i:∀a,r.ao=some a->a.block≠b)(F:1<=q)(G:ef v=((r.g+q:Nat):Int))(g:ef v<=1000):
  Calls prog 154 #[.pointer (some ⟨b,0,none⟩)] w fun e w'=>e=.returned (.agg #[.int .i64 (aE v r.g q).kind,.int .i64 (aE v r.g q).n,.slice (aE v r.g q).ao (aE v r.g q).m (aE v r.g q).cap,.int .i64 (aE v r.g q).set,.int .i64 (aE v r.g q).bm,.bool (aE v r.g q).goes,.string (aE v r.g q).link])/\Blk w' b (oK (r.next v t q) s) 180/\Kept w w' [b]:=by
 have J:=z.lt;have A:=hId (aK iZ w);have m:=hId (dC iZ w);have d:Hd (Blk (aH iZ w) b (oK r s) 180):=z.alloc _;have h:=qJ b 0 r.ao r.n r.cap v t r.g (aH iZ w) (d.o.cell 0) (d.o.cell 1) (y.below A.o) (by omega) g;rw[G,show((r.g+q:Nat):Int)-(r.g:Int)=(q:Int)by omega]at h;have h:Hd _:=h;have M:=hId y;have I:=hId (fun w' L K=>wI b r s v t q w' L K i F (by omega) g);clear z y i G g F;generalize aE v r.g q=u at*;generalize r.next v t q=X at*;go_enter func154,ntmps154
 go_upto_region 1 with fail
 change Code.wp prog _ _ _ (aH iZ w);generalize aH iZ w=W at*;go_wp2_with fail
 refine Calls.mono h.o ?_
 rintro e E⟨rfl,n⟩;have D:Hd (Blk E b (oK r s) 180):=(n.block _ d.o.lt).trans d.o;have B:Hd (Blk E w.heap.size (iD iZ) 100):=(n.block _ m.o.lt).trans m.o;have H:=hId (A.o.trans (n.mono A.o.size));clear n h;go_wp2_with fail
 refine(I.o _ D.o (M.o.below H.o)).mono ?_
 rintro e o⟨rfl,l,f⟩;have c:=hId (f.aM B.o (by simp;omega));have N:=hId ((((dH H.o).mono (fun x p=>by cases p)).trans f).bZ (ig o w.heap.size u [w.heap.size] (by simp)) (fun x p=>by rw[UY.1 p];exact .inr (UZ _)));have C:=hId ((ig o w.heap.size u [w.heap.size] (by simp)).aM l (by simp;omega));have V:=c.o.c0;have g0:=c.o.frozen 0;have U:=c.o.c1;have g1:=c.o.frozen 1;have T:=c.o.c2;have g2:=c.o.frozen 2;have S:=c.o.c3;have g3:=c.o.frozen 3;have Q:=c.o.c4;have g4:=c.o.frozen 4;have P:=c.o.c5;have Z:=c.o.frozen 5;have O:=c.o.c6;have Y:=c.o.frozen 6;clear l f I;go_wp2
 change bodyPost prog _ _ Exit.ret _ (iW o w.heap.size u);exact VL (gL (k:=u) rfl _ rfl (gN c.o)) rfl ⟨rfl,C.o,N.o⟩
theorem oV(b:Nat)(r s:RV)(v:PV)(t:List PV)(q:Nat)(w:World)(z:Blk w b (oK r s) 180)(y:ae w s.ao s.n s.cap (v::t))(i:∀a,s.ao=some a->a.block≠b)(F:1<=q)(G:ef v=((s.g+q:Nat):Int))(g:ef v<=1000):
  Calls prog 154 #[.pointer (some ⟨b,2,none⟩)] w fun e w'=>e=.returned (.agg #[.int .i64 (aE v s.g q).kind,.int .i64 (aE v s.g q).n,.slice (aE v s.g q).ao (aE v s.g q).m (aE v s.g q).cap,.int .i64 (aE v s.g q).set,.int .i64 (aE v s.g q).bm,.bool (aE v s.g q).goes,.string (aE v s.g q).link])/\Blk w' b (oK r (s.next v t q)) 180/\Kept w w' [b]:=by
 have J:=z.lt;have A:=hId (aK iZ w);have m:=hId (dC iZ w);have d:Hd (Blk (aH iZ w) b (oK r s) 180):=z.alloc _;have h:=qJ b 2 s.ao s.n s.cap v t s.g (aH iZ w) (d.o.cell 2) (d.o.cell 3) (y.below A.o) (by omega) g;rw[G,show((s.g+q:Nat):Int)-(s.g:Int)=(q:Int)by omega]at h;have h:Hd _:=h;have M:=hId y;have I:=hId (fun w' L K=>wH b r s v t q w' L K i F (by omega) g);clear z y i G g F;generalize aE v s.g q=u at*;generalize s.next v t q=X at*;go_enter func154,ntmps154
 go_upto_region 1 with fail
 change Code.wp prog _ _ _ (aH iZ w);generalize aH iZ w=W at*;go_wp2_with fail
 refine Calls.mono h.o ?_
 rintro e E⟨rfl,n⟩;have D:Hd (Blk E b (oK r s) 180):=(n.block _ d.o.lt).trans d.o;have B:Hd (Blk E w.heap.size (iD iZ) 100):=(n.block _ m.o.lt).trans m.o;have H:=hId (A.o.trans (n.mono A.o.size));clear n h;go_wp2_with fail
 refine(I.o _ D.o (M.o.below H.o)).mono ?_
 rintro e o⟨rfl,l,f⟩;have c:=hId (f.aM B.o (by simp;omega));have N:=hId ((((dH H.o).mono (fun x p=>by cases p)).trans f).bZ (ig o w.heap.size u [w.heap.size] (by simp)) (fun x p=>by rw[UY.1 p];exact .inr (UZ _)));have C:=hId ((ig o w.heap.size u [w.heap.size] (by simp)).aM l (by simp;omega));have V:=c.o.c0;have g0:=c.o.frozen 0;have U:=c.o.c1;have g1:=c.o.frozen 1;have T:=c.o.c2;have g2:=c.o.frozen 2;have S:=c.o.c3;have g3:=c.o.frozen 3;have Q:=c.o.c4;have g4:=c.o.frozen 4;have P:=c.o.c5;have Z:=c.o.frozen 5;have O:=c.o.c6;have Y:=c.o.frozen 6;clear l f I;go_wp2
 change bodyPost prog _ _ Exit.ret _ (iW o w.heap.size u);exact VL (gL (k:=u) rfl _ rfl (gN c.o)) rfl ⟨rfl,C.o,N.o⟩
def Bf (u v:PV):List Value:=[.int .i64 u.kind,.int .i64 u.n,.slice u.ao u.m u.cap,.int .i64 u.set,.int .i64 u.bm,.bool u.goes,.string u.link,.int .i64 v.kind,.int .i64 v.n,.slice v.ao v.m v.cap,.int .i64 v.set,.int .i64 v.bm,.bool v.goes,.string v.link]
def fT (u v:PV) (w:World):World:=w.alloc (.cells #[.int .i64 u.kind,.int .i64 u.n,.slice u.ao u.m u.cap,.int .i64 u.set,.int .i64 u.bm,.bool u.goes,.string u.link,.int .i64 v.kind,.int .i64 v.n,.slice v.ao v.m v.cap,.int .i64 v.set,.int .i64 v.bm,.bool v.goes,.string v.link] 206)
theorem lU(u v:PV)(w:World):Blk (fT u v w) w.heap.size (Bf u v) 206:=Blk.new w _ _
theorem ir(u v:PV)(w:World):Below w.heap.size w (fT u v w):=(VE _ _).alloc (UZ _) _
theorem xO(u v:PV)(w:World):(fT u v w).heap.size=w.heap.size+1:=WO ..
theorem Ti(u v:PV):(prog.info? 206).map (·.size)=some (Bf u v).toArray.size:=by
 have h:(prog.info? 206).map (·.size)=some 14:=by kernel_rfl
 exact h
theorem Ps{b:Func}{p:Tmp}{u v:PV}{w:World}{g:Nat}(h:b.results=#[.cell p 206])(a:Array Value)(c:a.getD p undef=.pointer (some ⟨g,0,none⟩))(d:Blk w g (Bf u v) 206):(results b a).run prog w=.ok (.agg #[.int .i64 u.kind,.int .i64 u.n,.slice u.ao u.m u.cap,.int .i64 u.set,.int .i64 u.bm,.bool u.goes,.string u.link,.int .i64 v.kind,.int .i64 v.n,.slice v.ao v.m v.cap,.int .i64 v.set,.int .i64 v.bm,.bool v.goes,.string v.link]) w:=
 results_cell_row h a w g 206 (Bf u v).toArray (0,0) _ c d underlying206 rfl (Ti u v)
def NM (w:World) (g:Nat) (u v:PV):World:=(((((((iW w g u).setCell ⟨g,7,none⟩ (.int .i64 v.kind)).setCell ⟨g,8,none⟩ (.int .i64 v.n)).setCell ⟨g,9,none⟩ (.slice v.ao v.m v.cap)).setCell ⟨g,10,none⟩ (.int .i64 v.set)).setCell ⟨g,11,none⟩ (.int .i64 v.bm)).setCell ⟨g,12,none⟩ (.bool v.goes)).setCell ⟨g,13,none⟩ (.string v.link)
theorem KX{w:World}{g:Nat}{a b u v:PV}(h:Blk w g (Bf a b) 206):Blk (NM w g u v) g (Bf u v) 206:=
 (((((((((((((h.set 0 (.int .i64 u.kind)).set 1 (.int .i64 u.n)).set 2 (.slice u.ao u.m u.cap)).set 3 (.int .i64 u.set)).set 4 (.int .i64 u.bm)).set 5 (.bool u.goes)).set 6 (.string u.link)).set 7 (.int .i64 v.kind)).set 8 (.int .i64 v.n)).set 9 (.slice v.ao v.m v.cap)).set 10 (.int .i64 v.set)).set 11 (.int .i64 v.bm)).set 12 (.bool v.goes)).set 13 (.string v.link)
theorem Hf(w:World)(g:Nat)(u v:PV)(S:List Nat)(h:g∈S):Kept w (NM w g u v) S:=by
 unfold NM;exact(((((((ig w g u S h).setCell _ _ (.inl h)).setCell _ _ (.inl h)).setCell _ _ (.inl h)).setCell _ _ (.inl h)).setCell _ _ (.inl h)).setCell _ _ (.inl h)).setCell _ _ (.inl h)
