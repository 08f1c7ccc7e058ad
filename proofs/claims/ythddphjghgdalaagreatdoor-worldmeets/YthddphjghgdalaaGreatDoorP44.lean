/- A part. -/
import Derived.Test.YthddphjghgdalaaGreatDoorP41
set_option maxRecDepth 100000
set_option maxHeartbeats 6400000
namespace Go.Proofs.YthddphjghgdalaaGreatDoor
open Go.RowKit Go.Proofs.Tryz
theorem Pb:prog.underlying 45=some (.slice (prog.elem 45)):=by kernel_rfl
theorem TD:prog.elem 45=35:=by kernel_rfl
theorem SG(w:World):(sizeOf 35).run prog w=.ok 5 w:=by kernel_rfl
theorem Cm(a:Option Addr)(n b r:Nat)(c:r<=n)(d:n<=b)(w:World):(Instr.slice 45 (.slice a n b) none (some (.int .i64 r)) none).run prog w=.ok (sliced a 0 r b 5) w:=by
 rw[run_slice_h (P:=prog) (w:=w) 45 a n b Pb .i64 (r:Int) (by omega) (by omega),TD,SG w];rfl
structure EU (w:World) (n g:Nat) (u:WV) (wr:World):Prop where
 box:Blk wr g (eo u) 30
 iM:Blk wr w.heap.size (eo bX) 30
 nV:gD wr u
 inv:Wo.Inv u.w n
 cu:∀ s x,s≠0->bk 0 u s=some x->w.heap.size<x/\x≠g/\x<wr.heap.size
 gl:w.heap.size<g
 below:Below w.heap.size w wr
theorem EU.mono{w:World}{n g:Nat}{u:WV}{wr w':World}(h:EU w n g u wr)(a:Below wr.heap.size wr w'):EU w n g u w':=
 ⟨(a.block _ h.box.lt).trans h.box,(a.block _ h.iM.lt).trans h.iM,h.nV.below a,h.inv,fun s x b e=>⟨(h.cu s x b e).1,(h.cu s x b e).2.1,WJ (h.cu s x b e).2.2 a.size⟩,h.gl,h.below.trans (a.mono h.below.size)⟩
theorem EU.put{w:World}{n g:Nat}{u t:WV}{wr:World}(h:EU w n g u wr)(f:gD wr t)(i:Wo.Inv t.w n)(c:∀s x,s≠0->bk 0 t s=some x->g<x/\x<wr.heap.size):EU w n g t (cO wr g t):=by
 have b:=bP wr g t;have a:=h.below.size;have k:=h.gl;exact⟨dM h.box,b.aM h.iM (by simp;omega),f.mY (g:=g) (fun s x a e=>by have:=(c s x a e).1;omega) b (NT.iJ h.box),i,fun s x a e=>by have:=c s x a e;have:=b.size;omega,k,h.below.trans (b.below (by omega) (fun x d=>by rw[UY.1 d];omega))⟩
theorem EU.ret{w:World}{n g:Nat}{u:WV}{wr:World}(h:EU w n g u wr):Blk (cO wr w.heap.size u) w.heap.size (eo u) 30/\gD (cO wr w.heap.size u) u/\iu w.heap.size (cO wr w.heap.size u).heap.size u/\Below w.heap.size w (cO wr w.heap.size u):=by
 have b:=bP wr w.heap.size u;have a:=h.below.size;refine⟨dM h.iM,h.nV.mY (g:=w.heap.size) (fun s x a e=>by have:=(h.cu s x a e).1;omega) b (NT.iJ h.iM),fun s x a e=>?_,h.below.trans (b.below (by omega) (fun x c=>by rw[UY.1 c];exact UZ _))⟩
 have:=h.cu s x a e;have:=b.size;omega
theorem OB{u:WV}{n:Nat}(h:Wo.Inv u.w n){w:World}(f:gD w u):∀c∈u.cs,1<=c.nn/\c.nn<=80:=fun c b=>by
 obtain⟨k,a⟩:=List.mem_iff_getElem?.1 b;have l:u.cs.length=n:=by have:=h.len.c;have e:u.w.cs.length=u.cs.length:=VH _;omega
 have e:(Wo.vw u.w k).c=c.cl:=by show(u.cs.map CV.cl).getD k Kl.none=_;rw[WM,List.getElem?_map,a];rfl
 have d:=(h.cl k (by have:=(VO.1 a).1;omega)).c0.rc;rw[e]at d;have i:=Dc.eM d.Kk;have m:=(f.cl c b).now.len;have g:c.cl.now=c.now:=rfl;rw[g]at i;omega
structure Rj (W:World) (n:Nat) (E:Int) (t:WV) (g2:Nat) (wx:World):Prop where
 box:Blk wx g2 (eo t) 30
 nV:gD wx t
 inv:E=0->Wo.Inv t.w n
 cu:∀ s x,s≠0->bk 0 t s=some x->W.heap.size<=x/\x<wx.heap.size
 below:Below W.heap.size W wx
theorem Tq{W w:World}{n:Nat}{E:Int}{t:WV}{a:Nat}(f:Blk w a (eo bX) 30)(m:gD w t)(l:E=0->Wo.Inv t.w n)(c:∀s x,s≠0->bk 0 t s=some x->x≠a/\W.heap.size<=x/\x<w.heap.size)(i:Below W.heap.size W w)(h:W.heap.size<=a):Rj W n E t a (cO w a t):=by
 have d:=bP w a t;exact⟨dM f,m.mY (g:=a) (fun s x b e=>(c s x b e).1) d (NT.iJ f),l,fun s x b e=>⟨(c s x b e).2.1,WJ (c s x b e).2.2 d.size⟩,i.trans (d.below i.size (fun x k=>by rw[UY.1 k];exact h))⟩
def F1 (g gx:Nat) (u:WV) (x:HV) (w:World):Prop:=(w.cell? ⟨g,0,none⟩=some (.slice u.s.fa u.s.fn u.s.fc)/\w.cell? ⟨g,1,none⟩=some (.slice u.s.la u.s.ln u.s.lc)/\w.cell? ⟨g,2,none⟩=some (.slice u.s.na u.s.nn u.s.nc)/\w.cell? ⟨g,3,none⟩=some (.slice u.ca u.cn u.cc)/\w.cell? ⟨g,4,none⟩=some (.slice u.ua u.un u.uc)/\w.cell? ⟨g,5,none⟩=some (.slice u.da u.dn u.dc))/\(w.cell? ⟨gx,0,none⟩=some (.int .i64 x.kind)/\w.cell? ⟨gx,1,none⟩=some (.int .i64 x.aR)/\w.cell? ⟨gx,2,none⟩=some (.int .i64 x.n)/\w.cell? ⟨gx,3,none⟩=some (.slice x.oa x.on x.oc)/\w.cell? ⟨gx,4,none⟩=some (.slice x.ya x.yn x.yc))
theorem tz(F:Nat)(hF:F=13\/F=16)(ao:Option Addr)(m ai:Nat)(l:List It)(n:Nat)(la:Option Addr)(ln lc:Nat)(xs:List HV)(w:World)(hD:cy w ao m ai l)(hc:Dc.check l=0)(h1:1<=n)(h4:n<=4)(hR:Row w la ln lc 5 (eI xs))(hX:∀x∈xs,qq w x)(hG:Gl w w.heap.size)
  (CF:∀(u:WV)(w':World),Below w.heap.size w w'->gD w' u->Wo.Inv u.w n->Calls prog F #[.agg #[.slice u.s.fa u.s.fn u.s.fc,.slice u.s.la u.s.ln u.s.lc,.slice u.s.na u.s.nn u.s.nc,.slice u.ca u.cn u.cc,.slice u.ua u.un u.uc,.slice u.da u.dn u.dc]] w' fun e M=>e=.returned (.bool true)/\Below w'.heap.size w' M):
  Calls prog 11 #[.slice ao m ai,.int .i64 n,.slice la ln lc,.func (.func F) #[] #[]] w fun e w'=>(∃t:WV,e=.returned (.tuple #[Mh t,.bool true])/\gD w' t/\Wo.Inv t.w n/\iu w.heap.size w'.heap.size t)/\Below w.heap.size w w':=by
 have bs:Hd (∀(u:WV)(w':World),Below w.heap.size w w'->gD w' u->Wo.Inv u.w n->Calls prog F #[.agg #[.slice u.s.fa u.s.fn u.s.fc,.slice u.s.la u.s.ln u.s.lc,.slice u.s.na u.s.nn u.s.nc,.slice u.ca u.cn u.cc,.slice u.ua u.un u.uc,.slice u.da u.dn u.dc]] w' fun e M=>e=.returned (.bool true)/\Below w'.heap.size w' M):=CF;have b2:Hd (∀w',Below w.heap.size w w'->Gl w' w'.heap.size):=fun w' h=>(hG.below h).mono h.size (UZ _);have HB:Hd (Below w.heap.size w (aQ bX w)):=aV bX w;have HZ:Hd (Blk (aQ bX w) w.heap.size (eo bX) 30):=bU bX w;have CN:Hd (Calls prog 21 #[.slice ao m ai,.int .i64 n] (aQ bX w) fun e w'=>(∃t:WV,e=.returned (.tuple #[.agg #[.slice t.s.fa t.s.fn t.s.fc,.slice t.s.la t.s.ln t.s.lc,.slice t.s.na t.s.nn t.s.nc,.slice t.ca t.cn t.cc,.slice t.ua t.un t.uc,.slice t.da t.dn t.dc],.int .i64 0])/\gD w' t/\t.w=yE l n/\iu (aQ bX w).heap.size w'.heap.size t)/\Below (aQ bX w).heap.size (aQ bX w) w'):=E9 ao m ai l n _ (hD.below HB.o) (b2.o _ HB.o).zt.Be hc h1 h4;have a2:Hd (Wo.Inv (yE l n) n):=Wo.Inv.new h1 h4 hc;obtain⟨K,bm,c3,c2⟩:∃K:Nat,K<=ln/\K<=100/\min (ln:Int) 100=K:=⟨min ln 100,by omega,by omega,by omega⟩;have bc:xs.length=ln:=by have h:=hR.len;unfold eI at h;rw[il uO 5 (fun _=>rfl)]at h;omega
 have bl:=hR.room;have c1:=hR.fg;have HL:Hd (xs.length=ln):=bc;have HR:Hd (Row w la ln lc 5 (eI xs)):=hR;have HX:Hd (∀x∈xs,qq w x):=hX;have bx:=Cm la ln lc K bm bl;have HF:Hd (F=13\/F=16):=hF;clear hD hc hR hX hG CF bc hF;go_enter func11,ntmps11
 go_upto_region 1 with fail
 change Code.wp prog _ _ _ (aQ bX w);generalize aQ bX w=W at*;go_wp2_with fail
 refine CN.o.mono ?_
 rintro e w2⟨⟨t,rfl,N,ba,r⟩,q⟩;have b0:=aV t w2;have b1:Below W.heap.size W (aQ t w2):=q.trans (b0.mono q.size);have bj:=HZ.o.lt;have bi:=cA t w2;have bq:Hd (EU w n w2.heap.size t (aQ t w2)):=⟨bU t w2,(b1.block _ HZ.o.lt).trans HZ.o,N.below b0,by rw[ba];exact a2.o,fun s x hs e=>by have:=r s x hs e;omega,by have:=q.size;omega,HB.o.trans (b1.mono HB.o.size)⟩;clear q b0 b1 N ba r CN bj bi a2 HB HZ;go_upto_region 2 with fail
 change Code.wp prog _ _ _ (aQ t w2);generalize aQ t w2=W1 at*;generalize w2.heap.size=g at*;go_upto_region 4 with fail
 go_wp2
 go_loopw [31] (fun i wr=>∃(k:Nat)(u:WV),k<=K/\i=.int .i64 k/\EU w n g u wr) (fun i _=>K-(intOf i).toNat)
 case atStart=>exact⟨0,t,VN _,rfl,bq.o⟩
 case round=>
  obtain⟨k,u,hk,rfl,aw⟩:=hrel;have HI:Hd (EU w n g u wr):=aw;clear aw;by_cases bb:k<K
  ·obtain⟨x,hx⟩:∃x,xs[k]?=some x:=⟨_,VM (by rw[HL.o];omega)⟩;obtain⟨b,ab,rfl,bd⟩:=HR.o.bH (by omega);have ac:∀j,j<5->∀y,(uO x)[j]?=some y->wr.cell? ⟨b,ab+k*5+j,none⟩=some y:=fun j hj y hy=>aA (by
    rw[WX];refine bd (k*5+j) y ?_
    have h3:=get_at (f:=uO) (sp:=[]) (fun _=>rfl) hx j hj;rw[VY]at h3;exact h3.trans hy) HI.o.below
   have m0:wr.cell? ⟨b,ab+k*5,none⟩=some (.int .i64 x.kind):=ac 0 (by decide) _ rfl;have m1:wr.cell? ⟨b,ab+k*5+1,none⟩=some (.int .i64 x.aR):=ac 1 (by decide) _ rfl;have m2:wr.cell? ⟨b,ab+k*5+2,none⟩=some (.int .i64 x.n):=ac 2 (by decide) _ rfl;have m3:wr.cell? ⟨b,ab+k*5+3,none⟩=some (.slice x.oa x.on x.oc):=ac 3 (by decide) _ rfl;have m4:wr.cell? ⟨b,ab+k*5+4,none⟩=some (.slice x.ya x.yn x.yc):=ac 4 (by decide) _ rfl;have aj:Hd (Blk (bQ x wr) wr.heap.size (uO x) 35):=gR x wr;have G:Hd (EU w n g u (bQ x wr)):=HI.o.mono (cq x wr);have be:Hd (∀w',Below (bQ x wr).heap.size (bQ x wr) w'->qq w' x):=fun w' q=>(HX.o x (WQ hx)).below (G.o.below.trans (q.mono G.o.below.size));clear bd ac hx;go_upto_region 7 with fail
   change Code.wp prog _ _ _ (bQ x wr);generalize bQ x wr=a at*;generalize wr.heap.size=gx at*;have bf:Hd (∀w',Below a.heap.size a w'->Below w.heap.size w w'):=fun w' q=>G.o.below.trans (q.mono G.o.below.size);have b3:Hd (∀w',Below a.heap.size a w'->Calls prog 30 #[.agg #[.slice u.s.fa u.s.fn u.s.fc,.slice u.s.la u.s.ln u.s.lc,.slice u.s.na u.s.nn u.s.nc,.slice u.ca u.cn u.cc,.slice u.ua u.un u.uc,.slice u.da u.dn u.dc],.agg #[.int .i64 x.kind,.int .i64 x.aR,.int .i64 x.n,.slice x.oa x.on x.oc,.slice x.ya x.yn x.yc]] w' fun e M=>(∃y:HV,e=.returned (.agg #[.int .i64 y.kind,.int .i64 y.aR,.int .i64 y.n,.slice y.oa y.on y.oc,.slice y.ya y.yn y.yc])/\qq M y)/\Below w'.heap.size w' M):=fun w' q=>Dh u x w' (G.o.nV.below q) (be.o w' q) (b2.o w' (bf.o w' q)).zt.Be (OB G.o.inv G.o.nV);have ak:Hd (∀(y:HV)(w':World),Below a.heap.size a w'->qq w' y->Calls prog 6 #[.agg #[.slice u.s.fa u.s.fn u.s.fc,.slice u.s.la u.s.ln u.s.lc,.slice u.s.na u.s.nn u.s.nc,.slice u.ca u.cn u.cc,.slice u.ua u.un u.uc,.slice u.da u.dn u.dc],.agg #[.int .i64 y.kind,.int .i64 y.aR,.int .i64 y.n,.slice y.oa y.on y.oc,.slice y.ya y.yn y.yc]] w' fun e M=>(∃(t:WV)(E:Int),e=.returned (.tuple #[.agg #[.slice t.s.fa t.s.fn t.s.fc,.slice t.s.la t.s.ln t.s.lc,.slice t.s.na t.s.nn t.s.nc,.slice t.ca t.cn t.cc,.slice t.ua t.un t.uc,.slice t.da t.dn t.dc],.int .i64 E])/\gD M t/\(E=0->Wo.Inv t.w n)/\∀s x,s≠0->bk 0 t s=some x->w'.heap.size<=x/\x<M.heap.size)/\Below w'.heap.size w' M):=fun y w' q hy=>(nz u y w' (G.o.nV.below q) hy (b2.o w' (bf.o w' q))).mono fun e M h=>⟨h.1.elim fun t g=>⟨t,_,g.1,g.2.1,fun h0=>by rw[g.2.2.1];exact G.o.inv.step y.hp h0,g.2.2.2⟩,h.2⟩;have o:Hd (∀w',Below a.heap.size a w'->F1 g gx u x w'):=fun w' q=>⟨vT ((q.block _ G.o.box.lt).trans G.o.box),hv5 ((q.block _ aj.o.lt).trans aj.o)⟩;have c0:g<a.heap.size:=G.o.box.lt;have bw:gx<a.heap.size:=aj.o.lt;clear m0 m1 m2 m3 m4 be aj;go_cut [14,15]from 35 to 42 (fun p e wx=>∃(t:WV)(E:Int)(g2:Nat),p=.pointer (some ⟨g2,0,none⟩)/\e=.int .i64 E/\Rj a n E t g2 wx)
   case first=>
    have T:Hd (Below a.heap.size a a.drew):=(VE _ _).drew;have ah:F1 g gx u x a.drew:=o.o _ T.o;refine gj (S:=F1 g gx u x) (f:=fun _=>true) (by kernel_rfl) ?_
    refine aT (i:=0) (v:=?vv00) rfl (by kernel_rfl) (fun _ _ _ h=>h) (Or.inl ⟨by rfl,fun z D=>?hy00⟩) ah ?rest00
    case hy00=>obtain⟨⟨s0,s1,s2,s3,s4,s5⟩,⟨r0,r1,r2,r3,r4⟩⟩:=D;go_simp;try with_reducible rfl
    try simp only[Act.put,UX]
    refine aT (i:=1) (v:=?vv10) rfl (by kernel_rfl) (fun _ _ _ h=>h) (Or.inl ⟨by rfl,fun z D=>?hy10⟩) ah ?rest10
    case hy10=>obtain⟨⟨s0,s1,s2,s3,s4,s5⟩,⟨r0,r1,r2,r3,r4⟩⟩:=D;go_simp;try with_reducible rfl
    try simp only[Act.put]
    refine aT (i:=2) (v:=?vv20) rfl (by kernel_rfl) (fun _ _ _ h=>h) (Or.inl ⟨by rfl,fun z D=>?hy20⟩) ah ?rest20
    case hy20=>obtain⟨⟨s0,s1,s2,s3,s4,s5⟩,⟨r0,r1,r2,r3,r4⟩⟩:=D;go_simp;try with_reducible rfl
    try simp only[Act.put]
    have bz:True:=trivial;refine sR (i:=3) (j:=8) (by kernel_rfl) rfl rfl (fun K C=>?_) (fun K C=>?_)
    ·go_simp
     refine(b3.o _ T.o).mono ?_
     rintro e I⟨⟨y,rfl,hy⟩,q⟩;have H:Hd (Below a.heap.size a I):=T.o.trans (q.mono T.o.size);have ax:Hd (qq I y):=hy;have bg:F1 g gx u x I:=o.o _ H.o;refine C.out _ _ (fun _=>bg) ?_
     clear C K hy q;try simp only[Act.put,UX,VA,VB]
     refine sR (i:=4) (j:=8) (by kernel_rfl) rfl rfl (fun K C=>?_) (fun K C=>?_)
     ·go_simp
      refine(ak.o y _ H.o ax.o).mono ?_
      rintro e d⟨⟨t,E,rfl,N,a0,r⟩,q⟩;have V:Hd (Below a.heap.size a d):=H.o.trans (q.mono H.o.size);have b6:Hd (gD d t):=N;have a2:Hd (E=0->Wo.Inv t.w n):=a0;have U:F1 g gx u x d:=o.o _ V.o;have b9:Hd (∀s x,s≠0->bk 0 t s=some x->a.heap.size<=x/\x<d.heap.size):=fun s x hs e=>by have:=r s x hs e;have:=H.o.size;omega
      refine C.out _ _ (fun _=>U) ?_
      clear C K N a0 r q;try simp only[Act.put,UX,VA,VB]
      refine aT (i:=5) (v:=?vv5FD) rfl (by kernel_rfl) (fun _ _ _ h=>h) (Or.inl ⟨by rfl,fun z D=>?hy5FD⟩) U ?rest5FD
      case hy5FD=>obtain⟨⟨s0,s1,s2,s3,s4,s5⟩,⟨r0,r1,r2,r3,r4⟩⟩:=D;go_simp;try with_reducible rfl
      try simp only[Act.put,UX]
      refine aT (i:=6) (v:=?vv6FD) rfl (by kernel_rfl) (fun _ _ _ h=>h) (Or.inl ⟨by rfl,fun z D=>?hy6FD⟩) U ?rest6FD
      case hy6FD=>obtain⟨⟨s0,s1,s2,s3,s4,s5⟩,⟨r0,r1,r2,r3,r4⟩⟩:=D;go_simp;try with_reducible rfl
      try simp only[Act.put]
      refine aT (i:=7) (v:=?vv7FD) rfl (by kernel_rfl) (fun _ _ _ h=>h) (Or.inl ⟨by rfl,fun z D=>?hy7FD⟩) U ?rest7FD
      case hy7FD=>obtain⟨⟨s0,s1,s2,s3,s4,s5⟩,⟨r0,r1,r2,r3,r4⟩⟩:=D;go_simp;try with_reducible rfl
      try simp only[Act.put]
      refine ar (i:=8) (by kernel_rfl) rfl (fun K C=>?_)
      go_simp
      have a8:Hd (Below a.heap.size a (aQ bX (d))):=V.o.trans ((aV bX _).mono V.o.size);have X:Hd (Blk (aQ bX (d)) (d).heap.size (eo bX) 30):=bU _ _;have ap:F1 g gx u x (aQ bX (d)):=o.o _ a8.o;have ad:a.heap.size<=(d).heap.size:=V.o.size;have al:Hd (gD (aQ bX (d)) t):=b6.o.below (aV bX _);have aq:Hd (∀s x,s≠0->bk 0 t s=some x->x≠(d).heap.size/\a.heap.size<=x/\x<(aQ bX (d)).heap.size):=fun s x hs e=>by have:=b9.o s x hs e;have:=cA bX (d);omega
      refine C.out _ (aQ bX (d)) (fun _=>ap) ?_
      clear C K;try simp only[Act.put,UX,VA,VB]
      generalize aQ bX (d)=a3 at*;generalize (d).heap.size=gb at*;obtain⟨z0,z1,z2,z3,z4,z5⟩:=vT X.o;obtain⟨f0,f1,f2,f3,f4,f5⟩:=PG X.o;have O:=Tq X.o al.o a2.o aq.o a8.o ad;have ae:Hd (Rj a n E t gb (cO a3 gb t)):=O;have a1:F1 g gx u x (cO a3 gb t):=o.o _ O.below;clear O;refine ar (i:=9) (by kernel_rfl) rfl (fun K C=>?_)
      go_simp
      refine C.out _ (cO a3 gb t) (fun _=>a1) ?_
      clear C K;try simp only[Act.put,UX,VA,VB]
      refine lB (i:=10) (oi:=_) (v:=?vv10fFDA) (some 15) rfl rfl (by kernel_rfl) (by kernel_rfl) (by kernel_rfl) (by kernel_rfl) (fun _ _ _ h=>h) (Or.inl ⟨by rfl,?hy10fFDA⟩) a1 ?rest10fFDA
      case hy10fFDA=>
       intro z D;obtain⟨⟨s0,s1,s2,s3,s4,s5⟩,⟨r0,r1,r2,r3,r4⟩⟩:=D;go_simp
       try with_reducible rfl
      try simp only[Act.put,UX,VA,VB]
      refine et (by kernel_rfl) ?_ _
      go_wp2_with fail
      go_meet
      case rel=>exact⟨t,E,gb,rfl,rfl,ae.o⟩
     ·go_simp
      have P:Hd (Below a.heap.size a (aQ bX (I))):=H.o.trans ((aV bX _).mono H.o.size);have a4:Hd (Blk (aQ bX (I)) (I).heap.size (eo bX) 30):=bU _ _;have b7:F1 g gx u x (aQ bX (I)):=o.o _ P.o;have ad:a.heap.size<=(I).heap.size:=H.o.size;have b4:Hd (qq (aQ bX (I)) y):=ax.o.below (aV bX _);refine C.out _ (aQ bX (I)) (fun _=>b7) ?_
      clear C K;try simp only[Act.put,UX,VA,VB]
      generalize aQ bX (I)=bu at*;generalize (I).heap.size=gb at*;refine ar (i:=4) (by kernel_rfl) rfl (fun K C=>?_)
      go_simp
      refine(ak.o y _ P.o b4.o).mono ?_
      rintro e A⟨⟨t,E,rfl,N,a0,r⟩,q⟩;have a9:Hd (Below a.heap.size a A):=P.o.trans (q.mono P.o.size);have am:Hd (gD A t):=N;have a2:Hd (E=0->Wo.Inv t.w n):=a0;have J:F1 g gx u x A:=o.o _ a9.o;have Y:Hd (Blk A gb (eo bX) 30):=(q.block _ a4.o.lt).trans a4.o;have au:Hd (∀s x,s≠0->bk 0 t s=some x->x≠gb/\a.heap.size<=x/\x<A.heap.size):=fun s x hs e=>by have:=r s x hs e;have:=a4.o.lt;have:=P.o.size;omega
      refine C.out _ _ (fun _=>J) ?_
      clear C K N a0 r q;try simp only[Act.put,UX,VA,VB]
      refine aT (i:=5) (v:=?vv5FAD) rfl (by kernel_rfl) (fun _ _ _ h=>h) (Or.inl ⟨by rfl,fun z D=>?hy5FAD⟩) J ?rest5FAD
      case hy5FAD=>obtain⟨⟨s0,s1,s2,s3,s4,s5⟩,⟨r0,r1,r2,r3,r4⟩⟩:=D;go_simp;try with_reducible rfl
      try simp only[Act.put,UX]
      refine aT (i:=6) (v:=?vv6FAD) rfl (by kernel_rfl) (fun _ _ _ h=>h) (Or.inl ⟨by rfl,fun z D=>?hy6FAD⟩) J ?rest6FAD
      case hy6FAD=>obtain⟨⟨s0,s1,s2,s3,s4,s5⟩,⟨r0,r1,r2,r3,r4⟩⟩:=D;go_simp;try with_reducible rfl
      try simp only[Act.put]
      refine aT (i:=7) (v:=?vv7FAD) rfl (by kernel_rfl) (fun _ _ _ h=>h) (Or.inl ⟨by rfl,fun z D=>?hy7FAD⟩) J ?rest7FAD
      case hy7FAD=>obtain⟨⟨s0,s1,s2,s3,s4,s5⟩,⟨r0,r1,r2,r3,r4⟩⟩:=D;go_simp;try with_reducible rfl
      try simp only[Act.put]
      obtain⟨z0,z1,z2,z3,z4,z5⟩:=vT Y.o;obtain⟨f0,f1,f2,f3,f4,f5⟩:=PG Y.o;have O:=Tq Y.o am.o a2.o au.o a9.o ad;have ae:Hd (Rj a n E t gb (cO A gb t)):=O;have a1:F1 g gx u x (cO A gb t):=o.o _ O.below;clear O;refine ar (i:=9) (by kernel_rfl) rfl (fun K C=>?_)
      go_simp
      refine C.out _ (cO A gb t) (fun _=>a1) ?_
      clear C K;try simp only[Act.put,UX,VA,VB]
      refine lB (i:=10) (oi:=_) (v:=?vv10fFAD) (some 15) rfl rfl (by kernel_rfl) (by kernel_rfl) (by kernel_rfl) (by kernel_rfl) (fun _ _ _ h=>h) (Or.inl ⟨by rfl,?hy10fFAD⟩) a1 ?rest10fFAD
      case hy10fFAD=>
       intro z D;obtain⟨⟨s0,s1,s2,s3,s4,s5⟩,⟨r0,r1,r2,r3,r4⟩⟩:=D;go_simp
       try with_reducible rfl
      try simp only[Act.put,UX,VA,VB]
      refine et (by kernel_rfl) ?_ _
      go_wp2_with fail
      go_meet
      case rel=>exact⟨t,E,gb,rfl,rfl,ae.o⟩
    ·go_simp
     have a7:Hd (Below a.heap.size a (aQ bX (a.drew))):=T.o.trans ((aV bX _).mono T.o.size);have ay:Hd (Blk (aQ bX (a.drew)) a.heap.size (eo bX) 30):=bU _ _;have bh:F1 g gx u x (aQ bX (a.drew)):=o.o _ a7.o;have ad:a.heap.size<=a.heap.size:=UZ _;refine C.out _ (aQ bX (a.drew)) (fun _=>bh) ?_
     clear C K;try simp only[Act.put,UX,VA,VB]
     generalize aQ bX (a.drew)=bv at*;refine ar (i:=3) (by kernel_rfl) rfl (fun K C=>?_)
     go_simp
     refine(b3.o _ a7.o).mono ?_
     rintro e a6⟨⟨y,rfl,hy⟩,q⟩;have Q:Hd (Below a.heap.size a a6):=a7.o.trans (q.mono a7.o.size);have b5:Hd (qq a6 y):=hy;have b8:F1 g gx u x a6:=o.o _ Q.o;have a5:Hd (Blk a6 (a.heap.size) (eo bX) 30):=(q.block _ ay.o.lt).trans ay.o;refine C.out _ _ (fun _=>b8) ?_
     clear C K hy q;try simp only[Act.put,UX,VA,VB]
     refine ar (i:=4) (by kernel_rfl) rfl (fun K C=>?_)
     go_simp
     refine(ak.o y _ Q.o b5.o).mono ?_
     rintro e B⟨⟨t,E,rfl,N,a0,r⟩,q⟩;have aa:Hd (Below a.heap.size a B):=Q.o.trans (q.mono Q.o.size);have an:Hd (gD B t):=N;have a2:Hd (E=0->Wo.Inv t.w n):=a0;have L:F1 g gx u x B:=o.o _ aa.o;have Z:Hd (Blk B (a.heap.size) (eo bX) 30):=(q.block _ a5.o.lt).trans a5.o;have av:Hd (∀s x,s≠0->bk 0 t s=some x->x≠(a.heap.size)/\a.heap.size<=x/\x<B.heap.size):=fun s x hs e=>by have:=r s x hs e;have:=a5.o.lt;have:=Q.o.size;omega
     refine C.out _ _ (fun _=>L) ?_
     clear C K N a0 r q;try simp only[Act.put,UX,VA,VB]
     refine aT (i:=5) (v:=?vv5AFD) rfl (by kernel_rfl) (fun _ _ _ h=>h) (Or.inl ⟨by rfl,fun z D=>?hy5AFD⟩) L ?rest5AFD
     case hy5AFD=>obtain⟨⟨s0,s1,s2,s3,s4,s5⟩,⟨r0,r1,r2,r3,r4⟩⟩:=D;go_simp;try with_reducible rfl
     try simp only[Act.put,UX]
     refine aT (i:=6) (v:=?vv6AFD) rfl (by kernel_rfl) (fun _ _ _ h=>h) (Or.inl ⟨by rfl,fun z D=>?hy6AFD⟩) L ?rest6AFD
     case hy6AFD=>obtain⟨⟨s0,s1,s2,s3,s4,s5⟩,⟨r0,r1,r2,r3,r4⟩⟩:=D;go_simp;try with_reducible rfl
     try simp only[Act.put]
     refine aT (i:=7) (v:=?vv7AFD) rfl (by kernel_rfl) (fun _ _ _ h=>h) (Or.inl ⟨by rfl,fun z D=>?hy7AFD⟩) L ?rest7AFD
     case hy7AFD=>obtain⟨⟨s0,s1,s2,s3,s4,s5⟩,⟨r0,r1,r2,r3,r4⟩⟩:=D;go_simp;try with_reducible rfl
     try simp only[Act.put]
     obtain⟨z0,z1,z2,z3,z4,z5⟩:=vT Z.o;obtain⟨f0,f1,f2,f3,f4,f5⟩:=PG Z.o;have O:=Tq Z.o an.o a2.o av.o aa.o ad;have ae:Hd (Rj a n E t (a.heap.size) (cO B (a.heap.size) t)):=O;have a1:F1 g gx u x (cO B (a.heap.size) t):=o.o _ O.below;clear O;refine ar (i:=9) (by kernel_rfl) rfl (fun K C=>?_)
     go_simp
     refine C.out _ (cO B (a.heap.size) t) (fun _=>a1) ?_
     clear C K;try simp only[Act.put,UX,VA,VB]
     refine lB (i:=10) (oi:=_) (v:=?vv10fAFD) (some 15) rfl rfl (by kernel_rfl) (by kernel_rfl) (by kernel_rfl) (by kernel_rfl) (fun _ _ _ h=>h) (Or.inl ⟨by rfl,?hy10fAFD⟩) a1 ?rest10fAFD
     case hy10fAFD=>
      intro z D;obtain⟨⟨s0,s1,s2,s3,s4,s5⟩,⟨r0,r1,r2,r3,r4⟩⟩:=D;go_simp
      try with_reducible rfl
     try simp only[Act.put,UX,VA,VB]
     refine et (by kernel_rfl) ?_ _
     go_wp2_with fail
     go_meet
     case rel=>exact⟨t,E,(a.heap.size),rfl,rfl,ae.o⟩
   case rest=>
    obtain⟨t',E,g2,rfl,rfl,az⟩:=hcut;have ag:Hd (EU w n g u wc):=G.o.mono az.below;have HP:Hd (Rj a n E t' g2 wc):=az;clear az G o b3 ak;generalize wc=W5 at*;by_cases gE:E=0
    ·have af:Hd (EU w n g t' (cO W5 g t')):=ag.o.put HP.o.nV (HP.o.inv gE) (fun s x hs e=>by have:=HP.o.cu s x hs e;omega);obtain⟨o0,o1,o2,o3,o4,o5⟩:=vT HP.o.box;obtain⟨z0,z1,z2,z3,z4,z5⟩:=vT ag.o.box;obtain⟨f0,f1,f2,f3,f4,f5⟩:=PG ag.o.box;subst gE;clear HP ag;go_upto_region 10 with fail
     change Code.wp prog _ _ _ (cO W5 g t');generalize cO W5 g t'=W6 at*;clear o0 o1 o2 o3 o4 o5 z0 z1 z2 z3 z4 z5 f0 f1 f2 f3 f4 f5;obtain⟨o0,o1,o2,o3,o4,o5⟩:=vT af.o.box;have CK:=bs.o t' W6 af.o.below af.o.nV af.o.inv;rcases HF.o with rfl|rfl
     all_goals
      go_wp2_with fail
      refine CK.mono ?_
      rintro e w7⟨rfl,q⟩;have bp:Hd (EU w n g t' w7):=af.o.mono q;clear q CK;go_wp2
      go_roundw
      case rel=>exact⟨k+1,t',bb,by go_num,bp.o⟩
      case measure=>simp[intOf];omega
    ·have sE:(E==0)=false:=by simpa using gE
     go_wp2
     go_roundw
     case rel=>exact⟨k+1,u,bb,by go_num,ag.o⟩
     case measure=>simp[intOf];omega
  ·obtain rfl:k=K:=by omega
   have hf:decide ((k:Int)<(k:Int))=false:=by simp
   obtain⟨h1,h2,h3,h4⟩:=HI.o.ret;have bn:=hId h1;have bo:=hId h2;have br:=hId h3;have bt:=hId h4;obtain⟨o0,o1,o2,o3,o4,o5⟩:=vT HI.o.box;obtain⟨z0,z1,z2,z3,z4,z5⟩:=vT HI.o.iM;obtain⟨f0,f1,f2,f3,f4,f5⟩:=PG HI.o.iM;clear h1 h2 h3 h4;go_wp2
   change bodyPost prog _ _ Exit.ret _ (cO wr w.heap.size u);exact VL (js (t:=u) (c:=.bool true) rfl _ rfl rfl bn.o) rfl ⟨⟨u,rfl,bo.o,HI.o.inv,br.o⟩,bt.o⟩
