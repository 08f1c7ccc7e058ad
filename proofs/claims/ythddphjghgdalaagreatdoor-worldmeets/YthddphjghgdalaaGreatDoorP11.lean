/- A part. -/
import Derived.Test.YthddphjghgdalaaGreatDoorP10
set_option maxRecDepth 100000
set_option maxHeartbeats 12800000
namespace Go.Proofs.YthddphjghgdalaaGreatDoor
open Go.RowKit Go.Proofs.Tryz
theorem B6(ao ay:Option Addr)(n ax n' ah:Nat)(vs N:List PV)(w:World)(hO:ae w ao n ax vs)(c2:ae w ay n' ah N)(hR:Ac.dR (vs.map PV.pt))(bf:Ac.dR (N.map PV.pt))(bt:Ac.nd (vs.map PV.pt)=Ac.nd (N.map PV.pt)):
  Calls prog 143 #[.agg #[.slice ao n ax,.int .i64 0,.slice ay n' ah,.int .i64 0]] w fun e w'=>(∃a0 n0 c0 u0 a1 n1 c1 u1,e=.returned (.agg #[.slice a0 n0 c0,.slice a1 n1 c1])/\ae w' a0 n0 c0 u0/\ae w' a1 n1 c1 u1/\Ac.bF (Ac.ah (vs.map PV.pt)) (Ac.ah (N.map PV.pt))=(Ac.ah (u0.map PV.pt),Ac.ah (u1.map PV.pt))/\(∀v∈u0,Ac.bG v.pt=0)/\(∀v∈u1,Ac.bG v.pt=0)/\u0.length<=80/\u1.length<=80)/\Below w.heap.size w w':=by
 obtain⟨i0,hi,ak,aj,ai⟩:=info_parts Tryz.vj;have c4:Hd (cY w (k9 (k9 (BC ⟨ao,n,ax,vs,0⟩ ⟨ay,n',ah,N,0⟩ w))) ⟨ao,n,ax,vs,0⟩ ⟨ay,n',ah,N,0⟩ (.slice none 0 0) (.slice none 0 0) [] []):=cY.start _ _ w hO c2;have c6:Hd (Ac.eE (vs.map PV.pt) (N.map PV.pt) (vs.map PV.pt) 0 (N.map PV.pt) 0 [] []):=Ac.eE.start hR bf bt;have HF:Hd ((vs.map PV.pt).length+(N.map PV.pt).length<=80):=by have:=hR.Ia;have:=bf.Ia;show _<=_;omega
 obtain⟨A,hA⟩:∃A,vs.map PV.pt=A:=⟨_,rfl⟩;obtain⟨B,hB⟩:∃B,N.map PV.pt=B:=⟨_,rfl⟩;have K:Hd (Ac.eE A B (vs.map PV.pt) 0 (N.map PV.pt) 0 [] []):=by have:=c6.o;rw[hA,hB]at this;show Ac.eE A B (vs.map PV.pt) 0 (N.map PV.pt) 0 [] [];rw[hA,hB];exact this
 rw[hA,hB]at HF⊢;clear c6;clear hO c2 hR bf bt hA hB;go_enter func143,ntmps143
 go_wp2_with fail
 go_loopw [9] (fun _ wr=>∃r s x y D C,cY w wr r s x y D C/\Ac.eE A B (r.vs.map PV.pt) r.g (s.vs.map PV.pt) s.g (D.map PV.pt) (C.map PV.pt)) (fun _ wr=>od wr ⟨w.heap.size,0,none⟩+od wr ⟨w.heap.size,2,none⟩)
 case atStart=>exact⟨_,_,_,_,[],[],c4.o,K.o⟩
 case round=>
  obtain⟨r,s,x,y,D,C,hT,hI⟩:=hrel;have f:Hd (cY w wr r s x y D C):=hT;have HI:Hd (Ac.eE A B (r.vs.map PV.pt) r.g (s.vs.map PV.pt) s.g (D.map PV.pt) (C.map PV.pt)):=hI;clear hT hI c4 K;obtain⟨b9,F⟩:∃b9,r.vs=b9:=⟨_,rfl⟩
  cases b9 with
  |nil=>
   have C1:Hd (Calls prog 152 #[.pointer (some ⟨w.heap.size,0,none⟩)] wr fun e w'=>e=.returned (.bool false)/\w'=wr):=mE w.heap.size r s wr false (by have:=f.o.hr.len;rw[F]at this;simp at this;simp;omega) f.o.pb;have HD:Hd (Ac.bF (Ac.ah A) (Ac.ah B)=(Ac.ah (D.map PV.pt),Ac.ah (C.map PV.pt))):=by have:=HI.o;rw[F]at this;exact this.done
   have m0:=f.o.mb.c0;have m1:=f.o.mb.c1;have r0:=f.o.rb.c0;have r1:=f.o.rb.c1;have f0:=f.o.rb.frozen 0;have f1:=f.o.rb.frozen 1;obtain⟨k1,⟨xa,G,xc,hx,bn⟩,⟨ya,I,yc,hy,bm⟩,k4⟩:=f.o.ret;have K1:Hd _:=k1;have K4:Hd _:=k4;have cw:Hd (ae (gI wr (w.heap.size+1) x y) xa G xc D):=bn;have cv:Hd (ae (gI wr (w.heap.size+1) x y) ya I yc C):=bm;clear F bn bm k1 k4;subst hx hy;go_wp2_with fail
   refine C1.o.mono ?_
   rintro e w1⟨rfl,hw⟩;obtain rfl:=hw.symm;go_wp2
   change bodyPost prog _ _ Exit.ret _ (gI wr (w.heap.size+1) (.slice xa G xc) (.slice ya I yc));have am:=HI.o.lx;have aw:=HI.o.ly;have hf:=HF.o;rw[VH]at am aw;exact VL (pA rfl _ rfl K1.o) rfl ⟨⟨_,_,_,D,_,_,_,C,rfl,cw.o,cv.o,HD.o,fun v hv=>HI.o.DB _ (XI.2 ⟨v,hv,rfl⟩),fun v hv=>HI.o.QB _ (XI.2 ⟨v,hv,rfl⟩),by omega,by omega⟩,K4.o⟩
  |cons v t=>
   obtain⟨b,L,a4⟩:∃b L,s.vs=b::L:=by
    cases hs:s.vs with
    |nil=>
     have:=HI.o.left.2 (by rw[hs];rfl);rw[F]at this
     cases this
    |cons b L=>exact⟨b,L,rfl⟩
   have J:Hd (ae w r.ao r.n r.cap (v::t)):=by have:=f.o.hr;rw[F]at this;exact this
   have Y:Hd (ae w s.ao s.n s.cap (b::L)):=by have:=f.o.hs;rw[a4]at this;exact this
   have K:Hd (Ac.eE A B (v.pt::t.map PV.pt) r.g (b.pt::L.map PV.pt) s.g (D.map PV.pt) (C.map PV.pt)):=by have:=HI.o;rw[F,a4]at this;exact this
   have C1:Hd (Calls prog 152 #[.pointer (some ⟨w.heap.size,0,none⟩)] wr fun e w'=>e=.returned (.bool true)/\w'=wr):=mE w.heap.size r s wr true (by have:=f.o.hr.len;rw[F]at this;simp at this;simp;omega) f.o.pb;have EV:Hd (Ac.bG v.pt=0):=K.o.rp.ok _ (VK ..);have EW:Hd (Ac.bG b.pt=0):=K.o.rq.ok _ (VK ..);have E1:Hd (ef v=(Ac.lg v.pt:Int)):=uJ (J.o.iE v (VK ..)) EV.o;have E2:Hd (ef b=(Ac.lg b.pt:Int)):=uJ (Y.o.iE b (VK ..)) EW.o;have am:(r.g:Int)<ef v/\ef v<=80:=by have h1:=K.o.rp.lt _ _ rfl;have h2:=(Ac.nG EV.o).2;rw[E1.o];omega
   have aw:(s.g:Int)<ef b/\ef b<=80:=by have h1:=K.o.rq.lt _ _ rfl;have h2:=(Ac.nG EW.o).2;rw[E2.o];omega
   by_cases kv:v.kind=2
   ·obtain⟨q,hq⟩:∃q:Nat,ef v-r.g=q:=⟨(ef v-r.g).toNat,by omega⟩;have O:1<=q:=by omega
    have a5:ef v=((r.g+q:Nat):Int):=by omega
    have C2:Hd (Calls prog 166 #[.pointer (some ⟨w.heap.size,0,none⟩)] wr fun e w'=>e=.returned (.tuple #[.int .i64 0,.bool true])/\w'=wr):=Hc w.heap.size r s wr f.o.pb (f.o.hr.below f.o.bf) (f.o.hs.below f.o.bf) (by rw[F];simp[xU,kv]);have C3:Hd (Calls prog 154 #[.pointer (some ⟨w.heap.size,0,none⟩)] wr fun e w'=>e=.returned (.agg #[.int .i64 (aE v r.g q).kind,.int .i64 (aE v r.g q).n,.slice (aE v r.g q).ao (aE v r.g q).m (aE v r.g q).cap,.int .i64 (aE v r.g q).set,.int .i64 (aE v r.g q).bm,.bool (aE v r.g q).goes,.string (aE v r.g q).link])/\Blk w' w.heap.size (oK (r.next v t q) s) 180/\Kept wr w' [w.heap.size]):=oW w.heap.size r s v t q wr f.o.pb (J.o.below f.o.bf) (J.o.off (UZ _)) O a5 (by omega);have af:Hd (dV w (aE v r.g q)):=(J.o.iE v (VK ..)).piece O (fun k=>by have h:=a5;unfold ef at h;rw[VC k]at h;omega);have bl:Hd ((aE v r.g q).m=q):=by show _=_;unfold aE;rw[VC kv]
    have ap:Hd (ae w (r.next v t q).ao (r.next v t q).n (r.next v t q).cap (r.next v t q).vs):=RV.kW J.o q;have aq:Hd (Ac.eE A B ((r.next v t q).vs.map PV.pt) (r.next v t q).g (s.vs.map PV.pt) s.g ((D++[aE v r.g q]).map PV.pt) ((C++[(⟨1,q,none,0,0,[],0,0,false,⟨#[]⟩⟩:PV)]).map PV.pt)):=by
     have h:=K.o.Tp kv;have hE:r.g+q=Ac.lg v.pt:=by have:=E1.o;omega
     have bb:Ac.lg v.pt-r.g=q:=by omega
     rw[bb]at h;have hn:=kV (r:=r) (t:=t) (J.o.iE v (VK ..)) EV.o q;show Ac.eE _ _ _ _ _ _ _ _
     rw[hn.1,hn.2,Ac.dw hE,Ac.fF hE,a4];simp only[WN,XA,List.map_nil,bw]
     exact h
    have a6:D.length<=80/\C.length<=80:=by have h1:=HI.o.lx;have h2:=HI.o.ly;have h3:=HF.o;rw[VH]at h1 h2;exact⟨by omega,by omega⟩
    have ad:Hd ((r.next v t q).vs.length<r.vs.length):=by
     have hE:((r.g+q:Nat):Int)=ef v:=a5.symm;show _<_
     unfold RV.next;rw[VC hE,F];simp
    clear a5 O E1 E2 EV EW K F a4 kv am;generalize aE v r.g q=u at*;generalize r.next v t q=nx at*;go_wp2_with fail
    refine C1.o.mono ?_
    rintro e w1⟨rfl,hw⟩;obtain rfl:=hw.symm;go_wp2_with fail
    refine C2.o.mono ?_
    rintro e w1⟨rfl,hw⟩;obtain rfl:=hw.symm;go_wp2_with fail
    refine C3.o.mono ?_
    rintro e Q⟨rfl,a7,V⟩;have P:Hd (cY w Q nx s x y D C):=f.o.pair V a7 ap.o f.o.hs;have d:Hd (cY w (aH u Q) nx s x y D C):=P.o.under (aK u Q);have E:Hd (Blk (aH u Q) Q.heap.size (iD u) 100):=dC u Q;clear a7 V C1 C2 C3;go_upto_region 6 with fail
    change Code.wp prog _ _ _ (aH u Q);generalize aH u Q=W3 at*;have p0:=E.o.c0;have p1:=E.o.c1;have p2:=E.o.c2;have p3:=E.o.c3;have p4:=E.o.c4;have p5:=E.o.c5;have p6:=E.o.c6;have m0:=d.o.mb.c0;obtain⟨G,U⟩:∃G,D.length=G:=⟨_,rfl⟩;obtain⟨I,T⟩:∃I,C.length=I:=⟨_,rfl⟩;rw[U,T]at a6;obtain⟨b3,b2⟩:=a6;have a9:Hd (D.length=G):=U;have a8:Hd (C.length=I):=T;clear U T;have bk:Hd (W3.ownsRow (w.heap.size+3) 100 7 x G (aG D)):=by have:=d.o.mx;rw[a9.o]at this;exact this
    have co:w.heap.size+3<=W3.heap.size:=d.o.mb.lt;have cp:w.heap.size+1+1<W3.heap.size:=d.o.mb.lt;go_region_law (first|(refine step_append_lies _ rfl (.tmp 21) (.tmp 23) 32 rfl (w.heap.size+3) 100 i0 (.agg #[.int .i64 0,.int .i64 0,.slice none 0 0,.int .i64 0,.int .i64 0,.bool false,.string ⟨#[]⟩]) 7 80 underlying32 hi ak aj ai rfl (by decide) x G (aG D) rfl (bk.o.drew.alloc _) ⟨W3.heap.size,0,none⟩ 1 1 (iD u) rfl rfl (World.news_of_block (cs:=(iD u).toArray) (heap_alloc_new W3.drew _)) (by rw[<-bq];exact aY _) (by decide) (by unfold maxLen;omega) (by omega) (by simp;omega) _ rfl ?_;intro g a2 w4 aa l an bc;obtain⟨-,X⟩:=d.o.Kv ((VE _ _).drew.alloc (UZ _) _) l;have n0:=X.c0;have z0:w4.frozen? ⟨w.heap.size+1+1,0,none⟩=false:=X.frozen 0;clear X))
    all_goals
     have Z:Below W3.heap.size W3 (W3.drew.alloc (.cells #[.int .i64 u.kind,.int .i64 u.n,.slice u.ao u.m u.cap,.int .i64 u.set,.int .i64 u.bm,.bool u.goes,.string u.link] 100)):=(VE _ _).drew.alloc (UZ _) _;have c:=d.o.Oy (us:=[u]) Z (fun z hz=>by rw[UY.1 hz];exact af.o) (by rw[VI,a9.o]) (by rw[bq];exact aa) l an;have a3:Blk (w4.setCell ⟨w.heap.size+2,0,none⟩ (.slice (some ⟨g,0,none⟩) (G+1) a2)) Q.heap.size (iD u) 100:=(((d.o.Kv Z l).1).aM E.o (fun hx=>by have:=(P.o.mx.lt _ (cE hx)).2;omega)).other _ _ (by have:=P.o.mb.lt;simp;omega);clear Z aa l an bc n0 z0;change Exit.then _ _ Exit.normal _ (w4.setCell ⟨w.heap.size+2,0,none⟩ (.slice (some ⟨g,0,none⟩) (G+1) a2));generalize w4.setCell ⟨w.heap.size+2,0,none⟩ (.slice (some ⟨g,0,none⟩) (G+1) a2)=S at*;have c:Hd _:=c;have a3:Hd (Blk S Q.heap.size (iD u) 100):=a3;have n1:=c.o.mb.c1;have ba:=a3.o.c2;have cc:w.heap.size+3<=S.heap.size:=c.o.mb.lt;have cd:w.heap.size+1+1<S.heap.size:=c.o.mb.lt;have bj:Hd (S.ownsRow (w.heap.size+3) 100 7 y I (aG C)):=by have:=c.o.my;rw[a8.o]at this;exact this
     have cn:IntKind.i64.wrap 1=1:=by decide
     have cb:IntKind.i64.wrap 0=0:=by decide
     clear p0 p1 p2 p3 p4 p5 p6 m0;go_wp2_with fail
     go_region_law (first|(refine step_append_lies _ rfl (.tmp 31) (.tmp 36) 32 rfl (w.heap.size+3) 100 i0 (.agg #[.int .i64 0,.int .i64 0,.slice none 0 0,.int .i64 0,.int .i64 0,.bool false,.string ⟨#[]⟩]) 7 80 underlying32 hi ak aj ai rfl (by decide) y I (aG C) rfl (bj.o.drew.alloc _) ⟨S.heap.size,0,none⟩ 1 1 (iD ⟨1,(u.m:Int),none,0,0,[],0,0,false,⟨#[]⟩⟩) rfl rfl (World.news_of_block (cs:=(iD ⟨1,(u.m:Int),none,0,0,[],0,0,false,⟨#[]⟩⟩).toArray) (heap_alloc_new S.drew _)) (by rw[<-bq];exact aY _) (by decide) (by unfold maxLen;omega) (by omega) (by simp;omega) _ rfl ?_;intro g6 ac w6 i o M ar;obtain⟨-,W⟩:=c.o.Ku ((VE _ _).drew.alloc (UZ _) _) o;have n3:=W.c1;have z3:w6.frozen? ⟨w.heap.size+1+1,1,none⟩=false:=W.frozen 1;clear W))
     all_goals
      have ab:Below S.heap.size S (S.drew.alloc (.cells #[.int .i64 1,.int .i64 u.m,.slice none 0 0,.int .i64 0,.int .i64 0,.bool false,.string ⟨#[]⟩] 100)):=(VE _ _).drew.alloc (UZ _) _;have H:=c.o.Ox (us:=[⟨1,(u.m:Int),none,0,0,[],0,0,false,⟨#[]⟩⟩]) ab (fun z hz=>by rw[UY.1 hz];exact⟨cf w,VN _⟩) (by rw[VI,a8.o]) (by rw[bq];exact i) o M;clear ab i o M ar n3 z3;change Exit.then _ _ Exit.normal _ (w6.setCell ⟨w.heap.size+2,1,none⟩ (.slice (some ⟨g6,0,none⟩) (I+1) ac));generalize w6.setCell ⟨w.heap.size+2,1,none⟩ (.slice (some ⟨g6,0,none⟩) (I+1) ac)=W7 at*;have H:Hd _:=H;clear n1 ba;go_wp2
      go_roundw
      case rel=>exact⟨_,_,_,_,_,_,H.o,by rw[bl.o];exact aq.o⟩
      case measure=>have h1:=f.o.left;have h2:=H.o.left;have h3:=ad.o;omega
   ·by_cases kw:b.kind=2
    ·obtain⟨q,hq⟩:∃q:Nat,ef b-s.g=q:=⟨(ef b-s.g).toNat,by omega⟩;have O:1<=q:=by omega
     have a5:ef b=((s.g+q:Nat):Int):=by omega
     have C2:Hd (Calls prog 166 #[.pointer (some ⟨w.heap.size,0,none⟩)] wr fun e w'=>e=.returned (.tuple #[.int .i64 1,.bool true])/\w'=wr):=Hb w.heap.size r s wr f.o.pb (f.o.hr.below f.o.bf) (f.o.hs.below f.o.bf) (by rw[F];simp[xU,kv]) (by rw[a4];simp[xU,kw]);have C3:Hd (Calls prog 154 #[.pointer (some ⟨w.heap.size,2,none⟩)] wr fun e w'=>e=.returned (.agg #[.int .i64 (aE b s.g q).kind,.int .i64 (aE b s.g q).n,.slice (aE b s.g q).ao (aE b s.g q).m (aE b s.g q).cap,.int .i64 (aE b s.g q).set,.int .i64 (aE b s.g q).bm,.bool (aE b s.g q).goes,.string (aE b s.g q).link])/\Blk w' w.heap.size (oK r (s.next b L q)) 180/\Kept wr w' [w.heap.size]):=oV w.heap.size r s b L q wr f.o.pb (Y.o.below f.o.bf) (Y.o.off (UZ _)) O a5 (by omega);have af:Hd (dV w (aE b s.g q)):=(Y.o.iE b (VK ..)).piece O (fun k=>by have h:=a5;unfold ef at h;rw[VC k]at h;omega);have bl:Hd ((aE b s.g q).m=q):=by show _=_;unfold aE;rw[VC kw]
     have ap:Hd (ae w (s.next b L q).ao (s.next b L q).n (s.next b L q).cap (s.next b L q).vs):=RV.kW Y.o q;have aq:Hd (Ac.eE A B (r.vs.map PV.pt) r.g ((s.next b L q).vs.map PV.pt) (s.next b L q).g ((D++[(⟨1,q,none,0,0,[],0,0,false,⟨#[]⟩⟩:PV)]).map PV.pt) ((C++[aE b s.g q]).map PV.pt)):=by
      have h:=K.o.Pz kv kw;have hE:s.g+q=Ac.lg b.pt:=by have:=E2.o;omega
      have bb:Ac.lg b.pt-s.g=q:=by omega
      rw[bb]at h;have hn:=kV (r:=s) (t:=L) (Y.o.iE b (VK ..)) EW.o q;show Ac.eE _ _ _ _ _ _ _ _
      rw[hn.1,hn.2,Ac.dw hE,Ac.fF hE,F];simp only[WN,XA,List.map_nil,bw]
      exact h
     have a6:D.length<=80/\C.length<=80:=by have h1:=HI.o.lx;have h2:=HI.o.ly;have h3:=HF.o;rw[VH]at h1 h2;exact⟨by omega,by omega⟩
     have ad:Hd ((s.next b L q).vs.length<s.vs.length):=by
      have hE:((s.g+q:Nat):Int)=ef b:=a5.symm;show _<_
      unfold RV.next;rw[VC hE,a4];simp
     clear a5 O E1 E2 EV EW K F a4 kv kw am aw;generalize aE b s.g q=u at*;generalize s.next b L q=nx at*;go_wp2_with fail
     refine C1.o.mono ?_
     rintro e w1⟨rfl,hw⟩;obtain rfl:=hw.symm;go_wp2_with fail
     refine C2.o.mono ?_
     rintro e w1⟨rfl,hw⟩;obtain rfl:=hw.symm;go_wp2_with fail
     refine C3.o.mono ?_
     rintro e Q⟨rfl,a7,V⟩;have P:Hd (cY w Q r nx x y D C):=f.o.pair V a7 f.o.hr ap.o;have d:Hd (cY w (aH u Q) r nx x y D C):=P.o.under (aK u Q);have E:Hd (Blk (aH u Q) Q.heap.size (iD u) 100):=dC u Q;clear a7 V C1 C2 C3;go_upto_region 6 with fail
     change Code.wp prog _ _ _ (aH u Q);generalize aH u Q=W3 at*;have p0:=E.o.c0;have p1:=E.o.c1;have p2:=E.o.c2;have p3:=E.o.c3;have p4:=E.o.c4;have p5:=E.o.c5;have p6:=E.o.c6;have m0:=d.o.mb.c1;obtain⟨I,T⟩:∃I,C.length=I:=⟨_,rfl⟩;obtain⟨G,U⟩:∃G,D.length=G:=⟨_,rfl⟩;rw[T,U]at a6;obtain⟨b3,b2⟩:=a6;have a8:Hd (C.length=I):=T;have a9:Hd (D.length=G):=U;clear T U;have bj:Hd (W3.ownsRow (w.heap.size+3) 100 7 y I (aG C)):=by have:=d.o.my;rw[a8.o]at this;exact this
     have co:w.heap.size+3<=W3.heap.size:=d.o.mb.lt;have cp:w.heap.size+1+1<W3.heap.size:=d.o.mb.lt;go_region_law (first|(refine step_append_lies _ rfl (.tmp 21) (.tmp 23) 32 rfl (w.heap.size+3) 100 i0 (.agg #[.int .i64 0,.int .i64 0,.slice none 0 0,.int .i64 0,.int .i64 0,.bool false,.string ⟨#[]⟩]) 7 80 underlying32 hi ak aj ai rfl (by decide) y I (aG C) rfl (bj.o.drew.alloc _) ⟨W3.heap.size,0,none⟩ 1 1 (iD u) rfl rfl (World.news_of_block (cs:=(iD u).toArray) (heap_alloc_new W3.drew _)) (by rw[<-bq];exact aY _) (by decide) (by unfold maxLen;omega) (by omega) (by simp;omega) _ rfl ?_;intro g a2 w4 aa l an bc;obtain⟨-,X⟩:=d.o.Ku ((VE _ _).drew.alloc (UZ _) _) l;have n0:=X.c1;have z0:w4.frozen? ⟨w.heap.size+1+1,1,none⟩=false:=X.frozen 1;clear X))
     all_goals
      have Z:Below W3.heap.size W3 (W3.drew.alloc (.cells #[.int .i64 u.kind,.int .i64 u.n,.slice u.ao u.m u.cap,.int .i64 u.set,.int .i64 u.bm,.bool u.goes,.string u.link] 100)):=(VE _ _).drew.alloc (UZ _) _;have c:=d.o.Ox (us:=[u]) Z (fun z hz=>by rw[UY.1 hz];exact af.o) (by rw[VI,a8.o]) (by rw[bq];exact aa) l an;have a3:Blk (w4.setCell ⟨w.heap.size+2,1,none⟩ (.slice (some ⟨g,0,none⟩) (I+1) a2)) Q.heap.size (iD u) 100:=(((d.o.Ku Z l).1).aM E.o (fun hx=>by have:=(P.o.my.lt _ (cE hx)).2;omega)).other _ _ (by have:=P.o.mb.lt;simp;omega);clear Z aa l an bc n0 z0;change Exit.then _ _ Exit.normal _ (w4.setCell ⟨w.heap.size+2,1,none⟩ (.slice (some ⟨g,0,none⟩) (I+1) a2));generalize w4.setCell ⟨w.heap.size+2,1,none⟩ (.slice (some ⟨g,0,none⟩) (I+1) a2)=S at*;have c:Hd _:=c;have a3:Hd (Blk S Q.heap.size (iD u) 100):=a3;have n1:=c.o.mb.c0;have ba:=a3.o.c2;have cc:w.heap.size+3<=S.heap.size:=c.o.mb.lt;have cd:w.heap.size+1+1<S.heap.size:=c.o.mb.lt;have bk:Hd (S.ownsRow (w.heap.size+3) 100 7 x G (aG D)):=by have:=c.o.mx;rw[a9.o]at this;exact this
      have cn:IntKind.i64.wrap 1=1:=by decide
      have cb:IntKind.i64.wrap 0=0:=by decide
      clear p0 p1 p2 p3 p4 p5 p6 m0;go_wp2_with fail
      go_region_law (first|(refine step_append_lies _ rfl (.tmp 31) (.tmp 36) 32 rfl (w.heap.size+3) 100 i0 (.agg #[.int .i64 0,.int .i64 0,.slice none 0 0,.int .i64 0,.int .i64 0,.bool false,.string ⟨#[]⟩]) 7 80 underlying32 hi ak aj ai rfl (by decide) x G (aG D) rfl (bk.o.drew.alloc _) ⟨S.heap.size,0,none⟩ 1 1 (iD ⟨1,(u.m:Int),none,0,0,[],0,0,false,⟨#[]⟩⟩) rfl rfl (World.news_of_block (cs:=(iD ⟨1,(u.m:Int),none,0,0,[],0,0,false,⟨#[]⟩⟩).toArray) (heap_alloc_new S.drew _)) (by rw[<-bq];exact aY _) (by decide) (by unfold maxLen;omega) (by omega) (by simp;omega) _ rfl ?_;intro g6 ac w6 i o M ar;obtain⟨-,W⟩:=c.o.Kv ((VE _ _).drew.alloc (UZ _) _) o;have n3:=W.c0;have z3:w6.frozen? ⟨w.heap.size+1+1,0,none⟩=false:=W.frozen 0;clear W))
      all_goals
       have ab:Below S.heap.size S (S.drew.alloc (.cells #[.int .i64 1,.int .i64 u.m,.slice none 0 0,.int .i64 0,.int .i64 0,.bool false,.string ⟨#[]⟩] 100)):=(VE _ _).drew.alloc (UZ _) _;have H:=c.o.Oy (us:=[⟨1,(u.m:Int),none,0,0,[],0,0,false,⟨#[]⟩⟩]) ab (fun z hz=>by rw[UY.1 hz];exact⟨cf w,VN _⟩) (by rw[VI,a9.o]) (by rw[bq];exact i) o M;clear ab i o M ar n3 z3;change Exit.then _ _ Exit.normal _ (w6.setCell ⟨w.heap.size+2,0,none⟩ (.slice (some ⟨g6,0,none⟩) (G+1) ac));generalize w6.setCell ⟨w.heap.size+2,0,none⟩ (.slice (some ⟨g6,0,none⟩) (G+1) ac)=W7 at*;have H:Hd _:=H;clear n1 ba;go_wp2
       go_roundw
       case rel=>exact⟨_,_,_,_,_,_,H.o,by rw[bl.o];exact aq.o⟩
       case measure=>have h1:=f.o.left;have h2:=H.o.left;have h3:=ad.o;omega
    ·obtain⟨q,b4⟩:∃q:Nat,min (ef v-r.g) (ef b-s.g)=q:=⟨(min (ef v-r.g) (ef b-s.g)).toNat,by omega⟩;have O:1<=q:=by omega
     have bs:((r.g+q:Nat):Int)<=ef v:=by omega
     have br:((s.g+q:Nat):Int)<=ef b:=by omega
     have C2:Hd (Calls prog 166 #[.pointer (some ⟨w.heap.size,0,none⟩)] wr fun e w'=>e=.returned (.tuple #[.int .i64 0,.bool false])/\w'=wr):=Ha w.heap.size r s wr f.o.pb (f.o.hr.below f.o.bf) (f.o.hs.below f.o.bf) (by rw[F];simp[xU,kv]) (by rw[a4];simp[xU,kw]);have C3:Hd (Calls prog 156 #[.pointer (some ⟨w.heap.size,0,none⟩)] wr fun e w'=>e=.returned (.agg #[.int .i64 (aE v r.g q).kind,.int .i64 (aE v r.g q).n,.slice (aE v r.g q).ao (aE v r.g q).m (aE v r.g q).cap,.int .i64 (aE v r.g q).set,.int .i64 (aE v r.g q).bm,.bool (aE v r.g q).goes,.string (aE v r.g q).link,.int .i64 (aE b s.g q).kind,.int .i64 (aE b s.g q).n,.slice (aE b s.g q).ao (aE b s.g q).m (aE b s.g q).cap,.int .i64 (aE b s.g q).set,.int .i64 (aE b s.g q).bm,.bool (aE b s.g q).goes,.string (aE b s.g q).link])/\Blk w' w.heap.size (oK (r.next v t q) (s.next b L q)) 180/\Kept wr w' [w.heap.size]):=pj w.heap.size r s v t b L q w wr f.o.bf (UZ _) f.o.pb J.o Y.o O bs br (by omega) (by omega) b4;have af:Hd (dV w (aE v r.g q)):=(J.o.iE v (VK ..)).piece O (fun k=>absurd k kv);have bi:Hd (dV w (aE b s.g q)):=(Y.o.iE b (VK ..)).piece O (fun k=>absurd k kw);have al:=kV (r:=r) (t:=t) (J.o.iE v (VK ..)) EV.o q;have av:=kV (r:=s) (t:=L) (Y.o.iE b (VK ..)) EW.o q;have bp:q=min (Ac.lg v.pt-r.g) (Ac.lg b.pt-s.g):=by have h1:=E1.o;have h2:=E2.o;omega
     have aq:Hd (Ac.eE A B ((r.next v t q).vs.map PV.pt) (r.next v t q).g ((s.next b L q).vs.map PV.pt) (s.next b L q).g ((D++mc (aE v r.g q) (aE b s.g q)).map PV.pt) ((C++ma (aE v r.g q) (aE b s.g q)).map PV.pt)):=by
      have h:=K.o.both kv kw bp;show Ac.eE _ _ _ _ _ _ _ _
      rw[al.1,al.2,av.1,av.2,WN,WN,MO,MN,bw,bw];exact h
     have ad:Hd ((r.next v t q).vs.length+(s.next b L q).vs.length<r.vs.length+s.vs.length):=by
      have h:=Ac.qB (p:=v.pt) (q:=b.pt) (t:=t.map PV.pt) (u:=L.map PV.pt) (g:=r.g) (h:=s.g) (n:=q) (by have h1:=E1.o;have h2:=E2.o;omega);rw[<-al.1,<-av.1]at h;simp only[VH]at h
      show _<_
      rw[F,a4];simp only[VG]
      omega
     have a6:D.length<=80/\C.length<=80:=by have h1:=HI.o.lx;have h2:=HI.o.ly;have h3:=HF.o;rw[VH]at h1 h2;exact⟨by omega,by omega⟩
     obtain⟨M1,M2⟩:=Ac.zq EV.o kv r.g q;obtain⟨M3,M4⟩:=Ac.zq EW.o kw s.g q;have bv:(aE v r.g q).kind=1\/(aE v r.g q).kind=3:=by
      have e:(aE v r.g q).kind=v.kind:=VQ Ac.Pt.kind (bw v r.g q)|>.trans (Ac.bp ..);rw[e];rcases Ac.cz EV.o with h|h|h
      ·exact .inl h
      ·exact absurd h kv
      ·exact .inr h
     have V:(aE b s.g q).kind=1\/(aE b s.g q).kind=3:=by
      have e:(aE b s.g q).kind=b.kind:=VQ Ac.Pt.kind (bw b s.g q)|>.trans (Ac.bp ..);rw[e];rcases Ac.cz EW.o with h|h|h
      ·exact .inl h
      ·exact absurd h kw
      ·exact .inr h
     have C4:Hd (∀w',Below w.heap.size w w'->Calls prog 167 #[.agg #[.int .i64 (aE v r.g q).kind,.int .i64 (aE v r.g q).n,.slice (aE v r.g q).ao (aE v r.g q).m (aE v r.g q).cap,.int .i64 (aE v r.g q).set,.int .i64 (aE v r.g q).bm,.bool (aE v r.g q).goes,.string (aE v r.g q).link,.int .i64 (aE b s.g q).kind,.int .i64 (aE b s.g q).n,.slice (aE b s.g q).ao (aE b s.g q).m (aE b s.g q).cap,.int .i64 (aE b s.g q).set,.int .i64 (aE b s.g q).bm,.bool (aE b s.g q).goes,.string (aE b s.g q).link]] w' fun e b8=>(∃a0 n0 c0 a1 n1 c1,e=.returned (.agg #[.slice a0 n0 c0,.slice a1 n1 c1])/\ae b8 a0 n0 c0 (mc (aE v r.g q) (aE b s.g q))/\ae b8 a1 n1 c1 (ma (aE v r.g q) (aE b s.g q))/\vJ w' a0 n0/\vJ w' a1 n1)/\Below w'.heap.size w' b8):=fun w' hb=>Oc _ _ w' (af.o.below hb) (bi.o.below hb) bv V (by rw[<-bw]at M1;exact M1) (by rw[<-bw]at M2;exact M2) (by rw[<-bw]at M3;exact M3) (by rw[<-bw]at M4;exact M4);have ap:Hd (RV.ok w (r.next v t q)):=RV.kW J.o q;have cx:Hd (RV.ok w (s.next b L q)):=RV.kW Y.o q;have b1:Hd ((∀z∈mc (aE v r.g q) (aE b s.g q),dV w z)/\(mc (aE v r.g q) (aE b s.g q)).length<=1):=⟨I9 af.o,JA _ _⟩;have b0:Hd ((∀z∈ma (aE v r.g q) (aE b s.g q),dV w z)/\(ma (aE v r.g q) (aE b s.g q)).length<=1):=⟨I7 bi.o,I8 _ _⟩;clear b4 O bs br E1 E2 EV EW K F a4 kv kw am aw bv V M1 M2 M3 M4 al av bp af bi J Y;generalize mc (aE v r.g q) (aE b s.g q)=bx at*;generalize ma (aE v r.g q) (aE b s.g q)=bY at*;generalize aE v r.g q=u at*;generalize aE b s.g q=u' at*;generalize r.next v t q=nx at*;generalize s.next b L q=au at*;obtain⟨b6,cg⟩:=b1.o;obtain⟨b5,ce⟩:=b0.o;clear b1 b0;have b1:Hd (∀z∈bx,dV w z):=b6;have b0:Hd (∀z∈bY,dV w z):=b5;clear b6 b5;go_wp2_with fail
     refine C1.o.mono ?_
     rintro e w1⟨rfl,hw⟩;obtain rfl:=hw.symm;go_wp2_with fail
     refine C2.o.mono ?_
     rintro e w1⟨rfl,hw⟩;obtain rfl:=hw.symm;go_wp2_with fail
     refine C3.o.mono ?_
     rintro e Q⟨rfl,a7,V⟩;have P:Hd (cY w Q nx au x y D C):=f.o.pair V a7 ap.o cx.o;clear a7 V C1 C2 C3;go_wp2_with fail
     refine(C4.o _ P.o.bf).mono ?_
     rintro e w3⟨⟨a0,n0,c0,a1,n1,c1,rfl,o0,o1,-,c3⟩,bz⟩;have d:Hd (cY w w3 nx au x y D C):=P.o.under bz;have ca:Hd (ae w3 a0 n0 c0 bx):=o0;have c9:Hd (ae w3 a1 n1 c1 bY):=o1;have c8:Hd (vJ Q a1 n1):=c3;have cy:n0<=1:=by have:=o0.len;omega
     have al:n1<=1:=by have:=o1.len;omega
     clear o0 o1 c3 bz C4 cg ce;obtain⟨G,U⟩:∃G,D.length=G:=⟨_,rfl⟩;obtain⟨I,T⟩:∃I,C.length=I:=⟨_,rfl⟩;rw[U,T]at a6;obtain⟨b3,b2⟩:=a6;have a9:Hd (D.length=G):=U;have a8:Hd (C.length=I):=T;clear U T;have c5:Hd (w3.ownsRow (w.heap.size+3) 100 7 x G (aG D)):=by have:=d.o.mx;rw[a9.o]at this;exact this
     have ck:=d.o.mb.c0;have bo:w.heap.size+3<=w3.heap.size:=d.o.mb.lt;have Rg:=Qj (.slice a0 n0 c0) (.slice a1 n1 c1);have Sp:=Qi (.slice a0 n0 c0) (.slice a1 n1 c1);go_wp2_with fail
     refine WH 3 ?_
     rw[VJ];go_wp2_with (at_builtin;refine az _ rfl (.tmp 48) (.tmp 49) 32 rfl (w.heap.size+3) 100 i0 (.agg #[.int .i64 0,.int .i64 0,.slice none 0 0,.int .i64 0,.int .i64 0,.bool false,.string ⟨#[]⟩]) 7 80 underlying32 hi ak aj ai rfl (by decide) x G (aG D) rfl c5.o a0 n0 c0 (aG bx) rfl ca.o.row (aY _) (by unfold maxLen;omega) (by omega) bo ?_)
     intro xv w4 ag be b7;obtain⟨bu,X⟩:=d.o.Kv (VE _ _) be;have c:=d.o.PD (us:=bx) (VE _ _) b1.o (m:=G+n0) (by rw[VI,a9.o,ca.o.len]) ag be b7;have bh:Row (w4.setCell ⟨w.heap.size+2,0,none⟩ xv) a1 n1 c1 7 (aG bY):=(c9.o.row.kept (by decide) bu (fun a hm ha hx=>by have h1:=c8.o a hm ha;have h2:=(P.o.mx.lt _ (cE hx)).2;omega)).kept (by decide) (dX w4 (w.heap.size+2) 0 xv [w.heap.size+2] (by simp)) (fun a hm ha hx=>by have h1:=c8.o a hm ha;have h2:=P.o.mb.lt;rw[UY]at hx;omega);have ci:=X.c0;have cu:=X.frozen 0;obtain⟨xa,xc,cm,-⟩:=bg ag;subst cm;clear bu X ag be b7 ck;go_wp2_with fail
     generalize w4.setCell ⟨w.heap.size+2,0,none⟩ (.slice xa (G+n0) xc)=S at*;have c:Hd (cY w S nx au (.slice xa (G+n0) xc) y (D++bx) C):=c;have bh:Hd (Row S a1 n1 c1 7 (aG bY)):=bh;have J:Hd (S.ownsRow (w.heap.size+3) 100 7 y I (aG C)):=by have:=c.o.my;rw[a8.o]at this;exact this
     have cj:=c.o.mb.c1;have cq:w.heap.size+3<=S.heap.size:=c.o.mb.lt;clear ci cu c5 bo;rw[VJ];go_wp2_with (at_builtin;refine az _ rfl (.tmp 48) (.tmp 49) 32 rfl (w.heap.size+3) 100 i0 (.agg #[.int .i64 0,.int .i64 0,.slice none 0 0,.int .i64 0,.int .i64 0,.bool false,.string ⟨#[]⟩]) 7 80 underlying32 hi ak aj ai rfl (by decide) y I (aG C) rfl J.o a1 n1 c1 (aG bY) rfl bh.o (aY _) (by unfold maxLen;omega) (by omega) cq ?_)
     intro yv w6 i bd M;obtain⟨cr,W⟩:=c.o.Ku (VE _ _) bd;have H:=c.o.PC (us:=bY) (VE _ _) b0.o (m:=I+n1) (by rw[VI,a8.o,c9.o.len]) i bd M;have ch:=W.c1;have ct:=W.frozen 1;obtain⟨ya,yc,cl,-⟩:=bg i;subst cl;clear cr W i bd M cj;go_wp2_with fail
     generalize w6.setCell ⟨w.heap.size+2,1,none⟩ (.slice ya (I+n1) yc)=W7 at*;have H:Hd (cY w W7 nx au (.slice xa (G+n0) xc) (.slice ya (I+n1) yc) (D++bx) (C++bY)):=H;clear ch ct;rw[VJ];go_wp2
     go_roundw
     case rel=>exact⟨_,_,_,_,_,_,H.o,aq.o⟩
     case measure=>have h1:=f.o.left;have h2:=H.o.left;have h3:=ad.o;omega
