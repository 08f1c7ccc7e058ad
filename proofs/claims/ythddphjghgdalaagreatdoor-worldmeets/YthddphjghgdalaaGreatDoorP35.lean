/- A part. -/
import Derived.Test.YthddphjghgdalaaGreatDoorP34
set_option maxRecDepth 100000
set_option maxHeartbeats 1600000
namespace Go.Proofs.YthddphjghgdalaaGreatDoor
open Go.RowKit Go.Proofs.Tryz
def zp (w:World) (g:Nat):Nat->List Value->World
 | _,[]=>w
 | o,v :: vs=>zp (w.setCell ⟨g,o,none⟩ v) g (o+1) vs
theorem wY(g:Nat):∀(a:List Value)(w:World)(o:Nat),Kept w (zp w g o a) [g]
 |[],w,_=>Kept.refl w [g]
 |v::a,w,o=>((Kept.refl w [g]).setCell _ _ (.inl (by simp))).trans (wY g a _ _)
theorem zo(g:Nat)(T:TypeId):∀(a:List Value)(w:World)(o:Nat)(A M R:List Value),A.length=o->M.length=a.length->Blk w g (A++(M++R)) T->Blk (zp w g o a) g (A++(a++R)) T
 |[],w,o,A,M,R,_,b,h=>by
  have:M=[]:=VS.1 b;rw[this]at h;exact h
 |v::a,w,o,A,[],R,_,b,_=>by simp at b
 |v::a,w,o,A,m::M,R,c,b,h=>by
  have d:=h.set o v;have e:(A++(m::M++R)).set o v=(A++[v])++(M++R):=by
   rw[List.set_append_right _ _ (by omega),c,Nat.sub_self];simp
  rw[e]at d;have f:=zo g T a (w.setCell ⟨g,o,none⟩ v) (o+1) (A++[v]) M R (by simp[c]) (by simpa using b) d;have i:A++(v::a++R)=(A++[v])++(a++R):=by simp
  rw[i];exact f
structure Mb (w:World) (TE:TypeId) (sz n:Nat) (cs:List Value) (L:Nat) (a:Option Addr) (c:Nat) (wr:World):Prop where
 row:bj wr TE sz a n c cs
 lo:∀ ad:Addr,a=some ad->w.heap.size<=ad.block/\ad.block<L
 fg:L<=wr.heap.size
 up:w.heap.size<=L
structure yt (w:World) (TE:TypeId) (sz:Nat) {α:Type} (f:α->List Value) (xs:List α) (Gd:Nat->List α->World->Prop) (L n:Nat) (a:Option Addr) (c k:Nat) (us:List α) (wr:World):Prop where
 len:us.length=k
 row:bj wr TE sz a n c ((us++xs.drop k).flatMap f)
 lo:∀ ad:Addr,a=some ad->w.heap.size<=ad.block/\ad.block<L
 IU:Gd L us wr
 below:Below w.heap.size w wr
 fg:L<=wr.heap.size
 up:w.heap.size<=L
section
variable {w:World} {TE:TypeId} {sz:Nat} {α:Type} {f:α->List Value} {xs:List α} {Gd:Nat->List α->World->Prop} {L n c k g:Nat} {us:List α} {wr:World}
theorem yt.done{a:Option Addr}(h:yt w TE sz f xs Gd L n a c k us wr)(d:xs.length=k):Mb w TE sz n (us.flatMap f) L a c wr:=
 ⟨by have b:=h.row;rw[List.drop_of_length_le (by omega),VY]at b;exact b,h.lo,h.fg,h.up⟩
theorem yt.frozen(h:yt w TE sz f xs Gd L n (some ⟨g,0,none⟩) c k us wr)(a:n≠0)(j:Nat):wr.frozen? ⟨g,j,none⟩=false:=by
 obtain⟨d,sp,e,b,_⟩:=h.row.aM a
 cases e
 exact b.frozen j
theorem yt.at_(h:yt w TE sz f xs Gd L n (some ⟨g,0,none⟩) c k us wr)(b:∀y,(f y).length=sz)(q:k<xs.length){x:α}(d:xs[k]?=some x)(j:Nat)(m:j<sz){u:Value}(i:(f x)[j]?=some u):wr.cell? ⟨g,k*sz+j,none⟩=some u:=by
 have a:=h.row.len;rw[il f sz b,VI,XG,h.len]at a;have l:n≠0:=by
  intro e;rw[e,XQ]at a;rcases Nat.mul_eq_zero.1 a with p|p<;>omega
 obtain⟨r,sp,e,o,_⟩:=h.row.aM l
 cases e
 rw[o.cell,<-i];exact get_at b (by rw[List.getElem?_append_right (by rw[h.len];exact UZ _),h.len,Nat.sub_self,List.getElem?_drop,Nat.add_zero];exact d) j m
theorem yt.step(h:yt w TE sz f xs Gd L n (some ⟨g,0,none⟩) c k us wr)(d:∀y,(f y).length=sz)(o:∀y,ee (f y)=true)(D:k<xs.length)(q:∀L us w w' g,Gd L us w->Kept w w' [g]->NT w g->g<L->Gd L us w'){t:α}{b:World}(i:Below wr.heap.size wr b)(F:Gd L (us++[t]) b):
  yt w TE sz f xs Gd L n (some ⟨g,0,none⟩) c (k+1) (us++[t]) (zp b g (k*sz) (f t)):=by
 have s:=h.row.below i;have a:=wY g (f t) b (k*sz);obtain⟨B,E⟩:=h.lo _ rfl;have M:=i.size;have A:=h.fg;have m:=h.below.size;rcases s.vv with⟨e,_,_⟩|⟨N,sp,e,l,v,G,I,H⟩
 ·cases e
 cases e
 have u:=VU D;have K:(us++xs.drop k).flatMap f++sp=us.flatMap f++(f xs[k]++((xs.drop (k+1)).flatMap f++sp)):=by rw[List.flatMap_append,u,List.flatMap_cons,VT,VT]
 have J:(us++[t]++xs.drop (k+1)).flatMap f++sp=us.flatMap f++(f t++((xs.drop (k+1)).flatMap f++sp)):=by simp
 have p:ee ((us++[t]++xs.drop (k+1)).flatMap f++sp)=true:=dB.2 ⟨FQ f o _,(dB.1 v).2⟩;have z:((us++[t]++xs.drop (k+1)).flatMap f).length=((us++xs.drop k).flatMap f).length:=by
  have:(us++[t]++xs.drop (k+1)).length=(us++xs.drop k).length:=by rw[u];simp only[VI,VG,List.length_nil];omega
  rw[il f sz d,il f sz d,this]
 have r:Blk (zp b g (k*sz) (f t)) g ((us++[t]++xs.drop (k+1)).flatMap f++sp) TE:=by
  rw[J];rw[K]at l;exact zo g TE (f t) b (k*sz) _ _ _ (by rw[il f sz d,h.len]) (by rw[d,d]) l
 refine⟨by simp[h.len],⟨by rw[z];exact s.len,.inr ⟨g,sp,rfl,r,p,?_,I,H⟩⟩,h.lo,q L _ _ _ g F a (NT.of l v) E,?_,?_,h.up⟩
 ·rw[VI,z,<-VI];exact G
 ·exact h.below.trans ((i.mono m).trans (a.below (by omega) (fun x C=>by rw[UY.1 C];exact B)))
 ·have:=a.size;omega
end
theorem OQ(xs:List MV)(N:Option Addr)(n q:Nat)(w:World)(M:Row w N n q 4 (bN xs))(hn:n<=100)(Gd:Nat->List MV->World->Prop)(E:∀L w,Gd L [] w)
  (D:∀L us w w',Gd L us w->Below w.heap.size w w'->L<=w.heap.size->Gd L us w')(C:∀L us w w' g,Gd L us w->Kept w w' [g]->NT w g->g<L->Gd L us w')
  (v:∀L k,k<xs.length->∀us wr x,xs[k]?=some x->us.length=k->L<=wr.heap.size->Below w.heap.size w wr->Gd L us wr->Calls prog 73 #[.agg #[.int .i64 x.mr,.int .i64 x.e.aR,.int .i64 x.e.seq,.slice x.e.ao x.e.n x.e.cap]] wr fun e w'=>(∃t,e=.returned (.agg #[.int .i64 t.mr,.int .i64 t.e.aR,.int .i64 t.e.seq,.slice t.e.ao t.e.n t.e.cap])/\Gd L (us++[t]) w')/\Below wr.heap.size wr w'):
  Calls prog 72 #[.slice N n q,.func (.func 73) #[] #[]] w fun e w'=>(∃u p us L,e=.returned (.slice u n p)/\Mb w 114 4 n (us.flatMap jX) L u p w'/\us.length=xs.length/\Gd L us w')/\Below w.heap.size w w':=by
 have B:xs.length=n:=by have h:=M.len;rw[yF]at h;omega
 have O:=hId B;have S:=hId v;have U:=hId D;have T:=hId C;have H:=hId E;have CL:=hId (Dw N n q _ w M (QF xs) (SR xs) hn);clear M v D C E B;go_enter func72,ntmps72
 go_upto_region 1 with fail
 go_wp2_with fail
 refine CL.o.mono ?_
 rintro e I⟨⟨u,p,rfl,K,A⟩,s⟩;have G:Hd (yt w 114 4 jX xs Gd I.heap.size n u p 0 [] I):=⟨rfl,K,fun ad e=>⟨A ad e,K.lt e⟩,H.o _ _,s,UZ _,s.size⟩;obtain⟨L,hL⟩:∃L,I.heap.size=L:=⟨_,rfl⟩;rw[hL]at G;clear K A s CL H hL;go_wp2
 go_loopw [11] (fun i wr=>∃(k:Nat)(us:List MV),k<=n/\i=.int .i64 k/\yt w 114 4 jX xs Gd L n u p k us wr) (fun i _=>n-(intOf i).toNat)
 case atStart=>exact⟨0,[],VN _,rfl,G.o⟩
 case round=>
  obtain⟨k,us,hk,rfl,m⟩:=hrel;have b:=hId m;clear m;by_cases z:k<n
  ·have c:k<xs.length:=by rw[O.o];exact z
   obtain⟨x,r⟩:∃x,xs[k]?=some x:=⟨_,VM c⟩;obtain⟨g,sp,rfl,-,-,-,a0,P⟩:=b.o.row.aM (by omega);have a:∀y:MV,(jX y).length=4:=fun _=>rfl;have V:=hId (b.o.frozen (by omega));have J:wr.cell? ⟨g,k*4,none⟩=some (.int .i64 x.mr):=b.o.at_ a c r 0 (by decide) rfl;have Z:=b.o.at_ a c r 1 (by decide) rfl;have Y:=b.o.at_ a c r 2 (by decide) rfl;have X:=b.o.at_ a c r 3 (by decide) rfl;have f:=hId (ay x wr);have Q:=hId (dE x wr);have CT:=hId (S.o L k c us _ x r b.o.len (VX b.o.fg f.o.size) (b.o.below.trans (f.o.mono b.o.below.size)) (U.o L us _ _ b.o.IU f.o b.o.fg));go_upto_region 5 with fail
   change Code.wp prog _ _ _ (aj x wr);generalize aj x wr=W at*;obtain⟨x0,x1,x2,x3⟩:=AV Q.o;have F:Hd (∀t o,Below wr.heap.size wr o->Gd L (us++[t]) o->yt w 114 4 jX xs Gd L n (some ⟨g,0,none⟩) p (k+1) (us++[t]) (zp o g (k*4) (jX t))):=fun t o h1 h2=>b.o.step a (fun _=>rfl) c T.o h1 h2;clear r a P;go_wp2_with fail
   refine CT.o.mono ?_
   rintro e o⟨⟨t,rfl,hg⟩,s⟩;have d:=hId (f.o.trans (s.mono f.o.size));have HN:=hId (F.o t o d.o hg);have l:Hd (∀j,o.frozen? ⟨g,j,none⟩=false):=fun j=>(World.frozen?_of_block (d.o.block g (WW _ _ J))).trans (V.o j);have f0:=l.o (k*4);have f1:=l.o (k*4+1);have f2:=l.o (k*4+2);have f3:=l.o (k*4+3);have u0:=aA J d.o;have u1:=aA Z d.o;have u2:=aA Y d.o;have u3:=aA X d.o;clear s hg CT F J Z Y X x0 x1 x2 x3;go_wp2
   go_roundw
   case rel=>exact⟨k+1,us++[t],z,by go_num,HN.o⟩
   case measure=>simp[intOf];omega
  ·obtain rfl:k=n:=by omega
   have H6:=hId (b.o.done (by rw[O.o]));have H7:=hId (b.o.len.trans O.o.symm);go_wp2
   go_ret
   exact⟨⟨u,p,us,L,rfl,H6.o,H7.o,b.o.IU⟩,b.o.below⟩
theorem OR(xs:List CV)(N:Option Addr)(n r:Nat)(w:World)(M:Row w N n r 7 (bB xs))(hn:n<=100)(Gd:Nat->List CV->World->Prop)(E:∀L w,Gd L [] w)
  (D:∀L us w w',Gd L us w->Below w.heap.size w w'->L<=w.heap.size->Gd L us w')(C:∀L us w w' g,Gd L us w->Kept w w' [g]->NT w g->g<L->Gd L us w')
  (v:∀L k,k<xs.length->∀us wr x,xs[k]?=some x->us.length=k->L<=wr.heap.size->Below w.heap.size w wr->Gd L us wr->Calls prog 43 #[.agg #[.int .i64 x.rev,.slice x.ba x.bn x.bc,.slice x.na x.nn x.nc,.int .i64 x.seq,.slice x.sa x.sn x.sc,.slice x.ha x.hn x.hc,.bool x.jo]] wr fun e w'=>(∃t,e=.returned (.agg #[.int .i64 t.rev,.slice t.ba t.bn t.bc,.slice t.na t.nn t.nc,.int .i64 t.seq,.slice t.sa t.sn t.sc,.slice t.ha t.hn t.hc,.bool t.jo])/\Gd L (us++[t]) w')/\Below wr.heap.size wr w'):
  Calls prog 42 #[.slice N n r,.func (.func 43) #[] #[]] w fun e w'=>(∃u q us L,e=.returned (.slice u n q)/\Mb w 41 7 n (us.flatMap fS) L u q w'/\us.length=xs.length/\Gd L us w')/\Below w.heap.size w w':=by
 have B:xs.length=n:=by have h:=M.len;rw[mK]at h;omega
 have O:=hId B;have S:=hId v;have U:=hId D;have T:=hId C;have H:=hId E;have CL:=hId (D3 N n r _ w M (L2 xs) (PM xs) hn);clear M v D C E B;go_enter func42,ntmps42
 go_upto_region 1 with fail
 go_wp2_with fail
 refine CL.o.mono ?_
 rintro e I⟨⟨u,q,rfl,K,A⟩,s⟩;have G:Hd (yt w 41 7 fS xs Gd I.heap.size n u q 0 [] I):=⟨rfl,K,fun ad e=>⟨A ad e,K.lt e⟩,H.o _ _,s,UZ _,s.size⟩;obtain⟨L,hL⟩:∃L,I.heap.size=L:=⟨_,rfl⟩;rw[hL]at G;clear K A s CL H hL;go_wp2
 go_loopw [11] (fun i wr=>∃(k:Nat)(us:List CV),k<=n/\i=.int .i64 k/\yt w 41 7 fS xs Gd L n u q k us wr) (fun i _=>n-(intOf i).toNat)
 case atStart=>exact⟨0,[],VN _,rfl,G.o⟩
 case round=>
  obtain⟨k,us,hk,rfl,o⟩:=hrel;have c:=hId o;clear o;by_cases z:k<n
  ·have b:k<xs.length:=by rw[O.o];exact z
   obtain⟨x,m⟩:∃x,xs[k]?=some x:=⟨_,VM b⟩;obtain⟨g,sp,rfl,-,-,-,a0,P⟩:=c.o.row.aM (by omega);have a:∀y:CV,(fS y).length=7:=fun _=>rfl;have V:=hId (c.o.frozen (by omega));have J:wr.cell? ⟨g,k*7,none⟩=some (.int .i64 x.rev):=c.o.at_ a b m 0 (by decide) rfl;have m1:=c.o.at_ a b m 1 (by decide) rfl;have m2:=c.o.at_ a b m 2 (by decide) rfl;have m3:=c.o.at_ a b m 3 (by decide) rfl;have Z:=c.o.at_ a b m 4 (by decide) rfl;have Y:=c.o.at_ a b m 5 (by decide) rfl;have X:=c.o.at_ a b m 6 (by decide) rfl;have l:=hId (aa x wr);have Q:=hId (cH x wr);have CT:=hId (S.o L k b us _ x m c.o.len (VX c.o.fg l.o.size) (c.o.below.trans (l.o.mono c.o.below.size)) (U.o L us _ _ c.o.IU l.o c.o.fg));go_upto_region 5 with fail
   change Code.wp prog _ _ _ (aO x wr);generalize aO x wr=W at*;obtain⟨x0,x1,x2,x3,x4,x5,x6⟩:=Bh Q.o;have F:Hd (∀t p,Below wr.heap.size wr p->Gd L (us++[t]) p->yt w 41 7 fS xs Gd L n (some ⟨g,0,none⟩) q (k+1) (us++[t]) (zp p g (k*7) (fS t))):=fun t p h1 h2=>c.o.step a (fun _=>rfl) b T.o h1 h2;clear m a P;go_wp2_with fail
   refine CT.o.mono ?_
   rintro e p⟨⟨t,rfl,hg⟩,s⟩;have d:=hId (l.o.trans (s.mono l.o.size));have HN:=hId (F.o t p d.o hg);have f:Hd (∀j,p.frozen? ⟨g,j,none⟩=false):=fun j=>(World.frozen?_of_block (d.o.block g (WW _ _ J))).trans (V.o j);have f0:=f.o (k*7);have f1:=f.o (k*7+1);have f2:=f.o (k*7+2);have f3:=f.o (k*7+3);have f4:=f.o (k*7+4);have f5:=f.o (k*7+5);have f6:=f.o (k*7+6);have u0:=aA J d.o;have u1:=aA m1 d.o;have u2:=aA m2 d.o;have u3:=aA m3 d.o;have u4:=aA Z d.o;have u5:=aA Y d.o;have u6:=aA X d.o;clear s hg CT F J m1 m2 m3 Z Y X x0 x1 x2 x3 x4 x5 x6;go_wp2
   go_roundw
   case rel=>exact⟨k+1,us++[t],z,by go_num,HN.o⟩
   case measure=>simp[intOf];omega
  ·obtain rfl:k=n:=by omega
   have H6:=hId (c.o.done (by rw[O.o]));have H7:=hId (c.o.len.trans O.o.symm);go_wp2
   go_ret
   exact⟨⟨u,q,us,L,rfl,H6.o,H7.o,c.o.IU⟩,c.o.below⟩
theorem OP(xs:List QV)(J:Option Addr)(n m:Nat)(w:World)(I:Row w J n m 1 (ak xs))(X:n<=100)(Gd:Nat->List QV->World->Prop)(A:∀L w,Gd L [] w)
  (_N:∀L us w w',Gd L us w->Below w.heap.size w w'->L<=w.heap.size->Gd L us w')(z:∀L us w w' g,Gd L us w->Kept w w' [g]->NT w g->g<L->Gd L us w')
  (r:∀L k,k<xs.length->∀us wr x,xs[k]?=some x->us.length=k->L<=wr.heap.size->Below w.heap.size w wr->Gd L us wr->Calls prog 45 #[.slice x.a x.n x.cap] wr fun e w'=>(∃t,e=.returned (.slice t.a t.n t.cap)/\Gd L (us++[t]) w')/\Below wr.heap.size wr w'):
  Calls prog 44 #[.slice J n m,.func (.func 45) #[] #[]] w fun e w'=>(∃q l us L,e=.returned (.slice q n l)/\Mb w 53 1 n (us.flatMap tt) L q l w'/\us.length=xs.length/\Gd L us w')/\Below w.heap.size w w':=by
 have v:xs.length=n:=by have h:=I.len;rw[kr]at h;omega
 have K:=hId v;have O:=hId r;have P:=hId z;have D:=hId A;have W:=hId (Dv J n m _ w I (Px xs) (zk xs) X);clear I r _N z A v;go_enter func44,ntmps44
 go_upto_region 1 with fail
 go_wp2_with fail
 refine W.o.mono ?_
 rintro e E⟨⟨q,l,rfl,H,u⟩,p⟩;have C:Hd (yt w 53 1 tt xs Gd E.heap.size n q l 0 [] E):=⟨rfl,H,fun ad e=>⟨u ad e,H.lt e⟩,D.o _ _,p,UZ _,p.size⟩;obtain⟨L,U⟩:∃L,E.heap.size=L:=⟨_,rfl⟩;rw[U]at C;clear H u p W D U;go_wp2
 go_loopw [11] (fun i wr=>∃(k:Nat)(us:List QV),k<=n/\i=.int .i64 k/\yt w 53 1 tt xs Gd L n q l k us wr) (fun i _=>n-(intOf i).toNat)
 case atStart=>exact⟨0,[],VN _,rfl,C.o⟩
 case round=>
  obtain⟨k,us,hk,rfl,d⟩:=hrel;have b:=hId d;clear d;by_cases s:k<n
  ·have c:k<xs.length:=by rw[K.o];exact s
   obtain⟨x,G⟩:∃x,xs[k]?=some x:=⟨_,VM c⟩;obtain⟨g,sp,rfl,-,-,-,a0,M⟩:=b.o.row.aM (by omega);have a:∀y:QV,(tt y).length=1:=fun _=>rfl;have S:=hId (b.o.frozen (by omega));have F:wr.cell? ⟨g,k,none⟩=some (.slice x.a x.n x.cap):=by have:=b.o.at_ a c G 0 (by decide) rfl;rw[Nat.mul_one]at this;exact this
   have V:=hId (O.o L k c us _ x G b.o.len b.o.fg b.o.below b.o.IU);have B:Hd (∀t f,Below wr.heap.size wr f->Gd L (us++[t]) f->yt w 53 1 tt xs Gd L n (some ⟨g,0,none⟩) l (k+1) (us++[t]) (zp f g (k) (tt t))):=fun t f Z Y=>by have:=b.o.step a (fun _=>rfl) c P.o Z Y;rw[Nat.mul_one]at this;exact this
   clear G a M;go_wp2_with fail
   refine V.o.mono ?_
   rintro e f⟨⟨t,rfl,T⟩,p⟩;have o:=hId p;have HN:=hId (B.o t f o.o T);have Q:Hd (∀j,f.frozen? ⟨g,j,none⟩=false):=fun j=>(World.frozen?_of_block (o.o.block g (WW _ _ F))).trans (S.o j);have f0:=Q.o (k);have u0:=aA F o.o;clear p T V B F;go_wp2
   go_roundw
   case rel=>exact⟨k+1,us++[t],s,by go_num,HN.o⟩
   case measure=>simp[intOf];omega
  ·obtain rfl:k=n:=by omega
   have H6:=hId (b.o.done (by rw[K.o]));have H7:=hId (b.o.len.trans K.o.symm);go_wp2
   go_ret
   exact⟨⟨q,l,us,L,rfl,H6.o,H7.o,b.o.IU⟩,b.o.below⟩
theorem mB{α a:Type}(g:α->a){xs us:List α}{k:Nat}{x t:α}(b:xs[k]?=some x)(d:us.length=k)(h:us.map g=(xs.take us.length).map g)(c:g t=g x):(us++[t]).map g=(xs.take (us++[t]).length).map g:=by
 rw[WN,h,VI,d,List.length_singleton,List.take_add_one,b,WN];show _++[g t]=_++[g x]
 rw[c]
theorem mC{α a:Type}(g:α->a){xs us:List α}(b:us.length=xs.length)(h:us.map g=(xs.take us.length).map g):us.map g=xs.map g:=by
 rw[h,b,List.take_length]
structure TW (B:Nat) (q t:QV) (w:World):Prop where
 row:bj w 114 4 t.a t.n t.cap (bN t.ms)
 lo:∀ ad:Addr,t.a=some ad->B<=ad.block
 ops:∀ m ∈ t.ms,ae w m.e.ao m.e.n m.e.cap m.e.vs
 eV:t.eV=q.eV
theorem Ip(q:QV)(w:World)(p:qp w q)(v:q.n<=100)(z:∀m∈q.ms,tF m.e.n m.e.vs):
  Calls prog 45 #[.slice q.a q.n q.cap] w fun e w'=>(∃t:QV,e=.returned (.slice t.a t.n t.cap)/\TW w.heap.size q t w')/\Below w.heap.size w w':=by
 have A:Hd (Calls prog 72 #[.slice q.a q.n q.cap,.func (.func 73) #[] #[]] w fun e w'=>(∃(f:Option Addr)(d:Nat)(us:List MV)(L:Nat),e=.returned (.slice f q.n d)/\Mb w 114 4 q.n (us.flatMap jX) L f d w'/\us.length=q.ms.length/\((∀u∈us,ae w' u.e.ao u.e.n u.e.cap u.e.vs)/\us.map MV.mg=(q.ms.take us.length).map MV.mg))/\Below w.heap.size w w'):=by
  refine OQ q.ms q.a q.n q.cap w p.row v (fun _ us w=>(∀u∈us,ae w u.e.ao u.e.n u.e.cap u.e.vs)/\us.map MV.mg=(q.ms.take us.length).map MV.mg) ?_ ?_ ?_ ?_
  ·exact fun _ _=>⟨fun u a=>by simp at a,rfl⟩
  ·exact fun _ us w w' h b _=>⟨fun u a=>(h.1 u a).below b,h.2⟩
  ·exact fun _ us w w' g h y C _=>⟨fun u a=>(h.1 u a).aw y (fun x l=>by rw[UY.1 l];exact C),h.2⟩
  ·intro L k y us wr x l o _ b h;have c:=WQ l;refine(rT x wr ((p.ops x c).below b) (z x c)).mono ?_
   rintro e w'⟨⟨t,rfl,n,s,_⟩,i⟩;refine⟨⟨t,rfl,fun u a=>?_,mB MV.mg l o h.2 s⟩,i⟩
   rcases VW.1 a with e|e
   ·exact(h.1 u e).below i
   ·rw[UY.1 e];exact n
 clear p z v;go_enter func45,ntmps45
 go_wp2_with fail
 refine A.o.mono ?_
 rintro e B⟨⟨f,d,us,L,rfl,r,o,n,c⟩,b⟩;have F:Hd (TW w.heap.size q ⟨f,q.n,d,us⟩ B):=⟨r.row,fun D e=>(r.lo D e).1,n,mC MV.mg o c⟩;have E:=hId b;clear r o n c b A;go_wp2
 go_ret
 exact⟨⟨⟨f,q.n,d,us⟩,rfl,F.o⟩,E.o⟩
structure vO (B n:Nat) (xs us:List QV) (a:Option Addr) (c:Nat) (w:World):Prop where
 row:bj w 53 1 a n c (ak us)
 lo:∀ ad:Addr,a=some ad->B<=ad.block
 off:∀ (ad:Addr) (i:Nat) (q:QV) (bd:Addr),a=some ad->us[i]?=some q->q.a=some bd->ad.block<bd.block
 nk:∀ (i:Nat) (q:QV),us[i]?=some q->bj w 114 4 q.a q.n q.cap (bN q.ms)/\(∀ m ∈ q.ms,ae w m.e.ao m.e.n m.e.cap m.e.vs)/\∀ ad:Addr,q.a=some ad->B<=ad.block
 dj:∀ (i j:Nat) (q r:QV) (ad bd:Addr),us[i]?=some q->us[j]?=some r->q.a=some ad->r.a=some bd->ad.block=bd.block->i=j
 eV:us.map QV.eV=xs.map QV.eV
structure GdQ (xs:List QV) (L:Nat) (us:List QV) (w:World):Prop where
 nk:∀ (i:Nat) (q:QV),us[i]?=some q->bj w 114 4 q.a q.n q.cap (bN q.ms)/\(∀ m ∈ q.ms,ae w m.e.ao m.e.n m.e.cap m.e.vs)/\∀ ad:Addr,q.a=some ad->L<=ad.block
 dj:∀ (i j:Nat) (q r:QV) (ad bd:Addr),us[i]?=some q->us[j]?=some r->q.a=some ad->r.a=some bd->ad.block=bd.block->i=j
 eV:us.map QV.eV=(xs.take us.length).map QV.eV
theorem uS{α:Type}{us:List α}{t q:α}{i:Nat}(h:(us++[t])[i]?=some q):us[i]?=some q\/(i=us.length/\q=t):=by
 rcases Nat.lt_trichotomy i us.length with g|g|g
 ·rw[List.getElem?_append_left g]at h;exact .inl h
 ·rw[List.getElem?_append_right (by omega),g,Nat.sub_self]at h;exact .inr ⟨g,(WU h).symm⟩
 ·rw[List.getElem?_eq_none (by simp;omega)]at h;cases h
theorem sF(xs:List QV)(F:Option Addr)(n l:Nat)(w:World)(N:Row w F n l 1 (ak xs))(J:n<=100)(I:∀q∈xs,qp w q/\q.n<=100/\∀m∈q.ms,tF m.e.n m.e.vs):
  Calls prog 44 #[.slice F n l,.func (.func 45) #[] #[]] w fun e w'=>(∃y v us,e=.returned (.slice y n v)/\vO w.heap.size n xs us y v w')/\Below w.heap.size w w':=by
 refine(OP xs F n l w N J (GdQ xs) ?_ ?_ ?_ ?_).mono ?_
 ·exact fun _ _=>⟨fun i q h=>by simp at h,fun i j q r a u h=>by simp at h,rfl⟩
 ·exact fun L us w w' h p _=>⟨fun i q e=>⟨(h.nk i q e).1.below p,fun m c=>((h.nk i q e).2.1 m c).below p,(h.nk i q e).2.2⟩,h.dj,h.eV⟩
 ·intro L us w w' g h A O d;have M:∀x∈[g],NT w x:=fun x o=>by rw[UY.1 o];exact O
  exact⟨fun i q e=>⟨(h.nk i q e).1.kept A (fun a s o=>by have:=(h.nk i q e).2.2 a s;have:=UY.1 o;omega),fun m c=>((h.nk i q e).2.1 m c).aw A M,(h.nk i q e).2.2⟩,h.dj,h.eV⟩
 ·intro L k A us wr x o z P p h;have c:=WQ o;obtain⟨T,S,Q⟩:=I x c;refine(Ip x wr (T.below p) S Q).mono ?_
  rintro e w'⟨⟨t,rfl,b⟩,f⟩;refine⟨⟨t,rfl,⟨fun i q e=>?_,fun i j q r a u E D H G K=>?_,mB QV.eV o z h.eV b.eV⟩⟩,f⟩
  ·rcases uS e with g|⟨_,rfl⟩
   ·exact⟨(h.nk i q g).1.below f,fun m c=>((h.nk i q g).2.1 m c).below f,(h.nk i q g).2.2⟩
   ·exact⟨b.row,b.ops,fun a s=>VX P (b.lo a s)⟩
  ·rcases uS E with C|⟨C,rfl⟩<;>rcases uS D with B|⟨B,rfl⟩
   ·exact h.dj i j q r a u C B H G K
   ·have:=(h.nk i q C).1.lt H;have:=b.lo u G;omega
   ·have:=(h.nk j r B).1.lt G;have:=b.lo a H;omega
   ·omega
 ·rintro e w'⟨⟨y,v,us,L,rfl,b,z,d⟩,p⟩;exact⟨⟨y,v,us,rfl,⟨b.row,fun a e=>(b.lo a e).1,fun a i q u E D e3=>by have:=(b.lo a E).2;have:=(d.nk i q D).2.2 u e3;omega,fun i q e=>⟨(d.nk i q e).1,(d.nk i q e).2.1,fun a s=>VX b.up ((d.nk i q e).2.2 a s)⟩,d.dj,mC QV.eV z d.eV⟩⟩,p⟩
structure EY (B n:Nat) (xs us:List CV) (a:Option Addr) (c:Nat) (w:World):Prop where
 row:bj w 41 7 a n c (bB us)
 lo:∀ ad:Addr,a=some ad->B<=ad.block
 cl:∀ u ∈ us,kE w u
 Ri:us.map CV.cl=xs.map CV.cl
theorem Az(xs:List CV)(r:Option Addr)(n b:Nat)(w:World)(B:Row w r n b 7 (bB xs))(A:n<=100)(z:∀c∈xs,kE w c/\c.bn<=80/\c.nn<=80/\tF c.sn c.aJ/\tF c.hn c.held):
  Calls prog 42 #[.slice r n b,.func (.func 43) #[] #[]] w fun e w'=>(∃m l us,e=.returned (.slice m n l)/\EY w.heap.size n xs us m l w')/\Below w.heap.size w w':=by
 refine(OR xs r n b w B A (fun _ us w=>(∀u∈us,kE w u)/\us.map CV.cl=(xs.take us.length).map CV.cl) ?_ ?_ ?_ ?_).mono ?_
 ·exact fun _ _=>⟨fun u a=>by simp at a,rfl⟩
 ·exact fun _ us w w' h d _=>⟨fun u a=>(h.1 u a).below d,h.2⟩
 ·exact fun _ us w w' g h v C _=>⟨fun u a=>(h.1 u a).aw v (fun x i=>by rw[UY.1 i];exact C),h.2⟩
 ·intro L k v us wr x i q _ d h;have p:=WQ i;obtain⟨H,G,F,E,D⟩:=z x p;refine(n8 x wr (H.below d) G F E D).mono ?_
  rintro e w'⟨⟨t,rfl,o,s⟩,f⟩;refine⟨⟨t,rfl,fun u a=>?_,mB CV.cl i q h.2 s⟩,f⟩
  rcases VW.1 a with e|e
  ·exact(h.1 u e).below f
  ·rw[UY.1 e];exact o
 ·rintro e w'⟨⟨m,l,us,L,rfl,y,q,o,p⟩,d⟩;exact⟨⟨m,l,us,rfl,⟨y.row,fun I e=>(y.lo I e).1,o,mC CV.cl q p⟩⟩,d⟩
theorem fx{a:Option Addr}{x:Nat}(h:a.map (·.block)=some x):∃b:Addr,a=some b/\b.block=x:=by
 cases a with
 |none=>cases h
 |some b=>exact⟨b,rfl,WU h⟩
theorem Pm{w:World}{t:SV}(h:nU w t)(g:t.ln≠0){c:Addr}(e:t.la=some c):c.block<w.heap.size:=by
 obtain⟨b,i,a,d⟩:=h.log.row.bH g;rw[e]at a
 cases a
 have k:=h.log.row.len;have f:0<(bD t.log).length:=by omega
 exact WW _ _ (d 0 _ (VM f))
theorem EY.below{B n:Nat}{xs us:List CV}{a:Option Addr}{c:Nat}{w w':World}(h:EY B n xs us a c w)(b:Below w.heap.size w w'):EY B n xs us a c w':=⟨h.row.below b,h.lo,fun u d=>(h.cl u d).below b,h.Ri⟩
theorem vO.below{B n:Nat}{xs us:List QV}{a:Option Addr}{c:Nat}{w w':World}(h:vO B n xs us a c w)(b:Below w.heap.size w w'):vO B n xs us a c w':=
 ⟨h.row.below b,h.lo,h.off,fun i q e=>⟨(h.nk i q e).1.below b,fun m d=>((h.nk i q e).2.1 m d).below b,(h.nk i q e).2.2⟩,h.dj,h.eV⟩
def Im (oS:Option SV) (oC:Option (Option Addr × Nat × List CV)) (oU oD:Option (Option Addr × Nat × List QV)):Nat->Nat->Prop
 | 0,x=>∃ t,oS=some t/\t.ln≠0/\t.la.map (·.block)=some x
 | 1,x=>∃ p,oC=some p/\p.1.map (·.block)=some x
 | 2,x=>∃ p,oU=some p/\(p.1.map (·.block)=some x\/∃ (i:Nat) (q:QV),p.2.2[i]?=some q/\q.a.map (·.block)=some x)
 | 3,x=>∃ p,oD=some p/\(p.1.map (·.block)=some x\/∃ (i:Nat) (q:QV),p.2.2[i]?=some q/\q.a.map (·.block)=some x)
 | _+4,_=>False
theorem sx{R R':Nat->Nat->Prop}{k0 f m e:Nat}(a:∀k x,k≠k0->R' k x->R k x)(b:∀x,R' k0 x->m<=x/\x<e)(h:∀k x,R k x->f<=x/\x<m)(p:f<=m)(q:m<=e)(o:∀k l x,R k x->R l x->k=l):
  (∀k x,R' k x->f<=x/\x<e)/\∀k l x,R' k x->R' l x->k=l:=by
 refine⟨fun k x g=>?_,fun k l x n i=>?_⟩
 ·by_cases c:k=k0
  ·subst c;have:=b x g;omega
  ·have:=h k x (a k x c g);omega
 ·by_cases c:k=k0
  ·by_cases d:l=k0
   ·rw[c,d]
   ·subst c;have:=b x n;have:=h l x (a l x d i);omega
  ·by_cases d:l=k0
   ·subst d;have:=b x i;have:=h k x (a k x c n);omega
   ·exact o k l x (a k x c n) (a l x d i)
structure sM (W:World) (v:WV) (oS:Option SV) (oC:Option (Option Addr × Nat × List CV)) (oU oD:Option (Option Addr × Nat × List QV)) (wr:World):Prop where
 below:Below W.heap.size W wr
 s:∀ t,oS=some t->nU wr t/\t.se=v.s.se
 c:∀ p,oC=some p->EY W.heap.size v.cn v.cs p.2.2 p.1 p.2.1 wr
 u:∀ p,oU=some p->vO W.heap.size v.un v.up p.2.2 p.1 p.2.1 wr
 d:∀ p,oD=some p->vO W.heap.size v.dn v.down p.2.2 p.1 p.2.1 wr
 yp:∀ k x,Im oS oC oU oD k x->W.heap.size<=x/\x<wr.heap.size
 dj:∀ k l x,Im oS oC oU oD k x->Im oS oC oU oD l x->k=l
theorem sM.drew{W wr:World}{v:WV}{c:Option SV}{f:Option (Option Addr×Nat×List CV)}{b d:Option (Option Addr×Nat×List QV)}(h:sM W v c f b d wr):sM W v c f b d wr.drew:=by
 have a:Below wr.heap.size wr wr.drew:=(VE _ _).drew;exact⟨h.below.trans (a.mono h.below.size),fun t e=>⟨(h.s t e).1.below a,(h.s t e).2⟩,fun t e=>(h.c t e).below a,fun t e=>(h.u t e).below a,fun t e=>(h.d t e).below a,fun k x g=>h.yp k x g,h.dj⟩
theorem sM.start(W:World)(v:WV):sM W v none none none none W:=by
 have a:∀k x,¬Im none none none none k x:=fun k x g=>(match k,g with
  |0,⟨_,e,_⟩=>by cases e
  |1,⟨_,e,_⟩=>by cases e
  |2,⟨_,e,_⟩=>by cases e
  |3,⟨_,e,_⟩=>by cases e
  |_+4,g=>g)
 exact⟨VE _ _,(fun t e=>by cases e),(fun t e=>by cases e),(fun t e=>by cases e),(fun t e=>by cases e),fun k x g=>absurd g (a k x),fun k l x g=>absurd g (a k x)⟩
theorem sM.UJ{W wr i:World}{v:WV}{f:Option (Option Addr×Nat×List CV)}{c d:Option (Option Addr×Nat×List QV)}(h:sM W v none f c d wr){t:SV}(l:qo wr.heap.size i t)(n:t.se=v.s.se)(a:Below wr.heap.size wr i):sM W v (some t) f c d i:=by
 have b:=sx (R:=Im none f c d) (R':=Im (some t) f c d) (k0:=0) (fun k x m g=>(match k,m,g with
  |0,m,g=>absurd rfl m
  |1,_,g=>g
  |2,_,g=>g
  |3,_,g=>g
  |_+4,_,g=>g)) (fun x g=>by
  obtain⟨p,e,o,g⟩:=g
  cases e
  obtain⟨s,q,r⟩:=fx g;rw[<-r];exact⟨l.lo s o q,Pm l.eF o q⟩) h.yp h.below.size a.size h.dj
 exact⟨h.below.trans (a.mono h.below.size),(fun t e=>by cases e;exact⟨l.eF,n⟩),(fun t e=>(h.c t e).below a),(fun t e=>(h.u t e).below a),(fun t e=>(h.d t e).below a),b.1,b.2⟩
theorem sM.UL{W wr n:World}{v:WV}{l:Option SV}{i m:Option (Option Addr×Nat×List QV)}(h:sM W v l none i m wr){a:Option Addr}{c:Nat}{us:List CV}(b:EY wr.heap.size v.cn v.cs us a c n)(d:Below wr.heap.size wr n):sM W v l (some (a,c,us)) i m n:=by
 have f:=sx (R:=Im l none i m) (R':=Im l (some (a,c,us)) i m) (k0:=1) (fun k x o g=>(match k,o,g with
  |0,_,g=>g
  |1,o,g=>absurd rfl o
  |2,_,g=>g
  |3,_,g=>g
  |_+4,_,g=>g)) (fun x g=>by
  obtain⟨p,e,g⟩:=g
  cases e
  obtain⟨q,r,s⟩:=fx g;rw[<-s];exact⟨b.lo q r,b.row.lt r⟩) h.yp h.below.size d.size h.dj
 exact⟨h.below.trans (d.mono h.below.size),(fun t e=>⟨(h.s t e).1.below d,(h.s t e).2⟩),(fun t e=>by cases e;exact⟨b.row,fun q e=>VX h.below.size (b.lo q e),b.cl,b.Ri⟩),(fun t e=>(h.u t e).below d),(fun t e=>(h.d t e).below d),f.1,f.2⟩
theorem sM.UI{W wr s:World}{v:WV}{n:Option SV}{r:Option (Option Addr×Nat×List CV)}{o:Option (Option Addr×Nat×List QV)}(h:sM W v n r none o wr){a:Option Addr}{c:Nat}{us:List QV}(b:vO wr.heap.size v.un v.up us a c s)(f:Below wr.heap.size wr s):sM W v n r (some (a,c,us)) o s:=by
 have m:=sx (R:=Im n r none o) (R':=Im n r (some (a,c,us)) o) (k0:=2) (fun k x u g=>(match k,u,g with
  |0,_,g=>g
  |1,_,g=>g
  |2,u,g=>absurd rfl u
  |3,_,g=>g
  |_+4,_,g=>g)) (fun x g=>by
  obtain⟨p,e,g⟩:=g
  cases e
  rcases g with g|⟨i,q,y,A⟩
  ·obtain⟨d,l,w⟩:=fx g;rw[<-w];exact⟨b.lo d l,b.row.lt l⟩
  ·obtain⟨d,l,w⟩:=fx A;rw[<-w];exact⟨(b.nk i q y).2.2 d l,(b.nk i q y).1.lt l⟩) h.yp h.below.size f.size h.dj
 exact⟨h.below.trans (f.mono h.below.size),(fun t e=>⟨(h.s t e).1.below f,(h.s t e).2⟩),(fun t e=>(h.c t e).below f),(fun t e=>by cases e;exact⟨b.row,fun d e=>VX h.below.size (b.lo d e),b.off,fun i q e=>⟨(b.nk i q e).1,(b.nk i q e).2.1,fun d z=>VX h.below.size ((b.nk i q e).2.2 d z)⟩,b.dj,b.eV⟩),(fun t e=>(h.d t e).below f),m.1,m.2⟩
theorem sM.UK{W wr s:World}{v:WV}{o:Option SV}{r:Option (Option Addr×Nat×List CV)}{n:Option (Option Addr×Nat×List QV)}(h:sM W v o r n none wr){a:Option Addr}{c:Nat}{us:List QV}(b:vO wr.heap.size v.dn v.down us a c s)(f:Below wr.heap.size wr s):sM W v o r n (some (a,c,us)) s:=by
 have m:=sx (R:=Im o r n none) (R':=Im o r n (some (a,c,us))) (k0:=3) (fun k x u g=>(match k,u,g with
  |0,_,g=>g
  |1,_,g=>g
  |2,_,g=>g
  |3,u,g=>absurd rfl u
  |_+4,_,g=>g)) (fun x g=>by
  obtain⟨p,e,g⟩:=g
  cases e
  rcases g with g|⟨i,q,y,A⟩
  ·obtain⟨d,l,w⟩:=fx g;rw[<-w];exact⟨b.lo d l,b.row.lt l⟩
  ·obtain⟨d,l,w⟩:=fx A;rw[<-w];exact⟨(b.nk i q y).2.2 d l,(b.nk i q y).1.lt l⟩) h.yp h.below.size f.size h.dj
 exact⟨h.below.trans (f.mono h.below.size),(fun t e=>⟨(h.s t e).1.below f,(h.s t e).2⟩),(fun t e=>(h.c t e).below f),(fun t e=>(h.u t e).below f),(fun t e=>by cases e;exact⟨b.row,fun d e=>VX h.below.size (b.lo d e),b.off,fun i q e=>⟨(b.nk i q e).1,(b.nk i q e).2.1,fun d z=>VX h.below.size ((b.nk i q e).2.2 d z)⟩,b.dj,b.eV⟩),m.1,m.2⟩
structure pQ (B:Nat) (w:World) (v:WV):Prop where
 eF:nU w v.s
 cr:bj w 41 7 v.ca v.cn v.cc (bB v.cs)
 cl:∀ c ∈ v.cs,kE w c
 ur:bj w 53 1 v.ua v.un v.uc (ak v.up)
 dr:bj w 53 1 v.da v.dn v.dc (ak v.down)
 uq:∀ (k:Nat) (q:QV),v.up[k]?=some q->bj w 114 4 q.a q.n q.cap (bN q.ms)/\∀ m ∈ q.ms,ae w m.e.ao m.e.n m.e.cap m.e.vs
 dq:∀ (k:Nat) (q:QV),v.down[k]?=some q->bj w 114 4 q.a q.n q.cap (bN q.ms)/\∀ m ∈ q.ms,ae w m.e.ao m.e.n m.e.cap m.e.vs
 dj:∀ s t x,s≠0->t≠0->bk 0 v s=some x->bk 0 v t=some x->s=t
 yp:∀ s x,s≠0->bk 0 v s=some x->B<=x/\x<w.heap.size
theorem nT(b a:Nat)(v:WV)(s:Nat)(h:s≠0):bk b v s=bk a v s:=by
 match s,h with
 |0,h=>exact absurd rfl h
 |1,_=>rfl
 |2,_=>rfl
 |3,_=>rfl
 |4,_=>rfl
 |_+5,_=>rfl
theorem pQ.wat{B:Nat}{w:World}{b:Nat}{v:WV}(h:pQ B w v)(l:Blk w b (eo v) 30)(m:B<=b)(g:∀s,s≠0->bk 0 v s≠some b):eR B 0 w b v:=by
 have i:∀x,bk b v 0=some x->b=x:=fun x e=>WU e;refine⟨l,h.eF,h.cr,h.cl,h.ur,h.dr,fun k q e=>⟨(h.uq k q e).1.row,(h.uq k q e).2⟩,fun k q e=>⟨(h.dq k q e).1.row,(h.dq k q e).2⟩,fun k q e _=>(h.uq k q e).1,fun k q e _=>(h.dq k q e).1,fun s t x f d=>?_,fun s x e=>?_,fun s x e=>?_⟩
 ·by_cases a:s=0
  ·by_cases c:t=0
   ·rw[a,c]
   ·subst a;rw[nT b 0 v t c,<-i x f]at d;exact absurd d (g t c)
  ·by_cases c:t=0
   ·subst c;rw[nT b 0 v s a,<-i x d]at f;exact absurd f (g s a)
   ·rw[nT b 0 v s a]at f;rw[nT b 0 v t c]at d;exact h.dj s t x a c f d
 ·by_cases a:s=0
  ·subst a;rw[<-i x e];exact m
  ·rw[nT b 0 v s a]at e;exact(h.yp s x a e).1
 ·by_cases a:s=0
  ·subst a;rw[<-i x e];exact l.lt
  ·rw[nT b 0 v s a]at e;exact(h.yp s x a e).2
theorem pQ.below{B:Nat}{w w':World}{v:WV}(h:pQ B w v)(a:Below w.heap.size w w'):pQ B w' v:=
 ⟨h.eF.below a,h.cr.below a,fun c f=>(h.cl c f).below a,h.ur.below a,h.dr.below a,fun k q e=>⟨(h.uq k q e).1.below a,fun m b=>((h.uq k q e).2 m b).below a⟩,fun k q e=>⟨(h.dq k q e).1.below a,fun m b=>((h.dq k q e).2 m b).below a⟩,h.dj,fun s x d e=>⟨(h.yp s x d e).1,WJ (h.yp s x d e).2 a.size⟩⟩
def Ks (v:WV) (t:SV) (p:Option Addr × Nat × List CV) (q r:Option Addr × Nat × List QV):WV:=⟨t,p.1,v.cn,p.2.1,p.2.2,q.1,v.un,q.2.1,q.2.2,r.1,v.dn,r.2.1,r.2.2⟩
theorem sM.lone{W wr:World}{v:WV}{t:SV}{p:Option Addr×Nat×List CV}{q r:Option Addr×Nat×List QV}(h:sM W v (some t) (some p) (some q) (some r) wr):pQ W.heap.size wr (Ks v t p q r)/\(Ks v t p q r).w=v.w:=by
 obtain⟨U,T⟩:=h.s t rfl;have N:=h.c p rfl;have D:=h.u q rfl;have E:=h.d r rfl;have C:∀s x,s≠0->bk 0 (Ks v t p q r) s=some x->∃k,Im (some t) (some p) (some q) (some r) k x/\((k=0/\s=4)\/(k=1/\s=1)\/(k=2/\((s=2/\q.1.map (·.block)=some x)\/∃(i:Nat)(z:QV),s=2*i+5/\q.2.2[i]?=some z/\z.a.map (·.block)=some x))\/(k=3/\((s=3/\r.1.map (·.block)=some x)\/∃(i:Nat)(z:QV),s=2*i+6/\r.2.2[i]?=some z/\z.a.map (·.block)=some x))):=by
  intro s x A e;match s,A,e with
  |0,A,_=>exact absurd rfl A
  |1,_,e=>exact⟨1,⟨p,rfl,e⟩,.inr (.inl ⟨rfl,rfl⟩)⟩
  |2,_,e=>exact⟨2,⟨q,rfl,.inl e⟩,.inr (.inr (.inl ⟨rfl,.inl ⟨rfl,e⟩⟩))⟩
  |3,_,e=>exact⟨3,⟨r,rfl,.inl e⟩,.inr (.inr (.inr ⟨rfl,.inl ⟨rfl,e⟩⟩))⟩
  |4,_,e=>
   by_cases g:t.ln=0
   ·have m:bk 0 (Ks v t p q r) 4=none:=VC g;rw[m]at e
    cases e
   ·exact⟨0,⟨t,rfl,g,(pN (b:=0) (v:=Ks v t p q r) g).trans e⟩,.inl ⟨rfl,rfl⟩⟩
  |k+5,_,e=>
   rcases Nat.mod_two_eq_zero_or_one k with g|g
   ·obtain⟨i,rfl⟩:∃i,k=2*i:=⟨k/2,by omega⟩;rw[BI]at e;obtain⟨z,f,m⟩:=Option.bind_eq_some_iff.1 e;exact⟨2,⟨q,rfl,.inr ⟨i,z,f,m⟩⟩,.inr (.inr (.inl ⟨rfl,.inr ⟨i,z,rfl,f,m⟩⟩))⟩
   ·obtain⟨i,rfl⟩:∃i,k=2*i+1:=⟨k/2,by omega⟩;have B:bk 0 (Ks v t p q r) (2*i+6)=some x:=e;rw[BJ]at B;obtain⟨z,f,m⟩:=Option.bind_eq_some_iff.1 B;exact⟨3,⟨r,rfl,.inr ⟨i,z,f,m⟩⟩,.inr (.inr (.inr ⟨rfl,.inr ⟨i,z,rfl,f,m⟩⟩))⟩
 have H:∀{xs us:List QV}{n c:Nat}{a:Option Addr}(d:Nat),vO W.heap.size n xs us a c wr->∀s w x(B:Nat),B<5->5<=d->((s=B/\a.map (·.block)=some x)\/∃(i:Nat)(z:QV),s=2*i+d/\us[i]?=some z/\z.a.map (·.block)=some x)->((w=B/\a.map (·.block)=some x)\/∃(i:Nat)(z:QV),w=2*i+d/\us[i]?=some z/\z.a.map (·.block)=some x)->s=w:=by
  intro xs us n c a d M s w x B _ _ u o;rcases u with⟨u,J⟩|⟨i,z,u,J,S⟩<;>rcases o with⟨o,I⟩|⟨j,y,o,I,Q⟩
  ·omega
  ·obtain⟨G,f,m⟩:=fx J;obtain⟨F,e3,e4⟩:=fx Q;have:=M.off G j y F f I e3;omega
  ·obtain⟨G,f,m⟩:=fx I;obtain⟨F,e3,e4⟩:=fx S;have:=M.off G i z F f J e3;omega
  ·obtain⟨G,f,m⟩:=fx S;obtain⟨F,e3,e4⟩:=fx Q;have:=M.dj i j z y G F J I f e3 (by omega);omega
 refine⟨⟨U,N.row,N.cl,D.row,E.row,fun k z e=>⟨(D.nk k z e).1,(D.nk k z e).2.1⟩,fun k z e=>⟨(E.nk k z e).1,(E.nk k z e).2.1⟩,fun s w x A V f m=>?_,fun s x A e=>?_⟩,?_⟩
 ·obtain⟨k,O,u⟩:=C s x A f;obtain⟨l,X,o⟩:=C w x V m;have P:=h.dj k l x O X;subst P;rcases u with⟨L,u⟩|⟨L,u⟩|⟨L,u⟩|⟨L,u⟩<;>rcases o with⟨K,o⟩|⟨K,o⟩|⟨K,o⟩|⟨K,o⟩<;>first
   |omega
   |exact H 5 D s w x 2 (by decide) (by decide) u o
   |exact H 6 E s w x 3 (by decide) (by decide) u o
 ·obtain⟨k,O,_⟩:=C s x A e;exact h.yp k x O
 ·show Wo.W.mk t.se (p.2.2.map CV.cl) (q.2.2.map QV.eV) (r.2.2.map QV.eV)=_
  rw[T,N.Ri,D.eV,E.eV];rfl
