/- A part. -/
import Derived.Test.YthddphjghgdalaaGreatDoorP13
set_option maxRecDepth 100000
set_option maxHeartbeats 1600000
namespace Go.Proofs.YthddphjghgdalaaGreatDoor
open Go.RowKit Go.Proofs.Tryz
theorem Aj(v:EV)(w:World)(g:ae w v.ao v.n v.cap v.vs)(f:df w):
  Calls prog 60 #[.agg #[.int .i64 v.aR,.int .i64 v.seq,.slice v.ao v.n v.cap]] w fun e w'=>e=.returned (.int .i64 (Sv.eG v.en))/\Below w.heap.size w w':=by
 have b:=hId (aW v w);have n:=hId (kl v.ao v.n v.cap v.vs _ (g.below (aW v w)) (f.below (aW v w)));clear g f;obtain⟨r,a⟩:∃r,Sv.eG v.en=r:=⟨_,rfl⟩;rw[a];change (if v.aR<0\/4<=v.aR then(5:Int)else if v.seq<1\/10000<v.seq then 3 else Ac.gC (v.vs.map PV.pt))=r at a;generalize Ac.gC (v.vs.map PV.pt)=c at*;by_cases l:v.aR<0
 ·obtain rfl:r=5:=by rw[<-a,VC (show v.aR<0\/4<=v.aR from Or.inl l)]
  clear a;go_enter func60,ntmps60
  go_wp2
  go_ret
  exact⟨rfl,b.o⟩
 ·by_cases k:4<=v.aR
  ·obtain rfl:r=5:=by rw[<-a,VC (show v.aR<0\/4<=v.aR from Or.inr k)]
   clear a;go_enter func60,ntmps60
   go_wp2
   go_ret
   exact⟨rfl,b.o⟩
  ·by_cases i:v.seq<1
   ·obtain rfl:r=3:=by rw[<-a,VD (show¬(v.aR<0\/4<=v.aR)by omega),VC (show v.seq<1\/10000<v.seq from Or.inl i)]
    clear a;go_enter func60,ntmps60
    go_wp2
    go_ret
    exact⟨rfl,b.o⟩
   ·by_cases h:10000<v.seq
    ·obtain rfl:r=3:=by rw[<-a,VD (show¬(v.aR<0\/4<=v.aR)by omega),VC (show v.seq<1\/10000<v.seq from Or.inr h)]
     clear a;go_enter func60,ntmps60
     go_wp2
     go_ret
     exact⟨rfl,b.o⟩
    ·obtain rfl:r=c:=by rw[<-a,VD (show¬(v.aR<0\/4<=v.aR)by omega),VD (show¬(v.seq<1\/10000<v.seq)by omega)]
     clear a;go_enter func60,ntmps60
     go_wp2_with fail
     change Calls prog 58 _ (dU v w) _;refine n.o.mono ?_
     rintro e o⟨rfl,d⟩;have m:=hId (b.o.trans (d.mono b.o.size));clear d;go_wp2
     go_ret
     exact⟨rfl,m.o⟩
theorem G7(a b:EV)(w:World)(i:ae w a.ao a.n a.cap a.vs)(g:ae w b.ao b.n b.cap b.vs):
  Calls prog 27 #[.agg #[.int .i64 a.aR,.int .i64 a.seq,.slice a.ao a.n a.cap],.agg #[.int .i64 b.aR,.int .i64 b.seq,.slice b.ao b.n b.cap]] w fun e w'=>e=.returned (.bool (Sv.pq a.en b.en))/\Below w.heap.size w w':=by
 have f:=hId (sH a b w);have m:=hId (rD a.ao b.ao a.n a.cap b.n b.cap a.vs b.vs _ (i.below f.o) (g.below f.o));clear i g;obtain⟨r,d⟩:∃r,Sv.pq a.en b.en=r:=⟨_,rfl⟩;rw[d];unfold Sv.pq at d;simp only[EV.en]at d
 generalize Ac.eU (a.vs.map PV.pt) (b.vs.map PV.pt)=c at*
 cases h:(a.aR==b.aR)
 ·obtain rfl:=d.symm.trans (show _=false by rw[h];rfl);clear d;go_enter func27,ntmps27
  go_wp2
  go_ret
  exact⟨rfl,f.o⟩
 ·cases k:(a.seq==b.seq)
  ·obtain rfl:=d.symm.trans (show _=false by rw[h,k];rfl);clear d;go_enter func27,ntmps27
   go_wp2
   go_ret
   exact⟨rfl,f.o⟩
  ·obtain rfl:=d.symm.trans (show _=c by rw[h,k];rfl);clear d;go_enter func27,ntmps27
   go_wp2_with fail
   change Calls prog 25 _ (dU b (dU a w)) _;refine m.o.mono ?_
   rintro e n⟨rfl,g⟩;have l:=hId (f.o.trans (g.mono f.o.size));clear g;go_wp2
   go_ret
   exact⟨rfl,l.o⟩
theorem Ag(U A:Option Addr)(n z o h:Nat)(a us:List EV)(w:World)(p:fQ w U n z a)(l:fQ w A o h us):
  Calls prog 26 #[.slice U n z,.slice A o h,.func (.func 27) #[] #[]] w fun e w'=>e=.returned (.bool (Sv.iY (a.map EV.en) (us.map EV.en)))/\Below w.heap.size w w':=by
 have Z:=hId p;have B:=hId l;have L:=hId p.len;have m:=hId l.len;have a5:=p.row.room;have a6:=p.row.fg;clear p l;obtain⟨r,K⟩:∃r,Sv.iY (a.map EV.en) (us.map EV.en)=r:=⟨_,rfl⟩;have Y:=hId K;rw[K];clear K;by_cases s:n=o
 ·subst s;go_enter func26,ntmps26
  go_wp2
  go_loopw [17] (fun i wr=>∃k:Nat,k<=n/\i=.int .i64 k/\Below w.heap.size w wr/\Sv.iY ((a.map EV.en).drop k) ((us.map EV.en).drop k)=r) (fun i _=>n-(intOf i).toNat)
  case atStart=>exact⟨0,VN _,rfl,VE _ _,Y.o⟩
  case round=>
   obtain⟨k,hk,rfl,x,q⟩:=hrel;have M:=hId q;have c:=hId x;clear q x;by_cases t:k<n
   ·obtain⟨b,a7,rfl,y⟩:=Z.o.get (by omega);obtain⟨b',a3,rfl,g⟩:=B.o.get (by omega);have D:k<a.length:=by rw[L.o];exact t
    have C:k<us.length:=by rw[m.o];exact t
    have X:Hd (Sv.iY ((a.map EV.en).drop k) ((us.map EV.en).drop k)=(Sv.pq a[k].en us[k].en&&Sv.iY ((a.map EV.en).drop (k+1)) ((us.map EV.en).drop (k+1)))):=by
     have:=Sv.Ct (a.map EV.en) (us.map EV.en) k (by rw[VH];exact D) (by rw[VH];exact C);rw[List.getElem_map,List.getElem_map]at this;exact this
    obtain⟨J,I,H⟩:=(y k D).below c.o;have V:=g k C;obtain⟨G,F,E⟩:=V.below (c.o.trans ((aW a[k] wr).mono c.o.size));have f:Hd (Below w.heap.size w (dU us[k] (dU a[k] wr))):=c.o.trans ((sH _ _ wr).mono c.o.size);have Q:=hId ((Z.o.ops _ (WT D)).below f.o);have P:=hId ((B.o.ops _ (WT C)).below f.o);have O:=hId (I5 a[k] us[k] wr);have N:=hId (km us[k] (dU a[k] wr));clear y g V;generalize a[k]=v at*;generalize us[k]=u at*;clear D C;go_upto_region 6 with fail
    change Code.wp prog _ _ _ (dU v wr);go_upto_region 7 with fail
    change Code.wp prog _ _ _ (dU u (dU v wr));generalize dU u (dU v wr)=W at*;clear J I H G F E;obtain⟨J,I,H⟩:=O.o;obtain⟨G,F,E⟩:=N.o;simp only[VR]at J I H G F E
    go_wp2_with fail
    refine(G7 v u _ Q.o P.o).mono ?_
    rintro e w1⟨rfl,T⟩;have H2:=hId (f.o.trans (T.mono f.o.size));clear T J I H G F E
    cases d:Sv.pq v.en u.en
    ·obtain rfl:r=false:=by rw[<-M.o,X.o,d];rfl
     clear d;go_wp2
     go_ret
     exact⟨rfl,H2.o⟩
    ·have S:Hd (Sv.iY ((a.map EV.en).drop (k+1)) ((us.map EV.en).drop (k+1))=r):=by show _=_;rw[<-M.o,X.o,d,Bool.true_and]
     clear d;go_wp2
     go_roundw
     case rel=>exact⟨k+1,by omega,by go_num,H2.o,S.o⟩
     case measure=>simp[intOf];omega
   ·obtain rfl:k=n:=by omega
    obtain rfl:r=true:=by
     rw[<-M.o,WI (by rw[VH,L.o];exact UZ _),WI (by rw[VH,m.o];exact UZ _)];rfl
    go_wp2
    go_ret
    exact⟨rfl,c.o⟩
 ·obtain rfl:r=false:=by rw[<-Y.o];exact Sv.wU _ _ (by rw[VH,VH,L.o,m.o];exact s)
  have a8:((n:Int)!=(o:Int))=true:=by simp;omega
  have a4:(n !=o)=true:=by simp;omega
  go_enter func26,ntmps26
  go_wp2
  go_ret
  exact⟨rfl,VE _ _⟩
theorem Ih(H:Option Addr)(n m:Nat)(a:List EV)(w:World)(f:fQ w H n m a)(G:df w):
  Calls prog 38 #[.slice H n m,.func (.func 60) #[] #[]] w fun e w'=>e=.returned (.int .i64 (Sv.dQ (a.map EV.en)))/\Below w.heap.size w w':=by
 have J:=hId f;have O:=hId G;have I:=hId f.len;have L:=f.row.room;have M:=f.row.fg;clear f G;obtain⟨r,u⟩:∃r,Sv.dQ (a.map EV.en)=r:=⟨_,rfl⟩;have P:=hId u;rw[u];clear u;go_enter func38,ntmps38
 go_wp2
 go_loopw [10] (fun i wr=>∃k:Nat,k<=n/\i=.int .i64 k/\Below w.heap.size w wr/\Sv.dQ ((a.map EV.en).drop k)=r) (fun i _=>n-(intOf i).toNat)
 case atStart=>exact⟨0,VN _,rfl,VE _ _,P.o⟩
 case round=>
  obtain⟨k,U,rfl,h,g⟩:=hrel;have z:=hId g;have c:=hId h;clear g h;by_cases A:k<n
  ·obtain⟨b,Q,rfl,l⟩:=J.o.get (by omega);have x:k<a.length:=by rw[I.o];exact A
   have y:Hd (Sv.dQ ((a.map EV.en).drop k)=if Sv.eG a[k].en=0 then Sv.dQ ((a.map EV.en).drop (k+1))else Sv.eG a[k].en):=by
    have:=Sv.Dq (a.map EV.en) k (by rw[VH];exact x);rw[List.getElem_map]at this;exact this
   obtain⟨t,s,p⟩:=(l k x).below c.o;have d:Hd (Below w.heap.size w (dU a[k] wr)):=c.o.trans ((aW _ wr).mono c.o.size);have C:=hId ((J.o.ops _ (WT x)).below d.o);have B:=hId (O.o.below d.o);have N:=hId (km a[k] wr);clear l;generalize a[k]=v at*;go_upto_region 4 with fail
   change Code.wp prog _ _ _ (dU v wr);generalize dU v wr=W at*;clear t s p;obtain⟨t,s,p⟩:=N.o;simp only[VR]at t s p
   go_wp2_with fail
   refine(Aj v _ C.o B.o).mono ?_
   rintro e T⟨rfl,F⟩;have K:=hId (d.o.trans (F.mono d.o.size));clear F t s p;obtain⟨q,E⟩:∃q,Sv.eG v.en=q:=⟨_,rfl⟩;rw[E]at y⊢;clear E;by_cases o:q=0
   ·have D:Hd (Sv.dQ ((a.map EV.en).drop (k+1))=r):=by show _=_;rw[<-z.o,y.o,VC o]
    subst o;go_wp2
    go_roundw
    case rel=>exact⟨k+1,by omega,by go_num,K.o,D.o⟩
    case measure=>simp[intOf];omega
   ·have S:(q !=0)=true:=by simp[o]
    obtain rfl:r=q:=by rw[<-z.o,y.o,VD o]
    go_wp2
    go_ret
    exact⟨rfl,K.o⟩
  ·obtain rfl:k=n:=by omega
   obtain rfl:r=0:=by
    rw[<-z.o,WI (by rw[VH,I.o];exact UZ _)];rfl
   go_wp2
   go_ret
   exact⟨rfl,c.o⟩
theorem Ap(F:FuncId)(c:Value)(M:Option Addr)(n f:Nat)(d:List EV)(a:Nat->World->Prop)(m:Int->World->Prop)(w:World)(I:F=39\/F=115)(Q:n<=f/\f<=9223372036854775807/\d.length=n)
  (J:∀k wr,a k wr->fQ wr M n f d)(D:∀k wr(v:EV),a k wr->a k (dU v wr))(L:a 0 w)
  (o:∀k(P:k<d.length) wr,a k wr->Calls prog F #[.agg #[.int .i64 d[k].aR,.int .i64 d[k].seq,.slice d[k].ao d[k].n d[k].cap],c] wr fun e w'=>∃E,e=.returned (.int .i64 E)/\(E=0->a (k+1) w')/\(E≠0->m E w')):
  Calls prog 38 #[.slice M n f,.func (.func F) #[] #[c]] w fun e w'=>∃E,e=.returned (.int .i64 E)/\(E=0->a n w')/\(E≠0->m E w'):=by
 obtain⟨N,O,g⟩:=Q;have U:=hId g;have X:=hId J;have S:=hId D;have z:=hId o;have V:=hId I;have Y:=hId L;clear J D o I L g;go_enter func38,ntmps38
 go_wp2
 go_loopw [10] (fun i wr=>∃k:Nat,k<=n/\i=.int .i64 k/\a k wr) (fun i _=>n-(intOf i).toNat)
 case atStart=>exact⟨0,VN _,rfl,Y.o⟩
 case round=>
  obtain⟨k,P,rfl,l⟩:=hrel;have x:=hId l;clear l;by_cases y:k<n
  ·obtain⟨b,a3,rfl,p⟩:=(X.o k wr x.o).get (by omega);have K:k<d.length:=by rw[U.o];exact y
   obtain⟨u,t,s⟩:=p k K;have Z:Hd (Calls prog F #[.agg #[.int .i64 d[k].aR,.int .i64 d[k].seq,.slice d[k].ao d[k].n d[k].cap],c] (dU d[k] wr) fun e w'=>∃E,e=.returned (.int .i64 E)/\(E=0->a (k+1) w')/\(E≠0->m E w')):=z.o k K _ (S.o k wr _ x.o);have T:=hId (km d[k] wr);clear p;generalize d[k]=v at*;go_upto_region 4 with fail
   change Code.wp prog _ _ _ (dU v wr);generalize dU v wr=W at*;clear u t s;obtain⟨u,t,s⟩:=T.o;simp only[VR]at u t s
   rcases V.o with rfl|rfl
   all_goals
    go_wp2_with fail
    refine Z.o.mono ?_
    rintro e w1⟨q,rfl,G,H⟩;have B:=hId G;have C:=hId H;clear G H u t s;by_cases r:q=0
    ·have A:=hId (B.o r);subst r;go_wp2
     go_roundw
     case rel=>exact⟨k+1,by omega,by go_num,A.o⟩
     case measure=>simp[intOf];omega
    ·have a4:(q !=0)=true:=by simp[r]
     go_wp2
     go_ret
     exact⟨q,rfl,fun e=>absurd e r,C.o⟩
  ·obtain rfl:k=n:=by omega
   go_wp2
   go_ret
   exact⟨0,rfl,fun _=>x.o,fun h=>absurd rfl h⟩
def rU (x:Int) (w:World):World:=w.alloc (.cells #[.int .i64 x] 3)
theorem mP(x:Int)(w:World):Below w.heap.size w (rU x w):=(VE _ _).alloc (UZ _) _
theorem BF(x:Int)(w:World):Blk (rU x w) w.heap.size [.int .i64 x] 3:=Blk.new w _ _
theorem N7(v:EV)(h b:Nat)(c q:Int)(w:World)(f:w.cell? ⟨h,0,none⟩=some (.int .i64 c))(d:w.cell? ⟨b,0,none⟩=some (.int .i64 q)):
  Calls prog 114 #[.agg #[.int .i64 v.aR,.int .i64 v.seq,.slice v.ao v.n v.cap],.pointer (some ⟨h,0,none⟩),.pointer (some ⟨b,0,none⟩)] w fun e w'=>e=.returned (.bool (Sv.Bi c q v.en))/\Below w.heap.size w w':=by
 have i:=hId (aW v w);have o:=aA f (aW v w);have q0:=aA d (aW v w);have n:=hId (km v w);clear f d;obtain⟨r,a⟩:∃r,Sv.Bi c q v.en=r:=⟨_,rfl⟩;rw[a];unfold Sv.Bi at a;simp only[EV.en]at a
 go_enter func114,ntmps114
 go_upto_region 1 with fail
 change Code.wp prog _ _ _ (dU v w);generalize dU v w=W at*;obtain⟨m,l,k⟩:=n.o;simp only[VR]at m l k
 cases g:(v.aR==c)
 ·obtain rfl:=a.symm.trans (show _=false by rw[g];rfl);clear a;go_wp2
  go_ret
  exact⟨rfl,i.o⟩
 ·obtain rfl:=a.symm.trans (show _=(v.seq==q)by rw[g];rfl);clear a;go_wp2
  go_ret
  exact⟨rfl,i.o⟩
theorem LW(t p:Nat)(c q:Int)(D:Option Addr)(n o:Nat)(d:List EV)(w:World)(g:fQ w D n o d)(A:w.cell? ⟨t,0,none⟩=some (.int .i64 c))(z:w.cell? ⟨p,0,none⟩=some (.int .i64 q)):
  Calls prog 142 #[.slice D n o,.func (.func 114) #[] #[.pointer (some ⟨t,0,none⟩),.pointer (some ⟨p,0,none⟩)]] w fun e w'=>(∃i:Int,e=.returned (.int .i64 i)/\decide (0<=i)=(d.map EV.en).any (Sv.Bi c q))/\Below w.heap.size w w':=by
 have O:=hId g;have F:=hId g.len;have P:=hId A;have N:=hId z;have H:=g.row.room;have I:=g.row.fg;clear g A z;obtain⟨r,s⟩:∃r,(d.map EV.en).any (Sv.Bi c q)=r:=⟨_,rfl⟩;have M:=hId s;rw[s];clear s;go_enter func142,ntmps142
 go_wp2
 go_loopw [8] (fun i wr=>∃k:Nat,k<=n/\i=.int .i64 k/\Below w.heap.size w wr/\((d.map EV.en).drop k).any (Sv.Bi c q)=r) (fun i _=>n-(intOf i).toNat)
 case atStart=>exact⟨0,VN _,rfl,VE _ _,M.o⟩
 case round=>
  obtain⟨k,T,rfl,l,h⟩:=hrel;have u:=hId h;have a:=hId l;clear h l;by_cases x:k<n
  ·obtain⟨b,Q,rfl,m⟩:=O.o.get (by omega);have C:k<d.length:=by rw[F.o];exact x
   have E:Hd (((d.map EV.en).drop k).any (Sv.Bi c q)=(Sv.Bi c q d[k].en||((d.map EV.en).drop (k+1)).any (Sv.Bi c q))):=by
    show _=_
    rw[VU (by rw[VH];exact C),List.any_cons,List.getElem_map]
   obtain⟨L,K,J⟩:=(m k C).below a.o;clear m;generalize d[k]=v at*;go_wp2_with fail
   refine(N7 v t p c q _ (aA P.o a.o) (aA N.o a.o)).mono ?_
   rintro e S⟨rfl,B⟩;have G:=hId (a.o.trans (B.mono a.o.size));clear B L K J
   cases f:Sv.Bi c q v.en
   ·have y:Hd (((d.map EV.en).drop (k+1)).any (Sv.Bi c q)=r):=by show _=_;rw[<-u.o,E.o,f,Bool.false_or]
    clear f;go_wp2
    go_roundw
    case rel=>exact⟨k+1,by omega,by go_num,G.o,y.o⟩
    case measure=>simp[intOf];omega
   ·obtain rfl:r=true:=by rw[<-u.o,E.o,f];rfl
    clear f;go_wp2
    go_ret
    exact⟨⟨_,rfl,by simp⟩,G.o⟩
  ·obtain rfl:k=n:=by omega
   obtain rfl:r=false:=by
    rw[<-u.o,WI (by rw[VH,F.o];exact UZ _)];rfl
   go_wp2
   go_ret
   exact⟨⟨_,rfl,by decide⟩,a.o⟩
theorem Iq(f d:Nat)(c q:Int)(g:Option Addr)(n a:Nat)(b:List EV)(w:World)(o:fQ w g n a b)(l:w.cell? ⟨f,0,none⟩=some (.int .i64 c))(h:w.cell? ⟨d,0,none⟩=some (.int .i64 q)):
  Calls prog 113 #[.slice g n a,.func (.func 114) #[] #[.pointer (some ⟨f,0,none⟩),.pointer (some ⟨d,0,none⟩)]] w fun e w'=>e=.returned (.bool ((b.map EV.en).any (Sv.Bi c q)))/\Below w.heap.size w w':=by
 have p:=LW f d c q g n a b w o l h;clear o l h;generalize (b.map EV.en).any (Sv.Bi c q)=r at*;have t:=hId p;clear p;go_enter func113,ntmps113
 go_wp2_with fail
 refine t.o.mono ?_
 rintro e v⟨⟨i,rfl,k⟩,m⟩;have u:=hId m;clear m;have s:=hId k;clear k;go_wp2
 go_ret
 exact⟨by rw[<-s.o];rfl,u.o⟩
theorem OF(s:SV)(c q:Int)(w:World)(d:nU w s):
  Calls prog 98 #[.agg #[.slice s.fa s.fn s.fc,.slice s.la s.ln s.lc,.slice s.na s.nn s.nc],.int .i64 c,.int .i64 q] w fun e w'=>e=.returned (.bool (Sv.has s.se c q))/\Below w.heap.size w w':=by
 have a:=hId ((bM s w).trans (((mP c _).trans ((mP q _).mono (mP c _).size)).mono (bM s w).size));have g:Hd (Calls prog 113 #[.slice s.la s.ln s.lc,.func (.func 114) #[] #[.pointer (some ⟨w.heap.size+1,0,none⟩),.pointer (some ⟨w.heap.size+1+1,0,none⟩)]] (rU q (rU c (ai s w))) fun e w'=>e=.returned (.bool (Sv.has s.se c q))/\Below (rU q (rU c (ai s w))).heap.size (rU q (rU c (ai s w))) w'):=
  Iq _ _ c q s.la s.ln s.lc s.log _ (d.log.below a.o) (by
   have:=aA ((BF c (ai s w)).cell 0) (mP q _);rw[fN]at this;exact this) (by
   have:=(BF q (rU c (ai s w))).cell 0;rw[show(rU c (ai s w)).heap.size=w.heap.size+1+1 by unfold rU;rw[WO,fN]]at this;exact this)
 clear d;generalize Sv.has s.se c q=r at*;go_enter func98,ntmps98
 go_wp2_with fail
 change Calls prog 113 _ (rU q (rU c (ai s w))) _;refine g.o.mono ?_
 rintro e h⟨rfl,b⟩;have f:=hId (a.o.trans (b.mono a.o.size));clear b;go_wp2
 go_ret
 exact⟨rfl,f.o⟩
theorem G5(a b:SV)(w:World)(s:nU w a)(c:nU w b):
  Calls prog 9 #[.agg #[.slice a.fa a.fn a.fc,.slice a.la a.ln a.lc,.slice a.na a.nn a.nc],.agg #[.slice b.fa b.fn b.fc,.slice b.la b.ln b.lc,.slice b.na b.nn b.nc]] w fun e w'=>e=.returned (.bool (Sv.wS a.se b.se))/\Below w.heap.size w w':=by
 have d:=hId ((bM a w).trans ((bM b _).mono (bM a w).size));have v:Hd (Blk (ai b (ai a w)) w.heap.size (lA a) 26):=(fI a w).alloc _;have u:Hd (Blk (ai b (ai a w)) (w.heap.size+1) (lA b) 26):=by have:=fI b (ai a w);rw[fN]at this;exact this
 have A:Hd (Calls prog 15 #[.slice a.fa a.fn a.fc,.slice b.fa b.fn b.fc] (ai b (ai a w)) fun e w'=>e=.returned (.bool (Dc.same a.first b.first))/\Below (ai b (ai a w)).heap.size (ai b (ai a w)) w'):=(gJ _ _ _ _ _ _ _ _ _ (s.first.below d.o) (c.first.below d.o)).mono fun e w'⟨h,m,t⟩=>⟨h,by rw[t];exact bJ _ m⟩;have D:Hd (∀w',Below (ai b (ai a w)).heap.size (ai b (ai a w)) w'->Calls prog 26 #[.slice a.la a.ln a.lc,.slice b.la b.ln b.lc,.func (.func 27) #[] #[]] w' fun e i=>e=.returned (.bool (Sv.iY (a.log.map EV.en) (b.log.map EV.en)))/\Below w'.heap.size w' i):=fun w' n=>Ag _ _ _ _ _ _ _ _ _ ((s.log.below d.o).below n) ((c.log.below d.o).below n);have F:Hd (∀w',Below (ai b (ai a w)).heap.size (ai b (ai a w)) w'->Calls prog 15 #[.slice a.na a.nn a.nc,.slice b.na b.nn b.nc] w' fun e i=>e=.returned (.bool (Dc.same a.now b.now))/\Below w'.heap.size w' i):=fun w' n=>(gJ _ _ _ _ _ _ _ _ _ ((s.now.below d.o).below n) ((c.now.below d.o).below n)).mono fun e i⟨h,m,t⟩=>⟨h,by rw[t];exact bJ _ m⟩;clear s c;obtain⟨r,g⟩:∃r,Sv.wS a.se b.se=r:=⟨_,rfl⟩;rw[g];unfold Sv.wS at g;simp only[SV.se]at g
 generalize Dc.same a.first b.first=x at*;generalize Sv.iY (a.log.map EV.en) (b.log.map EV.en)=y at*;generalize Dc.same a.now b.now=z at*
 cases x
 ·obtain rfl:=g.symm.trans (show _=false from rfl);clear g;go_enter func9,ntmps9
  go_wp2_with fail
  change Calls prog 15 _ (ai b (ai a w)) _;refine A.o.mono ?_
  rintro e C⟨rfl,c⟩;have f:=hId c;have l:=hId (d.o.trans (c.mono d.o.size));clear c;go_wp2
  go_ret
  exact⟨rfl,l.o⟩
 ·cases y
  ·obtain rfl:=g.symm.trans (show _=false from rfl);clear g;go_enter func9,ntmps9
   go_wp2_with fail
   change Calls prog 15 _ (ai b (ai a w)) _;refine A.o.mono ?_
   rintro e C⟨rfl,c⟩;have f:=hId c;have l:=hId (d.o.trans (c.mono d.o.size));clear c;have p:=aA (v.o.cell 1) f.o;have o:=aA (u.o.cell 1) f.o;go_wp2_with fail
   refine(D.o _ f.o).mono ?_
   rintro e E⟨rfl,c⟩;have k:=hId (f.o.trans (c.mono f.o.size));have q:=hId (d.o.trans (k.o.mono d.o.size));clear c p o;go_wp2
   go_ret
   exact⟨rfl,q.o⟩
  ·obtain rfl:=g.symm.trans (show _=z from rfl);clear g;go_enter func9,ntmps9
   go_wp2_with fail
   change Calls prog 15 _ (ai b (ai a w)) _;refine A.o.mono ?_
   rintro e C⟨rfl,c⟩;have f:=hId c;have l:=hId (d.o.trans (c.mono d.o.size));clear c;have p:=aA (v.o.cell 1) f.o;have o:=aA (u.o.cell 1) f.o;go_wp2_with fail
   refine(D.o _ f.o).mono ?_
   rintro e E⟨rfl,c⟩;have k:=hId (f.o.trans (c.mono f.o.size));have q:=hId (d.o.trans (k.o.mono d.o.size));clear c p o;have p:=aA (v.o.cell 2) k.o;have o:=aA (u.o.cell 2) k.o;go_wp2_with fail
   refine(F.o _ k.o).mono ?_
   rintro e G⟨rfl,c⟩;have B:=hId (d.o.trans ((k.o.trans (c.mono k.o.size)).mono d.o.size));clear c p o;go_wp2
   go_ret
   exact⟨rfl,B.o⟩
namespace Ac
theorem tL{P:List A->List A->List A->List A->Prop}(r:P [] [] [] [])(s:∀x a b u v,P a b u v->P (.put x::a) b (.put x::u) (.af wg::v))
  (l:∀y a b u v,(∀x i,a≠.put x::i)->P a b u v->P a (.put y::b) (.af wg::u) (.put y::v))(m:∀c d a b u v,P a b u v->P (.af c::a) (.af d::b) (.af c::u) (.af (behind d c)::v))
  (p:∀d a b u v,P a b u v->P (.cut::a) (.af d::b) (.cut::u) v)(o:∀c a b u v,P a b u v->P (.af c::a) (.cut::b) u (.cut::v))(q:∀a b u v,P a b u v->P (.cut::a) (.cut::b) u v):
  ∀(n:Nat)(a b:List A),a.length+b.length<=n->aX a=aX b->P a b (bF a b).1 (bF a b).2:=by
 intro n;induction n with
 |zero=>
  intro a b f h;have w:a=[]:=VS.1 (by omega);have t:b=[]:=VS.1 (by omega);subst w t;exact r
 |succ n g=>
  intro a b f h;rcases a with _|⟨k,a⟩
  ·rcases b with _|⟨e,b⟩
   ·exact r
   ·rcases e with _|(d|y)
    ·simp[aX]at h
    ·simp[aX]at h
    ·rw[xp];exact l y _ _ _ _ (fun x i e=>by cases e) (g [] b (by simp at f⊢;omega) h)
  ·rcases k with _|(c|x)
   ·rcases b with _|⟨e,b⟩
    ·simp[aX]at h
    ·rcases e with _|(d|y)
     ·rw[pZ];exact q _ _ _ _ (g a b (by simp at f;omega) (by simpa[aX]using h))
     ·rw[pY];exact p _ _ _ _ _ (g a b (by simp at f;omega) (by simpa[aX]using h))
     ·rw[pX];exact l y _ _ _ _ (fun x i e=>by cases e) (g (.cut::a) b (by simp at f⊢;omega) h)
   ·rcases b with _|⟨e,b⟩
    ·simp[aX]at h
    ·rcases e with _|(d|y)
     ·rw[pW];exact o _ _ _ _ _ (g a b (by simp at f;omega) (by simpa[aX]using h))
     ·rw[pV];exact m _ _ _ _ _ _ (g a b (by simp at f;omega) (by simpa[aX]using h))
     ·rw[nX];exact l y _ _ _ _ (fun x i e=>by cases e) (g (.af c::a) b (by simp at f⊢;omega) h)
   ·rw[mn];exact s x _ _ _ _ (g a b (by simp at f;omega) h)
theorem AU{P:List A->List A->List A->Prop}(r:P [] [] [])(s:∀a b u,P a b u->P (.cut::a) b (.cut::u))
  (l:∀y a b u,(∀i,a≠.cut::i)->P a b u->P a (.put y::b) (.put y::u))(p:∀c e a b u,P a b u->P (.af c::a) (.af e::b) (.af (iH c e)::u))
  (q:∀c a b u,P a b u->P (.af c::a) (.cut::b) (.cut::u))(m:∀x e a b u,P a b u->P (.put x::a) (.af e::b) (.put (change x e)::u))(o:∀x a b u,P a b u->P (.put x::a) (.cut::b) u):
  ∀(n:Nat)(a b:List A),a.length+b.length<=n->leave a=aX b->P a b (join a b):=by
 intro n;induction n with
 |zero=>
  intro a b f h;have v:a=[]:=VS.1 (by omega);have t:b=[]:=VS.1 (by omega);subst v t;exact r
 |succ n g=>
  intro a b f h;rcases a with _|⟨k,a⟩
  ·rcases b with _|⟨e,b⟩
   ·exact r
   ·rcases e with _|(d|y)
    ·simp[aX,leave]at h
    ·simp[aX,leave]at h
    ·rw[FI];exact l y _ _ _ (fun i e=>by cases e) (g [] b (by simp at f⊢;omega) h)
  ·rcases k with _|(c|x)
   ·rw[nI];exact s _ _ _ (g a b (by simp at f;omega) h)
   ·rcases b with _|⟨e,b⟩
    ·simp[aX,leave]at h
    ·rcases e with _|(d|y)
     ·rw[qP];exact q _ _ _ _ (g a b (by simp at f;omega) (by simpa[aX,leave]using h))
     ·rw[qO];exact p _ _ _ _ _ (g a b (by simp at f;omega) (by simpa[aX,leave]using h))
     ·rw[FJ];exact l y _ _ _ (fun i e=>by cases e) (g (.af c::a) b (by simp at f⊢;omega) h)
   ·rcases b with _|⟨e,b⟩
    ·simp[aX,leave]at h
    ·rcases e with _|(d|y)
     ·rw[qN];exact o _ _ _ _ (g a b (by simp at f;omega) (by simpa[aX,leave]using h))
     ·rw[qM];exact m _ _ _ _ _ (g a b (by simp at f;omega) (by simpa[aX,leave]using h))
     ·rw[FH];exact l y _ _ _ (fun i e=>by cases e) (g (.put x::a) b (by simp at f⊢;omega) h)
def Rk (a:A):Prop:=match a with
 | some (.inl c)=>be c.set c.bm=false/\cJ c.goes c.link=false
 | some (.inr x)=>Dc.err x=0
 | none=>True
def oI (l:List A):Prop:=∀ a ∈ l,Rk a
theorem oI.nil:oI []:=fun a b=>by cases b
theorem oI.cons{a:A}{l:List A}(h:Rk a)(d:oI l):oI (a::l):=fun b c=>by
 rcases WG.1 c with rfl|c
 ·exact h
 ·exact d b c
theorem oI.head{a:A}{l:List A}(h:oI (a::l)):Rk a:=h a (VK ..)
theorem oI.tail{a:A}{l:List A}(h:oI (a::l)):oI l:=fun b c=>h b (VP _ c)
theorem E6:Rk (.af wg):=⟨by decide+kernel,by decide+kernel⟩
theorem AF{c d:Ch}(h:cJ d.goes d.link=false):cJ (behind d c).goes (behind d c).link=false:=by
 show cJ (d.goes&&!c.goes) (if c.goes then⟨#[]⟩else d.link)=false
 cases c.goes
 ·rw[Bool.not_false,Bool.and_true];exact h
 ·exact rr _
theorem IG{c d:Ch}(b:cJ c.goes c.link=false)(h:cJ d.goes d.link=false):cJ (iH c d).goes (iH c d).link=false:=by
 show cJ (c.goes||d.goes) (if d.goes then d.link else c.link)=false
 cases a:d.goes
 ·rw[Bool.or_false];exact b
 ·rw[a]at h;rw[Bool.or_true];exact h
theorem Dl{x:It}{c:Ch}(e:Dc.err x=0)(a:Rk (.af c)):Dc.err (change x c)=0:=by
 obtain⟨g,f,e3⟩:=jj e;obtain⟨d,b,_⟩:=fY a.1;exact Dk g (yK f b d) (nE e3 a.2)
theorem Jp{a b:List A}(h:aX a=aX b)(f:oI a)(e:oI b):oI (bF a b).1/\oI (bF a b).2:=by
 refine tL (P:=fun a b u v=>oI a->oI b->oI u/\oI v) (fun _ _=>⟨oI.nil,oI.nil⟩) ?_ ?_ ?_ ?_ ?_ ?_ _ a b (UZ _) h f e
 ·intro x a b u v g f e;obtain⟨k,i⟩:=g f.tail e;exact⟨k.cons f.head,i.cons E6⟩
 ·intro y a b u v _ g f e;obtain⟨k,i⟩:=g f e.tail;exact⟨k.cons E6,i.cons e.head⟩
 ·intro c d a b u v g f e;obtain⟨k,i⟩:=g f.tail e.tail;exact⟨k.cons f.head,i.cons ⟨rf e.head.1 f.head.1,AF e.head.2⟩⟩
 ·intro d a b u v g f e;obtain⟨k,i⟩:=g f.tail e.tail;exact⟨k.cons trivial,i⟩
 ·intro c a b u v g f e;obtain⟨k,i⟩:=g f.tail e.tail;exact⟨k,i.cons trivial⟩
 ·intro a b u v g f e;exact g f.tail e.tail
theorem LM{a b:List A}(h:leave a=aX b)(f:oI a)(d:oI b):oI (join a b):=by
 refine AU (P:=fun a b u=>oI a->oI b->oI u) (fun _ _=>oI.nil) ?_ ?_ ?_ ?_ ?_ ?_ _ a b (UZ _) h f d
 ·intro a b u g f d;exact(g f.tail d).cons trivial
 ·intro y a b u _ g f d;exact(g f d.tail).cons d.head
 ·intro c e a b u g f d;exact(g f.tail d.tail).cons ⟨we f.head.1 d.head.1,IG f.head.2 d.head.2⟩
 ·intro c a b u g f d;exact(g f.tail d.tail).cons trivial
 ·intro x e a b u g f d;exact(g f.tail d.tail).cons (Dl f.head d.head)
 ·intro x a b u g f d;exact g f.tail d.tail
theorem Gj{a b:List A}(h:aX a=aX b)(c d:Ch):bF (a++[.af c]) (b++[.af d])=((bF a b).1++[.af c],(bF a b).2++[.af (behind d c)]):=by
 refine tL (P:=fun a b u v=>bF (a++[.af c]) (b++[.af d])=(u++[.af c],v++[.af (behind d c)])) rfl ?_ ?_ ?_ ?_ ?_ ?_ _ a b (UZ _) h
 ·intro x a b u v g;rw[VF,mn,g];rfl
 ·intro y a b u v i g;rw[VF];rcases a with _|⟨_|(e|x),a⟩
  ·rw[List.nil_append,nX];rw[List.nil_append]at g;rw[g];rfl
  ·rw[VF,pX];rw[VF]at g;rw[g];rfl
  ·rw[VF,nX];rw[VF]at g;rw[g];rfl
  ·exact absurd rfl (i x a)
 ·intro e f a b u v g;rw[VF,VF,pV,g];rfl
 ·intro e a b u v g;rw[VF,VF,pY,g];rfl
 ·intro e a b u v g;rw[VF,VF,pW,g];rfl
 ·intro a b u v g;rw[VF,VF,pZ,g]
theorem IL{a b:List A}(h:leave a=aX b)(c d:Ch):join (a++[.af c]) (b++[.af d])=join a b++[.af (iH c d)]:=by
 refine AU (P:=fun a b u=>join (a++[.af c]) (b++[.af d])=u++[.af (iH c d)]) rfl ?_ ?_ ?_ ?_ ?_ ?_ _ a b (UZ _) h
 ·intro a b u g;rw[VF,nI,g];rfl
 ·intro y a b u i g;rw[VF,nH _ _ y (fun l e=>by
   rcases a with _|⟨_|(k|x),a⟩
   ·cases e
   ·exact i a rfl
   ·cases e
   ·cases e),g];rfl
 ·intro e f a b u g;rw[VF,VF,qO,g];rfl
 ·intro e a b u g;rw[VF,VF,qP,g];rfl
 ·intro x e a b u g;rw[VF,VF,qM,g];rfl
 ·intro x a b u g;rw[VF,VF,qN,g]
def pn:List A->Nat
 | []=>0
 | some (.inr _) :: r=>pn r+1
 | some (.inl _) :: r=>pn r
 | none :: r=>pn r
theorem pC:∀(a b:List A),pn (a++b)=pn a+pn b
 |[],b=>by simp[pn]
 |some (.inl c)::a,b=>by rw[VF,pn,pn,pC a b]
 |some (.inr x)::a,b=>by rw[VF,pn,pn,pC a b];omega
 |none::a,b=>by rw[VF,pn,pn,pC a b]
theorem lJ:∀a:List A,pn a<=leave a
 |[]=>UZ _
 |some (.inl c)::a=>by rw[pn,leave];have:=lJ a;omega
 |some (.inr x)::a=>by rw[pn,leave];have:=lJ a;omega
 |none::a=>by rw[pn,leave];exact lJ a
theorem Mt{a b:List A}(h:aX a=aX b):pn (bF a b).1=pn a/\pn (bF a b).2=pn b:=by
 refine tL (P:=fun a b u v=>pn u=pn a/\pn v=pn b) ⟨rfl,rfl⟩ ?_ ?_ ?_ ?_ ?_ ?_ _ a b (UZ _) h
 ·intro x a b u v e;exact⟨VQ (·+1) e.1,e.2⟩
 ·intro y a b u v _ e;exact⟨e.1,VQ (·+1) e.2⟩
 ·intro c d a b u v e;exact e
 ·intro d a b u v e;exact e
 ·intro c a b u v e;exact e
 ·intro a b u v e;exact e
theorem sU:∀l:List It,pn (l.map A.put)=l.length
 |[]=>rfl
 |x::l=>by rw[XA,pn,sU l];rfl
theorem yA:∀n:Nat,pn (List.replicate n A.cut)=0
 |0=>rfl
 |n+1=>by rw[WR,pn,yA n]
theorem sV:∀(l:List A)(a:List It)(n:Nat),pn (norm a n l)=a.length+pn l
 |[],a,n=>by rw[norm,group,pC,sU,yA];rfl
 |some (.inr x)::r,a,n=>by rw[norm,sV r,pn];simp;omega
 |none::r,a,n=>by rw[norm,sV r,pn]
 |some (.inl c)::r,a,n=>by rw[norm,group,pC,pC,sU,yA,pn,sV r,pn];simp
theorem Kb:∀{o:List Pt}{z:Pt},z∈o->z.kind=2->z.aB.length<=pn (ah o)
 |p::o,z,h,k=>by
  rw[cB,pC];rcases WG.1 h with rfl|h
  ·rw[gX k,sU];omega
  ·have:=Kb h k;omega
theorem ql(l:List A):ah (tA l)=nf l:=by
 unfold tA;rw[qj _ _ _ _ (fun p a=>by cases a),fK];rfl
theorem pg(c:Ch):∀(l:List A)(a:List Pt)(b:List It)(n:Nat),lD a b n (l++[.af c])=kJ (lD a b n l) c
 |[],a,b,n=>by
  show lD (kJ (a++bL b n) c) [] 0 []=_
  rw[lD,lD];show _++[]=_
  rw[VY]
 |some (.inr x)::r,a,b,n=>by rw[VF,lD,pg c r,lD]
 |none::r,a,b,n=>by rw[VF,lD,pg c r,lD]
 |some (.inl e)::r,a,b,n=>by rw[VF,lD,pg c r,lD]
theorem JD(o:List Pt)(c:Ch):∃o' q,kJ o c=o'++[q]/\q.kind=1:=by
 rcases List.eq_nil_or_concat o with e|⟨o',q,e⟩
 ·rw[e];exact⟨[],_,rfl,rfl⟩
 ·rw[XU]at e;rw[e,jl];by_cases h:lM q c=true
  ·rw[VC h];exact⟨o',_,rfl,(nF h).1⟩
  ·rw[VD h];exact⟨_,_,rfl,rfl⟩
theorem OH{o:List Pt}{c:Ch}(g:∀z∈o,Gd z)(p:Rk (.af c)):∀z∈kJ o c,Gd z:=by
 have m:Gd (jw c 1):=.inl ⟨rfl,p.1,p.2,rfl,XV _⟩;rcases List.eq_nil_or_concat o with e|⟨o',q,e⟩
 ·rw[e];intro z f;rw[UY.1 f];exact m
 ·rw[XU]at e;rw[e]at g⊢;rw[jl];by_cases h:lM q c=true
  ·rw[VC h];intro z f;rcases VW.1 f with f|f
   ·exact g z (List.mem_append_left _ f)
   ·rw[UY.1 f];rcases g q (by simp)with⟨k,a,b,i,d⟩|⟨r,l,_⟩|⟨n,l,_⟩
    ·exact .inl ⟨k,a,b,i,by simp only;omega⟩
    ·have:=(nF h).1;rw[l]at this;cases this
    ·have:=(nF h).1;rw[l]at this;cases this
  ·rw[VD h];intro z f;rcases VW.1 f with f|f
   ·exact g z f
   ·rw[UY.1 f];exact m
theorem yP:∀(l:List A)(a:List Pt)(d:List It)(n:Nat),(∀z∈a,Gd z)->(∀x∈d,Dc.err x=0)->oI l->∀z∈lD a d n l,Gd z
 |[],a,d,n,g,f,_=>by
  rw[lD];intro z b;rcases VW.1 b with b|b
  ·exact g z b
  ·exact AY f z b
 |some (.inr x)::r,a,d,n,g,f,h=>by
  rw[lD];refine yP r a _ n g (fun y e=>?_) h.tail
  rcases VW.1 e with e|e
  ·exact f y e
  ·rw[UY.1 e];exact h.head
 |none::r,a,d,n,g,f,h=>by
  rw[lD];exact yP r a d _ g f h.tail
 |some (.inl c)::r,a,d,n,g,f,h=>by
  rw[lD];refine yP r _ [] 0 (OH (fun z b=>?_) h.head) (fun y e=>by cases e) h.tail
  rcases VW.1 b with b|b
  ·exact g z b
  ·exact AY f z b
theorem PF{l:List A}(h:oI l):∀z∈tA l,Gd z:=yP l [] [] 0 (fun z a=>by cases a) (fun x b=>by cases b) h
theorem sf{l:List A}(h:oI l):nd (tA l)=aX l/\lv (tA l)=leave l:=by
 have a:=ij (fun z b=>OG (PF h z b));rw[ql,Nd,LH]at a;exact⟨a.1.symm,a.2.symm⟩
theorem D6{l:List A}(h:oI l){p:List A}{c:Ch}(s:l=p++[.af c])(w:aX l<=80)(v:pn l<=80):gC (tA l)=0\/gC (tA l)=2:=by
 have a:∃o' q,tA l=o'++[q]/\q.kind=1:=by
  unfold tA;rw[s,pg];exact JD _ _
 obtain⟨o',q,e,r⟩:=a;have o:=PF h;have x:=sf h;have g:∀z∈tA l,bG z=0:=fun z b=>by
  have y:=Kp b;refine jz (o z b) (by omega) ?_
  rcases o z b with⟨k,_⟩|⟨u,f,_⟩|⟨n,f,_⟩
  ·have e3:sZ z=rK z:=by unfold sZ rK;rw[VC k,VD (by omega)]
   omega
  ·have m:z.kind=2:=by rw[f];rfl
   have d:=Kb b m;rw[ql]at d;have t:=sV l [] 0;unfold nf at d;rw[t]at d;have e3:sZ z=z.aB.length:=by unfold sZ;rw[VD (by omega),VC m]
   simp at d
   omega
  ·have e3:sZ z=0:=by rw[f];rfl
   omega
 by_cases i:40<(tA l).length
 ·right
  unfold gC;rw[VC (.inr i)]
 ·left
  refine bi.2 ⟨by rw[e];simp,by omega,g,by omega,o',q,e,r⟩
theorem dR.NY{o:List Pt}(h:dR o):oI (ah o):=by
 intro a b;obtain⟨p,f,b⟩:=List.mem_flatMap.1 b;have l:=h.ok p f;unfold bt at b;rcases qV l with⟨k,g,i,_⟩|⟨q,e,m,d⟩|⟨n,e,_⟩
 ·rw[VD (by omega),VC k]at b;rw[(List.mem_replicate.1 b).2];exact⟨g,i⟩
 ·rw[VC (by rw[e];rfl)]at b;obtain⟨x,c,rfl⟩:=XI.1 b;exact d x (by rw[e]at c;exact c)
 ·have k:p.kind=3:=by rw[e];rfl
  rw[VD (by omega),VD (by omega)]at b;rw[(List.mem_replicate.1 b).2];trivial
theorem dR.snoc{o:List Pt}(h:dR o):∃l c,ah o=l++[.af c]:=by
 obtain⟨o',p,e,a⟩:=h.last;obtain⟨_,_,d,_⟩:=kY (h.ok p (by rw[e];simp)) a;obtain⟨m,b⟩:∃m:Nat,p.n.toNat=m+1:=⟨p.n.toNat-1,by omega⟩;refine⟨ah o'++List.replicate m (A.af (dt p)),dt p,?_⟩
 rw[e,ct,dz,VT];congr 1
 unfold bt;rw[VD (by omega),VC a,b,List.replicate_succ']
theorem dR.aX{o:List Pt}(h:dR o):Ac.aX (ah o)=nd o/\leave (ah o)=lv o:=ij (lP h.ok)
theorem yD{l:List A}(h:oI l):Ok l:=fun a b=>by
 have:=h a b;rcases a with _|(c|x)
 ·trivial
 ·exact⟨(fY this.1).1,(fY this.1).2.1⟩
 ·exact(jj this).2.1
theorem ni(l:List A)(c:Ch):aX (l++[.af c])=aX l+1/\leave (l++[.af c])=leave l+1:=by
 rw[fG,gw];exact⟨rfl,rfl⟩
end Ac
namespace Ac
theorem FO{a b:List Pt}(d:dR a)(c:dR b):gQ a b=0:=by
 unfold gQ;rw[VC (bi.2 d)];exact bi.2 c
theorem FT{d:List It}{o:List Pt}(h:Dc.check d=0)(b:dR o)(c:nd o=d.length):ag d o=if 80<lv o then 2 else 0:=by
 unfold ag;rw[VC h,VC (bi.2 b),VC (by rw[b.lf,c]),b.lt];by_cases a:80<lv o
 ·rw[VC a,VC (by omega)]
 ·rw[VD a,VD (by omega)]
theorem iQ{d:List It}{o:List Pt}(h:ag d o=0):ap (ah o) d=some (done d o)/\Dc.check (done d o)=0/\(done d o).length=lv o:=by
 obtain⟨e,a,b,c⟩:=kj h;obtain⟨g,f,_⟩:=qH e a b c;unfold done;rw[VC h];exact⟨sX a b,g,f⟩
structure TN (a b:List Pt):Prop where
 E:fO a b=gQ (tx a b) (ty a b)
 ex:gC (tx a b)=0\/gC (tx a b)=2
 ey:gC (ty a b)=0\/gC (ty a b)=2
 nx:nd (tx a b)=lv b
 ny:nd (ty a b)=lv a
 lxy:lv (tx a b)=lv (ty a b)
theorem Ro{a b:List Pt}(e:dR a)(d:dR b)(q:nd a=nd b)(C:lv a<=80)(B:lv b<=80):TN a b:=by
 have f:Ac.aX (ah a)=Ac.aX (ah b):=by rw[e.aX.1,d.aX.1,q]
 obtain⟨p,o⟩:=Jp f e.NY d.NY;obtain⟨s,r,v⟩:=fo _ (ah a) (ah b) (UZ _) f;obtain⟨z,y⟩:=Mt f;obtain⟨i,g,u⟩:=e.snoc;obtain⟨h,k,t⟩:=d.snoc;have l:Ac.aX i=Ac.aX h:=by
  rw[u,t,(ni i g).1,(ni h k).1]at f;omega
 have c:=Gj l g k;rw[<-u,<-t]at c;have x:(bF (ah a) (ah b)).1=(bF i h).1++[A.af g]:=by rw[c]
 have w:(bF (ah a) (ah b)).2=(bF i h).2++[A.af (behind k g)]:=by rw[c]
 have q1:=lJ (ah a);have q2:=lJ (ah b);rw[e.aX.2]at q1 r;rw[d.aX.2]at q2 s;have n:=sf p;have m:=sf o;refine⟨?_,D6 p x (by omega) (by omega),D6 o w (by omega) (by omega),n.1.trans s,m.1.trans r,?_⟩
 ·unfold fO;rw[VC (FO e d),VC q]
 ·unfold tx ty;rw[n.2,m.2,v]
theorem Js{a b:List Pt}(h:fO a b=0):lZ a b=tx a b/\gY a b=ty a b:=⟨VC h,VC h⟩
theorem DH{d:List It}{a b:List Pt}(q:ag d a=0)(p:ag d b=0)(s:fO a b=0):
  ag (done d a) (gY a b)=ag (done d b) (lZ a b)/\(ag (done d a) (gY a b)=0\/ag (done d a) (gY a b)=2)/\done (done d a) (gY a b)=done (done d b) (lZ a b):=by
 obtain⟨D,o,A,C⟩:=kj q;obtain⟨_,n,z,B⟩:=kj p;obtain⟨y,G,v⟩:=iQ q;obtain⟨x,F,u⟩:=iQ p;have Q:=Ro o n (A.trans z.symm) C B;have c:=s;rw[Q.E]at c;obtain⟨m,l⟩:=ik c;obtain⟨x1,w⟩:=Js s;rw[x1,w];have t:=FT G l (Q.ny.trans v.symm);have E:=FT F m (Q.nx.trans u.symm);have f:ag (done d a) (ty a b)=ag (done d b) (tx a b):=by rw[t,E,Q.lxy]
 refine⟨f,?_,?_⟩
 ·rw[t];split
  ·exact .inr rfl
  ·exact .inl rfl
 ·obtain⟨r,k,i⟩:=eZ _ (ah a) (ah b) (UZ _) d _ _ (qg D) (yD o.NY) (yD n.NY) y x;have h:=sX l (d:=done d a) (Q.ny.trans v.symm);have g:=sX m (d:=done d b) (Q.nx.trans u.symm);unfold ty at h;unfold tx at g;rw[ql,MT,k]at h;rw[ql,MT,i]at g;have e:(mk (done d a) (ty a b)).1=(mk (done d b) (tx a b)).1:=(WU h).symm.trans (WU g);show(if ag (done d a) (ty a b)=0 then(mk (done d a) (ty a b)).1 else[])=(if ag (done d b) (tx a b)=0 then(mk (done d b) (tx a b)).1 else[])
  rw[f,e]
structure TR (a b:List Pt):Prop where
 E:sP a b=gC (jx a b)
 ex:lv b<=80->gC (jx a b)=0\/gC (jx a b)=2
 nx:nd (jx a b)=nd a
 lx:lv (jx a b)=lv b
 NY:oI (join (ah a) (ah b))
theorem Sm{a b:List Pt}(c:dR a)(d:dR b)(h:lv a=nd b):TR a b:=by
 have f:leave (ah a)=Ac.aX (ah b):=by rw[c.aX.2,d.aX.1,h]
 have k:=LM f c.NY d.NY;obtain⟨m,i⟩:=fy _ (ah a) (ah b) (UZ _) f;obtain⟨t,r,o⟩:=c.snoc;obtain⟨s,p,n⟩:=d.snoc;have g:leave t=Ac.aX s:=by
  rw[o,n,(ni t r).2,(ni s p).1]at f;omega
 have e:=IL g r p;rw[<-o,<-n]at e;have q:=lJ (join (ah a) (ah b));rw[c.aX.1]at m;rw[d.aX.2]at i;have l:=sf k;have v:=c.sum;refine⟨?_,fun u=>D6 k e (by omega) (by omega),l.1.trans m,l.2.trans i,k⟩
 unfold sP;rw[VC (FO c d),VC h]
theorem LL{a b:List Pt}(h:sP a b=0):pG a b=jx a b:=VC h
theorem DM{d:List It}{a b:List Pt}(m:ag d a=0)(l:ag (done d a) b=0)(c:sP a b=0):ag d (pG a b)=0/\done d (pG a b)=done (done d a) b/\dR (pG a b):=by
 obtain⟨k,h,q,t⟩:=kj m;obtain⟨_,g,p,r⟩:=kj l;obtain⟨o,w,s⟩:=iQ m;obtain⟨n,v,u⟩:=iQ l;have Q:=Sm h g (s.symm.trans p.symm);rw[LL c];rw[Q.E]at c;have f:=bi.1 c;have i:=Q0 k f (Q.nx.trans q) (by rw[Q.lx];exact r);refine⟨i,?_,f⟩
 have e:=(iQ i).1;unfold jx at e;rw[ql,MT,jf _ (ah a) (ah b) (UZ _) d _ _ (qg k) (yD h.NY) (yD g.NY) o n]at e;exact(WU e).symm
end Ac
end Go.Proofs.YthddphjghgdalaaGreatDoor
namespace Go.Proofs.YthddphjghgdalaaGreatDoor
open Go.Proofs.Tryz
namespace Sv
theorem rP:∀(l:List En)(d:List It)(m:List En),cM d (l++m)=if cM d l=0 then cM (cS d l) m else cM d l
 |[],d,m=>by
  show cM d m=if(0:Int)=0 then cM d m else 0
  rw[VC rfl]
 |x::l,d,m=>by
  show(if Ac.ag d x.o=0 then cM (Ac.done d x.o) (l++m)else Ac.ag d x.o)=if(if Ac.ag d x.o=0 then cM (Ac.done d x.o) l else Ac.ag d x.o)=0 then cM (if Ac.ag d x.o=0 then cS (Ac.done d x.o) l else Ac.done d x.o) m else(if Ac.ag d x.o=0 then cM (Ac.done d x.o) l else Ac.ag d x.o)
  by_cases h:Ac.ag d x.o=0
  ·simp only[VC h]
   exact rP l _ m
  ·simp only[VD h]
theorem rQ:∀(l:List En)(d:List It)(m:List En),cM d l=0->cS d (l++m)=cS (cS d l) m
 |[],_,_,_=>rfl
 |x::l,d,m,h=>by
  have a:Ac.ag d x.o=0:=by
   by_cases a:Ac.ag d x.o=0
   ·exact a
   ·have:cM d (x::l)=Ac.ag d x.o:=VD a;rw[this]at h;exact absurd h a
  have b:cM (Ac.done d x.o) l=0:=by
   have:cM d (x::l)=cM (Ac.done d x.o) l:=VC a;rw[this]at h;exact h
  show(if Ac.ag d x.o=0 then cS (Ac.done d x.o) (l++m)else _)=cS (if Ac.ag d x.o=0 then cS (Ac.done d x.o) l else _) m
  rw[VC a,VC a];exact rQ l _ m b
theorem fold_cons{d:List It}{x:En}{l:List En}(h:cM d (x::l)=0):Ac.ag d x.o=0/\cM (Ac.done d x.o) l=0/\cS d (x::l)=cS (Ac.done d x.o) l:=by
 have a:Ac.ag d x.o=0:=by
  by_cases a:Ac.ag d x.o=0
  ·exact a
  ·have:cM d (x::l)=Ac.ag d x.o:=VD a;rw[this]at h;exact absurd h a
 refine⟨a,?_,VC a⟩
 have:cM d (x::l)=cM (Ac.done d x.o) l:=VC a;rw[this]at h;exact h
theorem uX:∀(l:List En)(d:List It),Dc.check d=0->cM d l=0->Dc.check (cS d l)=0
 |[],_,h,_=>h
 |x::l,d,h,a=>by
  obtain⟨e,c,b⟩:=fold_cons a;rw[b];exact uX l _ (Ac.iQ e).2.1 c
theorem uY{d:List It}{l m:List En}(h:cM d (l++m)=0):cM d l=0/\cM (cS d l) m=0/\cS d (l++m)=cS (cS d l) m:=by
 rw[rP]at h;by_cases a:cM d l=0
 ·rw[VC a]at h;exact⟨a,h,rQ l d m a⟩
 ·rw[VD a]at h;exact absurd h a
theorem xJ:∀(l m:List En),dQ (l++m)=if dQ l=0 then dQ m else dQ l
 |[],m=>by
  show dQ m=if(0:Int)=0 then dQ m else 0
  rw[VC rfl]
 |x::l,m=>by
  show(if eG x=0 then dQ (l++m)else eG x)=if(if eG x=0 then dQ l else eG x)=0 then dQ m else(if eG x=0 then dQ l else eG x)
  by_cases h:eG x=0
  ·simp only[VC h]
   exact xJ l m
  ·simp only[VD h]
theorem Cu(x:En):pq x x=true:=by simp[pq,Ac.o9]
theorem ls:∀l:List En,iY l l=true
 |[]=>rfl
 |x::l=>by rw[iY,Cu,ls l];rfl
theorem nJ(l:List It):Dc.same l l=true:=(jy l l).2 rfl
theorem tk(s:Se):wS s s=true:=by simp[wS,ls,nJ]
theorem mW{s:Se}(h:dL s=0):s.log.length<=60/\dQ s.log=0/\Dc.check s.first=0/\cM s.first s.log=0/\s.now=cS s.first s.log:=by
 unfold dL at h;by_cases d:60<s.log.length
 ·rw[VC d]at h;cases h
 rw[VD d]at h;by_cases c:dQ s.log=0
 ·rw[VC c]at h;by_cases a:ky s.first s.log=0
  ·rw[VC a]at h;by_cases f:Dc.same s.now (k7 s.first s.log)=true
   ·have e:=(jy _ _).1 f;unfold ky at a;unfold k7 at e;by_cases b:Dc.check s.first=0
    ·rw[VC b,VD d]at a;rw[VC b,VD d]at e;exact⟨by omega,c,b,a,e⟩
    ·rw[VD b]at a;exact absurd a b
   ·rw[VD f]at h;cases h
  ·rw[VD a]at h;exact absurd h a
 ·rw[VD c]at h;exact absurd h c
theorem Dg{d:List It}{l:List En}(c:l.length<=60)(a:Dc.check d=0)(b:cM d l=0):ky d l=0/\k7 d l=cS d l:=by
 unfold ky k7;rw[VC a,VD (by omega),VC a,VD (by omega)];exact⟨b,rfl⟩
theorem KA{s:Se}(e:s.log.length<=60)(d:dQ s.log=0)(c:Dc.check s.first=0)(b:cM s.first s.log=0)(a:s.now=cS s.first s.log):dL s=0:=by
 obtain⟨g,f⟩:=Dg e c b;unfold dL;rw[VD (by omega),VC d,VC g,f,a,VC (nJ _)]
structure New (s:Se) (rev:Int) (x:En):Prop where
 no:has s x.aR x.seq=false
 lo:0<=rev
 hi:rev<=(s.log.length:Int)
 Ia:s.log.length<60
 beh:je (s.log.drop rev.toNat) x.o=0
 fit:Ac.ag s.now (jJ (s.log.drop rev.toNat) x.o)=0
theorem J4{s:Se}{rev:Int}{x:En}(h:iV s rev x=0):dL s=0/\eG x=0/\(has s x.aR x.seq=true\/New s rev x):=by
 unfold iV at h;by_cases a:dL s=0
 ·rw[VC a]at h;by_cases c:eG x=0
  ·rw[VC c]at h;refine⟨a,c,?_⟩
   by_cases d:has s x.aR x.seq=true
   ·exact .inl d
   ·rw[VD d]at h;by_cases f:rev<0\/(s.log.length:Int)<rev
    ·rw[VC f]at h;cases h
    ·rw[VD f]at h;by_cases e:s.log.length=60
     ·rw[VC e]at h;cases h
     ·rw[VD e]at h;by_cases b:je (s.log.drop rev.toNat) x.o=0
      ·rw[VC b]at h;have:=(mW a).1;exact .inr ⟨by simpa using d,by omega,by omega,by omega,b,h⟩
      ·rw[VD b]at h;exact absurd h b
  ·rw[VD c]at h;exact absurd h c
 ·rw[VD a]at h;exact absurd h a
theorem ph{s:Se}{rev:Int}{x:En}(c:dL s=0)(b:eG x=0)(a:has s x.aR x.seq=true):iV s rev x=0/\lj s rev x=s:=by
 have h:iV s rev x=0:=by unfold iV;rw[VC c,VC b,VC a]
 refine⟨h,?_⟩
 unfold lj;rw[VC h,VC a]
theorem zO{s:Se}{rev:Int}{x:En}(h:iV s rev x=0)(a:New s rev x):lj s rev x=⟨s.first,s.log++[⟨x.aR,x.seq,jJ (s.log.drop rev.toNat) x.o⟩],Ac.done s.now (jJ (s.log.drop rev.toNat) x.o)⟩:=by
 unfold lj;rw[VC h,VD (by rw[a.no];exact WB)]
structure TU (s t:Se) (rev:Int) (x:En):Prop where
 eF:dL t=0
 lo:s.log.length<=t.log.length
 hi:t.log.length<=s.log.length+1
 old:iY (t.log.take s.log.length) s.log=true
 has:has t x.aR x.seq=true
 eq:t.log.length=s.log.length->wS t s=true
 again:iV t rev x=0
 same:lj t rev x=t
 fE:ky t.first t.log=0
 fD:k7 t.first t.log=t.now
theorem PH{s:Se}{rev:Int}{x:En}(h:iV s rev x=0):TU s (lj s rev x) rev x:=by
 obtain⟨n,g,b⟩:=J4 h;obtain⟨E,D,v,u,y⟩:=mW n;rcases b with b|b
 ·obtain⟨t,m⟩:=ph (rev:=rev) n g b;rw[m];obtain⟨r,q⟩:=Dg E v u;exact⟨n,UZ _,Nat.le_succ _,by rw[List.take_length];exact ls _,b,fun _=>tk _,t,m,r,q.trans y.symm⟩
 ·rw[zO h b];obtain⟨o,B⟩:∃o,jJ (s.log.drop rev.toNat) x.o=o:=⟨_,rfl⟩;have i:=b.fit;rw[B]at i⊢;obtain⟨H,C,G,F⟩:=Ac.kj i;have A:eG ⟨x.aR,x.seq,o⟩=0:=by
   unfold eG at g⊢;by_cases p:x.aR<0\/4<=x.aR
   ·rw[VC p]at g;cases g
   ·by_cases w:x.seq<1\/10000<x.seq
    ·rw[VD p,VC w]at g;cases g
    ·rw[VD p,VD w];exact Ac.bi.2 C
  have a:(s.log++[(⟨x.aR,x.seq,o⟩:En)]).length=s.log.length+1:=by rw[VI];rfl
  have k:cM s.first (s.log++[⟨x.aR,x.seq,o⟩])=0/\cS s.first (s.log++[⟨x.aR,x.seq,o⟩])=Ac.done s.now o:=by
   rw[rP,VC u,rQ _ _ _ u,<-y];show(if Ac.ag s.now o=0 then(0:Int)else _)=0/\(if Ac.ag s.now o=0 then Ac.done s.now o else _)=_
   rw[VC i,VC i];exact⟨rfl,rfl⟩
  have z:=b.Ia;have c:dL ⟨s.first,s.log++[⟨x.aR,x.seq,o⟩],Ac.done s.now o⟩=0:=KA (by show(s.log++_).length<=60;rw[a];omega) (by
   show dQ (s.log++_)=0
   rw[xJ,VC D];show(if eG ⟨x.aR,x.seq,o⟩=0 then(0:Int)else _)=0
   rw[VC A]) v k.1 k.2.symm
  have f:has ⟨s.first,s.log++[⟨x.aR,x.seq,o⟩],Ac.done s.now o⟩ x.aR x.seq=true:=by
   show(s.log++_).any _=true
   rw[List.any_append];simp[Bi]
  obtain⟨t,m⟩:=ph (rev:=rev) c g f;obtain⟨r,q⟩:=Dg (d:=s.first) (l:=s.log++[⟨x.aR,x.seq,o⟩]) (by rw[a];omega) v k.1;exact⟨c,by show _<=(s.log++_).length;rw[a];omega,by show(s.log++_).length<=_;rw[a];exact UZ _,by show iY ((s.log++_).take _) _=true;rw[List.take_left];exact ls _,f,fun e=>by
   have:(s.log++[(⟨x.aR,x.seq,o⟩:En)]).length=s.log.length:=e;rw[a]at this;omega,t,m,r,q.trans k.2⟩
structure Ord (d:List It) (L:List En) (now:List It) (O o:List Ac.Pt) (c:List It):Prop where
 fit:Ac.ag d o=0
 made:c=Ac.done d o
 bE:je L o=0
 bO:jJ L o=O
 fE:cM d L=0
 fD:cS d L=now
theorem MM{x:En}{L:List En}{o:List Ac.Pt}(h:je (x::L) o=0):Ac.fO x.o o=0/\je L (Ac.gY x.o o)=0/\jJ (x::L) o=jJ L (Ac.gY x.o o):=by
 have a:Ac.fO x.o o=0:=by
  by_cases a:Ac.fO x.o o=0
  ·exact a
  ·have:je (x::L) o=Ac.fO x.o o:=VD a;rw[this]at h;exact absurd h a
 refine⟨a,?_,VC a⟩
 have:je (x::L) o=je L (Ac.gY x.o o):=VC a;rw[this]at h;exact h
theorem Ord.step{d:List It}{x:En}{L:List En}{a:List It}{O o:List Ac.Pt}{c:List It}(h:Ord d (x::L) a O o c):
  Ac.fO x.o o=0/\(Ac.ag c (Ac.lZ x.o o)=0->Ord (Ac.done d x.o) L a O (Ac.gY x.o o) (Ac.done c (Ac.lZ x.o o))):=by
 obtain⟨e,n,m⟩:=MM h.bE;obtain⟨l,k,i⟩:=fold_cons h.fE;obtain⟨g,p,f⟩:=Ac.DH l h.fit e;refine⟨e,fun b=>?_⟩
 rw[h.made]at b⊢;exact⟨g.trans b,f.symm,n,m.symm.trans h.bO,k,i.symm.trans h.fD⟩
theorem Ord.nil{d:List It}{a:List It}{O o:List Ac.Pt}{c:List It}(h:Ord d [] a O o c):o=O/\c=Ac.done a O:=by
 have b:o=O:=h.bO;have e:d=a:=h.fD;have:=h.made;rw[b,e]at this;exact⟨b,this⟩
end Sv
