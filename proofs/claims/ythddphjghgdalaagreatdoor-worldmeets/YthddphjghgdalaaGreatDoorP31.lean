/- A part. -/
import Derived.Test.YthddphjghgdalaaGreatDoorP30
set_option maxRecDepth 100000
set_option maxHeartbeats 6400000
namespace Go.Proofs.YthddphjghgdalaaGreatDoor
open Go.RowKit Go.Proofs.Tryz
theorem xt(b:Nat)(s:Sn.S)(v:Value)(u:List UInt8)(w:World)(z:Wk w b s v)(H:s.d.length+u.length<=900000):Calls prog 109 #[.pointer (some ⟨b,0,none⟩),.string (B u)] w fun e w'=>e=.returned (.tuple #[])/\aZ w b v w' (s.chars u):=by
 have N:=cI u;have y:=Lib.run_convert_string_bytes (P:=prog) w 9 33 5 (B u) underlying9 underlying33 underlying5;have a:kK w.heap.size w (Lib.bytesWorld w 5 (B u)) u:=by have:=kK.start w (B u);rw[eO]at this;exact this
 generalize Lib.bytesWorld w 5 (B u)=n at*;rw[N]at y;generalize grownCap w u.length 0 5=a0 at*;have t:w.heap.size<n.heap.size:=by obtain⟨cs,f,Q,_⟩:=a.aM;exact(WE.1 Q).1
 have r:w.heap.size∉b::ob v:=fun O=>by
  rcases WG.1 O with h|h
  ·have:=z.fg;omega
  ·have:=P6 z.own _ (cE h);omega
 have U:Hd (∀wr,Kept n wr (b::ob v)->∀j(J:j<u.length),wr.cell? ⟨w.heap.size,j,none⟩=some (.int .u8 u[j].toNat)):=fun wr I j J=>(WC (w:=n) (I.block w.heap.size t r)).trans (a.cell j J);have D:Hd (aZ n b v n (s.chars (u.take 0))):=by
  have:s.chars (u.take 0)=s:=Iy s;rw[this];exact aZ.refl (z.under a.below)
 have E:=hId a.below;have T:=hId H;have Z:u.length<=900000:=by omega
 clear a r z H;obtain⟨R,C⟩:∃R,s.chars u=R:=⟨_,rfl⟩;have S:=hId C;rw[C];clear C t;go_enter func109,ntmps109
 go_wp2
 go_loopw [9] (fun i wr=>∃k:Nat,k<=u.length/\i=.int .i64 k/\aZ n b v wr (s.chars (u.take k))) (fun i _=>u.length-(intOf i).toNat)
 case atStart=>exact⟨0,VN _,rfl,D.o⟩
 case round=>
  obtain⟨k,I,rfl,⟨o,l,q⟩,d⟩:=hrel;have p:=hId l;have L:=hId q;have M:=hId d;have c3:wr.cell? ⟨b,3,none⟩=some (.string (B s.link)):=l.aM.cell 3;clear l q y;by_cases x:k<u.length
  ·have F:=U.o wr d k x;have W:Hd (∀w',Wk w' b (s.chars (u.take k)) o->Calls prog 96 #[.pointer (some ⟨b,0,none⟩),.int .u8 (Sn.JU u[k]).toNat,.int .i64 (tG s),.string (B s.link)] w' fun e A=>e=.returned (.tuple #[])/\aZ w' b o A (s.chars (u.take (k+1)))):=fun w' h=>by
    have:=xz b (s.chars (u.take k)) o (Sn.item s u[k]) w' h (by
     have:=T.o;unfold Sn.S.chars;simp only[VI,VH,List.length_take]
     omega)
    rw[kA s u k x]at this;exact this
   have Y:=hId (fun w=>vp u[k] w);have X:Hd (∀w',Wk w' b (s.chars (u.take k)) o->Calls prog 136 #[.pointer (some ⟨b,0,none⟩)] w' fun e A=>e=.returned (.int .i64 (tG s))/\A=w'):=fun w' h=>IC b o (s.chars (u.take k)) w' h.aM;clear d;generalize Sn.JU u[k]=c' at*;generalize u[k]=c at*;generalize tG s=m at*;generalize B s.link=lk at*;go_wp2
   go_region_with (first|(go_at_call 135;refine(Y.o _).mono ?_;rintro e G⟨rfl,rfl⟩)|(go_at_call 136;refine(X.o _ (by first|exact p.o|exact p.o.under (VE _ _).drew)).mono ?_;rintro e G⟨rfl,rfl⟩)|(go_at_call 96;refine(W.o _ (by first|exact p.o|exact p.o.under (VE _ _).drew)).mono ?_;rintro e G⟨rfl,K⟩))
   all_goals
    have V:=hId (aZ.next L.o M.o.drew K);clear K;go_wp2
    go_roundw
    case rel=>exact⟨k+1,by omega,by go_num,V.o⟩
    case measure=>simp[intOf];omega
  ·obtain rfl:k=u.length:=by omega
   have g:s.chars (u.take u.length)=R:=by rw[List.take_length];exact S.o
   rw[g]at p;clear g d;go_wp2
   go_end0
   exact⟨rfl,aZ.pre E.o ⟨⟨o,p.o,L.o⟩,M.o⟩⟩
namespace Tk
structure Fits (n:Nat) (t:Tk):Prop where
 kind:t.kind=1\/t.kind=2\/t.kind=3\/t.kind=4
 text:t.text.length<=n
 kG:t.kG.length<=n
theorem Fits.mono{n m:Nat}{t:Tk}(h:Fits n t)(a:n<=m):Fits m t:=⟨h.kind,VX h.text a,VX h.kG a⟩
theorem Jk(p:UInt8->Bool)(l:List UInt8):(l.takeWhile p).length<=l.length:=(List.takeWhile_sublist p).length_le
theorem Mr(l:List UInt8):(val l).1.length<=l.length:=by
 cases l with
 |nil=>exact UZ _
 |cons q r=>
  rw[val];split
  ·have:=Jk (not q) r;simp only[VG]
   omega
  ·exact Jk BM (q::r)
theorem Gg(l:List UInt8):(value l).1.length<=l.length:=by
 unfold value;have b:=cd sp l
 cases h:l.dropWhile sp with
 |nil=>exact VN _
 |cons c a=>
  rw[h]at b;simp only
  split
  ·have e:=Mr (a.dropWhile sp);have d:=cd sp a;simp at b
   omega
  ·exact VN _
theorem vA:∀(n:Nat)(l:List UInt8)(h:Option (List UInt8))(x:Option (List UInt8)×List UInt8)(m:Nat),l.length<=n->attr l h=some x->l.length<=m->(h.getD []).length<=m->(x.1.getD []).length<=m
 |_,[],_,_,_,_,e,_,_=>by rw[BN]at e;cases e
 |0,_::_,_,_,_,a,_,_,_=>by simp at a
 |n+1,c::t,h,x,m,a,e,d,b=>by
  have i:=lC (t.dropWhile ej);have g:=cd ej t;have f:=Gg (t.dropWhile ej);simp only[VG]at a d
  rw[iC]at e;split at e
  ·cases e;exact b
  split at e
  ·exact vA n t h x m (by omega) e (by omega) b
  ·refine vA n _ _ x m (by omega) e (by omega) ?_
   split
   ·show(value (t.dropWhile ej)).1.length<=m
    omega
   ·exact b
theorem zR(s:Bool)(u:List UInt8)(c:∀l:List UInt8,(Esc.rd l).length<=l.length):∀t∈(tag s u).1,Fits u.length t:=by
 unfold tag;have e:=cd oP u
 cases h:attr (u.dropWhile oP) none with
 |none=>intro t b;cases b
 |some x=>
  have d:=vA _ _ _ x u.length (UZ _) h e (VN _);obtain⟨a,r⟩:=x;intro t b;simp only[UY]at b
  subst b;refine⟨?_,VN _,?_⟩
  ·cases s
   ·exact .inr (.inl rfl)
   ·exact .inr (.inr (.inl rfl))
  ·cases s
   ·exact VX (c _) d
   ·exact VN _
theorem si{n:Nat}(h:1<=n):Fits n (ou [60]):=⟨.inl rfl,h,VN _⟩
theorem Aa(n:Nat):Fits n mh:=⟨.inr (.inr (.inr rfl)),VN _,VN _⟩
theorem mA{x y:Tk}{r:List UInt8}(h:x∈(([y],r):List Tk×List UInt8).1):x=y:=UY.1 h
theorem Dj(c:UInt8)(t:List UInt8)(b:∀l:List UInt8,(Esc.rd l).length<=l.length):∀k∈(first c t).1,Fits (t.length+1) k:=by
 unfold first;split
 ·cases t with
  |nil=>intro k a;rw[xX]at a;rw[mA a];exact si (UZ _)
  |cons d u=>
   rw[mR];split
   ·intro k a;rw[mA a];exact Aa _
   split
   ·intro k a;rw[mA a];exact Aa _
   split
   ·cases u with
    |nil=>intro k a;rw[mA a];exact si (by simp)
    |cons e v=>
     rw[iK];split
     ·intro k a;exact(zR true (e::v) b k a).mono (by simp)
     ·intro k a;rw[mA a];exact si (by simp)
   split
   ·intro k a;exact(zR false (d::u) b k a).mono (by simp)
   ·intro k a;rw[mA a];exact si (by simp)
 ·intro k a;rw[mA a];refine⟨.inl rfl,?_,VN _⟩
  have f:=b (c::t.takeWhile (not 60));have g:=Jk (not 60) t;simp only[VG]at f
  show(Esc.rd (c::t.takeWhile (not 60))).length<=_
  omega
theorem wA(d:∀l:List UInt8,(Esc.rd l).length<=l.length):∀(n:Nat)(l:List UInt8),l.length<=n->∀t∈eA l,Fits n t
 |_,[],_,t,a=>by rw[zB]at a;cases a
 |0,_::_,h,_,_=>by simp at h
 |n+1,c::u,h,t,a=>by
  have e:=lQ c u;simp only[VG]at h
  rw[dD]at a;rcases VW.1 a with b|b
  ·exact(Dj c u d t b).mono (by omega)
  ·exact(wA d n _ (by omega) t b).mono (by omega)
theorem IZ(c:UInt8)(t:List UInt8):(first c t).1.length<=1:=by
 unfold first;split
 ·cases t with
  |nil=>exact UZ _
  |cons d u=>
   have a:∀s v,(tag s v).1.length<=1:=fun s v=>by
    unfold tag;split<;>simp
   rw[mR];split
   ·exact UZ _
   split
   ·exact UZ _
   split
   ·cases u with
    |nil=>exact UZ _
    |cons e v=>
     rw[iK];split
     ·exact a _ _
     ·exact UZ _
   split
   ·exact a _ _
   ·exact UZ _
 ·exact UZ _
theorem tM:∀(n:Nat)(l:List UInt8),l.length<=n->(eA l).length<=l.length
 |_,[],_=>UZ _
 |0,_::_,h=>by simp at h
 |n+1,c::u,h=>by
  have a:=lQ c u;have b:=IZ c u;simp only[VG]at h⊢
  rw[dD,VI];have:=tM n (first c u).2 (by omega);omega
end Tk
structure Zt (w:World) (b:Nat):Prop where
 bn:Bn w
 hn:Hn w
 Be:df w
 b1:1<b
 b2:2<b
 b3:0<b
theorem Zt.below{w w':World}{b:Nat}(h:Zt w b)(a:Below b w w'):Zt w' b:=
 ⟨h.bn.below a h.b1,h.hn.below a h.b2,(by obtain⟨t,d,c⟩:=h.Be;exact⟨t,d,(a.block 0 h.b3).trans c⟩),h.b1,h.b2,h.b3⟩
theorem Zt.under{w w':World}{b:Nat}(h:Zt w b)(c:Below w.heap.size w w')(a:b<=w.heap.size):Zt w' b:=h.below (c.mono a)
structure EX (n:Nat) (s:Sn.S):Prop where
 b0:0<=s.fJ
 b1:s.fJ<=n
 s0:0<=s.cv
 s1:s.cv<=n
theorem Jg{x:Int}(h:0<=x):Sn.up x=x:=by unfold Sn.up;rw[VD (by omega)]
theorem FZ{b:Nat}{x:List UInt8}(h:Sn.sI.contains x=true):dp b x=some ⟨b,1,none⟩:=by unfold dp;rw[VC h]
theorem Aq{b:Nat}{x:List UInt8}(h:Sn.sI.contains x=false)(a:Sn.o8.contains x=true):dp b x=some ⟨b,2,none⟩:=by unfold dp;rw[h,VD WB,VC a]
theorem FY{b:Nat}{x:List UInt8}(h:Sn.sI.contains x=false)(a:Sn.o8.contains x=false):dp b x=none:=by unfold dp;rw[h,a,VD WB,VD WB]
theorem rS(x k:List UInt8):((B x).toList==k)=(x==k):=by rw[Lib.toList_data,eO]
theorem xw(b:Nat)(s:Sn.S)(v:Value)(a l f:List UInt8)(w:World)(J:Wk w b s v)(hZ:Zt w b)(hn:s.d.length<=900000)(hL:EX 1000000 s)(hh:f.length<=20000)(h0:s.cX=[]):Calls prog 110 #[.pointer (some ⟨b,0,none⟩),.agg #[.int .i64 2,.string (B a),.string (B l),.string (B f)]] w fun e w'=>e=.returned (.tuple #[])/\aZ w b v w' (Sn.step s ⟨2,a,l,f⟩):=by
 have M:=Sn.lG s ⟨2,a,l,f⟩ h0;obtain⟨Z,H⟩:∃Z,Sn.step s ⟨2,a,l,f⟩=Z:=⟨_,rfl⟩;rw[H]at M⊢;have D:Hd (Z=match Sn.cW a with
  |some k=>{Sn.shut s with opened:=true,kind:=k}
  |none=>Sn.other s ⟨2,a,l,f⟩):=by show _=_;rw[M];cases Sn.cW a<;>simp
 have o:Below w.heap.size w (w.alloc (.cells #[.int .i64 2,.string (B a),.string (B l),.string (B f)] 147)):=(VE _ _).alloc (UZ _) _;have T:=hId (J.under o);have S:=hId (hZ.under o (YB J.fg));have y:=hId o;have a0:=J.fg;have V:Hd (Blk (w.alloc (.cells #[.int .i64 2,.string (B a),.string (B l),.string (B f)] 147)) w.heap.size [.int .i64 2,.string (B a),.string (B l),.string (B f)] 147):=Blk.new w _ _;have C:=hId hL;clear J hZ o M H hL;go_enter func110,ntmps110
 go_wp2_with fail
 refine(fZ a _ S.o.bn).mono ?_
 rintro e w2⟨rfl,i⟩;have c:=hId (T.o.under i);have Z2:=hId (S.o.under i (YB T.o.fg));have d:=hId (y.o.trans (i.mono y.o.size));obtain⟨-,tn,-,th⟩:=AV ((i.block _ V.o.lt).trans V.o);clear i T S y V;obtain⟨Q,G⟩:∃Q,Sn.cW a=Q:=⟨_,rfl⟩;rw[G]at D⊢;clear G;go_wp2_with fail
 refine(jG b a _).mono ?_
 rintro e w3⟨rfl,X⟩;obtain rfl:=X
 cases Q with
 |some k=>
  have p:Hd (Z={Sn.shut s with opened:=true,kind:=k}):=D.o;clear tn th D;generalize dp b a=dd at*;go_wp2_with fail
  refine(jb b s v _ c.o (by omega)).mono ?_
  rintro e L⟨rfl,⟨v1,g,E⟩,I⟩;have H1:=hId g;have HV:=hId E;have HK:=hId I;have d5:=g.aM.c5;have d4:=g.aM.c4;have g5:=g.aM.frozen 5;have g4:=g.aM.frozen 4;clear g E I;go_wp2
  go_end0
  exact⟨rfl,by rw[p.o];exact aZ.pre d.o (aZ.over HV.o HK.o H1.o ((H1.o.aM.set 5 _).set 4 _) (np ..) rfl)⟩
 |none=>
  have p:Hd (Z=Sn.other s ⟨2,a,l,f⟩):=D.o;clear D
  cases m:Sn.sI.contains a
  ·cases A:Sn.o8.contains a
   ·rw[FY (b:=b) m A];have n:Hd (Z=if(a==[97])=true then{s with link:=Lk.clean f}else if(a==Sn.UE)=true then{Sn.shut {s with opened:=true}with kind:=s.kind}else if Sn.eh.contains a=true then{s with cX:=a}else s):=by
     show _=_
     rw[p.o];unfold Sn.other;rw[m,A];rfl
    clear p m A
    cases t:(a==[97])
    ·have ha:=(rS a [97]).trans t;rw[t]at n
     cases z:(a==Sn.UE)
     ·have hr:=(rS a [98,114]).trans z;rw[z]at n;obtain⟨hd,F⟩:∃q,Sn.eh.contains a=q:=⟨_,rfl⟩;have CH:=xD a w3 Z2.o.hn;rw[F]at n CH;clear F t z;go_wp2_with fail
      refine CH.mono ?_
      rintro e L⟨rfl,W⟩;obtain rfl:=W
      cases hd with
      |false=>
       have h:Hd (Z=s):=n.o;go_wp2
       go_end0
       exact⟨rfl,by rw[h.o];exact aZ.pre d.o (aZ.refl c.o)⟩
      |true=>
       have h:Hd (Z={s with cX:=a}):=n.o;have g6:=c.o.aM.frozen 6;have d6:=c.o.aM.c6;go_wp2
       go_end0
       exact⟨rfl,by rw[h.o];exact aZ.pre d.o (aZ.over (.inl rfl) (Kept.refl _ _) c.o (c.o.aM.set 6 _) (du ..) rfl)⟩
     ·have hr:=(rS a [98,114]).trans z;rw[z]at n;have h:Hd (Z={Sn.shut {s with opened:=true}with kind:=s.kind}):=n.o;clear t z;go_wp2_with fail
      refine(I0 b s v _ c.o (by omega)).mono ?_
      rintro e L⟨rfl,hP⟩;have HP:=hId hP;clear hP;go_wp2
      go_end0
      exact⟨rfl,by rw[h.o];exact aZ.pre d.o HP.o⟩
    ·have ha:=(rS a [97]).trans t;rw[t]at n;have h:Hd (Z={s with link:=Lk.clean f}):=n.o;have f3:=c.o.aM.frozen 3;have c3:=c.o.aM.c3;clear t;go_wp2_with fail
     refine(Bt f _ hh Z2.o.Be).mono ?_
     rintro e L⟨rfl,u⟩;have K:=hId (c.o.under u);have Y:=hId (d.o.trans (u.mono d.o.size));have g3:=K.o.aM.frozen 3;have d3:=K.o.aM.c3;clear u f3 c3;go_wp2
     go_end0
     exact⟨rfl,by rw[h.o];exact aZ.pre Y.o (aZ.over (.inl rfl) (Kept.refl _ _) K.o (K.o.aM.set 3 _) (du ..) rfl)⟩
   ·rw[Aq m A];have h:Hd (Z={s with cv:=s.cv+1}):=by
     show _=_
     rw[p.o];unfold Sn.other;rw[m,A];show{s with cv:=Sn.up (s.cv+Sn.one 2)}=_
     rw[show Sn.up (s.cv+Sn.one 2)=s.cv+1 from Jg (by have:=C.o.s0;show(0:Int)<=s.cv+1;omega)]
    have O:=C.o.s0;have N:=C.o.s1;have P:=c.o.aM.c2;have f1:=c.o.aM.frozen 2;obtain⟨x,r⟩:∃x,s.cv=x:=⟨_,rfl⟩;have U:=hId r;rw[r]at P O N;clear r p m A;go_wp2
    go_end0
    refine⟨rfl,?_⟩
    rw[h.o];refine aZ.pre d.o (aZ.over (.inl rfl) (Kept.refl _ _) c.o ?_ (du ..) rfl)
    rw[<-U.o];exact c.o.aM.set 2 _
  ·rw[FZ m];have h:Hd (Z={s with fJ:=s.fJ+1}):=by
    show _=_
    rw[p.o];unfold Sn.other;rw[m];show{s with fJ:=Sn.up (s.fJ+Sn.one 2)}=_
    rw[show Sn.up (s.fJ+Sn.one 2)=s.fJ+1 from Jg (by have:=C.o.b0;show(0:Int)<=s.fJ+1;omega)]
   have O:=C.o.b0;have N:=C.o.b1;have P:=c.o.aM.c1;have f1:=c.o.aM.frozen 1;obtain⟨x,r⟩:∃x,s.fJ=x:=⟨_,rfl⟩;have U:=hId r;rw[r]at P O N;clear r p m;go_wp2
   go_end0
   refine⟨rfl,?_⟩
   rw[h.o];refine aZ.pre d.o (aZ.over (.inl rfl) (Kept.refl _ _) c.o ?_ (du ..) rfl)
   rw[<-U.o];exact c.o.aM.set 1 _
