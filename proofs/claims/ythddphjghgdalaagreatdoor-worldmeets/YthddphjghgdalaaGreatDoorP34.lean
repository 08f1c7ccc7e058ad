/- A part. -/
import Derived.Test.YthddphjghgdalaaGreatDoorP33
set_option maxRecDepth 100000
set_option maxHeartbeats 6400000
namespace Go.Proofs.YthddphjghgdalaaGreatDoor
open Go.RowKit Go.Proofs.Tryz
theorem Di(c:UInt8)(t:List UInt8)(h:c≠60):Tk.first c t=([Tk.ou (Esc.rd ((c::t).takeWhile (Tk.not 60)))],(c::t).dropWhile (Tk.not 60)):=by
 have b:(c==60)=false:=by simpa using h
 have a:Tk.not 60 c=true:=by unfold Tk.not;simpa using h
 unfold Tk.first;rw[b,VD WB,XK,WS,a,VC rfl,VC rfl]
theorem BV(t:List UInt8):Tk.after [62] (60::t)=Tk.after [62] t:=by
 rw[Tk.after];simp[List.isPrefixOf]
theorem SN(t:List UInt8):([60,33,45,45]:List UInt8).isPrefixOf (60::t)=([33,45,45]:List UInt8).isPrefixOf t:=by simp[List.isPrefixOf]
theorem Hi(x d:UInt8)(u:List UInt8):([60,x]:List UInt8).isPrefixOf (60::d::u)=(x==d):=by simp[List.isPrefixOf]
theorem QL(d:UInt8)(u:List UInt8):wu [60] (60::d::u)=Tk.letter d:=by simp[wu,List.isPrefixOf]
theorem Sk(e:UInt8)(v:List UInt8):wu [60,47] (60::47::e::v)=Tk.letter e:=by simp[wu,List.isPrefixOf]
theorem Nt(d:UInt8)(u:List UInt8)(h:d≠47):wu [60,47] (60::d::u)=false:=by
 unfold wu;rw[Hi];have:((47:UInt8)==d)=false:=by simpa using(fun e=>h e.symm)
 rw[this];rfl
theorem Gn(b:Nat)(c:UInt8)(t:List UInt8)(w:World)(i:Rd w b (c::t))(l:Env w b)(r:t.length<=19999):
  Calls prog 108 #[.pointer (some ⟨b,0,none⟩)] w fun e w'=>∃k h m,e=.returned (.tuple #[wC k,.bool h])/\Tk.first c t=(if h then[k]else[],m)/\Rd w' b m/\Kept w w' [b]:=by
 by_cases o:c=60
 ·subst o;have I:Tk.first 60 t=Tk.kC t:=rfl;rw[I];by_cases A:([33,45,45]:List UInt8).isPrefixOf t=true
  ·have J:Tk.kC t=([Tk.mh],(Tk.after [45,45,62] (t.drop 3)).getD []):=by unfold Tk.kC;rw[VC A]
   refine(vZ b t w i l r ((SN t).trans A)).mono ?_
   rintro e w'⟨rfl,a,g⟩;exact⟨_,true,_,rfl,J,a,g⟩
  ·have f:=(SN t).trans (Bool.eq_false_iff.2 A)
   cases t with
   |nil=>
    refine(kL b [] w i l f rfl rfl rfl rfl).mono ?_
    rintro e w'⟨rfl,a,g⟩;exact⟨_,true,_,rfl,rfl,a,g⟩
   |cons d u=>
    rw[Tk.mR,VD A];by_cases q:d=33
    ·subst q;refine(Cb b (33::u) w i l r f (by rw[Hi];rfl)).mono ?_
     rintro e w'⟨rfl,a,g⟩;rw[BV]at a;exact⟨_,true,_,rfl,rfl,a,g⟩
    ·have H:((33:UInt8)==d)=false:=by simpa using(fun e=>q e.symm)
     have E:(d==33)=false:=by simpa using q
     by_cases n:d=63
     ·subst n;refine(zC b (63::u) w i l r f ((Hi 33 63 u).trans rfl) ((Hi 63 63 u).trans rfl)).mono ?_
      rintro e w'⟨rfl,a,g⟩;rw[BV]at a;exact⟨_,true,_,rfl,rfl,a,g⟩
     ·have F:((63:UInt8)==d)=false:=by simpa using(fun e=>n e.symm)
      have D:(d==63)=false:=by simpa using n
      have z:=(Hi 33 d u).trans H;have y:=(Hi 63 d u).trans F;rw[E,D,Bool.or_self,VD WB];by_cases p:d=47
      ·subst p;have B:wu [60] (60::47::u)=false:=(QL 47 u).trans rfl;rw[VC (by rfl)]
       cases u with
       |nil=>
        refine(kL b [47] w i l f z y B rfl).mono ?_
        rintro e w'⟨rfl,a,g⟩;exact⟨_,true,_,rfl,rfl,a,g⟩
       |cons x v=>
        rw[Tk.iK]
        cases s:Tk.letter x
        ·rw[VD WB];refine(kL b (47::x::v) w i l f z y B ((Sk x v).trans s)).mono ?_
         rintro e w'⟨rfl,a,g⟩;exact⟨_,true,_,rfl,rfl,a,g⟩
        ·rw[VC rfl];exact CZ b (47::x::v) w i l r f z y B ((Sk x v).trans s)
      ·have G:(d==47)=false:=by simpa using p
       rw[G,VD WB]
       cases s:Tk.letter d
       ·rw[VD WB];refine(kL b (d::u) w i l f z y ((QL d u).trans s) (Nt d u p)).mono ?_
        rintro e w'⟨rfl,a,g⟩;exact⟨_,true,_,rfl,rfl,a,g⟩
       ·rw[VC rfl];exact Ca b (d::u) w i l r f z y ((QL d u).trans s)
 ·have C:((c.toNat:Int)!=60)=true:=by
   rw[bne_iff_ne];intro e;exact o (UInt8.toNat_inj.1 (by show c.toNat=60;omega))
  refine(CX b c t w i l r C).mono ?_
  rintro e w'⟨rfl,a,g⟩;exact⟨_,true,_,rfl,Di c t o,a,g⟩
theorem Tryz.Qd:(prog.info? 147).map (fun i=>(i.zero,i.size,i.bytes))=some (some (wC Eg),4,56):=by kernel_rfl
theorem B9(b:Option Addr)(n a:Nat)(w:World)(c:20000<n):
  Calls prog 92 #[.slice b n a] w fun e w'=>e=.returned (.tuple #[.slice none 0 0,.int .i64 2])/\w'=w:=by
 go_enter func92,ntmps92
 go_wp2
 go_ret2
 exact⟨rfl,rfl⟩
structure yk (w:World) (b n:Nat) (l:List UInt8) (v:Value) (wr:World) (pre:List Tk) (r:List UInt8):Prop where
 rest:Rd wr b r
 go:pre++Tk.eA r=Tk.eA l
 own:wr.ownsRow (b+1) 147 4 v pre.length (eH pre)
 below:Below b w wr
 env:Env wr b
 len:pre.length+r.length<=n
theorem Jx(ao:Option Addr)(n K:Nat)(l:List UInt8)(w:World)(Y:Mc w ao n K l)(hE:Env w w.heap.size)(hn:n<=20000):
  Calls prog 92 #[.slice ao n K] w fun e w'=>(∃y f,e=.returned (.tuple #[.slice y (Tk.eA l).length f,.int .i64 0])/\UO w' y (Tk.eA l).length f (Tk.eA l))/\Below w.heap.size w w':=by
 have a3:=L5 Y;have a7:=Y.bytes;obtain⟨i0,hi,a2,a1,a0⟩:=info_parts Tryz.Qd;have D:Below w.heap.size w (w.alloc (.cells #[.string (B l)] 161)):=(VE _ _).alloc (UZ _) _;have P0:Hd (yk w w.heap.size n l (.slice none 0 0) (w.alloc (.cells #[.string (B l)] 161)) [] l):=
  ⟨Blk.new w [.string (B l)] 161,rfl,XM _ _ _ _,D,hE.below D,by simp;omega⟩
 clear Y hE D;obtain⟨T,W⟩:∃T,Tk.eA l=T:=⟨_,rfl⟩;have HT:=hId W;rw[W];clear W;go_enter func92,ntmps92
 go_wp2
 go_loopw [5] (fun v wr=>∃a r,yk w w.heap.size n l v wr a r) (fun _ wr=>left w.heap.size wr)
 case atStart=>exact⟨_,_,P0.o⟩
 case round=>
  obtain⟨a,r,I⟩:=hrel;have o:=hId I;have r0:=I.rest.cell;have N:=I.len;have s:=hId (jY I.rest);clear I a3
  cases r with
  |nil=>
   have e0:(B []).toList.isEmpty=true:=by rw[jn];rfl
   have M:a=T:=by have:=o.o.go;rw[Tk.zB,VY]at this;exact this.trans HT.o
   obtain⟨y,f,hv,z⟩:=bg o.o.own;subst M;rw[hv];have Q:=hId z;have S:=hId o.o.below;clear z o hv;go_wp2
   go_ret2
   exact⟨⟨y,f,rfl,Q.o⟩,S.o⟩
  |cons c t=>
   have e0:(B (c::t)).toList.isEmpty=false:=by rw[jn];rfl
   simp only[VG]at N
   have a5:=o.o.rest.lt;go_wp2_with fail
   refine(Gn w.heap.size c t wr o.o.rest o.o.env (by omega)).mono ?_
   rintro e u⟨k,p,d,rfl,V,X,P⟩;have a6:d.length<=t.length:=by have:=Tk.lQ c t;rw[V]at this;exact this
   have J:(a++if p then[k]else[])++Tk.eA d=Tk.eA l:=by
    rw[<-o.o.go,Tk.dD,V,VT]
   have L:=hId J;have Q:=hId X;have Z:=hId (uE o.o.own P (Nat.lt_succ_self _));have S:=hId (o.o.below.trans (P.below (by omega) (fun x hx=>by rw[UY.1 hx];exact UZ _)));have C:=hId (o.o.env.kept P (UZ _));have a4:=X.lt;clear V J X P o;obtain⟨G,F,E,H⟩:=k;unfold wC;simp only
   cases p
   ·have b:Below u.heap.size u (u.alloc (.cells #[.int .i64 G,.string (B F),.string (B E),.string (B H)] 147)):=(VE _ _).alloc (UZ _) _;have R2:=hId (Q.o.cu b);have P2:Hd (yk w w.heap.size n l u5 (u.alloc (.cells #[.int .i64 G,.string (B F),.string (B E),.string (B H)] 147)) a d):=
     ⟨R2.o,by have:=L.o;simpa using this,ax Z.o b,S.o.trans (b.mono (by omega)),C.o.below b,by omega⟩
    clear b;go_wp2
    go_roundw
    case rel=>exact⟨_,_,P2.o⟩
    case measure=>
     rw[jY R2.o,s.o];simp only[VG]
     omega
   ·go_wp2_with (at_builtin;refine wpList_append_lies _ rfl (.tmp 22) (.tmp 24) 141 rfl (w.heap.size+1) 147 i0 (wC Eg) 4 56 underlying141 hi a2 a1 a0 rfl (by decide) u5 a.length (eH a) rfl ?c1 ⟨u.heap.size+1,0,none⟩ 1 1 (tQ ⟨G,F,E,H⟩) rfl rfl ?c2 ?c3 (by decide) ?c4 ?c5 ?c6 _ rfl ?c7)
    case c1=>exact(Z.o.alloc _).alloc _
    case c2=>exact fun _ _ h=>h
    case c3=>rw[<-ri];exact sN _
    case c4=>unfold maxLen;omega
    case c5=>omega
    case c6=>omega
    case c7=>
     intro g O U A q _ _;have b:Below u.heap.size u ((u.alloc (.cells #[.int .i64 G,.string (B F),.string (B E),.string (B H)] 147)).alloc (.cells #[.int .i64 G,.string (B F),.string (B E),.string (B H)] 147)):=((VE _ _).alloc (UZ _) _).alloc (by simp) _;have i:=(b.mono (by omega)).grown q (by simp;omega) (fun k hk=>aS Z.o k hk);have R3:Hd (Rd U w.heap.size d):=(i.block _ (Nat.lt_succ_self _)).trans Q.o;have E3:Hd (Env U w.heap.size):=⟨C.o.uB.below i (Nat.lt_succ_of_lt C.o.low.1),by obtain⟨m,hm⟩:=C.o.mx;exact⟨m,(WC (w:=u) (i.block _ (Nat.lt_succ_of_lt C.o.low.2))).trans hm⟩,C.o.low,VX C.o.size i.size⟩;have P3:Hd (yk w w.heap.size n l (.slice (some ⟨g,0,none⟩) (a.length+1) O) U (a++[⟨G,F,E,H⟩]) d):=
      ⟨R3.o,L.o,by rw[VI,zE,ri];exact A,S.o.trans (i.mono (Nat.le_succ _)),E3.o,by simp;omega⟩
     clear b i A q;go_wp2
     go_roundw
     case rel=>exact⟨_,_,P3.o⟩
     case measure=>
      rw[jY R3.o,s.o];simp only[VG]
      omega
def TQ (r:Option (List It)) (e:Ending) (w':World):Prop :=
 match r with
 | some d=>∃ ao cap,e=.returned (.tuple #[.slice ao d.length cap,.int .i64 0])/\cy w' ao d.length cap d
 | none=>e=.returned (.tuple #[.slice none 0 0,.int .i64 2])
theorem Bs(b:Option Addr)(n a:Nat)(w:World)(c:20000<n):
  Calls prog 76 #[.slice b n a] w fun e w'=>e=.returned (.tuple #[.slice none 0 0,.int .i64 2])/\w'=w:=by
 have d:=hId (B9 b n a w c);go_enter func76,ntmps76
 go_wp2_with fail
 refine d.o.mono ?_
 rintro e f⟨rfl,rfl⟩;go_wp2
 go_ret2
 exact⟨rfl,rfl⟩
theorem drop_cons{a:List Tk}{k:Nat}(h:k<a.length):a.drop k=a[k]::a.drop (k+1):=VU h
structure UM (w1:World) (b:Nat) (ts:List Tk) (k:Nat) (s:Sn.S) (v:Value) (wr:World):Prop where
 go:Sn.run s (ts.drop k)=Sn.run Sn.s0 ts
 wk:Wk wr b s v
 below:Below b w1 wr
 Ia:s.d.length<=80
 lim:EX k s
theorem Lr{x:It}(h:Sn.JJ x):x.l.size<=9223372036854775807:=by
 have d:=h.1;have b:=iO x.l;rcases d.2.2 with a|a
 ·rw[Lib.toList_data]at a;have:x.l.data.toList=[]:=by simpa using a
  rw[this]at b;simp at b
  omega
 ·by_cases c:24<x.l.data.toList.length
  ·rw[yJ _ (.inr c)]at a
   cases a
  ·omega
theorem qH{h:List Tk}{d:List It}{w:World}{b:Nat}{v:Value}(l:Sn.read h=some d)(e:w.ownsRow (b+1) 67 3 v d.length (aI d)):∃f a,v=.slice f d.length a/\cy w f d.length a d:=by
 obtain⟨n,r,k,x,m,_⟩:=Sn.KT l;have c:d.length≠0:=by rw[m];simp
 rcases e.2 with⟨t,q⟩|⟨g,a,s,rfl,z,u,p,o,B,A⟩
 ·exact absurd q c
 ·unfold maxLen at o;exact⟨_,a,rfl,fun y i=>Lr (n y i),rfl,p,by omega,fun _=>⟨g,0,rfl,C9 e⟩⟩
theorem ND{a:List Tk}{k:Nat}{s:Sn.S}(h:Sn.run s (a.drop k)=Sn.run Sn.s0 a)(b:a.length<=k):Sn.read a=Sn.fin s:=by
 rw[WI b]at h;unfold Sn.read;rw[<-h];rfl
theorem KM{a:List Tk}{k:Nat}{s:Sn.S}(h:Sn.run s (a.drop k)=Sn.run Sn.s0 a)(c:k<a.length)(b:80<(Sn.step s a[k]).d.length):Sn.read a=none:=by
 rw[drop_cons c,Sn.run,VC b]at h;unfold Sn.read;rw[<-h];rfl
theorem Cv{a:List Tk}{k:Nat}{s:Sn.S}(h:Sn.run s (a.drop k)=Sn.run Sn.s0 a)(c:k<a.length)(b:¬80<(Sn.step s a[k]).d.length):Sn.run (Sn.step s a[k]) (a.drop (k+1))=Sn.run Sn.s0 a:=by
 rw[drop_cons c,Sn.run,VD b]at h;exact h
theorem Lu{s:Sn.S}(h:80<(Sn.shut s).d.length):Sn.fin s=none:=by
 unfold Sn.fin Sn.all;have:(Sn.shut s).d.isEmpty=false:=by
  cases a:(Sn.shut s).d with
  |nil=>rw[a]at h;simp at h
  |cons _ _=>rfl
 rw[this,VD WB,VC h]
theorem Ls{s:Sn.S}(a:(Sn.shut s).d.length≠0)(h:¬80<(Sn.shut s).d.length):Sn.fin s=some (Sn.shut s).d:=by
 unfold Sn.fin Sn.all;have:(Sn.shut s).d.isEmpty=false:=by
  cases b:(Sn.shut s).d with
  |nil=>rw[b]at a;simp at a
  |cons _ _=>rfl
 rw[this,VD WB,VD h]
theorem Lt{s:Sn.S}(b:(Sn.shut s).d.length=0):Sn.fin s=some ((Sn.shut s).plus (Sn.fR 0)).d:=by
 have a:=VS.1 b;unfold Sn.fin Sn.all Sn.S.plus;rw[a];rfl
theorem JW(ao:Option Addr)(n T:Nat)(l:List UInt8)(w:World)(hB:Mc w ao n T l)(hE:Env w w.heap.size)(hZ:Zt w w.heap.size)(hn:n<=20000):
  Calls prog 76 #[.slice ao n T] w fun e w'=>TQ (Sn.read (Tk.eA l)) e w'/\Below w.heap.size w w':=by
 have a5:=hB.bytes;have CT:=hId (Jx ao n T l w hB hE hn);have HF:=hId (fun t X=>Tk.wA Esc.Pu 20000 l (by omega) t X);have a7:(Tk.eA l).length<=20000:=VX (Tk.tM _ l (UZ _)) (by omega);have P:=hId hZ;clear hB hE hZ a5;generalize Tk.eA l=W at*;obtain⟨m,hm⟩:∃m,W.length=m:=⟨_,rfl⟩;have HM:=hId hm;rw[hm]at a7 CT;clear hm;go_enter func76,ntmps76
 go_wp2_with fail
 refine CT.o.mono ?_
 rintro e a⟨⟨af,ad,rfl,hT⟩,K⟩;have HT:=hId hT;have y:=hId K;have ac:=hT.room;have Z:Below a.heap.size a (a.alloc (.cells (om (.slice none 0 0) Sn.s0).toArray 145)):=(VE _ _).alloc (UZ _) _;have aa:Hd (Zt a a.heap.size):=⟨(P.o.below K).bn,(P.o.below K).hn,(P.o.below K).Be,WJ P.o.b1 K.size,WJ P.o.b2 K.size,WJ P.o.b3 K.size⟩;have H0:Hd (UM a a.heap.size W 0 Sn.s0 (.slice none 0 0) (a.alloc (.cells (om (.slice none 0 0) Sn.s0).toArray 145))):=
  ⟨rfl,⟨Blk.new a (om (.slice none 0 0) Sn.s0) _,XM _ _ _ _⟩,Z,VN _,⟨XV _,XV _,XV _,XV _⟩⟩
 clear hT K Z CT P;go_wp2
 go_loopw [19] (fun i wr=>∃k s v,i=.int .i64 (k:Nat)/\k<=m/\UM a a.heap.size W k s v wr) (fun i _=>m-(intOf i).toNat)
 case atStart=>exact⟨0,_,_,rfl,VN _,H0.o⟩
 case round=>
  obtain⟨k,s,v,rfl,hk,hz⟩:=hrel;have b:=hId hz;have a8:=hId (aa.o.below hz.below);clear hz H0;by_cases a6:k<m
  ·have G:k<W.length:=by rw[HM.o];exact a6
   obtain⟨tb,ae,rfl,hc⟩:=HT.o.tok (by omega);obtain⟨q0,q1,q2,q3⟩:=hc k G;have a4:tb<a.heap.size:=WW _ _ q0;have Y:∀j u,a.cell? ⟨tb,j,none⟩=some u->wr.cell? ⟨tb,j,none⟩=some u:=fun j u h=>(WC (w:=a) (b.o.below.block tb a4)).trans h;have r0:=Y _ _ q0;have r1:=Y _ _ q1;have r2:=Y _ _ q2;have r3:=Y _ _ q3;obtain⟨t,X⟩:∃t,W[k]=t:=⟨_,rfl⟩;rw[X]at r0 r1 r2 r3;have V:=hId X;have a1:Hd (Tk.Fits 20000 t):=by rw[<-X];exact HF.o _ (WT G)
   clear hc q0 q1 q2 q3 Y X;have H:Below wr.heap.size wr (wr.alloc (.cells #[.int .i64 t.kind,.string (B t.name),.string (B t.text),.string (B t.kG)] 147)):=(VE _ _).alloc (UZ _) _;have a2:Hd (Calls prog 93 #[.pointer (some ⟨a.heap.size,0,none⟩),.agg #[.int .i64 t.kind,.string (B t.name),.string (B t.text),.string (B t.kG)]] (wr.alloc (.cells #[.int .i64 t.kind,.string (B t.name),.string (B t.text),.string (B t.kG)] 147)) fun e w'=>e=.returned (.tuple #[])/\aZ wr a.heap.size v w' (Sn.step s t)):=
    (F3 a.heap.size s v t _ (b.o.wk.under H) (a8.o.under H (YB b.o.wk.fg)) b.o.Ia (b.o.lim.mono (by omega)) a1.o).mono fun e g h=>⟨h.1,aZ.pre H h.2⟩
   clear H a1;go_wp2_with fail
   refine a2.o.mono ?_
   rintro e g⟨rfl,hP⟩;obtain⟨⟨v1,d,Q⟩,q⟩:=hP;obtain⟨o,c,rfl,-⟩:=bg d.own;have A:=ja d.aM;have p:=hId d;have J:=hId (b.o.below.trans (b.o.wk.bf q));have x:=hId (y.o.trans (J.o.mono y.o.size));clear d Q q r0 r1 r2 r3 a2;obtain⟨N,O⟩:∃N,(Sn.step s t).d.length=N:=⟨_,rfl⟩;have C:=hId O;rw[O]at A;clear O;by_cases f:80<N
   ·have E:Hd (Calls prog 94 #[.pointer (some ⟨a.heap.size,0,none⟩)] g fun e w'=>e=.returned (.bool true)/\w'=g):=by have:=jA a.heap.size N c o g A;rw[WL f]at this;exact this
    clear A;go_wp2_with fail
    refine E.o.mono ?_
    rintro e D⟨rfl,rfl⟩;go_wp2
    go_ret2
    refine⟨?_,x.o⟩
    rw[KM b.o.go G (by rw[V.o,C.o];exact f)];exact rfl
   ·have E:Hd (Calls prog 94 #[.pointer (some ⟨a.heap.size,0,none⟩)] g fun e w'=>e=.returned (.bool false)/\w'=g):=by have:=jA a.heap.size N c o g A;rw[VZ f]at this;exact this
    have a9:Hd (UM a a.heap.size W (k+1) (Sn.step s t) (.slice o (Sn.step s t).d.length c) g):=
     ⟨by have:=Cv b.o.go G (by rw[V.o,C.o];exact f);rw[V.o]at this;exact this,p.o,J.o,by rw[C.o];omega,LC b.o.lim t⟩
    clear A;go_wp2_with fail
    refine E.o.mono ?_
    rintro e D⟨rfl,rfl⟩;go_wp2
    go_roundw
    case rel=>exact⟨k+1,_,_,by go_num,by omega,a9.o⟩
    case measure=>simp[intOf];omega
  ·obtain rfl:k=m:=by omega
   have HR:=hId (ND b.o.go (by rw[HM.o];exact UZ _));go_wp2_with fail
   refine(jb a.heap.size s v wr b.o.wk (by have:=b.o.Ia;omega)).mono ?_
   rintro e g⟨rfl,⟨v1,d,Q⟩,q⟩;obtain⟨o,c,rfl,-⟩:=bg d.own;have A:=ja d.aM;have p:=hId d;have J:=hId (b.o.below.trans (b.o.wk.bf q));have x:=hId (y.o.trans (J.o.mono y.o.size));clear d Q q;obtain⟨N,O⟩:∃N,(Sn.shut s).d.length=N:=⟨_,rfl⟩;have C:=hId O;rw[O]at A p;clear O;by_cases h0:N=0
   ·have F:=C.o.trans h0;have r:=hId (HR.o.trans (Lt F));have CP:Hd (Calls prog 96 #[.pointer (some ⟨a.heap.size,0,none⟩),.int .u8 10,.int .i64 0,.string ⟨#[]⟩] g fun e D=>e=.returned (.tuple #[])/\aZ g a.heap.size (.slice o N c) D ((Sn.shut s).plus (Sn.fR 0))):=xz a.heap.size (Sn.shut s) _ (Sn.fR 0) g p.o (by rw[F];decide);have L:((Sn.shut s).plus (Sn.fR 0)).d.length=1:=by unfold Sn.S.plus;simp[F]
    have M:=hId L;subst h0;clear F L;go_wp2_with fail
    refine CP.o.mono ?_
    rintro e D⟨rfl,⟨v2,S,a3⟩,a0⟩;have ho:=S.own;obtain⟨U,z,rfl,I⟩:=qH r.o ho;have d3:=ja S.aM;rw[M.o]at d3;have HD:=hId I;have ab:=hId (x.o.trans ((p.o.bf a0).mono y.o.size));have E:Hd (Calls prog 94 #[.pointer (some ⟨a.heap.size,0,none⟩)] D fun e w'=>e=.returned (.bool false)/\w'=D):=jA a.heap.size 1 z U D d3;clear ho S a3 a0 I A;go_wp2_with fail
    refine E.o.mono ?_
    rintro e w4⟨rfl,rfl⟩;go_wp2
    go_ret2
    refine⟨?_,ab.o⟩
    rw[r.o];exact⟨U,z,by rw[M.o];rfl,HD.o⟩
   ·by_cases f:80<N
    ·have E:Hd (Calls prog 94 #[.pointer (some ⟨a.heap.size,0,none⟩)] g fun e w'=>e=.returned (.bool true)/\w'=g):=by have:=jA a.heap.size N c o g A;rw[WL f]at this;exact this
     go_wp2_with fail
     refine E.o.mono ?_
     rintro e D⟨rfl,rfl⟩;go_wp2
     go_ret2
     refine⟨?_,x.o⟩
     rw[HR.o,Lu (by rw[C.o];exact f)];exact rfl
    ·have E:Hd (Calls prog 94 #[.pointer (some ⟨a.heap.size,0,none⟩)] g fun e w'=>e=.returned (.bool false)/\w'=g):=by have:=jA a.heap.size N c o g A;rw[VZ f]at this;exact this
     have r:=hId (HR.o.trans (Ls (by rw[C.o];exact h0) (by rw[C.o];exact f)));go_wp2_with fail
     refine E.o.mono ?_
     rintro e D⟨rfl,rfl⟩;go_wp2
     go_ret2
     refine⟨?_,x.o⟩
     rw[r.o];have ho:=p.o.own;obtain⟨U,z,he,I⟩:=qH r.o ho;rw[C.o]at he;simp only[Value.slice.injEq,true_and]at he
     obtain⟨rfl,rfl⟩:=he;exact⟨o,c,by rw[C.o];rfl,I⟩
structure Gl (w:World) (B:Nat):Prop where
 env:Env w B
 zt:Zt w B
theorem Gl.below{w w':World}{B:Nat}(h:Gl w B)(a:Below B w w'):Gl w' B:=by
 obtain⟨m,b⟩:=h.env.mx;exact⟨⟨h.env.uB.below a h.env.low.1,⟨m,(WC (w:=w) (a.block _ h.env.low.2)).trans b⟩,h.env.low,VX h.env.size a.size⟩,h.zt.below a⟩
theorem Gl.mono{w:World}{B C:Nat}(h:Gl w B)(c:B<=C)(a:C<=w.heap.size):Gl w C:=by
 have b:=h.env.low.1;exact⟨⟨h.env.uB,h.env.mx,⟨by omega,by omega⟩,a⟩,⟨h.zt.bn,h.zt.hn,h.zt.Be,by omega,by omega,by omega⟩⟩
def Kd (l:List UInt8):Int:=if 20000<l.length then 2 else if (Sn.read (Tk.eA l)).isNone then 2 else 0
def Ey (l:List UInt8):List It:=if 20000<l.length then [] else (Sn.read (Tk.eA l)).getD []
theorem Hm(b:Option Addr)(n a:Nat)(l:List UInt8)(w:World)(B:Nat)(q:Mc w b n a l)(p:Gl w B):
  Calls prog 76 #[.slice b n a] w fun e w'=>(∃g f,e=.returned (.tuple #[.slice g (Ey l).length f,.int .i64 (Kd l)])/\cy w' g (Ey l).length f (Ey l))/\Below w.heap.size w w':=by
 have s:=q.bytes;have m:=p.mono p.env.size (UZ _);unfold Kd Ey;by_cases h:20000<l.length
 ·rw[VC h,VC h];refine(Bs b n a w (by omega)).mono ?_
  rintro e w'⟨rfl,rfl⟩;exact⟨⟨none,0,rfl,cf w'⟩,VE _ _⟩
 ·rw[VD h,VD h];refine(JW b n a l w q m.env m.zt (by omega)).mono ?_
  rintro e w'⟨c,o⟩
  cases k:Sn.read (Tk.eA l)with
  |none=>
   rw[k]at c;have i:e=.returned (.tuple #[.slice none 0 0,.int .i64 2]):=c;exact⟨⟨none,0,i,cf w'⟩,o⟩
  |some d=>
   rw[k]at c;obtain⟨g,f,i,r⟩:∃b a,e=.returned (.tuple #[.slice b d.length a,.int .i64 0])/\cy w' b d.length a d:=c;exact⟨⟨g,f,i,r⟩,o⟩
def kR (a:Option Addr) (m c:Nat) (d:List It):PV:=⟨2,0,a,m,c,d,0,0,false,⟨#[]⟩⟩
def bW (n:Int):PV:=⟨1,n,none,0,0,[],0,0,false,⟨#[]⟩⟩
theorem NS{w:World}{b:Nat}{a:List PV}{n:Nat}(f:Blk w b (aG a) 100)(e:a.length=n)(g:n<=100)(d:∀u∈a,dV w u):ae w (some ⟨b,0,none⟩) n n a:=
 ⟨⟨by rw[gm,e],UZ _,by omega,fun _=>⟨b,0,rfl,fun j u c=>by rw[VR,f.cell j];exact c⟩⟩,d⟩
theorem pu(w:World)(n:Int):dV w (bW n):=⟨cf w,VN _⟩
theorem P4(c:CV)(a:Option Addr)(m e:Nat)(d:List It)(x:Int)(b:0<x):([bW x,kR a m e d,bW ((c.now.length:Int)-x)].map PV.pt)=Wo.oM c.cl x d:=by
 unfold Wo.oM;rw[VC b];rfl
theorem NQ(c:CV)(a:Option Addr)(m e:Nat)(d:List It)(x:Int)(b:¬0<x):([kR a m e d,bW ((c.now.length:Int)-x)].map PV.pt)=Wo.oM c.cl x d:=by
 unfold Wo.oM;rw[VD b];rfl
theorem Hl(B b n k:Nat)(v:WV)(x:Int)(ao:Option Addr)(bn bc:Nat)(l:List UInt8)(w:World)(h:eR B 0 w b v)(hL:Wo.gi v.w n)(hk:k<n)(hY:Mc w ao bn bc l)(hG:Gl w B)(o:List Ac.Pt)(aR:Int):
  Calls prog 47 #[.pointer (some ⟨b,0,none⟩),.int .i64 k,.int .i64 x,.slice ao bn bc] w fun e w'=>e=.returned (.int .i64 (Wo.ve (Wo.vw v.w k).c ⟨2,aR,x,o,Kd l,Ey l⟩))/\JF B 0 b w (Wo.ve (Wo.vw v.w k).c ⟨2,aR,x,o,Kd l,Ey l⟩) (Wo.put v.w k (Wo.Bl k (Wo.vw v.w k) (Wo.oM (Wo.vw v.w k).c x (Ey l)))) w':=by
 have ba:=h.lo 0 b rfl;have b8:=h.hi 0 b rfl;obtain⟨gc,gu,gd,sc,su,sd,c,q,r,hI⟩:=h.at hL hk;have J:=h.cl c (WQ hI.c);have H:(Wo.vw v.w k).c=c.cl:=by rw[hI.cl]
 have I:=J.now.len;have b6:=J.now.room;have b7:=J.now.fg;have CP:=hId (Hm ao bn bc l w B hY hG);have p3:=hI.p3 h;have a2:w.cell? ⟨gc,k*7+2,none⟩=some (.slice c.na c.nn c.nc):=hI.cell 2 (by decide);have H0:=hId h;have HL:=hId hL;have HG:=hId hG;have ap:=hId H;have av:=hId I;generalize hD:Ey l=D at*;generalize am:Kd l=S at*;obtain⟨Z,hZ⟩:∃Z,Wo.ve (Wo.vw v.w k).c ⟨2,aR,x,o,S,D⟩=Z:=⟨_,rfl⟩;obtain⟨VV,U⟩:∃VV,Wo.put v.w k (Wo.Bl k (Wo.vw v.w k) (Wo.oM (Wo.vw v.w k).c x D))=VV:=⟨_,rfl⟩;have K:Hd (S≠0->Z=S):=fun hE=>hZ.symm.trans (VD hE);have M:Hd (S=0->x<0\/(c.nn:Int)<=x->Z=3):=fun Y d=>by
  rw[<-hZ];unfold Wo.ve;rw[VC Y];refine VC ?_
  rw[H];show x<0\/(c.now.length:Int)<=x
  rw[I];exact d
 have L:Hd (S=0->¬(x<0\/(c.nn:Int)<=x)->Z=Kl.vM (Wo.vw v.w k).c (Wo.oM (Wo.vw v.w k).c x D)):=fun Y d=>by
  rw[<-hZ];unfold Wo.ve;rw[VC Y];refine VD ?_
  rw[H];show¬(x<0\/(c.now.length:Int)<=x)
  rw[I];exact d
 rw[hZ,U];have an:=hId U;clear h hL hI J H I hY hG hD am hZ U;go_enter func47,ntmps47
 go_wp2_with fail
 refine CP.o.mono ?_
 rintro e m⟨⟨i,p,rfl,hd⟩,F⟩;have E:=hId F;have b0:=hId hd;obtain⟨f,T⟩:∃f,D.length=f:=⟨_,rfl⟩;have ax:=hId T;have ak:=hd.room;rw[T]at ak⊢;have q3:=aA p3 F;have d2:=aA a2 F;clear F hd CP p3 a2 T;by_cases Q:S=0
 ·by_cases d:x<0\/(c.nn:Int)<=x
  ·have G:=hId (M.o Q d);subst Q;have N:Hd (Below B w m):=E.o.mono (by omega);clear M L K;rcases d with d|d
   ·have a0:decide (x<0)=true:=by simp;omega
    go_wp2
    go_ret
    exact⟨VQ (fun z=>Ending.returned (Value.int .i64 z)) G.o.symm,N.o,fun e=>by rw[G.o]at e;cases e⟩
   ·have a0:decide (x<0)=false:=by simp;omega
    have ah:decide ((c.nn:Int)<=x)=true:=by simp;omega
    go_wp2
    go_ret
    exact⟨VQ (fun z=>Ending.returned (Value.int .i64 z)) G.o.symm,N.o,fun e=>by rw[G.o]at e;cases e⟩
  ·have G:=hId (L.o Q d);subst Q;have a0:decide (x<0)=false:=by simp;omega
   have ah:decide ((c.nn:Int)<=x)=false:=by simp;omega
   have b3:IntKind.i64.wrap ((c.nn:Int)-x)=(c.nn:Int)-x:=IntWalk.i64_in _ ⟨by omega,by omega⟩;have bb:Hd (0<=x/\x<(c.nn:Int)):=by constructor<;>omega
   have b9:B<=m.heap.size:=by have:=E.o.size;omega
   clear M L K d;have aa:Hd (cy m i f p D):=by have:=b0.o;rw[ax.o]at this;exact this
   have b1:Hd (Blk (m.alloc (.cells (aG [kR i f p D,bW ((c.nn:Int)-x)]).toArray 100)) m.heap.size (aG [kR i f p D,bW ((c.nn:Int)-x)]) 100):=Blk.new m _ _;have X:Hd (Below m.heap.size m (m.alloc (.cells (aG [kR i f p D,bW ((c.nn:Int)-x)]).toArray 100))):=(VE _ _).alloc (UZ _) _;have a9:Hd (ae (m.alloc (.cells (aG [kR i f p D,bW ((c.nn:Int)-x)]).toArray 100)) (some ⟨m.heap.size,0,none⟩) 2 2 [kR i f p D,bW ((c.nn:Int)-x)]):=NS b1.o rfl (by decide) (fun u s=>by
    rcases WG.1 s with rfl|s
    ·exact⟨aa.o.below X.o,VN _⟩
    ·rw[UY.1 s];exact pu _ _)
   have O:=hId (E.o.trans (X.o.mono E.o.size));have W:=hId (aa.o.below X.o);have a8:Hd ((c.now.length:Int)-x=(c.nn:Int)-x):=by show _=_;rw[av.o]
   have a7:∀(us:List PV)(w':World)(e:Ending)(A:World),Below w.heap.size w w'->us.map PV.pt=Wo.oM c.cl x D->(e=.returned (.int .i64 (Kl.vM (Wo.vw v.w k).c (us.map PV.pt)))/\JF B 0 b w' (Kl.vM (Wo.vw v.w k).c (us.map PV.pt)) (Wo.put v.w k (Wo.Bl k (Wo.vw v.w k) (us.map PV.pt))) A)->e=.returned (.int .i64 Z)/\JF B 0 b w Z VV A:=fun us w' e A F s d=>by
    have e1:us.map PV.pt=Wo.oM (Wo.vw v.w k).c x D:=by rw[ap.o];exact s
    rw[e1,<-G.o,an.o]at d;exact⟨d.1,(F.mono (by omega)).trans d.2.1,d.2.2⟩
   have b2:=hId a7;have CE:=hId (fun w' a' n' c' us F ho s=>(Ao B 0 b n k v a' n' c' us w' (H0.o.below F) HL.o hk (by omega) ho (HG.o.below (F.mono (by omega))).zt.Be).mono (fun e A d=>b2.o us w' e A F s d));clear a7;go_upto_region 8 with fail
   change Code.wp prog _ _ _ (m.alloc (.cells (aG [kR i f p D,bW ((c.nn:Int)-x)]).toArray 100));generalize (m.alloc (.cells (aG [kR i f p D,bW ((c.nn:Int)-x)]).toArray 100))=t at*;by_cases Y:0<x
   ·have aj:decide (x<=0)=false:=by simp;omega
    have ai:decide (0<x)=true:=by simp;omega
    have V:Hd (([bW x]++[kR i f p D,bW ((c.nn:Int)-x)]).map PV.pt=Wo.oM c.cl x D):=by
     have:=P4 c i f p D x Y;rw[a8.o]at this;exact this
    obtain⟨i0,hi,ag,af,ac⟩:=info_parts Tryz.vj;have ab:Hd (Below w.heap.size w (t.alloc (.cells (aG [bW x]).toArray 100))):=O.o.alloc (by have:=O.o.size;omega) _;have ar:Hd ((t.alloc (.cells (aG [bW x]).toArray 100)).ownsRow t.heap.size 100 7 (.slice (some ⟨t.heap.size,0,none⟩) 1 1) 1 (aG [bW x])):=World.ownsRow_lit t (aG [bW x]).toArray 1 (UZ _) (by decide) rfl;have aq:Hd (Row (t.alloc (.cells (aG [bW x]).toArray 100)) (some ⟨m.heap.size,0,none⟩) 2 2 7 (aG [kR i f p D,bW ((c.nn:Int)-x)])):=a9.o.row.below ((VE _ _).alloc (UZ _) _);have ay:Hd (cy (t.alloc (.cells (aG [bW x]).toArray 100)) i f p D):=W.o.below ((VE _ _).alloc (UZ _) _);have aw:Hd (∀ad:Addr,f≠0->i=some ad->ad.block<t.heap.size):=fun ad h0 e=>by
     obtain⟨g,b4,e2,hA⟩:=W.o.bH h0;rw[e]at e2
     cases e2
     exact WW _ _ (hA.c 0 (by rw[W.o.len];omega))
    go_wp2_with (at_builtin;refine az (t.alloc (.cells (aG [bW x]).toArray 100)) rfl (.tmp 48) (.tmp 49) 32 rfl t.heap.size 100 i0 (.agg #[.int .i64 0,.int .i64 0,.slice none 0 0,.int .i64 0,.int .i64 0,.bool false,.string ⟨#[]⟩]) 7 80 underlying32 hi ag af ac rfl (by decide) (.slice (some ⟨t.heap.size,0,none⟩) 1 1) 1 (aG [bW x]) rfl ar.o (some ⟨m.heap.size,0,none⟩) 2 2 (aG [kR i f p D,bW ((c.nn:Int)-x)]) rfl aq.o (aY _) (by decide) (by decide) (by simp) ?_)
    intro v4 w4 P a al;have a6:=ab.o.grown a (by have:=ab.o.size;omega) (fun k hk=>by simp[Value.ownBlock]at hk;have:=O.o.size;omega);obtain⟨a4,c4,rfl,a3,-,-⟩:=cR P;have a5:Kept (t.alloc (.cells (aG [bW x]).toArray 100)) w4 [t.heap.size]:=⟨a.os,a.tape,a.output,a.size,fun y hy hn=>a.block y hy (fun e=>hn (by have e2:y=t.heap.size:=(by simpa[Value.ownBlock]using e);rw[e2];simp))⟩;have au:Hd (ae w4 a4 3 c4 ([bW x]++[kR i f p D,bW ((c.nn:Int)-x)])):=⟨a3,fun u s=>by
     rcases VW.1 s with s|s
     ·rw[UY.1 s];exact pu _ _
     ·rcases WG.1 s with rfl|s
      ·exact⟨ay.o.kept a5 (fun ad h0 e d=>by have:=aw.o ad h0 e;have e3:=UY.1 d;omega),VN _⟩
      ·rw[UY.1 s];exact pu _ _⟩
    have C5:=hId (CE.o w4 a4 3 c4 _ a6 au.o V.o);clear P a al a3 a5 a6 CE;go_wp2_with fail
    refine C5.o.mono ?_
    rintro e w5⟨rfl,C⟩;have H5:=hId C;clear C C5;go_wp2
    go_ret
    exact⟨rfl,H5.o⟩
   ·have aj:decide (x<=0)=true:=by simp;omega
    have ai:decide (0<x)=false:=by simp;omega
    have V:Hd ([kR i f p D,bW ((c.nn:Int)-x)].map PV.pt=Wo.oM c.cl x D):=by
     have:=NQ c i f p D x Y;rw[a8.o]at this;exact this
    have C5:=hId (CE.o t _ 2 2 _ O.o a9.o V.o);clear CE;go_wp2_with fail
    refine C5.o.mono ?_
    rintro e w5⟨rfl,C⟩;have H5:=hId C;clear C C5;go_wp2
    go_ret
    exact⟨rfl,H5.o⟩
 ·have b5:(S !=0)=true:=by simp[Q]
  have G:=hId (K.o Q);have N:Hd (Below B w m):=E.o.mono (by omega);clear M L K;go_wp2
  go_ret
  exact⟨VQ (fun z=>Ending.returned (Value.int .i64 z)) G.o.symm,N.o,fun e=>absurd (G.o.symm.trans e) Q⟩
structure HV where
 kind:Int
 aR:Int
 n:Int
 oa:Option Addr
 on:Nat
 oc:Nat
 us:List PV
 ya:Option Addr
 yn:Nat
 yc:Nat
 l:List UInt8
def HV.hp (x:HV):Wo.Hp:=⟨x.kind,x.aR,x.n,x.us.map PV.pt,Kd x.l,Ey x.l⟩
def uO (x:HV):List Value:=[.int .i64 x.kind,.int .i64 x.aR,.int .i64 x.n,.slice x.oa x.on x.oc,.slice x.ya x.yn x.yc]
structure qq (w:World) (x:HV):Prop where
 ops:ae w x.oa x.on x.oc x.us
 UD:Mc w x.ya x.yn x.yc x.l
theorem qq.below{w w':World}{x:HV}(h:qq w x)(a:Below w.heap.size w w'):qq w' x:=⟨h.ops.below a,h.UD.below a⟩
def bQ (x:HV) (w:World):World:=w.alloc (.cells #[.int .i64 x.kind,.int .i64 x.aR,.int .i64 x.n,.slice x.oa x.on x.oc,.slice x.ya x.yn x.yc] 35)
theorem cq(x:HV)(w:World):Below w.heap.size w (bQ x w):=(VE _ _).alloc (UZ _) _
theorem xS(x:HV)(w:World):(bQ x w).heap.size=w.heap.size+1:=WO ..
theorem gR(x:HV)(w:World):Blk (bQ x w) w.heap.size (uO x) 35:=Blk.new w _ _
structure PU (B b n k:Nat) (v:WV) (x:HV) (w:World):Prop where
 h:eR B 0 w b v
 hL:Wo.gi v.w n
 hk:k<n
 hw:x.aR=k
 hX:qq w x
 hG:Gl w B
 hE:Sv.dL v.w.s=0
 hC:Kl.Rc (Wo.vw v.w k).c
theorem JF.x{B X b:Nat}{w w':World}{E:Int}{V:Wo.W}(h:JF B X b w E V w'):jg B b w E V w':=⟨h.1,fun e=>by obtain⟨a,d,c⟩:=h.2 e;exact⟨X,a,d,c⟩⟩
theorem jg.under{B b:Nat}{w a w':World}{E:Int}{V:Wo.W}(h:jg B b a E V w')(c:Below B w a):jg B b w E V w':=⟨c.trans h.1,h.2⟩
theorem Lh(B b n k:Nat)(v:WV)(x:HV)(w:World)(H:PU B b n k v x w)(d:x.kind=1):
  Calls prog 20 #[.pointer (some ⟨b,0,none⟩),.agg #[.int .i64 x.kind,.int .i64 x.aR,.int .i64 x.n,.slice x.oa x.on x.oc,.slice x.ya x.yn x.yc]] w fun e w'=>e=.returned (.int .i64 (Kl.vM (Wo.cl v.w k) x.hp.o))/\jg B b w (Kl.vM (Wo.cl v.w k) x.hp.o) (Wo.put v.w k (Wo.Bl k (Wo.vw v.w k) x.hp.o)) w':=by
 obtain⟨h,r,z,i,q,s,A,C⟩:=H;have G:=h.lo 0 b rfl;have F:=h.hi 0 b rfl;have a:=cq x w;have g:Hd (Below B w (bQ x w)):=a.mono (by omega);have D:=hId (gR x w);have t:=h.below a;have c:=q.below a;have f:=s.below g.o;obtain⟨Z,l⟩:∃Z:Int,Kl.vM (Wo.cl v.w k) x.hp.o=Z:=⟨_,rfl⟩;have u:Hd (Calls prog 46 #[.pointer (some ⟨b,0,none⟩),.int .i64 k,.slice x.oa x.on x.oc] (bQ x w) fun e w'=>e=.returned (.int .i64 Z)/\jg B b (bQ x w) Z (Wo.put v.w k (Wo.Bl k (Wo.vw v.w k) x.hp.o)) w'):=by
  rw[<-l];generalize bQ x w=W at*;refine(Ao B 0 b n k v x.oa x.on x.oc x.us W t r z (by omega) c.ops f.zt.Be).mono ?_
  rintro e w'⟨rfl,i⟩;exact⟨rfl,i.x⟩
 rw[l];obtain⟨o,m,-,y⟩:=AV D.o;rw[i]at m;rw[d]at o;generalize Wo.put v.w k (Wo.Bl k (Wo.vw v.w k) x.hp.o)=V at*;clear h r q s A C t c f i d l;go_enter func20,ntmps20
 go_upto_region 1 with fail
 change Code.wp prog _ _ _ (bQ x w);generalize bQ x w=W at*;go_wp2_with fail
 refine u.o.mono ?_
 rintro e I⟨rfl,p⟩;have E:=hId (p.under g.o);clear p u o m y;go_wp2
 go_ret
 exact⟨rfl,E.o⟩
theorem Lg(B b n k:Nat)(v:WV)(x:HV)(w:World)(H:PU B b n k v x w)(a:x.kind=2):
  Calls prog 20 #[.pointer (some ⟨b,0,none⟩),.agg #[.int .i64 x.kind,.int .i64 x.aR,.int .i64 x.n,.slice x.oa x.on x.oc,.slice x.ya x.yn x.yc]] w fun e w'=>e=.returned (.int .i64 (Wo.ve (Wo.cl v.w k) x.hp))/\jg B b w (Wo.ve (Wo.cl v.w k) x.hp) (Wo.put v.w k (Wo.Bl k (Wo.vw v.w k) (Wo.oM (Wo.cl v.w k) x.hp.n x.hp.pd))) w':=by
 obtain⟨h,r,A,d,q,s,C,D⟩:=H;have J:=h.lo 0 b rfl;have I:=h.hi 0 b rfl;have c:=cq x w;have i:Hd (Below B w (bQ x w)):=c.mono (by omega);have F:=hId (gR x w);have t:=h.below c;have f:=q.below c;have g:=s.below i.o;obtain⟨Z,l⟩:∃Z:Int,Wo.ve (Wo.cl v.w k) x.hp=Z:=⟨_,rfl⟩;have u:Hd (Calls prog 47 #[.pointer (some ⟨b,0,none⟩),.int .i64 k,.int .i64 x.n,.slice x.ya x.yn x.yc] (bQ x w) fun e w'=>e=.returned (.int .i64 Z)/\jg B b (bQ x w) Z (Wo.put v.w k (Wo.Bl k (Wo.vw v.w k) (Wo.oM (Wo.cl v.w k) x.hp.n x.hp.pd))) w'):=by
  rw[<-l];generalize bQ x w=W at*;refine(Hl B b n k v x.n x.ya x.yn x.yc x.l W t r A f.UD g (x.us.map PV.pt) x.aR).mono ?_
  rintro e w'⟨rfl,d⟩;have E:(⟨2,x.aR,x.n,x.us.map PV.pt,Kd x.l,Ey x.l⟩:Wo.Hp)=x.hp:=by unfold HV.hp;rw[a]
  rw[E]at d⊢;exact⟨rfl,d.x⟩
 rw[l];obtain⟨o,m,z,-,y⟩:=Rf F.o;rw[d]at m;rw[a]at o;generalize Wo.put v.w k (Wo.Bl k (Wo.vw v.w k) (Wo.oM (Wo.cl v.w k) x.hp.n x.hp.pd))=V at*;clear h r q s C D t f g d a l;go_enter func20,ntmps20
 go_upto_region 1 with fail
 change Code.wp prog _ _ _ (bQ x w);generalize bQ x w=W at*;go_wp2_with fail
 refine u.o.mono ?_
 rintro e K⟨rfl,p⟩;have G:=hId (p.under i.o);clear p u o m z y;go_wp2
 go_ret
 exact⟨rfl,G.o⟩
theorem Lf(B b n k:Nat)(v:WV)(x:HV)(w:World)(H:PU B b n k v x w)(a:x.kind=3):
  Calls prog 20 #[.pointer (some ⟨b,0,none⟩),.agg #[.int .i64 x.kind,.int .i64 x.aR,.int .i64 x.n,.slice x.oa x.on x.oc,.slice x.ya x.yn x.yc]] w fun e w'=>e=.returned (.int .i64 ((if(Wo.vY v.w k).length=0 then 7 else 0)))/\jg B b w ((if(Wo.vY v.w k).length=0 then 7 else 0)) (Wo.zf v.w k) w':=by
 obtain⟨h,m,s,g,z,t,A,C⟩:=H;have G:=h.lo 0 b rfl;have F:=h.hi 0 b rfl;have d:=cq x w;have f:Hd (Below B w (bQ x w)):=d.mono (by omega);have D:=hId (gR x w);have o:=h.below d;have c:=t.below f.o;obtain⟨Z,l⟩:∃Z:Int,(if(Wo.vY v.w k).length=0 then 7 else 0)=Z:=⟨_,rfl⟩;have u:Hd (Calls prog 48 #[.pointer (some ⟨b,0,none⟩),.int .i64 k] (bQ x w) fun e w'=>e=.returned (.int .i64 Z)/\jg B b (bQ x w) Z (Wo.zf v.w k) w'):=by
  rw[<-l];generalize bQ x w=W at*;by_cases i:(Wo.vY v.w k).length=0
  ·rw[VC i];refine(zd B b n k v W o m s i).mono ?_
   rintro e w'⟨rfl,y⟩;exact⟨rfl,y,fun e=>by cases e⟩
  ·rw[VD i];refine(zb B b n k v W o m s i c.zt.Be).mono ?_
   rintro e w'⟨rfl,g⟩;exact⟨rfl,g⟩
 rw[l];obtain⟨q,p⟩:=wz D.o;rw[g]at p;rw[a]at q;generalize Wo.zf v.w k=V at*;clear h m z t A C o c g a l;go_enter func20,ntmps20
 go_upto_region 1 with fail
 change Code.wp prog _ _ _ (bQ x w);generalize bQ x w=W at*;go_wp2_with fail
 refine u.o.mono ?_
 rintro e I⟨rfl,r⟩;have E:=hId (r.under f.o);clear r u q p;go_wp2
 go_ret
 exact⟨rfl,E.o⟩
theorem Le(B b n k:Nat)(v:WV)(x:HV)(w:World)(H:PU B b n k v x w)(a:x.kind=4):
  Calls prog 20 #[.pointer (some ⟨b,0,none⟩),.agg #[.int .i64 x.kind,.int .i64 x.aR,.int .i64 x.n,.slice x.oa x.on x.oc,.slice x.ya x.yn x.yc]] w fun e w'=>e=.returned (.int .i64 ((if(Wo.yr v.w k).length=0 then 7 else 0)))/\jg B b w ((if(Wo.yr v.w k).length=0 then 7 else 0)) (Wo.put v.w k (Wo.sh k (Wo.vw v.w k))) w':=by
 obtain⟨h,m,s,g,z,t,A,C⟩:=H;have G:=h.lo 0 b rfl;have F:=h.hi 0 b rfl;have d:=cq x w;have f:Hd (Below B w (bQ x w)):=d.mono (by omega);have D:=hId (gR x w);have o:=h.below d;have c:=t.below f.o;obtain⟨Z,l⟩:∃Z:Int,(if(Wo.yr v.w k).length=0 then 7 else 0)=Z:=⟨_,rfl⟩;have u:Hd (Calls prog 49 #[.pointer (some ⟨b,0,none⟩),.int .i64 k] (bQ x w) fun e w'=>e=.returned (.int .i64 Z)/\jg B b (bQ x w) Z (Wo.put v.w k (Wo.sh k (Wo.vw v.w k))) w'):=by
  rw[<-l];generalize bQ x w=W at*;by_cases i:(Wo.yr v.w k).length=0
  ·rw[VC i];refine(DX B b n k v W o m s i).mono ?_
   rintro e w'⟨rfl,y⟩;exact⟨rfl,y,fun e=>by cases e⟩
  ·rw[VD i];refine(DV B b n k v W o m s i c.zt.Be).mono ?_
   rintro e w'⟨rfl,g⟩;exact⟨rfl,g⟩
 rw[l];obtain⟨q,p⟩:=wz D.o;rw[g]at p;rw[a]at q;generalize Wo.put v.w k (Wo.sh k (Wo.vw v.w k))=V at*;clear h m z t A C o c g a l;go_enter func20,ntmps20
 go_upto_region 1 with fail
 change Code.wp prog _ _ _ (bQ x w);generalize bQ x w=W at*;go_wp2_with fail
 refine u.o.mono ?_
 rintro e I⟨rfl,r⟩;have E:=hId (r.under f.o);clear r u q p;go_wp2
 go_ret
 exact⟨rfl,E.o⟩
theorem Ld(B b n k:Nat)(v:WV)(x:HV)(w:World)(H:PU B b n k v x w)(c:x.kind=5):
  Calls prog 20 #[.pointer (some ⟨b,0,none⟩),.agg #[.int .i64 x.kind,.int .i64 x.aR,.int .i64 x.n,.slice x.oa x.on x.oc,.slice x.ya x.yn x.yc]] w fun e w'=>e=.returned (.int .i64 0)/\jg B b w 0 (Wo.put v.w k (Wo.oq (Wo.vw v.w k))) w':=by
 obtain⟨h,m,r,l,s,t,u,y⟩:=H;have F:=h.lo 0 b rfl;have E:=h.hi 0 b rfl;have d:=cq x w;have f:Hd (Below B w (bQ x w)):=d.mono (by omega);have C:=hId (gR x w);have o:=h.below d;have p:Hd (Calls prog 50 #[.pointer (some ⟨b,0,none⟩),.int .i64 k] (bQ x w) fun e w'=>e=.returned (.tuple #[])/\jg B b (bQ x w) 0 (Wo.put v.w k (Wo.oq (Wo.vw v.w k))) w'):=(sw B 0 b n k v _ o m r).mono (fun e w' a=>⟨a.1,a.2.2,fun _=>by obtain⟨q,A,z,_⟩:=a.2.1;exact⟨0,q,A,z⟩⟩);obtain⟨i,g⟩:=wz C.o;rw[l]at g;rw[c]at i;generalize Wo.put v.w k (Wo.oq (Wo.vw v.w k))=V at*;clear h m s t u y o l c;go_enter func20,ntmps20
 go_upto_region 1 with fail
 change Code.wp prog _ _ _ (bQ x w);generalize bQ x w=W at*;go_wp2_with fail
 refine p.o.mono ?_
 rintro e G⟨rfl,a⟩;have D:=hId (a.under f.o);clear a p i g;go_wp2
 go_ret
 exact⟨rfl,D.o⟩
theorem Lc(B b n k:Nat)(v:WV)(x:HV)(w:World)(H:PU B b n k v x w)(a:x.kind=6):
  Calls prog 20 #[.pointer (some ⟨b,0,none⟩),.agg #[.int .i64 x.kind,.int .i64 x.aR,.int .i64 x.n,.slice x.oa x.on x.oc,.slice x.ya x.yn x.yc]] w fun e w'=>e=.returned (.int .i64 ((if(Wo.cl v.w k).jo=true then 7 else 0)))/\jg B b w ((if(Wo.cl v.w k).jo=true then 7 else 0)) (Wo.put v.w k (Wo.JS k v.w.s.log (Wo.vw v.w k))) w':=by
 obtain⟨h,i,r,d,z,A,s,t⟩:=H;have F:=h.lo 0 b rfl;have E:=h.hi 0 b rfl;have c:=cq x w;have m:Hd (Below B w (bQ x w)):=c.mono (by omega);have C:=hId (gR x w);have l:=h.below c;obtain⟨Z,g⟩:∃Z:Int,(if(Wo.cl v.w k).jo=true then 7 else 0)=Z:=⟨_,rfl⟩;have u:Hd (Calls prog 51 #[.pointer (some ⟨b,0,none⟩),.int .i64 k] (bQ x w) fun e w'=>e=.returned (.int .i64 Z)/\jg B b (bQ x w) Z (Wo.put v.w k (Wo.JS k v.w.s.log (Wo.vw v.w k))) w'):=by
  rw[<-g];generalize bQ x w=W at*;by_cases f:(Wo.cl v.w k).jo=true
  ·rw[VC f];refine(LO B b n k v W l i r f).mono ?_
   rintro e w'⟨rfl,y⟩;exact⟨rfl,y,fun e=>by cases e⟩
  ·rw[VD f];refine(IN B b n k v W l i r (by show(Wo.cl v.w k).jo=false;simpa using f) s t).mono ?_
   rintro e w'⟨rfl,d⟩;exact⟨rfl,d⟩
 rw[g];obtain⟨p,o⟩:=wz C.o;rw[d]at o;rw[a]at p;generalize Wo.put v.w k (Wo.JS k v.w.s.log (Wo.vw v.w k))=V at*;clear h i z A s t l d a g;go_enter func20,ntmps20
 go_upto_region 1 with fail
 change Code.wp prog _ _ _ (bQ x w);generalize bQ x w=W at*;go_wp2_with fail
 refine u.o.mono ?_
 rintro e G⟨rfl,q⟩;have D:=hId (q.under m.o);clear q u p o;go_wp2
 go_ret
 exact⟨rfl,D.o⟩
theorem Li(B b n k:Nat)(v:WV)(x:HV)(w:World)(H:PU B b n k v x w)(a:∀j:Int,1<=j->j<=6->x.kind≠j):
  Calls prog 20 #[.pointer (some ⟨b,0,none⟩),.agg #[.int .i64 x.kind,.int .i64 x.aR,.int .i64 x.n,.slice x.oa x.on x.oc,.slice x.ya x.yn x.yc]] w fun e w'=>e=.returned (.int .i64 4)/\jg B b w 4 (v.w) w':=by
 obtain⟨h,l,u,f,i,m,o,p⟩:=H;have s:=h.lo 0 b rfl;have r:=h.hi 0 b rfl;have c:=cq x w;have d:Hd (Below B w (bQ x w)):=c.mono (by omega);have q:=hId (gR x w);obtain⟨t,g⟩:=wz q.o;rw[f]at g;have z:(x.kind==1)=false:=by have:=a 1 (by decide) (by decide);simpa using this
 have y:(x.kind==2)=false:=by have:=a 2 (by decide) (by decide);simpa using this
 have e3:(x.kind==3)=false:=by have:=a 3 (by decide) (by decide);simpa using this
 have e4:(x.kind==4)=false:=by have:=a 4 (by decide) (by decide);simpa using this
 have e5:(x.kind==5)=false:=by have:=a 5 (by decide) (by decide);simpa using this
 have e6:(x.kind==6)=false:=by have:=a 6 (by decide) (by decide);simpa using this
 generalize v.w=V at*;clear h l i m o p f a;go_enter func20,ntmps20
 go_upto_region 1 with fail
 change Code.wp prog _ _ _ (bQ x w);generalize bQ x w=W at*;go_wp2
 go_ret
 exact⟨rfl,d.o,fun e=>by cases e⟩
theorem DY(B b n k:Nat)(v:WV)(x:HV)(w:World)(H:PU B b n k v x w):
  Calls prog 20 #[.pointer (some ⟨b,0,none⟩),.agg #[.int .i64 x.kind,.int .i64 x.aR,.int .i64 x.n,.slice x.oa x.on x.oc,.slice x.ya x.yn x.yc]] w fun e w'=>e=.returned (.int .i64 (Wo.nM v.w k x.hp))/\jg B b w (Wo.nM v.w k x.hp) (Wo.uQ v.w k x.hp) w':=by
 unfold Wo.nM Wo.uQ;by_cases g:x.hp.kind=1
 ·rw[VC g,VC g];exact Lh B b n k v x w H g
 rw[VD g,VD g];by_cases f:x.hp.kind=2
 ·rw[VC f,VC f];exact Lg B b n k v x w H f
 rw[VD f,VD f];by_cases d:x.hp.kind=3
 ·rw[VC d,VC d];exact Lf B b n k v x w H d
 rw[VD d,VD d];by_cases c:x.hp.kind=4
 ·rw[VC c,VC c];exact Le B b n k v x w H c
 rw[VD c,VD c];by_cases a:x.hp.kind=5
 ·rw[VC a,VC a];exact Ld B b n k v x w H a
 rw[VD a,VD a];by_cases h:x.hp.kind=6
 ·rw[VC h];exact Lc B b n k v x w H h
 rw[VD h];refine(Li B b n k v x w H (fun j m l e=>?_)).mono (fun e w' i=>⟨i.1,i.2.1,fun e=>by cases e⟩)
 have o:x.hp.kind=j:=e;omega
theorem dZ{P:Program}(w:World){ops:Array Oper}{A:List Oper}{o:Oper}{a:Act}{Q:Exit->Act->World->Prop}(D:o.guard=none)(s x:Operand)(t:TypeId)
  (S:o.op=.call {callee:=.builtin .append,args:=#[s,x],argTypes:=#[t,t]})
  (e:TypeId)(i:TypeInfo)(z:Value)(d l:Nat)(G:P.underlying t=some (.slice e))(U:P.info? e=some i)(V:i.zero=some z)(B:i.size=d)(L:i.bytes=l)(I:z.cells.size=d)(J:ee z.cells.toList=true)
  (v:Option Addr)(n k:Nat)(xs:List Value)(O:a.eval s=.slice v n k)(r:bj w e d v n k xs)
  (E:Option Addr)(m c:Nat)(f:List Value)(N:a.eval x=.slice E m c)(q:Row w E m c d f)(h1:∀u∈f,u.oneCell'=true)(K:ee f=true)
  (M:n+m<=maxLen)(y:(n+m)*l<=140737488355328)
  (h:∀H p w',bj w' e d H (n+m) p (xs++f)->Kept w w' (oT v)->(∀F:Addr,H=some F->F.block=w.heap.size\/v=some F)->wpList P ops Q A (a.put o.dst (.slice H (n+m) p)) w'):wpList P ops Q (o::A) a w:=by
 by_cases T:m=0
 ·subst T;have Y:f=[]:=by have:=q.len;rw[XQ]at this;exact VS.1 this
  subst Y;refine oo D s x #[t,t] S (.slice v n k) (.slice E 0 c) (.slice v n k) w O N ?_ ?_
  ·exact run_append_nothing w t t o.type e i G U v n k r.row.room (.slice E 0 c) (zV G)
  ·exact h v k w (by rw[VY];exact r) (Kept.refl _ _) (fun _ e=>.inr e)
 ·obtain⟨b,C,rfl,Z⟩:=q.bH T;obtain⟨g,p,w',X,h2,h3,h4⟩:=oY (P:=P) w t o.type e i z d l G U V B L I J v n k xs r ⟨b,C,none⟩ m c f q.len (fun j u W=>by rw[iU];exact Z j u W) h1 K (by omega) M y;exact oo D s x #[t,t] S (.slice v n k) (.slice (some ⟨b,C,none⟩) m c) _ w' O N X (h _ p w' h2 h3 (fun F e=>by
   cases e
   rcases h4 with e4|e4
   ·exact .inl e4
   ·exact .inr e4))
theorem Tryz.O9:(prog.info? 41).map (fun i=>(i.zero,i.size,i.bytes))=some (some (.agg #[.int .i64 0,.slice none 0 0,.slice none 0 0,.int .i64 0,.slice none 0 0,.slice none 0 0,.bool false]),7,120):=by kernel_rfl
theorem Tryz.Ss:(prog.info? 53).map (fun i=>(i.zero,i.size,i.bytes))=some (some (.slice none 0 0),1,24):=by kernel_rfl
theorem D3(r:Option Addr)(n d:Nat)(cs:List Value)(w:World)(p:Row w r n d 7 cs)(D:∀u∈cs,u.oneCell'=true)(o:ee cs=true)(T:n<=100):
  Calls prog 70 #[.slice r n d] w fun e w'=>(∃h q,e=.returned (.slice h n q)/\bj w' 41 7 h n q cs/\∀f:Addr,h=some f->w.heap.size<=f.block)/\Below w.heap.size w w':=by
 obtain⟨I,J,z,v,t⟩:=info_parts Tryz.O9;have F:=hId p;have G:=hId D;have E:=hId o;have c:=p.len;have a:=p.bH;clear p D o
 cases r with
 |none=>
  have L:n=0:=by
   by_cases C:n=0
   ·exact C
   ·obtain⟨b,S,e,_⟩:=a C;cases e
  subst L;have K:cs=[]:=by rw[XQ]at c;exact VS.1 c
  subst K;have m:∀w,(binOp .eql 27 (.slice none 0 d) (.slice none 0 0)).run prog w=.ok (.bool true) w:=fun w=>Lib.run_eql_slice_nil (P:=prog) w 27 41 _ _ _ _ _ underlying27;clear a c F G E;go_enter func70,ntmps70
  go_wp2
  go_ret
  exact⟨⟨none,0,rfl,bj.nil _ _ _,fun f e=>by cases e⟩,VE _ _⟩
 |some f=>
  have m:∀w,(binOp .eql 27 (.slice (some f) n d) (.slice none 0 0)).run prog w=.ok (.bool false) w:=fun w=>Lib.run_eql_slice_nil (P:=prog) w 27 41 _ _ _ _ _ underlying27;clear a c;have s:Hd (Below w.heap.size w (w.alloc (.cells #[] 41))):=(VE _ _).alloc (UZ _) _;have B:Hd (bj (w.alloc (.cells #[] 41)) 41 7 (some ⟨w.heap.size,0,none⟩) 0 0 []):=⟨by simp,.inr ⟨w.heap.size,[],rfl,Blk.new w [] _,rfl,by simp,UZ _,by decide⟩⟩;have A:=hId (F.o.below s.o);go_enter func70,ntmps70
  go_wp2_with (at_builtin;refine dZ (w.alloc (.cells #[] 41)) rfl (.tmp 5) (.tmp 6) 27 rfl 41 I (.agg #[.int .i64 0,.slice none 0 0,.slice none 0 0,.int .i64 0,.slice none 0 0,.slice none 0 0,.bool false]) 7 120 underlying27 J z v t rfl rfl (some ⟨w.heap.size,0,none⟩) 0 0 [] rfl B.o (some f) n d cs rfl A.o G.o E.o (by unfold maxLen;omega) (by omega) ?_)
  intro h q H g k l;have Q:Hd (Below w.heap.size w H):=s.o.trans (k.below (by have:=s.o.size;omega) (fun x o=>by
   obtain⟨y,M,i⟩:=dI.1 o
   cases M
   rw[<-i];exact UZ _))
  have N:=hId g;have O:Hd (∀f:Addr,h=some f->w.heap.size<=f.block):=fun y e=>by
   rcases l y e with i|i
   ·rw[i];exact Nat.le_succ _
   ·cases i;exact UZ _
  clear g k l;go_wp2
  go_ret
  exact⟨⟨h,q,rfl,N.o,O.o⟩,Q.o⟩
theorem Dv(r:Option Addr)(n d:Nat)(cs:List Value)(w:World)(p:Row w r n d 1 cs)(D:∀u∈cs,u.oneCell'=true)(o:ee cs=true)(T:n<=100):
  Calls prog 71 #[.slice r n d] w fun e w'=>(∃h q,e=.returned (.slice h n q)/\bj w' 53 1 h n q cs/\∀f:Addr,h=some f->w.heap.size<=f.block)/\Below w.heap.size w w':=by
 obtain⟨I,J,z,v,t⟩:=info_parts Tryz.Ss;have F:=hId p;have G:=hId D;have E:=hId o;have c:=p.len;have a:=p.bH;clear p D o
 cases r with
 |none=>
  have L:n=0:=by
   by_cases C:n=0
   ·exact C
   ·obtain⟨b,S,e,_⟩:=a C;cases e
  subst L;have K:cs=[]:=by rw[XQ]at c;exact VS.1 c
  subst K;have m:∀w,(binOp .eql 28 (.slice none 0 d) (.slice none 0 0)).run prog w=.ok (.bool true) w:=fun w=>Lib.run_eql_slice_nil (P:=prog) w 28 53 _ _ _ _ _ underlying28;clear a c F G E;go_enter func71,ntmps71
  go_wp2
  go_ret
  exact⟨⟨none,0,rfl,bj.nil _ _ _,fun f e=>by cases e⟩,VE _ _⟩
 |some f=>
  have m:∀w,(binOp .eql 28 (.slice (some f) n d) (.slice none 0 0)).run prog w=.ok (.bool false) w:=fun w=>Lib.run_eql_slice_nil (P:=prog) w 28 53 _ _ _ _ _ underlying28;clear a c;have s:Hd (Below w.heap.size w (w.alloc (.cells #[] 53))):=(VE _ _).alloc (UZ _) _;have B:Hd (bj (w.alloc (.cells #[] 53)) 53 1 (some ⟨w.heap.size,0,none⟩) 0 0 []):=⟨by simp,.inr ⟨w.heap.size,[],rfl,Blk.new w [] _,rfl,by simp,UZ _,by decide⟩⟩;have A:=hId (F.o.below s.o);go_enter func71,ntmps71
  go_wp2_with (at_builtin;refine dZ (w.alloc (.cells #[] 53)) rfl (.tmp 5) (.tmp 6) 28 rfl 53 I (.slice none 0 0) 1 24 underlying28 J z v t rfl rfl (some ⟨w.heap.size,0,none⟩) 0 0 [] rfl B.o (some f) n d cs rfl A.o G.o E.o (by unfold maxLen;omega) (by omega) ?_)
  intro h q H g k l;have Q:Hd (Below w.heap.size w H):=s.o.trans (k.below (by have:=s.o.size;omega) (fun x o=>by
   obtain⟨y,M,i⟩:=dI.1 o
   cases M
   rw[<-i];exact UZ _))
  have N:=hId g;have O:Hd (∀f:Addr,h=some f->w.heap.size<=f.block):=fun y e=>by
   rcases l y e with i|i
   ·rw[i];exact Nat.le_succ _
   ·cases i;exact UZ _
  clear g k l;go_wp2
  go_ret
  exact⟨⟨h,q,rfl,N.o,O.o⟩,Q.o⟩
theorem Dw(r:Option Addr)(n d:Nat)(cs:List Value)(w:World)(p:Row w r n d 4 cs)(D:∀u∈cs,u.oneCell'=true)(o:ee cs=true)(T:n<=100):
  Calls prog 90 #[.slice r n d] w fun e w'=>(∃h q,e=.returned (.slice h n q)/\bj w' 114 4 h n q cs/\∀f:Addr,h=some f->w.heap.size<=f.block)/\Below w.heap.size w w':=by
 obtain⟨I,J,z,v,t⟩:=info_parts Tryz.LR;have F:=hId p;have G:=hId D;have E:=hId o;have c:=p.len;have a:=p.bH;clear p D o
 cases r with
 |none=>
  have L:n=0:=by
   by_cases C:n=0
   ·exact C
   ·obtain⟨b,S,e,_⟩:=a C;cases e
  subst L;have K:cs=[]:=by rw[XQ]at c;exact VS.1 c
  subst K;have m:∀w,(binOp .eql 53 (.slice none 0 d) (.slice none 0 0)).run prog w=.ok (.bool true) w:=fun w=>Lib.run_eql_slice_nil (P:=prog) w 53 114 _ _ _ _ _ underlying53;clear a c F G E;go_enter func90,ntmps90
  go_wp2
  go_ret
  exact⟨⟨none,0,rfl,bj.nil _ _ _,fun f e=>by cases e⟩,VE _ _⟩
 |some f=>
  have m:∀w,(binOp .eql 53 (.slice (some f) n d) (.slice none 0 0)).run prog w=.ok (.bool false) w:=fun w=>Lib.run_eql_slice_nil (P:=prog) w 53 114 _ _ _ _ _ underlying53;clear a c;have s:Hd (Below w.heap.size w (w.alloc (.cells #[] 114))):=(VE _ _).alloc (UZ _) _;have B:Hd (bj (w.alloc (.cells #[] 114)) 114 4 (some ⟨w.heap.size,0,none⟩) 0 0 []):=⟨by simp,.inr ⟨w.heap.size,[],rfl,Blk.new w [] _,rfl,by simp,UZ _,by decide⟩⟩;have A:=hId (F.o.below s.o);go_enter func90,ntmps90
  go_wp2_with (at_builtin;refine dZ (w.alloc (.cells #[] 114)) rfl (.tmp 5) (.tmp 6) 53 rfl 114 I (.agg #[.int .i64 0,.int .i64 0,.int .i64 0,.slice none 0 0]) 4 48 underlying53 J z v t rfl rfl (some ⟨w.heap.size,0,none⟩) 0 0 [] rfl B.o (some f) n d cs rfl A.o G.o E.o (by unfold maxLen;omega) (by omega) ?_)
  intro h q H g k l;have Q:Hd (Below w.heap.size w H):=s.o.trans (k.below (by have:=s.o.size;omega) (fun x o=>by
   obtain⟨y,M,i⟩:=dI.1 o
   cases M
   rw[<-i];exact UZ _))
  have N:=hId g;have O:Hd (∀f:Addr,h=some f->w.heap.size<=f.block):=fun y e=>by
   rcases l y e with i|i
   ·rw[i];exact Nat.le_succ _
   ·cases i;exact UZ _
  clear g k l;go_wp2
  go_ret
  exact⟨⟨h,q,rfl,N.o,O.o⟩,Q.o⟩
