/- A part. -/
import Derived.Test.YthddphjghgdalaaGreatDoorP2
import Derived.Laws.BitsAll
set_option maxRecDepth 100000
set_option maxHeartbeats 3200000
namespace Go.Proofs.YthddphjghgdalaaGreatDoor
open Go.RowKit Go.Proofs.Tryz
theorem yd(n:Int)(w:World):Calls prog 104 #[.int .i64 n] w fun e w'=>e=.returned (.int .i64 (Ac.oQ n))/\w'=w:=by
 unfold Ac.oQ;by_cases b:n<1
 ·rw[VC (.inl b)];go_enter func104,ntmps104
  go_wp2
  go_ret
  exact⟨rfl,rfl⟩
 ·by_cases a:80<n
  ·rw[VC (.inr a)];go_enter func104,ntmps104
   go_wp2
   go_ret
   exact⟨rfl,rfl⟩
  ·rw[VD (by omega)];go_enter func104,ntmps104
   go_wp2
   go_ret
   exact⟨rfl,rfl⟩
theorem eN(n:Int)(w:World):Calls prog 123 #[.int .i64 n] w fun e w'=>e=.returned (.bool (Ac.rX n))/\w'=w:=by
 unfold Ac.rX;by_cases b:0<=n
 ·have a:decide (0<=n)=true:=by simp[b]
  rw[a,Bool.true_and];go_enter func123,ntmps123
  go_wp2
  go_ret
  exact⟨rfl,rfl⟩
 ·have a:decide (0<=n)=false:=by simp;omega
  rw[a,Bool.false_and];go_enter func123,ntmps123
  go_wp2
  go_ret
  exact⟨rfl,rfl⟩
theorem Iz(c:Option Addr)(m a:Nat)(l:List It)(w:World)(b:cy w c m a l)(f:df w):Calls prog 103 #[.slice c m a] w fun e w'=>e=.returned (.int .i64 (Ac.mH l))/\Below w.heap.size w w':=by
 have k:=hId (xA c _ a l w b f);unfold Ac.mH;rw[b.len];clear b f;by_cases h:m<1
 ·rw[VC (.inl h)];obtain rfl:m=0:=by omega
  go_enter func103,ntmps103
  go_wp2
  go_ret
  exact⟨rfl,VE _ _⟩
 ·by_cases g:80<m
  ·rw[VC (.inr g)];have o:((m:Int)<1)=False:=by simp;omega
   go_enter func103,ntmps103
   go_wp2
   go_ret
   exact⟨rfl,VE _ _⟩
  ·rw[VD (by omega)];generalize Dc.jF l=r at*;go_enter func103,ntmps103
   go_wp2_with fail
   refine k.o.mono ?_
   rintro e n⟨rfl,d⟩;have i:=hId d;clear d;go_wp2
   go_ret
   exact⟨rfl,i.o⟩
theorem MJ{a b:Int}(d:Ac.rX a=true)(c:Ac.rX b=true):bits .and .i64 a b=((a.toNat&&& b.toNat:Nat):Int):=by
 unfold Ac.rX at d c;simp only[WD,XF]at d c
 obtain⟨x,f,rfl⟩:=Ac.cG ⟨d.1,d.2⟩;obtain⟨y,e,rfl⟩:=Ac.cG ⟨c.1,c.2⟩;have:∀x:Fin 4,∀y:Fin 4,bits .and .i64 ((x.val:Nat):Int) ((y.val:Nat):Int)=((((x.val:Nat):Int).toNat&&& ((y.val:Nat):Int).toNat:Nat):Int):=by decide+kernel
 exact this ⟨x,f⟩ ⟨y,e⟩
theorem OV (v:PV) (w:World) (hf:v.link.size<=9223372036854775807) (hS:df w):Calls prog 102 #[.agg #[.int .i64 v.kind,.int .i64 v.n,.slice v.ao v.m v.cap,.int .i64 v.set,.int .i64 v.bm,.bool v.goes,.string v.link]] w fun e w'=>e=.returned (.int .i64 (Ac.Af v.pt))/\Below w.heap.size w w':=by
 obtain ⟨kind,n,ao,m,cap,aB,st,cl,gs,lk⟩:=v;simp only at hf
 have H1:Hd (Below w.heap.size w (aH ⟨kind,n,ao,m,cap,aB,st,cl,gs,lk⟩ w)):=aK _ w;have HS:Hd (df (aH ⟨kind,n,ao,m,cap,aB,st,cl,gs,lk⟩ w)):=hS.below (aK _ w);have HSV:Hd (bV (aH ⟨kind,n,ao,m,cap,aB,st,cl,gs,lk⟩ w) w.heap.size 0 ⟨kind,n,ao,m,cap,aB,st,cl,gs,lk⟩):=dS _ w;have HF:=hId hf;clear hS hf;obtain ⟨r,hr⟩:∃ r,Ac.Af (PV.pt ⟨kind,n,ao,m,cap,aB,st,cl,gs,lk⟩)=r:=⟨_,rfl⟩;rw[hr];change (if Ac.be st cl then 3 else if Ac.cJ gs lk then 4 else Ac.oQ n)=r at hr;have HR:=hId hr;clear hr
 cases h1:Ac.rX st
 ·obtain rfl:r=3:=by rw[<- HR.o];unfold Ac.be;rw[h1];rfl
  clear HR;go_enter func102,ntmps102
  go_wp2_with fail
  change Calls prog 123 _ (aH ⟨kind,n,ao,m,cap,aB,st,cl,gs,lk⟩ w) _;generalize aH ⟨kind,n,ao,m,cap,aB,st,cl,gs,lk⟩ w=W at *;obtain ⟨c0,c1,c2,c3,c4,c5,c6⟩:=HSV.o;simp only at c0 c1 c2 c3 c4 c5 c6
  refine (eN st _).mono ?_
  rintro e w1 ⟨rfl,rfl⟩;rw[h1];go_wp2
  go_ret
  exact ⟨rfl,H1.o⟩
 ·cases h2:Ac.rX cl
  ·obtain rfl:r=3:=by rw[<- HR.o];unfold Ac.be;rw[h1,h2];rfl
   clear HR;go_enter func102,ntmps102
   go_wp2_with fail
   change Calls prog 123 _ (aH ⟨kind,n,ao,m,cap,aB,st,cl,gs,lk⟩ w) _;generalize aH ⟨kind,n,ao,m,cap,aB,st,cl,gs,lk⟩ w=W at *;obtain ⟨c0,c1,c2,c3,c4,c5,c6⟩:=HSV.o;simp only at c0 c1 c2 c3 c4 c5 c6
   refine (eN st _).mono ?_
   rintro e w1 ⟨rfl,rfl⟩;rw[h1];go_wp2_with fail
   refine (eN cl _).mono ?_
   rintro e w1 ⟨rfl,rfl⟩;rw[h2];go_wp2
   go_ret
   exact ⟨rfl,H1.o⟩
  ·have hbits:=MJ h1 h2;obtain ⟨ab,hab⟩:∃ ab,st.toNat &&& cl.toNat=ab:=⟨_,rfl⟩;have HAB:Hd (Ac.be st cl=(ab != 0)):=by show _=_;unfold Ac.be;rw[h1,h2,hab];rfl
   rw[hab] at hbits;clear hab;by_cases h3:ab=0
   ·subst h3
    cases h4:lk.toList.isEmpty
    ·cases gs
     ·obtain rfl:r=4:=by rw[<- HR.o,HAB.o];unfold Ac.cJ;rw[h4];rfl
      clear HR;go_enter func102,ntmps102
      go_wp2_with fail
      change Calls prog 123 _ (aH ⟨kind,n,ao,m,cap,aB,st,cl,false,lk⟩ w) _;generalize aH ⟨kind,n,ao,m,cap,aB,st,cl,false,lk⟩ w=W at *;obtain ⟨c0,c1,c2,c3,c4,c5,c6⟩:=HSV.o;simp only at c0 c1 c2 c3 c4 c5 c6
      refine (eN st _).mono ?_
      rintro e w1 ⟨rfl,rfl⟩;rw[h1];go_wp2_with fail
      refine (eN cl _).mono ?_
      rintro e w1 ⟨rfl,rfl⟩;rw[h2];go_wp2
      go_ret
      exact ⟨rfl,H1.o⟩
     ·cases h5:Lk.may lk.data.toList
      ·obtain rfl:r=4:=by rw[<- HR.o,HAB.o];unfold Ac.cJ;rw[h4,h5];rfl
       clear HR;go_enter func102,ntmps102
       go_wp2_with fail
       change Calls prog 123 _ (aH ⟨kind,n,ao,m,cap,aB,st,cl,true,lk⟩ w) _;generalize aH ⟨kind,n,ao,m,cap,aB,st,cl,true,lk⟩ w=W at *;obtain ⟨c0,c1,c2,c3,c4,c5,c6⟩:=HSV.o;simp only at c0 c1 c2 c3 c4 c5 c6
       refine (eN st _).mono ?_
       rintro e w1 ⟨rfl,rfl⟩;rw[h1];go_wp2_with fail
       refine (eN cl _).mono ?_
       rintro e w1 ⟨rfl,rfl⟩;rw[h2];go_wp2_with fail
       refine (sY lk _ HF.o HS.o).mono ?_
       rintro e w2 ⟨rfl,hb⟩;rw[h5];have H3:=hId (H1.o.trans (hb.mono H1.o.size));clear hb;go_wp2
       go_ret
       exact ⟨rfl,H3.o⟩
      ·obtain rfl:r=Ac.oQ n:=by rw[<- HR.o,HAB.o];unfold Ac.cJ;rw[h4,h5];rfl
       clear HR;go_enter func102,ntmps102
       go_wp2_with fail
       change Calls prog 123 _ (aH ⟨kind,n,ao,m,cap,aB,st,cl,true,lk⟩ w) _;generalize aH ⟨kind,n,ao,m,cap,aB,st,cl,true,lk⟩ w=W at *;obtain ⟨c0,c1,c2,c3,c4,c5,c6⟩:=HSV.o;simp only at c0 c1 c2 c3 c4 c5 c6
       refine (eN st _).mono ?_
       rintro e w1 ⟨rfl,rfl⟩;rw[h1];go_wp2_with fail
       refine (eN cl _).mono ?_
       rintro e w1 ⟨rfl,rfl⟩;rw[h2];go_wp2_with fail
       refine (sY lk _ HF.o HS.o).mono ?_
       rintro e w2 ⟨rfl,hb⟩;rw[h5];have H3:=hId (H1.o.trans (hb.mono H1.o.size));have d1:w2.cell? ⟨w.heap.size,1,none⟩=some (.int .i64 n):=(HSV.o.below hb).c1;clear hb;go_wp2_with fail
       refine (yd n _).mono ?_
       rintro e w3 ⟨rfl,rfl⟩;go_wp2
       go_ret
       exact ⟨rfl,H3.o⟩
    ·obtain rfl:r=Ac.oQ n:=by rw[<- HR.o,HAB.o];unfold Ac.cJ;rw[h4];rfl
     clear HR;go_enter func102,ntmps102
     go_wp2_with fail
     change Calls prog 123 _ (aH ⟨kind,n,ao,m,cap,aB,st,cl,gs,lk⟩ w) _;generalize aH ⟨kind,n,ao,m,cap,aB,st,cl,gs,lk⟩ w=W at *;obtain ⟨c0,c1,c2,c3,c4,c5,c6⟩:=HSV.o;simp only at c0 c1 c2 c3 c4 c5 c6
     refine (eN st _).mono ?_
     rintro e w1 ⟨rfl,rfl⟩;rw[h1];go_wp2_with fail
     refine (eN cl _).mono ?_
     rintro e w1 ⟨rfl,rfl⟩;rw[h2];go_wp2_with fail
     refine (yd n _).mono ?_
     rintro e w3 ⟨rfl,rfl⟩;go_wp2
     go_ret
     exact ⟨rfl,H1.o⟩
   ·have h3':((ab:Int) != 0)=true:=by simp;omega
    obtain rfl : r = 3 := by rw[<- HR.o,HAB.o];have:(ab != 0)=true:=by simp[h3]
                             rw[this];rfl
    clear HR;go_enter func102,ntmps102
    go_wp2_with fail
    change Calls prog 123 _ (aH ⟨kind,n,ao,m,cap,aB,st,cl,gs,lk⟩ w) _;generalize aH ⟨kind,n,ao,m,cap,aB,st,cl,gs,lk⟩ w=W at *;obtain ⟨c0,c1,c2,c3,c4,c5,c6⟩:=HSV.o;simp only at c0 c1 c2 c3 c4 c5 c6
    refine (eN st _).mono ?_
    rintro e w1 ⟨rfl,rfl⟩;rw[h1];go_wp2_with fail
    refine (eN cl _).mono ?_
    rintro e w1 ⟨rfl,rfl⟩;rw[h2];go_wp2
    go_ret
    exact ⟨rfl,H1.o⟩
theorem uk(a n:Int)(c:Option Addr)(m b:Nat)(k:List It)(d i:Int)(g:Bool)(f:ByteArray)(w:World)(J r:Int)(Y:a=1\/a=2\/a=3)
  (X:Hd (Calls prog (if a=1 then 102 else if a=2 then 103 else 104) (if a=1 then#[.agg #[.int .i64 a,.int .i64 n,.slice c m b,.int .i64 d,.int .i64 i,.bool g,.string f]]else if a=2 then#[.slice c m b]else#[.int .i64 n]) (aH ⟨a,n,c,m,b,k,d,i,g,f⟩ w) fun e w'=>e=.returned (.int .i64 J)/\Below (aH ⟨a,n,c,m,b,k,d,i,g,f⟩ w).heap.size (aH ⟨a,n,c,m,b,k,d,i,g,f⟩ w) w'))
  (Z:dV w ⟨a,n,c,m,b,k,d,i,g,f⟩)
  (y:r=if J=0 then(if Ac.gK (PV.pt ⟨a,n,c,m,b,k,d,i,g,f⟩) (Ac.ez (PV.pt ⟨a,n,c,m,b,k,d,i,g,f⟩))then 0 else 4)else J):
  Calls prog 88 #[.agg #[.int .i64 a,.int .i64 n,.slice c m b,.int .i64 d,.int .i64 i,.bool g,.string f]] w fun e w'=>e=.returned (.int .i64 r)/\Below w.heap.size w w':=by
 have O:Hd (Below w.heap.size w (aH ⟨a,n,c,m,b,k,d,i,g,f⟩ w)):=aK _ w;have L:Hd (bV (aH ⟨a,n,c,m,b,k,d,i,g,f⟩ w) w.heap.size 0 ⟨a,n,c,m,b,k,d,i,g,f⟩):=dS _ w;have V:Hd (dV (aH ⟨a,n,c,m,b,k,d,i,g,f⟩ w) ⟨a,n,c,m,b,k,d,i,g,f⟩):=Z.below (aK _ w);have K:Hd (∀w',dV w' ⟨a,n,c,m,b,k,d,i,g,f⟩->dV w' (an ⟨a,n,c,m,b,k,d,i,g,f⟩)):=fun w' h=>nW h;have M:Hd (∀w',Calls prog 105 #[.agg #[.int .i64 a,.int .i64 n,.slice c m b,.int .i64 d,.int .i64 i,.bool g,.string f]] w' fun e s=>e=.returned (.agg #[.int .i64 (an ⟨a,n,c,m,b,k,d,i,g,f⟩).kind,.int .i64 (an ⟨a,n,c,m,b,k,d,i,g,f⟩).n,.slice (an ⟨a,n,c,m,b,k,d,i,g,f⟩).ao (an ⟨a,n,c,m,b,k,d,i,g,f⟩).m (an ⟨a,n,c,m,b,k,d,i,g,f⟩).cap,.int .i64 (an ⟨a,n,c,m,b,k,d,i,g,f⟩).set,.int .i64 (an ⟨a,n,c,m,b,k,d,i,g,f⟩).bm,.bool (an ⟨a,n,c,m,b,k,d,i,g,f⟩).goes,.string (an ⟨a,n,c,m,b,k,d,i,g,f⟩).link])/\Below w'.heap.size w' s):=fun w'=>pT ⟨a,n,c,m,b,k,d,i,g,f⟩ w';have N:Hd (∀w',dV w' ⟨a,n,c,m,b,k,d,i,g,f⟩->dV w' (an ⟨a,n,c,m,b,k,d,i,g,f⟩)->Calls prog 55 #[.agg #[.int .i64 a,.int .i64 n,.slice c m b,.int .i64 d,.int .i64 i,.bool g,.string f],.agg #[.int .i64 (an ⟨a,n,c,m,b,k,d,i,g,f⟩).kind,.int .i64 (an ⟨a,n,c,m,b,k,d,i,g,f⟩).n,.slice (an ⟨a,n,c,m,b,k,d,i,g,f⟩).ao (an ⟨a,n,c,m,b,k,d,i,g,f⟩).m (an ⟨a,n,c,m,b,k,d,i,g,f⟩).cap,.int .i64 (an ⟨a,n,c,m,b,k,d,i,g,f⟩).set,.int .i64 (an ⟨a,n,c,m,b,k,d,i,g,f⟩).bm,.bool (an ⟨a,n,c,m,b,k,d,i,g,f⟩).goes,.string (an ⟨a,n,c,m,b,k,d,i,g,f⟩).link]] w' fun e s=>e=.returned (.bool (Ac.gK (PV.pt ⟨a,n,c,m,b,k,d,i,g,f⟩) (Ac.ez (PV.pt ⟨a,n,c,m,b,k,d,i,g,f⟩))))/\Below w'.heap.size w' s):=fun w' h h'=>by
  have:=rE ⟨a,n,c,m,b,k,d,i,g,f⟩ (an ⟨a,n,c,m,b,k,d,i,g,f⟩) w' h h';rw[pU]at this;exact this
 have t:Hd (∀W w',dV W ⟨a,n,c,m,b,k,d,i,g,f⟩->Below W.heap.size W w'->dV w' ⟨a,n,c,m,b,k,d,i,g,f⟩):=fun W w' h o=>h.below o;clear Z;generalize Ac.gK (PV.pt ⟨a,n,c,m,b,k,d,i,g,f⟩) (Ac.ez (PV.pt ⟨a,n,c,m,b,k,d,i,g,f⟩))=I at*;generalize an ⟨a,n,c,m,b,k,d,i,g,f⟩=u at*;have x:=hId y;clear y;have HK:=hId Y;clear Y;rcases HK.o with h|h|h
 ·subst h;go_enter func88,ntmps88
  go_wp2_with fail
  change Calls prog _ _ (aH ⟨1,n,c,m,b,k,d,i,g,f⟩ w) _;refine X.o.mono ?_
  rintro e l⟨rfl,o⟩;have v:=hId (O.o.trans (o.mono O.o.size));obtain⟨H,G,F,E,D,C,B⟩:=L.o.below o;simp only[VR]at H G F E D C B
  have q:=t.o _ _ V.o o;have S:Hd (∀w',Below l.heap.size l w'->Calls prog 105 #[.agg #[.int .i64 1,.int .i64 n,.slice c m b,.int .i64 d,.int .i64 i,.bool g,.string f]] w' fun e s=>e=.returned (.agg #[.int .i64 u.kind,.int .i64 u.n,.slice u.ao u.m u.cap,.int .i64 u.set,.int .i64 u.bm,.bool u.goes,.string u.link])/\Below l.heap.size l s):=fun w' p=>(M.o w').mono (fun e s⟨z,o⟩=>⟨z,p.trans (o.mono p.size)⟩);have T:Hd (∀w',Below l.heap.size l w'->Calls prog 55 #[.agg #[.int .i64 1,.int .i64 n,.slice c m b,.int .i64 d,.int .i64 i,.bool g,.string f],.agg #[.int .i64 u.kind,.int .i64 u.n,.slice u.ao u.m u.cap,.int .i64 u.set,.int .i64 u.bm,.bool u.goes,.string u.link]] w' fun e s=>e=.returned (.bool I)/\Below l.heap.size l s):=fun w' p=>(N.o w' (t.o _ _ q p) (K.o _ (t.o _ _ q p))).mono (fun e s⟨z,o⟩=>⟨z,p.trans (o.mono p.size)⟩);clear o q;by_cases A:J=0
  ·subst A;have y:r=if I then 0 else 4:=x.o
   clear x
   cases I
   all_goals
    first|(obtain rfl:r=0:=y)|(obtain rfl:r=4:=y)
    go_wp2_with fail
    go_region_held3 (fun w'=>w'.cell? ⟨w.heap.size,0,none⟩=some (.int .i64 1)/\w'.cell? ⟨w.heap.size,1,none⟩=some (.int .i64 n)/\w'.cell? ⟨w.heap.size,2,none⟩=some (.slice c m b)/\w'.cell? ⟨w.heap.size,3,none⟩=some (.int .i64 d)/\w'.cell? ⟨w.heap.size,4,none⟩=some (.int .i64 i)/\w'.cell? ⟨w.heap.size,5,none⟩=some (.bool g)/\w'.cell? ⟨w.heap.size,6,none⟩=some (.string f)/\Below l.heap.size l w') (first|exact⟨H,G,F,E,D,C,B,(VE _ _).drew⟩|exact⟨aA H (by assumption),aA G (by assumption),aA F (by assumption),aA E (by assumption),aA D (by assumption),aA C (by assumption),aA B (by assumption),by assumption⟩) (first|(go_at_call 105;refine(S.o _ ?_).mono ?_;exact(by assumption:_/\_/\_/\_/\_/\_/\_/\Below l.heap.size l _).2.2.2.2.2.2.2;rintro e P⟨rfl,o⟩)|(go_at_call 55;refine(T.o _ ?_).mono ?_;exact(by assumption:_/\_/\_/\_/\_/\_/\_/\Below l.heap.size l _).2.2.2.2.2.2.2;rintro e P⟨rfl,o⟩))
    have Q:=hId (v.o.trans (o.mono v.o.size));clear o;go_wp2
    go_ret
    exact⟨rfl,Q.o⟩
  ·obtain rfl:r=J:=by rw[x.o,VD A]
   have U:(r==0)=false:=by simp[A]
   clear x;go_wp2
   go_quiet (fail)
   go_wp2
   go_ret
   exact⟨rfl,v.o.trans ((bJ _ _).mono v.o.size)⟩
 ·subst h;go_enter func88,ntmps88
  go_wp2_with fail
  change Calls prog _ _ (aH ⟨2,n,c,m,b,k,d,i,g,f⟩ w) _;refine X.o.mono ?_
  rintro e l⟨rfl,o⟩;have v:=hId (O.o.trans (o.mono O.o.size));obtain⟨H,G,F,E,D,C,B⟩:=L.o.below o;simp only[VR]at H G F E D C B
  have q:=t.o _ _ V.o o;have S:Hd (∀w',Below l.heap.size l w'->Calls prog 105 #[.agg #[.int .i64 2,.int .i64 n,.slice c m b,.int .i64 d,.int .i64 i,.bool g,.string f]] w' fun e s=>e=.returned (.agg #[.int .i64 u.kind,.int .i64 u.n,.slice u.ao u.m u.cap,.int .i64 u.set,.int .i64 u.bm,.bool u.goes,.string u.link])/\Below l.heap.size l s):=fun w' p=>(M.o w').mono (fun e s⟨z,o⟩=>⟨z,p.trans (o.mono p.size)⟩);have T:Hd (∀w',Below l.heap.size l w'->Calls prog 55 #[.agg #[.int .i64 2,.int .i64 n,.slice c m b,.int .i64 d,.int .i64 i,.bool g,.string f],.agg #[.int .i64 u.kind,.int .i64 u.n,.slice u.ao u.m u.cap,.int .i64 u.set,.int .i64 u.bm,.bool u.goes,.string u.link]] w' fun e s=>e=.returned (.bool I)/\Below l.heap.size l s):=fun w' p=>(N.o w' (t.o _ _ q p) (K.o _ (t.o _ _ q p))).mono (fun e s⟨z,o⟩=>⟨z,p.trans (o.mono p.size)⟩);clear o q;by_cases A:J=0
  ·subst A;have y:r=if I then 0 else 4:=x.o
   clear x
   cases I
   all_goals
    first|(obtain rfl:r=0:=y)|(obtain rfl:r=4:=y)
    go_wp2_with fail
    go_region_held3 (fun w'=>w'.cell? ⟨w.heap.size,0,none⟩=some (.int .i64 2)/\w'.cell? ⟨w.heap.size,1,none⟩=some (.int .i64 n)/\w'.cell? ⟨w.heap.size,2,none⟩=some (.slice c m b)/\w'.cell? ⟨w.heap.size,3,none⟩=some (.int .i64 d)/\w'.cell? ⟨w.heap.size,4,none⟩=some (.int .i64 i)/\w'.cell? ⟨w.heap.size,5,none⟩=some (.bool g)/\w'.cell? ⟨w.heap.size,6,none⟩=some (.string f)/\Below l.heap.size l w') (first|exact⟨H,G,F,E,D,C,B,(VE _ _).drew⟩|exact⟨aA H (by assumption),aA G (by assumption),aA F (by assumption),aA E (by assumption),aA D (by assumption),aA C (by assumption),aA B (by assumption),by assumption⟩) (first|(go_at_call 105;refine(S.o _ ?_).mono ?_;exact(by assumption:_/\_/\_/\_/\_/\_/\_/\Below l.heap.size l _).2.2.2.2.2.2.2;rintro e P⟨rfl,o⟩)|(go_at_call 55;refine(T.o _ ?_).mono ?_;exact(by assumption:_/\_/\_/\_/\_/\_/\_/\Below l.heap.size l _).2.2.2.2.2.2.2;rintro e P⟨rfl,o⟩))
    have Q:=hId (v.o.trans (o.mono v.o.size));clear o;go_wp2
    go_ret
    exact⟨rfl,Q.o⟩
  ·obtain rfl:r=J:=by rw[x.o,VD A]
   have U:(r==0)=false:=by simp[A]
   clear x;go_wp2
   go_quiet (fail)
   go_wp2
   go_ret
   exact⟨rfl,v.o.trans ((bJ _ _).mono v.o.size)⟩
 ·subst h;go_enter func88,ntmps88
  go_wp2_with fail
  change Calls prog _ _ (aH ⟨3,n,c,m,b,k,d,i,g,f⟩ w) _;refine X.o.mono ?_
  rintro e l⟨rfl,o⟩;have v:=hId (O.o.trans (o.mono O.o.size));obtain⟨H,G,F,E,D,C,B⟩:=L.o.below o;simp only[VR]at H G F E D C B
  have q:=t.o _ _ V.o o;have S:Hd (∀w',Below l.heap.size l w'->Calls prog 105 #[.agg #[.int .i64 3,.int .i64 n,.slice c m b,.int .i64 d,.int .i64 i,.bool g,.string f]] w' fun e s=>e=.returned (.agg #[.int .i64 u.kind,.int .i64 u.n,.slice u.ao u.m u.cap,.int .i64 u.set,.int .i64 u.bm,.bool u.goes,.string u.link])/\Below l.heap.size l s):=fun w' p=>(M.o w').mono (fun e s⟨z,o⟩=>⟨z,p.trans (o.mono p.size)⟩);have T:Hd (∀w',Below l.heap.size l w'->Calls prog 55 #[.agg #[.int .i64 3,.int .i64 n,.slice c m b,.int .i64 d,.int .i64 i,.bool g,.string f],.agg #[.int .i64 u.kind,.int .i64 u.n,.slice u.ao u.m u.cap,.int .i64 u.set,.int .i64 u.bm,.bool u.goes,.string u.link]] w' fun e s=>e=.returned (.bool I)/\Below l.heap.size l s):=fun w' p=>(N.o w' (t.o _ _ q p) (K.o _ (t.o _ _ q p))).mono (fun e s⟨z,o⟩=>⟨z,p.trans (o.mono p.size)⟩);clear o q;by_cases A:J=0
  ·subst A;have y:r=if I then 0 else 4:=x.o
   clear x
   cases I
   all_goals
    first|(obtain rfl:r=0:=y)|(obtain rfl:r=4:=y)
    go_wp2_with fail
    go_region_held3 (fun w'=>w'.cell? ⟨w.heap.size,0,none⟩=some (.int .i64 3)/\w'.cell? ⟨w.heap.size,1,none⟩=some (.int .i64 n)/\w'.cell? ⟨w.heap.size,2,none⟩=some (.slice c m b)/\w'.cell? ⟨w.heap.size,3,none⟩=some (.int .i64 d)/\w'.cell? ⟨w.heap.size,4,none⟩=some (.int .i64 i)/\w'.cell? ⟨w.heap.size,5,none⟩=some (.bool g)/\w'.cell? ⟨w.heap.size,6,none⟩=some (.string f)/\Below l.heap.size l w') (first|exact⟨H,G,F,E,D,C,B,(VE _ _).drew⟩|exact⟨aA H (by assumption),aA G (by assumption),aA F (by assumption),aA E (by assumption),aA D (by assumption),aA C (by assumption),aA B (by assumption),by assumption⟩) (first|(go_at_call 105;refine(S.o _ ?_).mono ?_;exact(by assumption:_/\_/\_/\_/\_/\_/\_/\Below l.heap.size l _).2.2.2.2.2.2.2;rintro e P⟨rfl,o⟩)|(go_at_call 55;refine(T.o _ ?_).mono ?_;exact(by assumption:_/\_/\_/\_/\_/\_/\_/\Below l.heap.size l _).2.2.2.2.2.2.2;rintro e P⟨rfl,o⟩))
    have Q:=hId (v.o.trans (o.mono v.o.size));clear o;go_wp2
    go_ret
    exact⟨rfl,Q.o⟩
  ·obtain rfl:r=J:=by rw[x.o,VD A]
   have U:(r==0)=false:=by simp[A]
   clear x;go_wp2
   go_quiet (fail)
   go_wp2
   go_ret
   exact⟨rfl,v.o.trans ((bJ _ _).mono v.o.size)⟩
namespace Ac
theorem zg{p q:Pt}(h:gK p q=true):p.n=q.n:=by
 unfold gK at h;simp only[WD,beq_iff_eq]at h
 exact h.2.1
theorem jN{p:Pt}(h:bG p=0):yU p=0/\gK p (ez p)=true:=by
 unfold bG at h;by_cases a:yU p=0
 ·rw[VC a]at h;refine⟨a,?_⟩
  cases b:gK p (ez p)
  ·rw[b]at h;cases h
  ·rfl
 ·rw[VD a]at h;exact absurd h a
theorem ud{n:Int}(h:oQ n=0):1<=n/\n<=80:=by
 unfold oQ at h;by_cases a:n<1\/80<n
 ·rw[VC a]at h;cases h
 ·omega
theorem yT{p:Pt}(h:Af p=0):be p.set p.bm=false/\cJ p.goes p.link=false/\oQ p.n=0:=by
 unfold Af at h
 cases b:be p.set p.bm
 ·rw[b]at h
  cases a:cJ p.goes p.link
  ·rw[a]at h;exact⟨rfl,rfl,h⟩
  ·rw[a]at h;cases h
 ·rw[b]at h;cases h
theorem gA{p:Pt}(h:yU p=0):p.kind=1/\Af p=0\/p.kind=2/\mH p.aB=0\/p.kind=3/\oQ p.n=0:=by
 unfold yU at h;by_cases c:p.kind=1
 ·rw[VC c]at h;exact .inl ⟨c,h⟩
 ·rw[VD c]at h;by_cases b:p.kind=2
  ·rw[VC b]at h;exact .inr (.inl ⟨b,h⟩)
  ·rw[VD b]at h;by_cases a:p.kind=3
   ·rw[VC a]at h;exact .inr (.inr ⟨a,h⟩)
   ·rw[VD a]at h;cases h
theorem mI{p:Pt}(h:bG p=0):0<=p.n/\p.n<=80:=by
 obtain⟨d,c⟩:=jN h;rcases gA d with⟨_,b⟩|⟨b,_⟩|⟨_,a⟩
 ·have:=ud (yT b).2.2;omega
 ·have a:=zg c;unfold ez at a;rw[VD (by omega),VC b]at a;simp only at a
  omega
 ·have:=ud a;omega
theorem Iw(z:Int)(o:List Pt)(k:Nat)(h:k<o.length):kI z (o.drop k)=if bG o[k]=0 then(if 80<z+o[k].n then 2 else kI (z+o[k].n) (o.drop (k+1)))else bG o[k]:=by
 rw[VU h,kI]
theorem A8{o:List Pt}(h:o.length<1\/40<o.length):gC o=2:=by unfold gC;rw[VC h]
theorem Fb{o:List Pt}(h:¬(o.length<1\/40<o.length))(a:¬kI 0 o=0):gC o=kI 0 o:=by unfold gC;rw[VD h,VD a]
theorem L8{o:List Pt}{j:Nat}(h:¬(o.length<1\/40<o.length))(b:kI 0 o=0)(a:j<o.length)(c:o.length=j+1):gC o=if o[j].kind=1 then 0 else 4:=by
 unfold gC;rw[VD h,VC b,List.getLast?_eq_getElem?,show o.length-1=j by omega,VM a]
end Ac
theorem OU(v:PV)(w:World)(k:dV w v)(r:df w):Calls prog 88 #[.agg #[.int .i64 v.kind,.int .i64 v.n,.slice v.ao v.m v.cap,.int .i64 v.set,.int .i64 v.bm,.bool v.goes,.string v.link]] w fun e w'=>e=.returned (.int .i64 (Ac.bG v.pt))/\Below w.heap.size w w':=by
 obtain⟨a,n,d,m,b,c,f,i,h,g⟩:=v;have l:=aK ⟨a,n,d,m,b,c,f,i,h,g⟩ w;by_cases q:a=1
 ·subst q;exact uk 1 n d m b c f i h g w (Ac.Af (PV.pt ⟨1,n,d,m,b,c,f,i,h,g⟩)) _ (.inl rfl) (OV ⟨1,n,d,m,b,c,f,i,h,g⟩ _ k.fit (r.below l)) k rfl
 ·by_cases p:a=2
  ·subst p;exact uk 2 n d m b c f i h g w (Ac.mH c) _ (.inr (.inl rfl)) (Iz d m b c _ (k.jd.below l) (r.below l)) k rfl
  ·by_cases o:a=3
   ·subst o;exact uk 3 n d m b c f i h g w (Ac.oQ n) _ (.inr (.inr rfl)) ((yd n _).mono (fun e w'⟨u,t⟩=>⟨u,by rw[t];exact VE _ _⟩)) k rfl
   ·have e4:Ac.bG (PV.pt ⟨a,n,d,m,b,c,f,i,h,g⟩)=4:=by
     have:Ac.yU (PV.pt ⟨a,n,d,m,b,c,f,i,h,g⟩)=4:=by show(if a=1 then _ else if a=2 then _ else if a=3 then _ else(4:Int))=4;rw[VD q,VD p,VD o]
     unfold Ac.bG;rw[this];rfl
    rw[e4];have s:=hId l;have z:(a==1)=false:=by simp[q]
    have y:(a==2)=false:=by simp[p]
    have x:(a==3)=false:=by simp[o]
    clear e4 l k r q p o;go_enter func88,ntmps88
    go_wp2
    go_quiet (fail)
    go_wp2
    go_ret
    exact⟨rfl,s.o.trans ((bJ _ _).mono s.o.size)⟩
theorem kl(Z:Option Addr)(n I:Nat)(a:List PV)(w:World)(B:ae w Z n I a)(X:df w):
  Calls prog 58 #[.slice Z n I] w fun e w'=>e=.returned (.int .i64 (Ac.gC (a.map PV.pt)))/\Below w.heap.size w w':=by
 have HO:=hId B;have o:(a.map PV.pt).length=n:=by rw[VH];exact B.len
 have p:=hId o;have a1:=B.row.room;have N:=hId (fun v hv w' W=>OU v w' ((B.iE v hv).below W) (X.below W));clear B o X;obtain⟨r,J⟩:∃r,Ac.gC (a.map PV.pt)=r:=⟨_,rfl⟩;have f:=hId J;rw[J];clear J;by_cases h1:n<1
 ·obtain rfl:r=2:=f.o.symm.trans (Ac.A8 (by rw[p.o];exact .inl h1));obtain rfl:n=0:=by omega
  clear f N;go_enter func58,ntmps58
  go_wp2
  go_ret
  exact⟨rfl,VE _ _⟩
 ·by_cases h2:40<n
  ·obtain rfl:r=2:=f.o.symm.trans (Ac.A8 (by rw[p.o];exact .inr h2));clear f N;go_enter func58,ntmps58
   go_wp2
   go_ret
   exact⟨rfl,VE _ _⟩
  ·have L:Hd (¬((a.map PV.pt).length<1\/40<(a.map PV.pt).length)):=by show¬_;rw[p.o];omega
   obtain⟨b,a4,rfl,Y⟩:=HO.o.get (by omega);have HG:=hId Y;clear Y;go_enter func58,ntmps58
   go_wp2
   go_loopw [3,17] (fun s i wr=>∃k:Nat,∃z:Int,k<=n/\i=.int .i64 k/\s=.int .i64 z/\0<=z/\z<=80/\Below w.heap.size w wr/\Ac.kI 0 (a.map PV.pt)=Ac.kI z ((a.map PV.pt).drop k)) (fun _ i _=>n-(intOf i).toNat)
   case atStart=>exact⟨0,0,VN _,rfl,rfl,by decide,by decide,VE _ _,rfl⟩
   case round=>
    obtain⟨k,z,hk,rfl,rfl,a6,a5,H,F⟩:=hrel;have t:=hId F;have d:=hId H;clear F H;by_cases P:k<n
    ·have g:k<(a.map PV.pt).length:=by rw[p.o];exact P
     have u:k<a.length:=by rw[VH]at g;exact g
     have C:Hd (Ac.kI z ((a.map PV.pt).drop k)=if Ac.bG a[k].pt=0 then(if 80<z+a[k].n then 2 else Ac.kI (z+a[k].n) ((a.map PV.pt).drop (k+1)))else Ac.bG a[k].pt):=by
      have:=Ac.Iw z _ k g;rw[List.getElem_map]at this;exact this
     obtain⟨c0,c1,c2,c3,c4,c5,c6⟩:=(HG.o k u).below d.o;have U:=hId (N.o a[k] (WT u));have A:Hd (Below w.heap.size w (aH a[k] wr)):=d.o.trans ((aK _ wr).mono d.o.size);have T:Hd (bV (aH a[k] wr) wr.heap.size 0 a[k]):=dS _ wr;clear g;generalize a[k]=v at*;clear u;go_wp2_with fail
     change Calls prog 88 _ (aH v wr) _;refine(U.o _ A.o).mono ?_
     rintro e w1⟨rfl,K⟩;have M:=hId (A.o.trans (K.mono A.o.size));have d1:w1.cell? ⟨wr.heap.size,1,none⟩=some (.int .i64 v.n):=(T.o.below K).c1;clear K c0 c1 c2 c3 c4 c5 c6;by_cases m:Ac.bG v.pt=0
     ·have O:0<=v.n/\v.n<=80:=Ac.mI m;have y:Hd (Ac.kI z ((a.map PV.pt).drop k)=if 80<z+v.n then 2 else Ac.kI (z+v.n) ((a.map PV.pt).drop (k+1))):=by show _=_;rw[C.o,VC m]
      rw[m];clear m C;obtain⟨a3,a2⟩:=O;generalize v.n=q at*;by_cases x:80<z+q
      ·obtain rfl:r=2:=by
        rw[<-f.o,Ac.Fb L.o (by rw[t.o,y.o,VC x];decide),t.o,y.o,VC x]
       go_wp2
       go_ret
       exact⟨rfl,M.o⟩
      ·have S:Hd (Ac.kI 0 (a.map PV.pt)=Ac.kI (z+q) ((a.map PV.pt).drop (k+1))):=by show _=_;rw[t.o,y.o,VD x]
       go_wp2
       go_roundw
       case rel=>exact⟨k+1,z+q,by omega,by go_num,by go_num,by omega,by omega,M.o,S.o⟩
       case measure=>simp[intOf];omega
     ·have D:Ac.bG v.pt=r:=by
       rw[<-f.o,Ac.Fb L.o (by rw[t.o,C.o,VD m];exact m),t.o,C.o,VD m]
      rw[D]at m⊢;clear f C D;go_wp2
      go_ret
      exact⟨rfl,M.o⟩
    ·have Q:k=n:=by omega
     have G:Ac.kI 0 (a.map PV.pt)=0:=by rw[t.o,WI (by rw[p.o];omega)];rfl
     obtain⟨j,rfl⟩:∃j,n=j+1:=⟨n-1,by omega⟩;have l:j<(a.map PV.pt).length:=by rw[p.o];omega
     have E:j<a.length:=by rw[VH]at l;exact l
     have c:=f.o.symm.trans (Ac.L8 L.o G l p.o);rw[List.getElem_map]at c;have cj:=((HG.o j E).below d.o).c0;change r=if a[j].kind=1 then 0 else 4 at c
     generalize a[j].kind=V at*;subst Q;clear l E G f t;by_cases h:V=1
     ·obtain rfl:r=0:=by rw[c,VC h]
      subst h;clear c;go_wp2
      go_ret
      exact⟨rfl,d.o⟩
     ·obtain rfl:r=4:=by rw[c,VD h]
      have a0:(V !=1)=true:=by simp[h]
      clear c;go_wp2
      go_ret
      exact⟨rfl,d.o⟩
