/- A part. -/
import Derived.Test.YthddphjghgdalaaGreatDoorP3
import Derived.RegionTactic
import Derived.Lib.SliceRun
set_option maxRecDepth 100000
set_option maxHeartbeats 3200000
namespace Go.Proofs.YthddphjghgdalaaGreatDoor
open Go.RowKit Go.Proofs.Tryz
theorem gO(T:Option Addr)(n F:Nat)(c:List PV)(w:World)(s:ae w T n F c):
  Calls prog 57 #[.slice T n F] w fun e w'=>e=.returned (.tuple #[.int .i64 (Ac.lf (c.map PV.pt)),.int .i64 (Ac.lt (c.map PV.pt))])/\Below w.heap.size w w':=by
 have U:=hId s;have O:=hId s.len;have V:=s.row.room;have W:=s.row.fg;clear s;obtain⟨A,L⟩:∃A,Ac.lf (c.map PV.pt)=A:=⟨_,rfl⟩;obtain⟨C,K⟩:∃C,Ac.lt (c.map PV.pt)=C:=⟨_,rfl⟩;have HA:=hId L;have HC:=hId K;rw[L,K];clear L K;go_enter func57,ntmps57
 go_wp2
 go_loopw [2,3,8] (fun f t i wr=>∃k:Nat,k<=n/\i=.int .i64 k/\f=.int .i64 (((c.map PV.pt).take k).foldl Ac.LF 0)/\t=.int .i64 (((c.map PV.pt).take k).foldl Ac.LB 0)/\Below w.heap.size w wr) (fun _ _ i _=>n-(intOf i).toNat)
 case atStart=>exact⟨0,VN _,rfl,rfl,rfl,VE _ _⟩
 case round=>
  obtain⟨k,hk,rfl,rfl,rfl,E⟩:=hrel;have l:=hId E;clear E;by_cases P:k<n
  ·obtain⟨b,a0,rfl,S⟩:=U.o.get (by omega);have g:k<c.length:=by rw[O.o];exact P
   have r:(c.map PV.pt).take (k+1)=(c.map PV.pt).take k++[c[k].pt]:=by
    rw[WY (by rw[VH];exact g),List.getElem_map]
   have D:Hd (((c.map PV.pt).take (k+1)).foldl Ac.LF 0=Ac.LF (((c.map PV.pt).take k).foldl Ac.LF 0) c[k].pt):=by show _=_;rw[r,XC];rfl
   have B:Hd (((c.map PV.pt).take (k+1)).foldl Ac.LB 0=Ac.LB (((c.map PV.pt).take k).foldl Ac.LB 0) c[k].pt):=by show _=_;rw[r,XC];rfl
   have HL:=hId ((U.o.iE _ (WT g)).jd.len);obtain⟨c0,c1,c2,c3,c4,Z,Y⟩:=(S k g).below l.o;clear S r;generalize ((c.map PV.pt).take k).foldl Ac.LF 0=f at*;generalize ((c.map PV.pt).take k).foldl Ac.LB 0=t at*;generalize c[k]=v at*;obtain⟨a,q,H,m,d,z,I,N,M,J⟩:=v;simp only at c0 c1 c2 c3 c4 Z Y
   clear g;have o:Hd (Below w.heap.size w (aH ⟨a,q,H,m,d,z,I,N,M,J⟩ wr)):=l.o.trans ((aK _ wr).mono l.o.size);by_cases p:a=1
   ·subst p;go_wp2
    go_roundw
    case rel=>exact⟨k+1,by omega,by go_num,by rw[D.o];rfl,by rw[B.o];rfl,o.o⟩
    case measure=>simp[intOf];omega
   ·have k1:(a==1)=false:=by simp[p]
    by_cases u:a=2
    ·subst u;clear p;go_wp2
     go_roundw
     case rel=>exact⟨k+1,by omega,by go_num,by rw[D.o];rfl,by have X:z.length=m:=HL.o;rw[B.o];show _=Value.int .i64 (wrap64 (t+(z.length:Int)));rw[X],o.o⟩
     case measure=>simp[intOf];omega
    ·have k2:(a==2)=false:=by simp[u]
     by_cases G:a=3
     ·subst G;clear p u;go_wp2
      go_roundw
      case rel=>exact⟨k+1,by omega,by go_num,by rw[D.o];rfl,by rw[B.o];rfl,o.o⟩
      case measure=>simp[intOf];omega
     ·have k3:(a==3)=false:=by simp[G]
      have y:Ac.LF f (PV.pt ⟨a,q,H,m,d,z,I,N,M,J⟩)=f:=VD (fun h=>h.elim p G);have x:Ac.LB t (PV.pt ⟨a,q,H,m,d,z,I,N,M,J⟩)=t:=(VD p).trans (VD u);rw[y]at D;rw[x]at B;clear p u G y x;go_wp2
      go_roundw
      case rel=>exact⟨k+1,by omega,by go_num,by rw[D.o],by rw[B.o],o.o⟩
      case measure=>simp[intOf];omega
  ·have Q:k=n:=by omega
   have y:((c.map PV.pt).take k).foldl Ac.LF 0=A:=by rw[XD (by rw[VH,O.o];omega)];exact HA.o
   have x:((c.map PV.pt).take k).foldl Ac.LB 0=C:=by rw[XD (by rw[VH,O.o];omega)];exact HC.o
   rw[y,x];clear y x;subst Q;go_wp2
   go_ret2
   exact⟨rfl,l.o⟩
theorem Dp(G:FuncId)(ao B:Option Addr)(n A V l:Nat)(c us:List PV)(w:World)(q:ae w ao n A c)(m:ae w B V l us)(Y:G=55\/G=55):
  Calls prog 54 #[.slice ao n A,.slice B V l,.func (.func G) #[] #[]] w fun e w'=>e=.returned (.bool (Ac.eU (c.map PV.pt) (us.map PV.pt)))/\Below w.heap.size w w':=by
 have HO:=hId q;have C:=hId m;have Z:=hId q.len;have o:=hId m.len;have af:=q.row.room;have ag:=q.row.fg;have CG:Hd (∀(a b:PV)(w:World),dV w a->dV w b->Calls prog G #[.agg #[.int .i64 a.kind,.int .i64 a.n,.slice a.ao a.m a.cap,.int .i64 a.set,.int .i64 a.bm,.bool a.goes,.string a.link],.agg #[.int .i64 b.kind,.int .i64 b.n,.slice b.ao b.m b.cap,.int .i64 b.set,.int .i64 b.bm,.bool b.goes,.string b.link]] w fun e w'=>e=.returned (.bool (Ac.gK a.pt b.pt))/\Below w.heap.size w w'):=fun a b w ha p=>by
  rcases Y with rfl|rfl
  ·exact rE a b w ha p
  ·exact rE a b w ha p
 have ac:=hId Y;clear q m Y;obtain⟨r,X⟩:∃r,Ac.eU (c.map PV.pt) (us.map PV.pt)=r:=⟨_,rfl⟩;have HR:=hId X;rw[X];clear X;by_cases t:n=V
 ·subst t;go_enter func54,ntmps54
  go_wp2
  go_loopw [17] (fun i wr=>∃k:Nat,k<=n/\i=.int .i64 k/\Below w.heap.size w wr/\Ac.eU ((c.map PV.pt).drop k) ((us.map PV.pt).drop k)=r) (fun i _=>n-(intOf i).toNat)
  case atStart=>exact⟨0,VN _,rfl,VE _ _,HR.o⟩
  case round=>
   obtain⟨k,hk,rfl,y,s⟩:=hrel;have HM:=hId s;have d:=hId y;clear s y;by_cases x:k<n
   ·obtain⟨b,ah,rfl,z⟩:=HO.o.get (by omega);obtain⟨b',ad,rfl,h⟩:=C.o.get (by omega);have E:k<c.length:=by rw[Z.o];exact x
    have D:k<us.length:=by rw[o.o];exact x
    have HX:Hd (Ac.eU ((c.map PV.pt).drop k) ((us.map PV.pt).drop k)=(Ac.gK c[k].pt us[k].pt&&Ac.eU ((c.map PV.pt).drop (k+1)) ((us.map PV.pt).drop (k+1)))):=by
     have:=Ac.Cs (c.map PV.pt) (us.map PV.pt) k (by rw[VH];exact E) (by rw[VH];exact D);rw[List.getElem_map,List.getElem_map]at this;exact this
    obtain⟨U,T,S,Q,P,O,N⟩:=(z k E).below d.o;have Sb:=h k D;obtain⟨M,L,K,J,I,H,F⟩:=Sb.below (d.o.trans ((aK c[k] wr).mono d.o.size));have g:Hd (Below w.heap.size w (aH us[k] (aH c[k] wr))):=d.o.trans ((jI _ _ wr).mono d.o.size);have aa:=hId ((HO.o.iE _ (WT E)).below g.o);have a9:=hId ((C.o.iE _ (WT D)).below g.o);have S1:=xP c[k] us[k] wr;have S2:=dS us[k] (aH c[k] wr);have a8:=hId S1;have a7:=hId S2;clear z h S1 S2 Sb;generalize c[k]=v at*;generalize us[k]=u at*;clear E D;go_upto_region 6 with fail
    change Code.wp prog _ _ _ (aH v wr);go_upto_region 7 with fail
    change Code.wp prog _ _ _ (aH u (aH v wr));generalize aH u (aH v wr)=W at*;clear U T S Q P O N M L K J I H F;obtain⟨U,T,S,Q,P,O,N⟩:=a8.o;obtain⟨M,L,K,J,I,H,F⟩:=a7.o;simp only[VR]at U T S Q P O N M L K J I H F
    rcases ac.o with rfl|rfl
    all_goals
     go_wp2_with fail
     refine(CG.o v u _ aa.o a9.o).mono ?_
     rintro e w1⟨rfl,p⟩;have H2:=hId (g.o.trans (p.mono g.o.size));clear p U T S Q P O N M L K J I H F
     cases f:Ac.gK v.pt u.pt
     ·obtain rfl:r=false:=by rw[<-HM.o,HX.o,f];rfl
      clear f;go_wp2
      go_ret
      exact⟨rfl,H2.o⟩
     ·have ab:Hd (Ac.eU ((c.map PV.pt).drop (k+1)) ((us.map PV.pt).drop (k+1))=r):=by show _=_;rw[<-HM.o,HX.o,f,Bool.true_and]
      clear f;go_wp2
      go_roundw
      case rel=>exact⟨k+1,by omega,by go_num,H2.o,ab.o⟩
      case measure=>simp[intOf];omega
   ·obtain rfl:r=true:=by
     rw[<-HM.o,WI (by rw[VH,Z.o];omega),WI (by rw[VH,o.o];omega)];rfl
    go_wp2
    go_ret
    exact⟨rfl,d.o⟩
 ·obtain rfl:r=false:=HR.o.symm.trans (Ac.wT _ _ (by rw[VH,VH,Z.o,o.o];exact t));go_enter func54,ntmps54
  go_wp2
  go_ret
  exact⟨rfl,VE _ _⟩
theorem rD(h c:Option Addr)(n b g a:Nat)(f us:List PV)(w:World)(i:ae w h n b f)(d:ae w c g a us):
  Calls prog 25 #[.slice h n b,.slice c g a] w fun e w'=>e=.returned (.bool (Ac.eU (f.map PV.pt) (us.map PV.pt)))/\Below w.heap.size w w':=by
 have k:=Dp 55 h c n b g a f us w i d (.inl rfl);clear i d;generalize Ac.eU (f.map PV.pt) (us.map PV.pt)=r at*;have H:=hId k;clear k;go_enter func25,ntmps25
 go_wp2_with fail
 refine H.o.mono ?_
 rintro e m⟨rfl,l⟩;go_wp2
 go_ret
 exact⟨rfl,l⟩
namespace Ac
def ag (d:List It) (o:List Pt):Int:=if Dc.check d=0 then (if gC o=0 then (if lf o=d.length then (if 80<lt o then 2 else 0) else 6) else gC o) else Dc.check d
end Ac
theorem yR(E g:Option Addr)(n k v c:Nat)(l:List It)(h:List PV)(w:World)(C:cy w E n k l)(B:ae w g v c h)(A:df w):
  Calls prog 65 #[.slice E n k,.slice g v c] w fun e w'=>e=.returned (.int .i64 (Ac.ag l (h.map PV.pt)))/\Below w.heap.size w w':=by
 have s:=hId (iq E n k l w C A);have y:=hId (fun w' x=>kl g v c h w' (B.below x) (A.below x));have F:=hId (fun w' x=>gO g v c h w' (B.below x));obtain⟨r,o⟩:∃r,Ac.ag l (h.map PV.pt)=r:=⟨_,rfl⟩;rw[o];unfold Ac.ag at o;rw[C.len]at o;clear C B A;generalize Dc.check l=J at*;generalize Ac.gC (h.map PV.pt)=I at*;generalize Ac.lf (h.map PV.pt)=f at*;generalize Ac.lt (h.map PV.pt)=t at*;have i:=hId o;clear o;by_cases p:J=0
 ·by_cases D:I=0
  ·subst p D;by_cases m:f=(n:Int)
   ·by_cases H:80<t
    ·obtain rfl:r=2:=by rw[<-i.o,VC rfl,VC rfl,VC m,VC H]
     subst m;clear i;go_enter func65,ntmps65
     go_wp2_with fail
     refine s.o.mono ?_
     rintro e u⟨rfl,a⟩;have b:=hId a;clear a;go_wp2_with fail
     refine(y.o _ b.o).mono ?_
     rintro e z⟨rfl,a⟩;have d:=hId (b.o.trans (a.mono b.o.size));clear a;go_wp2_with fail
     refine(F.o _ d.o).mono ?_
     rintro e G⟨rfl,a⟩;have q:=hId (d.o.trans (a.mono d.o.size));clear a;go_wp2
     go_ret
     exact⟨rfl,q.o⟩
    ·obtain rfl:r=0:=by rw[<-i.o,VC rfl,VC rfl,VC m,VD H]
     subst m;clear i;go_enter func65,ntmps65
     go_wp2_with fail
     refine s.o.mono ?_
     rintro e u⟨rfl,a⟩;have b:=hId a;clear a;go_wp2_with fail
     refine(y.o _ b.o).mono ?_
     rintro e z⟨rfl,a⟩;have d:=hId (b.o.trans (a.mono b.o.size));clear a;go_wp2_with fail
     refine(F.o _ d.o).mono ?_
     rintro e G⟨rfl,a⟩;have q:=hId (d.o.trans (a.mono d.o.size));clear a;go_wp2
     go_ret
     exact⟨rfl,q.o⟩
   ·obtain rfl:r=6:=by rw[<-i.o,VC rfl,VC rfl,VD m]
    have K:(f !=(n:Int))=true:=by simp[m]
    clear i;go_enter func65,ntmps65
    go_wp2_with fail
    refine s.o.mono ?_
    rintro e u⟨rfl,a⟩;have b:=hId a;clear a;go_wp2_with fail
    refine(y.o _ b.o).mono ?_
    rintro e z⟨rfl,a⟩;have d:=hId (b.o.trans (a.mono b.o.size));clear a;go_wp2_with fail
    refine(F.o _ d.o).mono ?_
    rintro e G⟨rfl,a⟩;have q:=hId (d.o.trans (a.mono d.o.size));clear a;go_wp2
    go_ret
    exact⟨rfl,q.o⟩
  ·obtain rfl:r=I:=by rw[<-i.o,VC p,VD D]
   subst p;have L:(r !=0)=true:=by simp[D]
   go_enter func65,ntmps65
   go_wp2_with fail
   refine s.o.mono ?_
   rintro e u⟨rfl,a⟩;have b:=hId a;clear a;go_wp2_with fail
   refine(y.o _ b.o).mono ?_
   rintro e z⟨rfl,a⟩;have d:=hId (b.o.trans (a.mono b.o.size));clear a;go_wp2
   go_ret
   exact⟨rfl,d.o⟩
 ·obtain rfl:r=J:=by rw[<-i.o,VD p]
  have M:(r !=0)=true:=by simp[p]
  go_enter func65,ntmps65
  go_wp2_with fail
  refine s.o.mono ?_
  rintro e u⟨rfl,a⟩;have b:=hId a;clear a;go_wp2
  go_ret
  exact⟨rfl,b.o⟩
theorem Tryz.DQ:(prog.info? 67).map (fun i=>(i.zero,i.size,i.bytes))=some (some (.agg #[.int .u8 0,.int .i64 0,.string ⟨#[]⟩]),3,32):=by kernel_rfl
theorem Ir(b c n h:Nat)(l:List It)(w:World)(r:At w b c l)(q:l.length=n)(x:0<n)(C:n<=80):
  Calls prog 89 #[.slice (some ⟨b,c,none⟩) n h] w fun e w'=>(∃g f,e=.returned (.slice (some ⟨g,0,none⟩) n f)/\w'.ownsRow w.heap.size 67 3 (.slice (some ⟨g,0,none⟩) n f) n (aI l))/\Below w.heap.size w w':=by
 obtain⟨t,v,p,o,m⟩:=info_parts Tryz.DQ;have A:=hId r;have z:=hId q;have s:∀w,(binOp .eql 22 (.slice (some ⟨b,c,none⟩) n h) (.slice none 0 0)).run prog w=.ok (.bool false) w:=fun w=>Lib.run_eql_slice_nil (P:=prog) w 22 67 _ _ _ _ _ underlying22;clear r q;go_enter func89,ntmps89
 go_wp2_with (at_builtin;refine wpList_append_lies _ rfl (.tmp 5) (.tmp 6) 22 rfl w.heap.size 67 t (.agg #[.int .u8 0,.int .i64 0,.string ⟨#[]⟩]) 3 32 underlying22 v p o m rfl (by decide) _ 0 [] rfl ?c1 ⟨b,c,none⟩ n h (aI l) rfl ?c2 ?c3 (bR l) x ?c4 ?c5 ?c6 _ rfl ?c7)
 case c1=>exact World.ownsRow_lit w #[] 0 (UZ _) (by decide) rfl
 case c2=>rw[dP,z.o]
 case c3=>exact lW (A.o.below ((VE _ _).alloc (UZ _) _))
 case c4=>unfold maxLen;omega
 case c5=>omega
 case c6=>simp
 case c7=>
  intro g i D d a _ _;have B:=hId (((VE w.heap.size w).alloc (UZ _) (.cells #[] 67)).grown a (by simp) (fun k u=>by simp[Value.ownBlock]at u;omega));have y:=hId d;clear d a;go_wp2
  go_ret
  exact⟨⟨g,i,rfl,y.o⟩,B.o⟩
theorem bV.same{w w':World}{b a:Nat}{v:PV}(h:bV w b a v)(e:w'.heap[b]?=w.heap[b]?):bV w' b a v:=
 ⟨(WC (w:=w) e).trans h.c0,(WC (w:=w) e).trans h.c1,(WC (w:=w) e).trans h.c2,(WC (w:=w) e).trans h.c3,(WC (w:=w) e).trans h.c4,(WC (w:=w) e).trans h.c5,(WC (w:=w) e).trans h.c6⟩
theorem qQ:∀(l:List It)(k:Nat)(h:k<l.length)(y:Int),(aI l).set (k*3+1) (.int .i64 y)=aI (l.set k {l[k]with m:=y})
 |[],_,h,_=>by simp at h
 |x::l,0,_,y=>rfl
 |x::l,k+1,h,y=>by
  have:=qQ l k (by simpa using h) y;rw[show(k+1)*3+1=k*3+1+1+1+1 by omega];simp only[aI,VA,List.getElem_cons_succ]
  rw[this]
theorem qR:∀(l:List It)(k:Nat)(h:k<l.length)(y:ByteArray),(aI l).set (k*3+2) (.string y)=aI (l.set k {l[k]with l:=y})
 |[],_,h,_=>by simp at h
 |x::l,0,_,y=>rfl
 |x::l,k+1,h,y=>by
  have:=qR l k (by simpa using h) y;rw[show(k+1)*3+2=k*3+2+1+1+1 by omega];simp only[aI,VA,List.getElem_cons_succ]
  rw[this]
def vi (l:List It) (f:It->It) (k:Nat):List It:=(l.take k).map f++l.drop k
theorem Nh(l:List It)(f:It->It)(k:Nat):(vi l f k).length=l.length:=by
 unfold vi;rw[VI,VH,List.length_take,XG];omega
theorem Kt(l:List It)(f:It->It):vi l f 0=l:=by simp[vi]
theorem Nj(l:List It)(f:It->It)(k:Nat)(h:l.length<=k):vi l f k=l.map f:=by
 unfold vi;rw[XD h,WI h,VY]
theorem Ni(l:List It)(f:It->It)(k:Nat)(h:k<l.length):(vi l f k)[k]?=some l[k]:=by
 unfold vi;rw[List.getElem?_append_right (by simp;omega),VH,List.length_take,Nat.min_eq_left (by omega),Nat.sub_self,List.getElem?_drop,Nat.add_zero];exact VM h
theorem Ng(l:List It)(f:It->It)(k:Nat)(h:k<l.length):(vi l f k).set k (f l[k])=vi l f (k+1):=by
 unfold vi;rw[List.set_append_right _ _ (by simp;omega),VH,List.length_take,Nat.min_eq_left (by omega),Nat.sub_self,VU h,VB,WY h,WN,VT];rfl
theorem lV{a b:Int}(f:Ac.m4 a)(e:Ac.m4 b):bits .andNot .i64 a b=Ac.less a b:=by
 obtain⟨x,d,rfl⟩:=Ac.cG f;obtain⟨y,c,rfl⟩:=Ac.cG e;have:∀x:Fin 4,∀y:Fin 4,bits .andNot .i64 ((x.val:Nat):Int) ((y.val:Nat):Int)=Ac.less ((x.val:Nat):Int) ((y.val:Nat):Int):=by decide+kernel
 exact this ⟨x,d⟩ ⟨y,c⟩
theorem tB{a b:Int}(f:Ac.m4 a)(e:Ac.m4 b):bits .or .i64 a b=Ac.both a b:=by
 obtain⟨x,d,rfl⟩:=Ac.cG f;obtain⟨y,c,rfl⟩:=Ac.cG e;have:∀x:Fin 4,∀y:Fin 4,bits .or .i64 ((x.val:Nat):Int) ((y.val:Nat):Int)=Ac.both ((x.val:Nat):Int) ((y.val:Nat):Int):=by decide+kernel
 exact this ⟨x,d⟩ ⟨y,c⟩
theorem IF{m c s:Int}:Ac.both (Ac.less m c) s=Ac.mark m c s:=by
 unfold Ac.both Ac.less Ac.mark;rw[Int.toNat_natCast]
theorem nQ(b H n X:Nat)(l:List It)(r q:Int)(E:Option Addr)(m p:Nat)(G:List It)(d o:Int)(y:Bool)(t:ByteArray)(w:World)(hA:At w b H l)(hl:l.length=n)(h0:0<n)(a3:n<=80)
  (hm:Ac.M4 l)(hs:Ac.m4 d)(hc:Ac.m4 o):
  Calls prog 67 #[.slice (some ⟨b,H,none⟩) n X,.agg #[.int .i64 r,.int .i64 q,.slice E m p,.int .i64 d,.int .i64 o,.bool y,.string t]] w fun e w'=>(∃g s,e=.returned (.slice (some ⟨g,0,none⟩) n s)/\w'.ownsRow w.heap.size 67 3 (.slice (some ⟨g,0,none⟩) n s) n (aI (l.map fun x=>Ac.change x ⟨d,o,y,t⟩)))/\Below w.heap.size w w':=by
 have H1:Hd (Below w.heap.size w (aH ⟨r,q,E,m,p,G,d,o,y,t⟩ w)):=aK _ w;have C:Hd (bV (aH ⟨r,q,E,m,p,G,d,o,y,t⟩ w) w.heap.size 0 ⟨r,q,E,m,p,G,d,o,y,t⟩):=dS _ w;have HZ:Hd ((aH ⟨r,q,E,m,p,G,d,o,y,t⟩ w).heap.size=w.heap.size+1):=cV _ w;have CC:=hId (Ir b H n X l _ (hA.below H1.o) hl h0 a3);have HL:=hId hl;have HM:=hId hm;clear hA hl hm;obtain⟨f,hf⟩:∃f,(fun x=>Ac.change x ⟨d,o,y,t⟩)=f:=⟨_,rfl⟩;have HF:=hId hf;rw[hf];clear hf;go_enter func67,ntmps67
 go_wp2_with fail
 change Calls prog _ _ (aH ⟨r,q,E,m,p,G,d,o,y,t⟩ w) _;refine CC.o.mono ?_
 rintro e w1⟨⟨g,s,rfl,F⟩,hb⟩;rw[HZ.o]at F;have H2:=hId (H1.o.trans (hb.mono H1.o.size));have a4:=hId (C.o.below hb);have a7:=hId F;have ab:=aS F g rfl;have aa:n<=s:=(bg F).elim fun a h=>h.elim fun c h=>by obtain⟨e,hr⟩:=h;simp only[Value.slice.injEq]at e;obtain⟨_,_,rfl⟩:=e;exact hr.room
 clear F hb CC C;go_wp2
 go_loopw [10] (fun i wr=>∃k:Nat,k<=n/\i=.int .i64 k/\wr.ownsRow (w.heap.size+1) 67 3 (.slice (some ⟨g,0,none⟩) n s) n (aI (vi l f k))/\bV wr w.heap.size 0 ⟨r,q,E,m,p,G,d,o,y,t⟩/\Below w.heap.size w wr) (fun i _=>n-(intOf i).toNat)
 case atStart=>exact⟨0,VN _,rfl,by rw[Kt];exact a7.o,a4.o,H2.o⟩
 case round=>
  obtain⟨k,hk,rfl,F,U,V⟩:=hrel;have Y:=hId V;have Q:=hId F;have C:=hId U;clear F U V;by_cases a1:k<n
  ·have B:k<l.length:=by rw[HL.o];exact a1
   have A:k<(vi l f k).length:=by rw[Nh];exact B
   have D:(vi l f k)[k]=l[k]:=by have:=Ni l f k B;rw[VM A]at this;exact WU this
   obtain⟨x,P⟩:∃x,l[k]=x:=⟨_,rfl⟩;have T:Ac.m4 x.m:=by rw[<-P];exact HM.o _ (WT B)
   obtain⟨O,N,M⟩:=cZ (vi l f k) k A;rw[D,P]at O N M;have c1:=(Q.o.cellAt (k*3+1) (by omega)).trans N;have z1:=Q.o.frozenAt (k*3+1);have b1:=lV T hc;have b2:=(tB (Ac.mD T hc) hs).trans IF;have u:=Q.o.drew.stored (k*3+1) (.int .i64 (Ac.mark x.m o d));rw[qQ _ _ A,D,P]at u;have z:Hd ((wr.drew.setCell ⟨g,k*3+1,none⟩ (.int .i64 (Ac.mark x.m o d))).ownsRow (w.heap.size+1) 67 3 (.slice (some ⟨g,0,none⟩) n s) n (aI ((vi l f k).set k {x with m:=Ac.mark x.m o d}))):=u.1;have v:Hd (bV (wr.drew.setCell ⟨g,k*3+1,none⟩ (.int .i64 (Ac.mark x.m o d))) w.heap.size 0 ⟨r,q,E,m,p,G,d,o,y,t⟩):=C.o.same (XN wr.drew _ _ _ (by simp;omega));have L:Hd (Below w.heap.size w (wr.drew.setCell ⟨g,k*3+1,none⟩ (.int .i64 (Ac.mark x.m o d)))):=Y.o.drew.setCell (by simp;omega) _;have K:Hd (vi l f (k+1)=(vi l f k).set k (Ac.change x ⟨d,o,y,t⟩)):=by show _=_;rw[<-Ng l f k B,P,<-HF.o]
   have a8:=hId A;obtain⟨p0,p1,p2,p3,p4,p5,p6⟩:=C.o;simp only[VR]at p0 p1 p2 p3 p4 p5 p6
   have q1:(0:Int)<=(k:Int):=by omega
   have q2:(k:Int)<(n:Int):=by omega
   clear u D P O N M B A;go_upto_region 5 with fail
   go_region
   change Exit.then _ _ Exit.normal _ (wr.drew.setCell ⟨g,k*3+1,none⟩ (.int .i64 (Ac.mark x.m o d)));clear p0 p1 p2 p3 p4 p5 p6 c1 z1 b1 b2;generalize wr.drew.setCell ⟨g,k*3+1,none⟩ (.int .i64 (Ac.mark x.m o d))=W at*;obtain⟨p0,p1,p2,p3,p4,p5,p6⟩:=v.o;simp only[VR]at p0 p1 p2 p3 p4 p5 p6
   have I:k<((vi l f k).set k {x with m:=Ac.mark x.m o d}).length:=by rw[List.length_set];exact a8.o
   have J:((vi l f k).set k {x with m:=Ac.mark x.m o d})[k]={x with m:=Ac.mark x.m o d}:=List.getElem_set_self ..;obtain⟨O,N,M⟩:=cZ _ k I;rw[J]at O N M;have c0:=(z.o.cellAt (k*3) (by omega)).trans O;have c2:=(z.o.cellAt (k*3+2) (by omega)).trans M;have z2:=z.o.frozenAt (k*3+2);have u:=z.o.stored (k*3+2) (.string t);rw[qR _ _ I,J,List.set_set]at u;have a6:Hd ((W.setCell ⟨g,k*3+2,none⟩ (.string t)).ownsRow (w.heap.size+1) 67 3 (.slice (some ⟨g,0,none⟩) n s) n (aI ((vi l f k).set k {x with m:=Ac.mark x.m o d,l:=t}))):=u.1;have Z:Hd (bV (W.setCell ⟨g,k*3+2,none⟩ (.string t)) w.heap.size 0 ⟨r,q,E,m,p,G,d,o,y,t⟩):=v.o.same (XN W _ _ _ (by simp;omega));have a9:Hd (Below w.heap.size w (W.setCell ⟨g,k*3+2,none⟩ (.string t))):=L.o.setCell (by simp;omega) _;clear u I J O N M;simp only at c0 c2
   cases y
   ·have S:Hd (Ac.change x ⟨d,o,false,t⟩={x with m:=Ac.mark x.m o d}):=rfl;go_wp2
    go_roundw
    case rel=>exact⟨k+1,by omega,by go_num,by rw[K.o,S.o];exact z.o,v.o,L.o⟩
    case measure=>simp[intOf];omega
   ·cases he:Dc.ends x
    ·have S:Hd (Ac.change x ⟨d,o,true,t⟩={x with m:=Ac.mark x.m o d,l:=t}):=by show _=_;unfold Ac.change;rw[he];rfl
     have a0:((x.c.toNat:Int)!=10)=true:=by have:((x.c.toNat:Int)==10)=false:=he;simp at this⊢;exact this
     go_wp2
     go_roundw
     case rel=>exact⟨k+1,by omega,by go_num,by rw[K.o,S.o];exact a6.o,Z.o,a9.o⟩
     case measure=>simp[intOf];omega
    ·have S:Hd (Ac.change x ⟨d,o,true,t⟩={x with m:=Ac.mark x.m o d}):=by show _=_;unfold Ac.change;rw[he];rfl
     have a0:((x.c.toNat:Int)!=10)=false:=by have:((x.c.toNat:Int)==10)=true:=he;simp at this⊢;exact this
     go_wp2
     go_roundw
     case rel=>exact⟨k+1,by omega,by go_num,by rw[K.o,S.o];exact z.o,v.o,L.o⟩
     case measure=>simp[intOf];omega
  ·have a2:k=n:=by omega
   have a5:Hd (wr.ownsRow w.heap.size 67 3 (.slice (some ⟨g,0,none⟩) n s) n (aI (l.map f))):=by
    have:=Q.o.mono (Nat.le_succ _);rw[Nj l f k (by rw[HL.o];omega)]at this;exact this
   clear Q;subst a2;go_wp2
   go_ret
   exact⟨⟨g,s,rfl,a5.o⟩,Y.o⟩
namespace Ac
def rK (p:Pt):Nat:=if p.kind=2 then 0 else p.n.toNat
def sZ (p:Pt):Nat:=if p.kind=1 then p.n.toNat else if p.kind=2 then p.aB.length else 0
def nd (o:List Pt):Nat:=(o.map rK).sum
def lv (o:List Pt):Nat:=(o.map sZ).sum
theorem kX(p:Pt)(o:List Pt):nd (p::o)=rK p+nd o:=by simp[nd]
theorem qI(p:Pt)(o:List Pt):lv (p::o)=sZ p+lv o:=by simp[lv]
theorem Kq(o o':List Pt):nd (o++o')=nd o+nd o':=by simp[nd]
theorem LA(o o':List Pt):lv (o++o')=lv o+lv o':=by simp[lv]
theorem FA(o:List Pt)(k:Nat):nd (o.take k)<=nd o:=by
 have:nd o=nd (o.take k)+nd (o.drop k):=by rw[<-Kq,List.take_append_drop]
 omega
theorem FF(o:List Pt)(k:Nat):lv (o.take k)<=lv o:=by
 have:lv o=lv (o.take k)+lv (o.drop k):=by rw[<-LA,List.take_append_drop]
 omega
def vh (d:List It) (s:List It × Nat) (p:Pt):List It × Nat :=
 if p.kind=1 then (s.1++((d.drop s.2).take p.n.toNat).map (fun x=>change x (dt p)),s.2+p.n.toNat) else if p.kind=2 then (s.1++p.aB,s.2) else (s.1,s.2+p.n.toNat)
def mk (d:List It) (o:List Pt):List It × Nat:=o.foldl (vh d) ([],0)
theorem yG(d:List It)(s:List It×Nat)(p:Pt):(vh d s p).2=s.2+rK p:=by
 unfold vh rK;by_cases b:p.kind=1
 ·rw[VC b,VD (by omega)]
 ·rw[VD b];by_cases a:p.kind=2
  ·rw[VC a,VC a];rfl
  ·rw[VD a,VD a]
theorem Kr(d:List It):∀(o:List Pt)(s:List It×Nat),(o.foldl (vh d) s).2=s.2+nd o
 |[],s=>by simp[nd]
 |p::o,s=>by rw[List.foldl_cons,Kr d o,yG,kX];omega
theorem Nf(d:List It)(s:List It×Nat)(p:Pt)(h:s.2+rK p<=d.length):(vh d s p).1.length=s.1.length+sZ p:=by
 unfold vh sZ;unfold rK at h;by_cases b:p.kind=1
 ·rw[VD (by omega)]at h;rw[VC b,VC b];simp
  omega
 ·rw[VD b,VD b];by_cases a:p.kind=2
  ·rw[VC a,VC a];simp
  ·rw[VD a,VD a];rfl
theorem DE(d:List It):∀(o:List Pt)(s:List It×Nat),s.2+nd o<=d.length->(o.foldl (vh d) s).1.length=s.1.length+lv o
 |[],s,_=>by simp[lv]
 |p::o,s,h=>by
  rw[kX]at h;rw[List.foldl_cons,DE d o _ (by rw[yG];omega),Nf d s p (by omega),qI];omega
theorem FC(d:List It)(o:List Pt)(k:Nat)(h:k<o.length):mk d (o.take (k+1))=vh d (mk d (o.take k)) o[k]:=by
 unfold mk;rw[WY h,XC];rfl
theorem FB(d:List It)(o:List Pt)(h:nd o=d.length)(k:Nat):(mk d (o.take k)).2<=d.length/\(mk d (o.take k)).1.length<=lv o:=by
 have b:=FA o k;have a:=FF o k;unfold mk;rw[Kr,DE d _ _ (by simp;omega)];exact⟨by simp;omega,by simp;omega⟩
theorem BQ(c:Ch):∀(n:Nat)(l:List A)(d:List It),ap (List.replicate n (A.af c)++l) d=if n<=d.length then(ap l (d.drop n)).map ((d.take n).map (fun x=>change x c)++·)else none
 |0,l,d=>by simp
 |n+1,l,[]=>by simp[WR,ap]
 |n+1,l,x::d=>by
  rw[WR,VF,iT,BQ c n l d];by_cases h:n<=d.length
  ·rw[VC h,VC (by simpa using h)];simp[Option.map_map,Function.comp_def]
  ·rw[VD h,VD (by simpa using h)];rfl
theorem O1(d:List It):∀(o:List Pt)(s:List It×Nat),s.2+nd o=d.length->(∀p∈o,p.kind=1\/p.kind=2\/p.kind=3)->(ap (ah o) (d.drop s.2)).map (s.1++·)=some (o.foldl (vh d) s).1
 |[],s,h,_=>by
  have:d.drop s.2=[]:=WI (by simp[nd]at h;omega);rw[this,fK];simp[ap]
 |p::o,s,h,e=>by
  rw[kX]at h;have f:=O1 d o (vh d s p) (by rw[yG];omega) (fun q g=>e q (VP _ g));rw[List.foldl_cons,<-f,cB];rcases e p (VK ..)with a|a|a
  ·have i:rK p=p.n.toNat:=VD (by omega);have c:bt p=List.replicate p.n.toNat (A.af (dt p)):=by unfold bt;rw[VD (by omega),VC a]
   have b:vh d s p=(s.1++((d.drop s.2).take p.n.toNat).map (fun x=>change x (dt p)),s.2+p.n.toNat):=VC a;rw[c,b,BQ,VC (by simp;omega),List.drop_drop];simp[Option.map_map,Function.comp_def]
  ·have c:bt p=p.aB.map A.put:=by unfold bt;rw[VC a]
   have b:vh d s p=(s.1++p.aB,s.2):=(VD (by omega)).trans (VC a);rw[c,b,yg];simp[Option.map_map,Function.comp_def]
  ·have i:rK p=p.n.toNat:=VD (by omega);have c:bt p=List.replicate p.n.toNat A.cut:=by unfold bt;rw[VD (by omega),VD (by omega)]
   have b:vh d s p=(s.1,s.2+p.n.toNat):=(VD (by omega)).trans (VD (by omega));rw[c,b,yi,VC (by simp;omega),List.drop_drop]
structure dR (o:List Pt):Prop where
 ne:1<=o.length
 Ia:o.length<=40
 ok:∀ p ∈ o,bG p=0
 sum:nd o<=80
 last:∃ o' p,o=o'++[p]/\p.kind=1
theorem sj {p:Pt} (h:bG p=0):(rK p:Int)=p.n:=by
 have hb:=mI h;unfold rK;by_cases h2:p.kind=2
 ·obtain ⟨_,hs⟩:=jN h;have hn:=zg hs;unfold ez at hn;rw[VD (by omega),VC h2] at hn;rw[VC h2];simp only at hn
  omega
 ·rw[VD h2];omega
theorem L7:∀(o:List Pt)(z:Int),0<=z->z<=80->(kI z o=0↔(∀p∈o,bG p=0)/\z+nd o<=80)
 |[],z,e,d=>by simp[kI,nd];omega
 |p::o,z,e,d=>by
  rw[kI,kX];by_cases a:bG p=0
  ·have g:=sj a;have i:=mI a;rw[VC a];by_cases c:80<z+p.n
   ·rw[VC c];constructor
    ·intro h;cases h
    ·intro⟨_,h⟩;omega
   ·rw[VD c,L7 o (z+p.n) (by omega) (by omega)];constructor
    ·rintro⟨h,f⟩;refine⟨fun q b=>?_,by omega⟩
     rcases WG.1 b with rfl|b
     ·exact a
     ·exact h q b
    ·rintro⟨h,f⟩;exact⟨fun q b=>h q (VP _ b),by omega⟩
  ·rw[VD a];constructor
   ·intro h;exact absurd h a
   ·rintro⟨h,_⟩;exact absurd (h p (VK ..)) a
theorem bi{o:List Pt}:gC o=0↔dR o:=by
 unfold gC;by_cases h:o.length<1\/40<o.length
 ·rw[VC h];constructor
  ·intro h;cases h
  ·intro r;have:=r.ne;have:=r.Ia;omega
 ·rw[VD h];have d:=L7 o 0 (by decide) (by decide);by_cases a:kI 0 o=0
  ·rw[VC a];obtain⟨g,l⟩:=d.1 a;rcases List.eq_nil_or_concat o with e|⟨o',p,e⟩
   ·subst e;simp at h
   ·rw[XU]at e;rw[e,List.getLast?_concat];simp only
    constructor
    ·intro c;refine⟨by rw[<-e];omega,by rw[<-e];omega,by rw[<-e];exact g,by rw[<-e];omega,o',p,rfl,?_⟩
     by_cases b:p.kind=1
     ·exact b
     ·rw[VD b]at c;cases c
    ·rintro⟨_,_,_,_,k,q,i,f⟩;have:=List.append_inj' i rfl;simp at this
     rw[VC (by rw[this.2];exact f)]
  ·rw[VD a];constructor
   ·intro h;exact absurd h a
   ·intro r;exact absurd (d.2 ⟨r.ok,by have:=r.sum;omega⟩) a
theorem wrap_small{x:Int}(b:0<=x)(a:x<=1000000):wrap64 x=x:=by
 unfold wrap64;omega
theorem cz{p:Pt}(h:bG p=0):p.kind=1\/p.kind=2\/p.kind=3:=by
 rcases gA (jN h).1 with h|h|h
 ·exact .inl h.1
 ·exact .inr (.inl h.1)
 ·exact .inr (.inr h.1)
theorem O4:∀(o:List Pt)(s:Int),(∀p∈o,bG p=0)->0<=s->s+nd o<=1000000->o.foldl LF s=s+nd o
 |[],s,_,_,_=>by simp[nd]
 |p::o,s,h,f,d=>by
  rw[kX]at d⊢;have a:=h p (VK ..);have b:=sj a;have e:LF s p=s+rK p:=by
   unfold LF;rcases cz a with k|k|k
   ·rw[VC (.inl k),wrap_small (by omega) (by omega),b]
   ·rw[VD (by omega)];unfold rK;rw[VC k];simp
   ·rw[VC (.inr k),wrap_small (by omega) (by omega),b]
  rw[List.foldl_cons,O4 o _ (fun q c=>h q (VP _ c)) (by omega) (by omega),e];omega
theorem O2:∀(o:List Pt)(s:Int),(∀p∈o,bG p=0)->0<=s->s+lv o<=1000000->o.foldl LB s=s+lv o
 |[],s,_,_,_=>by simp[lv]
 |p::o,s,h,f,a=>by
  rw[qI]at a⊢;have b:=h p (VK ..);have d:=mI b;have e:LB s p=s+sZ p:=by
   unfold LB sZ;unfold sZ at a;rcases cz b with k|k|k
   ·rw[VC k]at a;rw[VC k,VC k,wrap_small (by omega) (by omega)];omega
   ·rw[VD (by omega),VC k]at a;rw[VD (by omega),VC k,VD (by omega),VC k,wrap_small (by omega) (by omega)]
   ·rw[VD (by omega),VD (by omega),VD (by omega),VD (by omega)];simp
  rw[List.foldl_cons,O2 o _ (fun q c=>h q (VP _ c)) (by omega) (by omega),e];omega
theorem OI{p:Pt}(h:bG p=0):sZ p<=80:=by
 have c:=mI h;unfold sZ;rcases gA (jN h).1 with⟨k,_⟩|⟨k,a⟩|⟨k,_⟩
 ·rw[VC k];omega
 ·rw[VD (by omega),VC k];unfold mH at a;by_cases b:p.aB.length<1\/80<p.aB.length
  ·rw[VC b]at a;cases a
  ·omega
 ·rw[VD (by omega),VD (by omega)];omega
theorem Kz:∀(o:List Pt),(∀p∈o,bG p=0)->lv o<=o.length*80
 |[],_=>by simp[lv]
 |p::o,h=>by
  rw[qI,VG];have:=OI (h p (VK ..));have:=Kz o (fun q a=>h q (VP _ a));omega
theorem dR.lf{o:List Pt}(h:dR o):Ac.lf o=nd o:=by
 have:=O4 o 0 h.ok (by decide) (by have:=h.sum;omega);unfold Ac.lf;omega
theorem dR.lt{o:List Pt}(h:dR o):Ac.lt o=lv o:=by
 have a:=Kz o h.ok;have b:=h.Ia;have:=O2 o 0 h.ok (by decide) (by omega);unfold Ac.lt;omega
end Ac
theorem TF:prog.elem 23=67:=by kernel_rfl
theorem Gh:prog.underlying 23=some (.slice (prog.elem 23)):=by kernel_rfl
theorem NA(b a n c i k:Nat)(f:i<k)(d:k<=n)(g:n<=c)(w:World):(Instr.slice 23 (.slice (some ⟨b,a,none⟩) n c) (some (.int .i64 i)) (some (.int .i64 k)) none).run prog w=.ok (.slice (some ⟨b,a+i*3,none⟩) (k-i) (c-i)) w:=by
 rw[run_slice_lh (P:=prog) (w:=w) 23 _ n c Gh .i64 .i64 (i:Int) (k:Int) (by omega) (by omega) (by omega),TF,Tryz.sizeOf67 w];simp only[Result.andThen,Int.toNat_natCast]
 congr 1
 unfold sliced;have e:(⟨b,a,none⟩:Addr).add (i*3)=⟨b,a+i*3,none⟩:=by unfold Addr.add;split<;>simp_all
 rw[VD (by omega)];simp only[Option.map_some,e]
theorem At.part{w:World}{b c:Nat}{l:List It}(h:At w b c l)(a q:Nat):At w b (c+a*3) ((l.drop a).take q):=by
 have g:∀i(d:i<((l.drop a).take q).length),∃f:a+i<l.length,((l.drop a).take q)[i]=l[a+i]:=fun i d=>by
  have k:i<(l.drop a).length:=by have:=List.length_take_le q (l.drop a);simp at d;simp;omega
  refine⟨by simp at k;omega,?_⟩
  rw[List.getElem_take,List.getElem_drop]
 refine⟨fun i d=>?_,fun i d=>?_,fun i d=>?_⟩
 ·obtain⟨f,e⟩:=g i d;rw[e,show c+a*3+i*3=c+(a+i)*3 by omega];exact h.c _ f
 ·obtain⟨f,e⟩:=g i d;rw[e,show c+a*3+i*3=c+(a+i)*3 by omega];exact h.m _ f
 ·obtain⟨f,e⟩:=g i d;rw[e,show c+a*3+i*3=c+(a+i)*3 by omega];exact h.l _ f
theorem qC(A D b d n c a q k:Nat)(w:World)(l:Blk w A [.int .i64 a] 3)(s:Blk w D [.slice (some ⟨b,d,none⟩) n c] 23)(p:D≠A)(t:a+q=k)(C:0<q)(r:k<=n)(B:n<=80)(i:n<=c):
  Calls prog 66 #[.int .i64 q,.pointer (some ⟨A,0,none⟩),.pointer (some ⟨D,0,none⟩)] w fun e w'=>e=.returned (.slice (some ⟨b,d+a*3,none⟩) q (c-a))/\w'=w.setCell ⟨A,0,none⟩ (.int .i64 k):=by
 have v:=ja l;have u:=l.frozen 0;have h:Hd (Blk (w.setCell ⟨A,0,none⟩ (.int .i64 k)) A [.int .i64 k] 3):=l.set 0 _;have g:Hd (Blk (w.setCell ⟨A,0,none⟩ (.int .i64 k)) D [.slice (some ⟨b,d,none⟩) n c] 23):=s.other _ _ p;have z:wrap64 ((a:Int)+(q:Int))=(k:Int):=by unfold wrap64;omega
 have y:wrap64 ((k:Int)-(q:Int))=(a:Int):=by unfold wrap64;omega
 have o:=NA b d n c a k (by omega) r i;have f:k-a=q:=by omega
 rw[f]at o;have G:Hd (k<=80):=by show _<=_;omega
 clear l s f t;go_enter func66,ntmps66
 go_upto_region 2 with fail
 change Code.wp prog _ _ _ (w.setCell ⟨A,0,none⟩ (.int .i64 k));obtain⟨W,m⟩:∃W,w.setCell ⟨A,0,none⟩ (.int .i64 k)=W:=⟨_,rfl⟩;rw[m]at h g⊢;have F:=ja h.o;have E:=ja g.o;have x:=hId m;clear m v u;go_wp2
 go_ret
 exact⟨rfl,x.o.symm⟩
structure JP (w2:World) (mv:Value) (s:List It × Nat) (wr:World):Prop where
 own:wr.ownsRow (w2.heap.size+1) 67 3 mv s.1.length (aI s.1)
 JB:Blk wr w2.heap.size [.int .i64 s.2] 3
 bf:Below w2.heap.size w2 wr
 fit:Fit s.1
theorem JP.lt{a:World}{b:Value}{s:List It×Nat}{wr:World}(h:JP a b s wr):a.heap.size<wr.heap.size:=h.JB.lt
theorem JP.push{a:World}{n:Value}{s d:List It×Nat}{wr m l:World}{f:Value}(h:JP a n s wr)(b:Blk m a.heap.size [.int .i64 d.2] 3)(q:Below a.heap.size a m)
  (i:l.ownsRow (a.heap.size+1) 67 3 f d.1.length (aI d.1))(c:m.grownBy l n.ownBlock)(p:Fit d.1):JP a f d l:=by
 have g:∀k,k<a.heap.size+1->some k≠n.ownBlock:=fun k o e=>by have:=aS h.own k e.symm;omega
 refine⟨i,(c.block _ b.lt (g _ (Nat.lt_succ_self _))).trans b,q.trans ⟨c.os,c.tape,c.output,c.size,fun k o=>c.block k (by have:=b.lt;omega) (g k (by omega))⟩,p⟩
theorem qY{l b:List It}(h:Fit l)(c:Fit b):Fit (l++b):=fun x a=>by
 rcases VW.1 a with a|a
 ·exact h x a
 ·exact c x a
theorem pI{l:List It}(h:Fit l)(c:Ac.Ch)(d:c.link.size<=9223372036854775807):Fit (l.map fun x=>Ac.change x c):=fun x b=>by
 obtain⟨y,a,rfl⟩:=XI.1 b;unfold Ac.change;simp only
 split
 ·exact d
 ·exact h y a
theorem Ab{l:List It}(h:Fit l)(a q:Nat):Fit ((l.drop a).take q):=fun x b=>h x (List.mem_of_mem_drop (List.mem_of_mem_take b))
theorem FD{l:List It}(h:Ac.M4 l)(a q:Nat):Ac.M4 ((l.drop a).take q):=fun x b=>h x (List.mem_of_mem_drop (List.mem_of_mem_take b))
