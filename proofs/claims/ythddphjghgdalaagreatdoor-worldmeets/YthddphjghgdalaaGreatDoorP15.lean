/- A part. -/
import Derived.Test.YthddphjghgdalaaGreatDoorP14
import Derived.Deep.Onto
set_option maxRecDepth 100000
set_option maxHeartbeats 12800000
namespace Go.Proofs.YthddphjghgdalaaGreatDoor
open Go.RowKit Go.Proofs.Tryz
theorem um{w:World}{g:Nat}{a:Option Addr}{n c:Nat}{T:TypeId}(h:Blk w g [.slice a n c] T){b o:Nat}{u:Value}(d:w.cell? ⟨b,o,none⟩=some u)(e:∀a n c,u≠.slice a n c):b≠g:=by
 rintro rfl;rw[h.cell o]at d
 cases o with
 |zero=>exact e _ _ _ (WU d).symm
 |succ o=>cases d
theorem TI(w:World):cy w none 0 0 []:=⟨fun x a=>absurd a (by simp),rfl,UZ _,by decide,fun h=>absurd rfl h⟩
theorem cy.ku{w:World}{a:Option Addr}{n c:Nat}{l:List It}{g:Nat}{t:Option Addr}{p s:Nat}{T:TypeId}(h:cy w a n c l)(r:Blk w g [.slice t p s] T)(v:Value):cy (w.setCell ⟨g,0,none⟩ v) a n c l:=
 ⟨h.fit,h.len,h.room,h.fg,fun q=>by
  obtain⟨b,m,e,f⟩:=h.bH q;have o:=um r (f.c 0 (by rw[h.len];omega)) (fun _ _ _ e=>by cases e);have k:=XN w ⟨g,0,none⟩ v b o;exact⟨b,m,e,⟨fun i d=>(WC (w:=w) k).trans (f.c i d),fun i d=>(WC (w:=w) k).trans (f.m i d),fun i d=>(WC (w:=w) k).trans (f.l i d)⟩⟩⟩
theorem Row.ku{w:World}{a:Option Addr}{n c sz:Nat}{cs:List Value}{g:Nat}{s:Option Addr}{m r:Nat}{T:TypeId}(h:Row w a n c sz cs)(q:Blk w g [.slice s m r] T)(o:n≠0->∃u,cs[0]?=some u/\∀a n c,u≠.slice a n c)(v:Value):Row (w.setCell ⟨g,0,none⟩ v) a n c sz cs:=
 ⟨h.len,h.room,h.fg,fun k=>by
  obtain⟨b,f,e,l⟩:=h.bH k;obtain⟨u,d,i⟩:=o k;have p:=XN w ⟨g,0,none⟩ v b (um q (l 0 u d) i);exact⟨b,f,e,fun j u d=>(WC (w:=w) p).trans (l j u d)⟩⟩
theorem ae.ku{w:World}{a:Option Addr}{n c:Nat}{b:List PV}{g:Nat}{o:Option Addr}{k m:Nat}{T:TypeId}(h:ae w a n c b)(i:Blk w g [.slice o k m] T)(v:Value):ae (w.setCell ⟨g,0,none⟩ v) a n c b:=
 ⟨h.row.ku i (fun l=>by
  have d:=h.len;match b,d with
  |[],d=>exact absurd d.symm l
  |x::b,_=>exact⟨.int .i64 x.kind,rfl,fun _ _ _ e=>by cases e⟩) v,fun x f=>⟨(h.iE x f).jd.ku i v,(h.iE x f).fit⟩⟩
theorem fQ.ku{w:World}{a:Option Addr}{n c:Nat}{b:List EV}{g:Nat}{o:Option Addr}{i m:Nat}{T:TypeId}(h:fQ w a n c b)(f:Blk w g [.slice o i m] T)(v:Value):fQ (w.setCell ⟨g,0,none⟩ v) a n c b:=
 ⟨h.row.ku f (fun l=>by
  have d:=h.len;match b,d with
  |[],d=>exact absurd d.symm l
  |x::b,_=>exact⟨.int .i64 x.aR,rfl,fun _ _ _ e=>by cases e⟩) v,fun x k=>(h.ops x k).ku f v⟩
theorem df.ku{w:World}{g:Nat}{k:Option Addr}{c i:Nat}{T:TypeId}(h:df w)(d:Blk w g [.slice k c i] T)(v:Value):df (w.setCell ⟨g,0,none⟩ v):=by
 obtain⟨t,f,b⟩:=h;have a:0≠g:=by
  rintro rfl;have e:=b.symm.trans d;simp only[Option.some.injEq,Obj.cells.injEq]at e
  have:lq.size=1:=by rw[e.1];rfl
  exact absurd this (by decide)
 exact⟨t,f,(XN w ⟨g,0,none⟩ v _ a).trans b⟩
theorem IX(v:EV)(g:Nat)(a:Option Addr)(n c:Nat)(l:List It)(w:World)(s:Blk w g [.slice a n c] 23)(r:cy w a n c l)(q:ae w v.ao v.n v.cap v.vs)(p:df w):
  Calls prog 39 #[.agg #[.int .i64 v.aR,.int .i64 v.seq,.slice v.ao v.n v.cap],.pointer (some ⟨g,0,none⟩)] w fun e w'=>e=.returned (.int .i64 (Ac.ag l v.en.o))/\∃b f h d,w'=b.setCell ⟨g,0,none⟩ (.slice f h d)/\Below w.heap.size w b/\cy b f h d (Ac.done l v.en.o):=by
 have F:=hId (jk a v.ao n c v.n v.cap l v.vs _ (r.below (aW v w)) (q.below (aW v w)) (p.below (aW v w)));have z:=hId (aW v w);have m:Hd (Blk (dU v w) g [.slice a n c] 23):=s.alloc _;have A:=hId (km v w);clear s r q p;change Calls prog _ _ _ fun e w'=>e=.returned (.int .i64 (Ac.ag l (v.vs.map PV.pt)))/\∃b f h d,w'=b.setCell ⟨g,0,none⟩ (.slice f h d)/\Below w.heap.size w b/\cy b f h d (Ac.done l (v.vs.map PV.pt));generalize Ac.ag l (v.vs.map PV.pt)=E at*;generalize Ac.done l (v.vs.map PV.pt)=D at*;go_enter func39,ntmps39
 go_upto_region 1 with fail
 change Code.wp prog _ _ _ (dU v w);generalize dU v w=W at*;obtain⟨y,x,u⟩:=A.o;simp only[VR]at y x u
 have t:=ja m.o;go_wp2_with fail
 refine F.o.mono ?_
 rintro e b⟨⟨f,d,rfl,o⟩,k⟩;have B:=hId o;have C:=hId (z.o.trans (k.mono z.o.size));have i:Hd (Blk b g [.slice a n c] 23):=(k.block _ m.o.lt).trans m.o;clear o k y x u t;have t:=ja i.o;have G:=i.o.frozen 0;go_wp2
 go_ret
 exact⟨rfl,b,f,_,d,rfl,C.o,B.o⟩
theorem Ig(B g:Nat)(a:Option Addr)(n c:Nat)(l:List It)(C:Option Addr)(r A:Nat)(b:List EV)(w:World)(X:B<=g)(Q:B<=w.heap.size)(hB:Blk w g [.slice a n c] 23)(Z:cy w a n c l)(s:fQ w C r A b)(Y:df w):
  Calls prog 38 #[.slice C r A,.func (.func 39) #[] #[.pointer (some ⟨g,0,none⟩)]] w fun e w'=>e=.returned (.int .i64 (Sv.cM l (b.map EV.en)))/\(∃i d f,Blk w' g [.slice i d f] 23/\cy w' i d f (Sv.cS l (b.map EV.en)))/\Below B w w':=by
 refine(Ap 39 (.pointer (some ⟨g,0,none⟩)) C r A b
  (fun k wr=>Below B w wr/\fQ wr C r A b/\df wr/\∃i d f o,Blk wr g [.slice i d f] 23/\cy wr i d f o/\Sv.cM o ((b.map EV.en).drop k)=Sv.cM l (b.map EV.en)/\Sv.cS o ((b.map EV.en).drop k)=Sv.cS l (b.map EV.en))
  (fun E wr=>Below B w wr/\E=Sv.cM l (b.map EV.en)/\∃i d f,Blk wr g [.slice i d f] 23/\cy wr i d f (Sv.cS l (b.map EV.en)))
  w (.inl rfl) ⟨s.row.room,s.row.fg,s.len⟩ (fun k wr h=>h.2.1) (fun k wr v h=>?_) ⟨VE _ _,s,Y,a,n,c,l,hB,Z,rfl,rfl⟩ (fun k S wr h=>?_)).mono ?_
 ·obtain⟨q,I,H,i,d,f,o,t,K,G,F⟩:=h;exact⟨q.trans ((aW v wr).mono (VX Q q.size)),I.below (aW v wr),H.below (aW v wr),i,d,f,o,t.alloc _,K.below (aW v wr),G,F⟩
 ·obtain⟨q,I,H,i,d,f,o,t,K,G,F⟩:=h;refine(IX b[k] g i d f o wr t K (I.ops _ (WT S)) H).mono ?_
  rintro e w'⟨rfl,P,N,J,L,rfl,D,T⟩;have m:Blk P g [.slice i d f] 23:=(D.block _ t.lt).trans t;have u:Below B w (P.setCell ⟨g,0,none⟩ (.slice N J L)):=(q.trans (D.mono (VX Q q.size))).setCell X _;have O:∀(x:List It),Sv.cM x ((b.map EV.en).drop k)=(if Ac.ag x b[k].en.o=0 then Sv.cM (Ac.done x b[k].en.o) ((b.map EV.en).drop (k+1))else Ac.ag x b[k].en.o)/\Sv.cS x ((b.map EV.en).drop k)=(if Ac.ag x b[k].en.o=0 then Sv.cS (Ac.done x b[k].en.o) ((b.map EV.en).drop (k+1))else Ac.done x b[k].en.o):=fun x=>by
   rw[VU (by rw[VH];exact S),List.getElem_map];exact⟨rfl,rfl⟩
  obtain⟨z,y⟩:=O o;refine⟨_,rfl,fun p=>?_,fun p=>?_⟩
  ·rw[VC p]at z y;exact⟨u,(I.below D).ku m _,(H.below D).ku m _,N,J,L,_,m.set 0 _,T.ku m _,by rw[<-z];exact G,by rw[<-y];exact F⟩
  ·rw[VD p]at z y;exact⟨u,by rw[<-z];exact G,N,J,L,m.set 0 _,by rw[<-F,y];exact T.ku m _⟩
 ·rintro e w'⟨E,rfl,h0,q⟩;by_cases p:E=0
  ·obtain⟨M,-,-,i,d,f,o,b4,b5,V,U⟩:=h0 p;have W:(b.map EV.en).drop r=[]:=WI (by rw[VH,s.len];exact UZ _);rw[W]at V U;exact⟨by rw[p,<-V];rfl,⟨i,d,f,b4,by rw[<-U];exact b5⟩,M⟩
  ·obtain⟨M,b2,b3⟩:=q p;exact⟨by rw[b2],b3,M⟩
theorem Dz(y:Option Addr)(n o:Nat)(l:List It)(w:World)(q:cy w y n o l)(G:0<n)(J:n<=80):
  Calls prog 37 #[.slice y n o] w fun e w'=>(∃g c,e=.returned (.slice (some ⟨g,0,none⟩) n c)/\w.heap.size<=g/\cy w' (some ⟨g,0,none⟩) n c l)/\Below w.heap.size w w':=by
 obtain⟨D,F,t,s,r⟩:=info_parts Tryz.DQ;obtain⟨b,p,rfl,x⟩:=q.bH (by omega);have H:=hId x;have A:=hId q.len;have u:=hId q.fit;have B:∀w,(binOp .eql 23 (.slice (some ⟨b,p,none⟩) n o) (.slice none 0 0)).run prog w=.ok (.bool false) w:=fun w=>Lib.run_eql_slice_nil (P:=prog) w 23 67 _ _ _ _ _ underlying23;clear x q;go_enter func37,ntmps37
 go_wp2_with (at_builtin;refine wpList_append_lies _ rfl (.tmp 5) (.tmp 6) 23 rfl w.heap.size 67 D (.agg #[.int .u8 0,.int .i64 0,.string ⟨#[]⟩]) 3 32 underlying23 F t s r rfl (by decide) _ 0 [] rfl ?c1 ⟨b,p,none⟩ n o (aI l) rfl ?c2 ?c3 (bR l) G ?c4 ?c5 ?c6 _ rfl ?c7)
 case c1=>exact World.ownsRow_lit w #[] 0 (UZ _) (by decide) rfl
 case c2=>rw[dP,A.o]
 case c3=>exact lW (H.o.below ((VE _ _).alloc (UZ _) _))
 case c4=>unfold maxLen;omega
 case c5=>omega
 case c6=>simp
 case c7=>
  intro g i C f m _ _;have I:=hId (((VE w.heap.size w).alloc (UZ _) (.cells #[] 67)).grown m (by simp) (fun k E=>by simp[Value.ownBlock]at E;omega));have d:n<=i/\i<=9223372036854775807:=(bg f).elim fun a h=>h.elim fun c h=>by obtain⟨e,v⟩:=h;simp only[Value.slice.injEq]at e;obtain⟨_,_,rfl⟩:=e;exact⟨v.room,v.fg⟩
  have z:Hd (w.heap.size<=g/\cy C (some ⟨g,0,none⟩) n i l):=⟨aS f g rfl,u.o,A.o,d.1,d.2,fun _=>⟨g,0,rfl,C9 f⟩⟩;clear f m d;go_wp2
  go_ret
  exact⟨⟨g,i,rfl,z.o.1,z.o.2⟩,I.o⟩
theorem Dc.eM{l:List It}(h:Dc.check l=0):0<l.length/\l.length<=80:=by
 by_cases a:80<l.length
 ·rw[Dc.pL a]at h;cases h
 ·refine⟨?_,by omega⟩
  cases l with
  |nil=>exact absurd h (by decide)
  |cons x l=>simp
def BH (a:Option Addr) (n c:Nat) (w:World):World:=w.alloc (.cells #[.slice a n c] 23)
theorem mQ(a:Option Addr)(n c:Nat)(w:World):Below w.heap.size w (BH a n c w):=(VE _ _).alloc (UZ _) _
theorem MH(a:Option Addr)(n c:Nat)(w:World):Blk (BH a n c w) w.heap.size [.slice a n c] 23:=Blk.new w _ _
theorem AZ(J:Option Addr)(n m:Nat)(d:List It)(I:Option Addr)(u H:Nat)(f:List EV)(w:World)(x:cy w J n m d)(z:fQ w I u H f)(y:df w):
  Calls prog 18 #[.slice J n m,.slice I u H] w fun e w'=>(∃a o c,e=.returned (.tuple #[.slice a o c,.int .i64 (Sv.ky d (f.map EV.en))])/\cy w' a o c (Sv.k7 d (f.map EV.en)))/\Below w.heap.size w w':=by
 have C:=hId (iq J n m d w x y);have l:(f.map EV.en).length=u:=by rw[VH];exact z.len
 by_cases k:Dc.check d=0
 ·by_cases Y:60<u
  ·have h:Sv.ky d (f.map EV.en)=2:=by unfold Sv.ky;rw[VC k,VC (by omega)]
   have i:Sv.k7 d (f.map EV.en)=[]:=by unfold Sv.k7;rw[VC k,VC (by omega)]
   rw[h,i];rw[k]at C;clear h i l x z y k;go_enter func18,ntmps18
   go_wp2_with fail
   refine C.o.mono ?_
   rintro e G⟨rfl,b⟩;have q:=hId b;clear b;go_wp2
   exact VL (v:=.tuple #[.slice none 0 0,.int .i64 2]) (by simp[results,Tryz.results18,go_sem]) rfl ⟨⟨none,0,0,rfl,TI G⟩,q.o⟩
  ·have h:Sv.ky d (f.map EV.en)=Sv.cM d (f.map EV.en):=by unfold Sv.ky;rw[VC k,VD (by omega)]
   have i:Sv.k7 d (f.map EV.en)=Sv.cS d (f.map EV.en):=by unfold Sv.k7;rw[VC k,VD (by omega)]
   have L:=Dc.eM k;rw[x.len]at L;obtain⟨O,N⟩:=L;rw[h,i];rw[k]at C;have T:=hId (fun w' b=>Dz J n m d w' (x.below b) O N);have U:Hd (∀a c w',Below w.heap.size w w'->cy w' a n c d->Calls prog 38 #[.slice I u H,.func (.func 39) #[] #[.pointer (some ⟨w'.heap.size,0,none⟩)]] (BH a n c w') fun e s=>e=.returned (.int .i64 (Sv.cM d (f.map EV.en)))/\(∃B o A,Blk s w'.heap.size [.slice B o A] 23/\cy s B o A (Sv.cS d (f.map EV.en)))/\Below w'.heap.size (BH a n c w') s):=fun a c w' b p=>
    Ig w'.heap.size w'.heap.size a n c d I u H f _ (UZ _) (by unfold BH;rw[WO];omega) (MH a n c w') (p.below (mQ a n c w')) ((z.below b).below (mQ a n c w')) ((y.below b).below (mQ a n c w'))
   clear h i l x z y k;generalize Sv.cM d (f.map EV.en)=E at*;generalize Sv.cS d (f.map EV.en)=D at*;go_enter func18,ntmps18
   go_wp2_with fail
   refine C.o.mono ?_
   rintro e G⟨rfl,b⟩;have q:=hId b;clear b;go_wp2_with fail
   refine(T.o _ q.o).mono ?_
   rintro e t⟨⟨g,c,rfl,-,p⟩,b⟩;have K:=hId (q.o.trans (b.mono q.o.size));have F:=U.o _ c t K.o p;have S:Hd (Below t.heap.size t (BH (some ⟨g,0,none⟩) n c t)):=mQ _ _ _ _;clear b p;go_wp2_with fail
   change Calls prog _ _ (BH (some ⟨g,0,none⟩) n c t) _;generalize BH (some ⟨g,0,none⟩) n c t=W at*;refine F.mono ?_
   rintro e X⟨rfl,⟨B,o,A,M,p⟩,b⟩;have P:=hId p;have Q:=hId (K.o.trans ((S.o.trans b).mono K.o.size));have Z:=ja M;clear p b M F;go_wp2
   exact VL (v:=.tuple #[.slice B o A,.int .i64 E]) (by simp[results,Tryz.results18,go_sem]) rfl ⟨⟨B,o,A,rfl,P.o⟩,Q.o⟩
 ·have h:Sv.ky d (f.map EV.en)=Dc.check d:=by unfold Sv.ky;rw[VD k]
  have i:Sv.k7 d (f.map EV.en)=[]:=by unfold Sv.k7;rw[VD k]
  rw[h,i];clear h i l x z y;generalize Dc.check d=r at*;have V:(r !=0)=true:=by simp[k]
  go_enter func18,ntmps18
  go_wp2_with fail
  refine C.o.mono ?_
  rintro e G⟨rfl,b⟩;have q:=hId b;clear b;go_wp2
  exact VL (v:=.tuple #[.slice none 0 0,.int .i64 r]) (by simp[results,Tryz.results18,go_sem]) rfl ⟨⟨none,0,0,rfl,TI G⟩,q.o⟩
theorem zU(s:SV)(w:World)(I:nU w s)(O:df w):
  Calls prog 32 #[.agg #[.slice s.fa s.fn s.fc,.slice s.la s.ln s.lc,.slice s.na s.nn s.nc]] w fun e w'=>e=.returned (.int .i64 (Sv.dL s.se))/\Below w.heap.size w w':=by
 have p:=hId (bM s w);have f:=hId (fI s w);have t:=I.below p.o;have B:=O.below p.o;have G:=hId (Ih s.la s.ln s.lc s.log _ t.log B);have K:Hd (∀w',Below (ai s w).heap.size (ai s w) w'->Calls prog 18 #[.slice s.fa s.fn s.fc,.slice s.la s.ln s.lc] w' fun e q=>(∃a N c,e=.returned (.tuple #[.slice a N c,.int .i64 (Sv.ky s.first (s.log.map EV.en))])/\cy q a N c (Sv.k7 s.first (s.log.map EV.en)))/\Below w'.heap.size w' q):=fun w' b=>AZ _ _ _ _ _ _ _ _ _ (t.first.below b) (t.log.below b) (B.below b);have P:Hd (∀w' a n c,Below (ai s w).heap.size (ai s w) w'->cy w' a n c (Sv.k7 s.first (s.log.map EV.en))->Calls prog 15 #[.slice s.na s.nn s.nc,.slice a n c] w' fun e q=>e=.returned (.bool (Dc.same s.now (Sv.k7 s.first (s.log.map EV.en))))/\Below w'.heap.size w' q):=fun w' a n c b u=>(gJ _ _ _ _ _ _ _ _ _ (t.now.below b) u).mono fun e q⟨h,m,S⟩=>⟨h,by rw[S];exact bJ _ m⟩;have A:(s.log.map EV.en).length=s.ln:=by rw[VH];exact I.log.len
 clear I O t B;obtain⟨r,k⟩:∃r,Sv.dL s.se=r:=⟨_,rfl⟩;rw[k];change (if 60<(s.log.map EV.en).length then(2:Int)else if Sv.dQ (s.log.map EV.en)=0 then(if Sv.ky s.first (s.log.map EV.en)=0 then(if Dc.same s.now (Sv.k7 s.first (s.log.map EV.en))=true then 0 else 4)else Sv.ky s.first (s.log.map EV.en))else Sv.dQ (s.log.map EV.en))=r at k;rw[A]at k;clear A;generalize Sv.dQ (s.log.map EV.en)=x at*;generalize Sv.ky s.first (s.log.map EV.en)=y at*;generalize Sv.k7 s.first (s.log.map EV.en)=D at*;generalize Dc.same s.now D=z at*;by_cases E:60<s.ln
 ·obtain rfl:r=2:=by rw[<-k,VC E]
  clear k;go_enter func32,ntmps32
  go_upto_region 1 with fail
  change Code.wp prog _ _ _ (ai s w);obtain⟨i,g,l⟩:=mi f.o;generalize ai s w=W at*;go_wp2
  go_ret
  exact⟨rfl,p.o⟩
 ·by_cases v:x=0
  ·by_cases C:y=0
   ·cases z
    ·obtain rfl:r=4:=by rw[<-k,VD E,VC v,VC C];rfl
     clear k;subst v C;go_enter func32,ntmps32
     go_upto_region 1 with fail
     change Code.wp prog _ _ _ (ai s w);obtain⟨i,g,l⟩:=mi f.o;generalize ai s w=W at*;go_wp2_with fail
     refine G.o.mono ?_
     rintro e H⟨rfl,b⟩;have d:=hId b;clear b i g l;have i:=aA (f.o.cell 0) d.o;have g:=aA (f.o.cell 1) d.o;go_wp2_with fail
     refine(K.o _ d.o).mono ?_
     rintro e M⟨⟨a,n,c,rfl,u⟩,b⟩;have F:=hId u;have o:=hId (d.o.trans (b.mono d.o.size));clear b u i g;have l:=aA (f.o.cell 2) o.o;go_wp2_with fail
     refine(P.o _ a n c o.o F.o).mono ?_
     rintro e Q⟨rfl,b⟩;have J:=hId (o.o.trans (b.mono o.o.size));clear b l;go_wp2
     go_ret
     exact⟨rfl,p.o.trans (J.o.mono p.o.size)⟩
    ·obtain rfl:r=0:=by rw[<-k,VD E,VC v,VC C];rfl
     clear k;subst v C;go_enter func32,ntmps32
     go_upto_region 1 with fail
     change Code.wp prog _ _ _ (ai s w);obtain⟨i,g,l⟩:=mi f.o;generalize ai s w=W at*;go_wp2_with fail
     refine G.o.mono ?_
     rintro e H⟨rfl,b⟩;have d:=hId b;clear b i g l;have i:=aA (f.o.cell 0) d.o;have g:=aA (f.o.cell 1) d.o;go_wp2_with fail
     refine(K.o _ d.o).mono ?_
     rintro e M⟨⟨a,n,c,rfl,u⟩,b⟩;have F:=hId u;have o:=hId (d.o.trans (b.mono d.o.size));clear b u i g;have l:=aA (f.o.cell 2) o.o;go_wp2_with fail
     refine(P.o _ a n c o.o F.o).mono ?_
     rintro e Q⟨rfl,b⟩;have J:=hId (o.o.trans (b.mono o.o.size));clear b l;go_wp2
     go_ret
     exact⟨rfl,p.o.trans (J.o.mono p.o.size)⟩
   ·obtain rfl:r=y:=by rw[<-k,VD E,VC v,VD C]
    clear k;subst v;have L:(r==0)=false:=by simp[C]
    go_enter func32,ntmps32
    go_upto_region 1 with fail
    change Code.wp prog _ _ _ (ai s w);obtain⟨i,g,l⟩:=mi f.o;generalize ai s w=W at*;go_wp2_with fail
    refine G.o.mono ?_
    rintro e H⟨rfl,b⟩;have d:=hId b;clear b i g l;have i:=aA (f.o.cell 0) d.o;have g:=aA (f.o.cell 1) d.o;go_wp2_with fail
    refine(K.o _ d.o).mono ?_
    rintro e M⟨⟨a,n,c,rfl,u⟩,b⟩;have F:=hId u;have o:=hId (d.o.trans (b.mono d.o.size));clear b u i g;have l:=aA (f.o.cell 2) o.o;go_wp2
    go_ret
    exact⟨rfl,p.o.trans (o.o.mono p.o.size)⟩
  ·obtain rfl:r=x:=by rw[<-k,VD E,VD v]
   clear k;have L:(r !=0)=true:=by simp[v]
   go_enter func32,ntmps32
   go_upto_region 1 with fail
   change Code.wp prog _ _ _ (ai s w);obtain⟨i,g,l⟩:=mi f.o;generalize ai s w=W at*;go_wp2_with fail
   refine G.o.mono ?_
   rintro e H⟨rfl,b⟩;have d:=hId b;clear b i g l;have i:=aA (f.o.cell 0) d.o;have g:=aA (f.o.cell 1) d.o;go_wp2
   go_ret
   exact⟨rfl,p.o.trans (d.o.mono p.o.size)⟩
theorem Tryz.Sw:(prog.info? 71).map (fun i=>(i.zero,i.size,i.bytes))=some (some (.agg #[.int .i64 0,.int .i64 0,.slice none 0 0]),3,40):=by kernel_rfl
theorem jc{w:World}{a:Option Addr}{n c:Nat}{l:List It}(h:cy w a n c l):Row w a n c 3 (aI l):=
 ⟨by rw[dP,h.len],h.room,h.fg,fun g=>by
  obtain⟨b,d,e,i⟩:=h.bH g;exact⟨b,d,e,fun j u f=>by have:=lW i j u f;rw[iU]at this;exact this⟩⟩
theorem bT{w:World}{a:Option Addr}{n c:Nat}{l:List It}(h:Row w a n c 3 (aI l))(m:Fit l):cy w a n c l:=
 ⟨m,by have:=h.len;rw[dP]at this;omega,h.room,h.fg,fun k=>by
  obtain⟨b,g,e,f⟩:=h.bH k;exact⟨b,g,e,⟨fun i d=>f _ _ (cZ l i d).1,fun i d=>by rw[WX];exact f _ _ (cZ l i d).2.1,fun i d=>by rw[WX];exact f _ _ (cZ l i d).2.2⟩⟩⟩
theorem cy.kept{w w':World}{a:Option Addr}{n c:Nat}{l:List It}{S:List Nat}(h:cy w a n c l)(e:Kept w w' S)(d:∀b:Addr,n≠0->a=some b->b.block∉S):cy w' a n c l:=bT ((jc h).kept (by decide) e d) h.fit
theorem Dx(l:Option Addr)(n f:Nat)(cs:List Value)(w:World)(i:Row w l n f 3 cs)(s:∀u∈cs,u.oneCell'=true)(J:n<=80):
  Calls prog 89 #[.slice l n f] w fun e w'=>(∃v,e=.returned v/\w'.ownsRow w.heap.size 67 3 v n cs)/\Below w.heap.size w w':=by
 obtain⟨z,B,p,o,m⟩:=info_parts Tryz.DQ;have F:=hId i;have G:=hId s;have d:=i.len;have a:=i.bH;clear i s
 cases l with
 |none=>
  have D:n=0:=by
   by_cases r:n=0
   ·exact r
   ·obtain⟨b,I,e,_⟩:=a r;cases e
  subst D;have C:cs=[]:=by rw[XQ]at d;exact VS.1 d
  subst C;have h:∀w,(binOp .eql 22 (.slice none 0 f) (.slice none 0 0)).run prog w=.ok (.bool true) w:=fun w=>Lib.run_eql_slice_nil (P:=prog) w 22 67 _ _ _ _ _ underlying22;clear a d;go_enter func89,ntmps89
  go_wp2
  go_ret
  exact⟨⟨_,rfl,XM _ _ _ _⟩,VE _ _⟩
 |some t=>
  have h:∀w,(binOp .eql 22 (.slice (some t) n f) (.slice none 0 0)).run prog w=.ok (.bool false) w:=fun w=>Lib.run_eql_slice_nil (P:=prog) w 22 67 _ _ _ _ _ underlying22;clear a d;have x:Hd (Below w.heap.size w (w.alloc (.cells #[] 67))):=(VE _ _).alloc (UZ _) _;go_enter func89,ntmps89
  go_wp2_with (at_builtin;refine az _ rfl (.tmp 5) (.tmp 6) 22 rfl w.heap.size 67 z (.agg #[.int .u8 0,.int .i64 0,.string ⟨#[]⟩]) 3 32 underlying22 B p o m rfl (by decide) _ 0 [] rfl ?c1 (some t) n f cs rfl ?c2 G.o ?c3 ?c4 ?c5 ?c6)
  case c1=>exact World.ownsRow_lit w #[] 0 (UZ _) (by decide) rfl
  case c2=>exact F.o.below x.o
  case c3=>unfold maxLen;omega
  case c4=>omega
  case c5=>simp
  case c6=>
   intro v y c g q;have H:=hId (x.o.grown g (by simp) (fun k A=>by simp[Value.ownBlock]at A;omega));have E:Hd (y.ownsRow w.heap.size 67 3 v n cs):=by first|exact c|(rw[VR]at c;exact c)
   clear c g q;go_wp2
   go_ret
   exact⟨⟨v,rfl,E.o⟩,H.o⟩
theorem gy(l:Option Addr)(n f:Nat)(cs:List Value)(w:World)(i:Row w l n f 3 cs)(s:∀u∈cs,u.oneCell'=true)(J:n<=80):
  Calls prog 37 #[.slice l n f] w fun e w'=>(∃v,e=.returned v/\w'.ownsRow w.heap.size 67 3 v n cs)/\Below w.heap.size w w':=by
 obtain⟨z,B,p,o,m⟩:=info_parts Tryz.DQ;have F:=hId i;have G:=hId s;have d:=i.len;have a:=i.bH;clear i s
 cases l with
 |none=>
  have D:n=0:=by
   by_cases r:n=0
   ·exact r
   ·obtain⟨b,I,e,_⟩:=a r;cases e
  subst D;have C:cs=[]:=by rw[XQ]at d;exact VS.1 d
  subst C;have h:∀w,(binOp .eql 23 (.slice none 0 f) (.slice none 0 0)).run prog w=.ok (.bool true) w:=fun w=>Lib.run_eql_slice_nil (P:=prog) w 23 67 _ _ _ _ _ underlying23;clear a d;go_enter func37,ntmps37
  go_wp2
  go_ret
  exact⟨⟨_,rfl,XM _ _ _ _⟩,VE _ _⟩
 |some t=>
  have h:∀w,(binOp .eql 23 (.slice (some t) n f) (.slice none 0 0)).run prog w=.ok (.bool false) w:=fun w=>Lib.run_eql_slice_nil (P:=prog) w 23 67 _ _ _ _ _ underlying23;clear a d;have x:Hd (Below w.heap.size w (w.alloc (.cells #[] 67))):=(VE _ _).alloc (UZ _) _;go_enter func37,ntmps37
  go_wp2_with (at_builtin;refine az _ rfl (.tmp 5) (.tmp 6) 23 rfl w.heap.size 67 z (.agg #[.int .u8 0,.int .i64 0,.string ⟨#[]⟩]) 3 32 underlying23 B p o m rfl (by decide) _ 0 [] rfl ?c1 (some t) n f cs rfl ?c2 G.o ?c3 ?c4 ?c5 ?c6)
  case c1=>exact World.ownsRow_lit w #[] 0 (UZ _) (by decide) rfl
  case c2=>exact F.o.below x.o
  case c3=>unfold maxLen;omega
  case c4=>omega
  case c5=>simp
  case c6=>
   intro v y c g q;have H:=hId (x.o.grown g (by simp) (fun k A=>by simp[Value.ownBlock]at A;omega));have E:Hd (y.ownsRow w.heap.size 67 3 v n cs):=by first|exact c|(rw[VR]at c;exact c)
   clear c g q;go_wp2
   go_ret
   exact⟨⟨v,rfl,E.o⟩,H.o⟩
theorem pK(l:Option Addr)(n f:Nat)(cs:List Value)(w:World)(i:Row w l n f 7 cs)(s:∀u∈cs,u.oneCell'=true)(J:n<=80):
  Calls prog 59 #[.slice l n f] w fun e w'=>(∃v,e=.returned v/\w'.ownsRow w.heap.size 100 7 v n cs)/\Below w.heap.size w w':=by
 obtain⟨z,B,p,o,m⟩:=info_parts Tryz.vj;have F:=hId i;have G:=hId s;have d:=i.len;have a:=i.bH;clear i s
 cases l with
 |none=>
  have D:n=0:=by
   by_cases r:n=0
   ·exact r
   ·obtain⟨b,I,e,_⟩:=a r;cases e
  subst D;have C:cs=[]:=by rw[XQ]at d;exact VS.1 d
  subst C;have h:∀w,(binOp .eql 32 (.slice none 0 f) (.slice none 0 0)).run prog w=.ok (.bool true) w:=fun w=>Lib.run_eql_slice_nil (P:=prog) w 32 100 _ _ _ _ _ underlying32;clear a d;go_enter func59,ntmps59
  go_wp2
  go_ret
  exact⟨⟨_,rfl,XM _ _ _ _⟩,VE _ _⟩
 |some t=>
  have h:∀w,(binOp .eql 32 (.slice (some t) n f) (.slice none 0 0)).run prog w=.ok (.bool false) w:=fun w=>Lib.run_eql_slice_nil (P:=prog) w 32 100 _ _ _ _ _ underlying32;clear a d;have x:Hd (Below w.heap.size w (w.alloc (.cells #[] 100))):=(VE _ _).alloc (UZ _) _;go_enter func59,ntmps59
  go_wp2_with (at_builtin;refine az _ rfl (.tmp 5) (.tmp 6) 32 rfl w.heap.size 100 z (.agg #[.int .i64 0,.int .i64 0,.slice none 0 0,.int .i64 0,.int .i64 0,.bool false,.string ⟨#[]⟩]) 7 80 underlying32 B p o m rfl (by decide) _ 0 [] rfl ?c1 (some t) n f cs rfl ?c2 G.o ?c3 ?c4 ?c5 ?c6)
  case c1=>exact World.ownsRow_lit w #[] 0 (UZ _) (by decide) rfl
  case c2=>exact F.o.below x.o
  case c3=>unfold maxLen;omega
  case c4=>omega
  case c5=>simp
  case c6=>
   intro v y c g q;have H:=hId (x.o.grown g (by simp) (fun k A=>by simp[Value.ownBlock]at A;omega));have E:Hd (y.ownsRow w.heap.size 100 7 v n cs):=by first|exact c|(rw[VR]at c;exact c)
   clear c g q;go_wp2
   go_ret
   exact⟨⟨v,rfl,E.o⟩,H.o⟩
theorem Dy(l:Option Addr)(n f:Nat)(cs:List Value)(w:World)(i:Row w l n f 3 cs)(s:∀u∈cs,u.oneCell'=true)(J:n<=80):
  Calls prog 68 #[.slice l n f] w fun e w'=>(∃v,e=.returned v/\w'.ownsRow w.heap.size 71 3 v n cs)/\Below w.heap.size w w':=by
 obtain⟨z,B,p,o,m⟩:=info_parts Tryz.Sw;have F:=hId i;have G:=hId s;have d:=i.len;have a:=i.bH;clear i s
 cases l with
 |none=>
  have D:n=0:=by
   by_cases r:n=0
   ·exact r
   ·obtain⟨b,I,e,_⟩:=a r;cases e
  subst D;have C:cs=[]:=by rw[XQ]at d;exact VS.1 d
  subst C;have h:∀w,(binOp .eql 24 (.slice none 0 f) (.slice none 0 0)).run prog w=.ok (.bool true) w:=fun w=>Lib.run_eql_slice_nil (P:=prog) w 24 71 _ _ _ _ _ underlying24;clear a d;go_enter func68,ntmps68
  go_wp2
  go_ret
  exact⟨⟨_,rfl,XM _ _ _ _⟩,VE _ _⟩
 |some t=>
  have h:∀w,(binOp .eql 24 (.slice (some t) n f) (.slice none 0 0)).run prog w=.ok (.bool false) w:=fun w=>Lib.run_eql_slice_nil (P:=prog) w 24 71 _ _ _ _ _ underlying24;clear a d;have x:Hd (Below w.heap.size w (w.alloc (.cells #[] 71))):=(VE _ _).alloc (UZ _) _;go_enter func68,ntmps68
  go_wp2_with (at_builtin;refine az _ rfl (.tmp 5) (.tmp 6) 24 rfl w.heap.size 71 z (.agg #[.int .i64 0,.int .i64 0,.slice none 0 0]) 3 40 underlying24 B p o m rfl (by decide) _ 0 [] rfl ?c1 (some t) n f cs rfl ?c2 G.o ?c3 ?c4 ?c5 ?c6)
  case c1=>exact World.ownsRow_lit w #[] 0 (UZ _) (by decide) rfl
  case c2=>exact F.o.below x.o
  case c3=>unfold maxLen;omega
  case c4=>omega
  case c5=>simp
  case c6=>
   intro v y c g q;have H:=hId (x.o.grown g (by simp) (fun k A=>by simp[Value.ownBlock]at A;omega));have E:Hd (y.ownsRow w.heap.size 71 3 v n cs):=by first|exact c|(rw[VR]at c;exact c)
   clear c g q;go_wp2
   go_ret
   exact⟨⟨v,rfl,E.o⟩,H.o⟩
theorem cR{w:World}{B n sz:Nat}{e:TypeId}{v:Value}{xs:List Value}(h:w.ownsRow B e sz v n xs):∃a c,v=.slice a n c/\Row w a n c sz xs/\(∀d:Addr,a=some d->B<=d.block/\d.block<w.heap.size)/\(n≠0->∃g,a=some ⟨g,0,none⟩):=by
 obtain⟨a,c,f,i⟩:=bg h;refine⟨a,c,f,i,fun d e=>?_,fun k=>?_⟩
 ·exact h.lt _ (by rw[f,e];rfl)
 ·rcases h.2 with⟨b,l⟩|⟨g,o,m,b,_⟩
  ·exact absurd l k
  ·rw[f]at b;simp only[Value.slice.injEq]at b
   exact⟨g,b.1⟩
theorem p7:∀(l:List PV)(k:Nat)(h:k<l.length)(a:Option Addr)(m c:Nat),(aG l).set (k*7+2) (.slice a m c)=aG (l.set k {l[k]with ao:=a,m:=m,cap:=c})
 |[],_,h,_,_,_=>by simp at h
 |x::l,0,_,a,m,c=>rfl
 |x::l,k+1,h,a,m,c=>by
  have:=p7 l k (by simpa using h) a m c;rw[show(k+1)*7+2=k*7+2+1+1+1+1+1+1+1 by omega];simp only[iN,VA,List.getElem_cons_succ]
  rw[this]
theorem Er{α:Type}(us a:List α)(k:Nat)(h:k<a.length)(b:us.length=k)(y:α):(us++a.drop k).set k y=(us++[y])++a.drop (k+1):=by
 subst b;rw[VU h,List.set_append_right _ _ (UZ _),Nat.sub_self,VB,VT];rfl
theorem yO{α:Type}(us a:List α)(k:Nat)(h:k<a.length)(b:us.length=k)(c:k<(us++a.drop k).length):(us++a.drop k)[k]=a[k]:=by
 subst b;rw[List.getElem_append_right (UZ _)];simp
theorem uf(ao:Option Addr)(n C:Nat)(b:List PV)(w:World)(hO:ae w ao n C b)(h0:0<n)(hn:n<=40)(hm:∀v∈b,v.m<=80):
  Calls prog 69 #[.slice ao n C] w fun e w'=>(∃a c us,e=.returned (.slice a n c)/\au w.heap.size w' a n c us/\us.map PV.pt=b.map PV.pt)/\Below w.heap.size w w':=by
 have HO:=hId hO;have HN:=hId hO.len;have HM:=hId hm;clear hO hm;have CC:=hId (pK ao n C (aG b) w HO.o.row (aY b) (by omega));go_enter func69,ntmps69
 go_wp2_with fail
 refine CC.o.mono ?_
 rintro e w1⟨⟨v,rfl,ho⟩,q⟩;obtain⟨a,c,rfl,I,P,hg⟩:=cR ho;obtain⟨g,rfl⟩:=hg (by omega);have ab:=I.room;have ac:=I.fg;obtain⟨T,Q⟩:=P _ rfl;have a6:=hId ho;have H1:=hId q;have a7:Hd (g<w1.heap.size):=Q;have F:Hd (w.heap.size<=g):=T;clear ho q I P hg CC T Q;go_wp2
 go_loopw [8] (fun i wr=>∃(k:Nat)(us:List PV),k<=n/\i=.int .i64 k/\us.length=k/\us.map PV.pt=(b.take k).map PV.pt/\wr.ownsRow w.heap.size 100 7 (.slice (some ⟨g,0,none⟩) n c) n (aG (us++b.drop k))/\(∀v∈us,dV wr v/\∀d:Addr,v.m≠0->v.ao=some d->g<d.block)/\Below w.heap.size w wr/\g<wr.heap.size) (fun i _=>n-(intOf i).toNat)
 case atStart=>exact⟨0,[],VN _,rfl,rfl,rfl,a6.o,fun v hv=>absurd hv (by simp),H1.o,a7.o⟩
 case round=>
  obtain⟨k,us,hk,rfl,K,J,O,M,U,S⟩:=hrel;have r:=hId K;have V:=hId J;have D:=hId O;have s:=hId M;have t:=hId U;have Z:=hId S;clear K J O M U S;by_cases a2:k<n
  ·have p:k<b.length:=by rw[HN.o];exact a2
   have l:k<(us++b.drop k).length:=by rw[VI,XG,r.o,HN.o];omega
   have A:=yO us b k p r.o l;have c2:wr.cell? ⟨g,k*7+2,none⟩=some (.slice b[k].ao b[k].m b[k].cap):=by
    rw[D.o.cellAt (k*7+2) (by omega),(ga _ k l).2.2.1,A]
   have E:=hId ((HO.o.iE _ (WT p)).below t.o);have a0:=HM.o _ (WT p);have CI:=hId (Dx _ _ _ _ _ (jc E.o.jd) (bR _) a0);have a3:Hd ((b.take (k+1)).map PV.pt=(b.take k).map PV.pt++[b[k].pt]):=by show _=_;rw[WY p,WN];rfl
   have a1:=hId (fun x=>Er us b k p r.o x);have Y:=hId l;have a8:Hd ((us++b.drop k)[k]'Y.o=b[k]):=A;generalize b[k]=v at*;clear p l A;go_wp2_with fail
   refine CI.o.mono ?_
   rintro e H⟨⟨x,rfl,N⟩,q⟩;obtain⟨z,G,rfl,L,y,-⟩:=cR N;have HD:=hId (bT L E.o.jd.fit);have W:Hd (∀d:Addr,z=some d->g<d.block):=fun d e=>by have:=(y d e).1;have:=Z.o;omega
   have B:=ax D.o q;have aa:=hId (t.o.trans (q.mono t.o.size));have a5:=hId (WJ Z.o q.size);have o:Hd (∀v∈us,dV H v/\∀d:Addr,v.m≠0->v.ao=some d->g<d.block):=fun u f=>⟨(s.o u f).1.below q,(s.o u f).2⟩;have c3:=aA c2 q;have f3:=B.frozenAt (k*7+2);have a4:Hd ((H.setCell ⟨g,k*7+2,none⟩ (.slice z v.m G)).ownsRow w.heap.size 100 7 (.slice (some ⟨g,0,none⟩) n c) n (aG ((us++[{v with ao:=z,m:=v.m,cap:=G}])++b.drop (k+1)))):=by
    have h:=(B.stored (k*7+2) (.slice z v.m G)).1;rw[p7 _ _ Y.o,a8.o,a1.o]at h;exact h
   have X:Hd (Kept H (H.setCell ⟨g,k*7+2,none⟩ (.slice z v.m G)) [g]):=dX _ _ _ _ _ (by simp);have a9:Hd (Below w.heap.size w (H.setCell ⟨g,k*7+2,none⟩ (.slice z v.m G))):=aa.o.setCell F.o _;clear N q L y B c2;go_wp2
   go_roundw
   case rel=>
    refine⟨k+1,us++[{v with ao:=z,m:=v.m,cap:=G}],by omega,by go_num,by rw[VI,r.o];rfl,by rw[WN,V.o,a3.o];rfl,a4.o,fun u f=>?_,a9.o,by rw[World.size_setCell];exact a5.o⟩
    rcases VW.1 f with f|f
    ·exact⟨(o.o u f).1.kept X.o (fun d p l hx=>by have:=(o.o u f).2 d p l;simp at hx;omega),(o.o u f).2⟩
    ·rw[UY]at f;subst f;exact⟨⟨HD.o.kept X.o (fun d _ l hx=>by have:=W.o d l;simp at hx;omega),E.o.fit⟩,fun d _ l=>W.o d l⟩
   case measure=>simp[intOf];omega
  ·obtain rfl:k=n:=by omega
   have hd:=WI (by rw[HN.o];exact UZ _);have ht:=XD (by rw[HN.o];exact UZ _);have HF:Hd (au w.heap.size wr (some ⟨g,0,none⟩) k c us):=by
    have h:=D.o;rw[hd,VY]at h;obtain⟨a,c2,e,I,-,-⟩:=cR h;simp only[Value.slice.injEq]at e
    obtain⟨rfl,_,rfl⟩:=e;exact⟨⟨I,fun u f=>(s.o u f).1⟩,fun d _ e=>by cases e;exact F.o,fun u f d p l=>by have:=(s.o u f).2 d p l;have:=F.o;omega⟩
   have HP:Hd (us.map PV.pt=b.map PV.pt):=by show _=_;rw[V.o,ht]
   go_wp2
   go_ret
   exact⟨⟨_,c,us,rfl,HF.o,HP.o⟩,t.o⟩
theorem Rx(t:SV):(prog.info? 26).map (·.size)=some (lA t).toArray.size:=by
 have h:(prog.info? 26).map (·.size)=some 3:=by kernel_rfl
 exact h
theorem NF{b:Func}{p:Tmp}{t:SV}{w:World}{g:Nat}(h:b.results=#[.cell p 26])(a:Array Value)(c:a.getD p undef=.pointer (some ⟨g,0,none⟩))(d:Blk w g (lA t) 26):(results b a).run prog w=.ok (SC t) w:=
 results_cell_row h a w g 26 (lA t).toArray (0,0) _ c d underlying26 rfl (Rx t)
def fC (w:World) (g:Nat) (t:SV):World:=((w.setCell ⟨g,0,none⟩ (.slice t.fa t.fn t.fc)).setCell ⟨g,1,none⟩ (.slice t.la t.ln t.lc)).setCell ⟨g,2,none⟩ (.slice t.na t.nn t.nc)
theorem dv{w:World}{g:Nat}{x t:SV}(h:Blk w g (lA x) 26):Blk (fC w g t) g (lA t) 26:=((h.set 0 (.slice t.fa t.fn t.fc)).set 1 (.slice t.la t.ln t.lc)).set 2 (.slice t.na t.nn t.nc)
theorem cP(w:World)(g:Nat)(t:SV):Below g w (fC w g t):=(((VE g w).setCell (UZ _) _).setCell (UZ _) _).setCell (UZ _) _
theorem fs(w:World)(g:Nat)(t:SV):Kept w (fC w g t) [g]:=(((Kept.refl w [g]).setCell _ _ (.inl (by simp))).setCell _ _ (.inl (by simp))).setCell _ _ (.inl (by simp))
theorem He(w:World)(g:Nat)(t:SV):(fC w g t).heap.size=w.heap.size:=by unfold fC;rw[World.size_setCell,World.size_setCell,World.size_setCell]
theorem qa:∀(l:List EV)(k:Nat)(h:k<l.length)(a:Option Addr)(m c:Nat)(b:List PV),(bD l).set (k*3+2) (.slice a m c)=bD (l.set k {l[k]with ao:=a,n:=m,cap:=c,vs:=b})
 |[],_,h,_,_,_,_=>by simp at h
 |x::l,0,_,a,m,c,b=>rfl
 |x::l,k+1,h,a,m,c,b=>by
  have:=qa l k (by simpa using h) a m c b;rw[show(k+1)*3+2=k*3+2+1+1+1 by omega];show(Value.int .i64 x.aR::Value.int .i64 x.seq::Value.slice x.ao x.n x.cap::bD l).set _ _=Value.int .i64 x.aR::Value.int .i64 x.seq::Value.slice x.ao x.n x.cap::bD _
  simp only[VA,List.getElem_cons_succ]
  rw[this]
theorem cT{W w':World}(h:Below W.drew.heap.size W.drew w'):Below W.heap.size W w':=by
 have a:Below W.heap.size W W.drew:=(VE _ _).drew;exact a.trans (h.mono (by rw[XE];exact UZ _))
def Rl (a l:Option Addr):Prop:=∀ ad bd:Addr,a=some ad->l=some bd->ad.block≠bd.block
structure Bc (B:Nat) (w:World) (t:SV):Prop where
 first:cy w t.fa t.fn t.fc t.first
 now:cy w t.na t.nn t.nc t.now
 own:w.ownsRow B 71 3 (.slice t.la t.ln t.lc) t.ln (bD t.log)
 NZ:Rl t.fa t.la
 Hu:Rl t.na t.la
 Nr:∀ ad:Addr,t.fa=some ad->B<=ad.block
 O3:∀ ad:Addr,t.na=some ad->B<=ad.block
 ops:∀ v ∈ t.log,∀ bd:Addr,t.la=some bd->au (bd.block+1) w v.ao v.n v.cap v.vs
theorem Bc.eF{B:Nat}{w:World}{t:SV}(h:Bc B w t):nU w t:=by
 obtain⟨a,c,e,b,-,i⟩:=cR h.own;simp only[Value.slice.injEq]at e
 obtain⟨k,-,e3⟩:=e;rw[<-k,<-e3]at b;rw[<-k]at i;refine⟨h.first,⟨b,fun v f=>?_⟩,h.now⟩
 have l:=b.len;rw[fe]at l;obtain⟨g,d⟩:=i (by have:=List.length_pos_of_mem f;omega);exact(h.ops v f _ d).ops
theorem Bc.below{B:Nat}{w w':World}{t:SV}(h:Bc B w t)(a:Below w.heap.size w w'):Bc B w' t:=
 ⟨h.first.below a,h.now.below a,ax h.own a,h.NZ,h.Hu,h.Nr,h.O3,fun v b c e=>(h.ops v b c e).below a⟩
theorem Bc.kept{B:Nat}{w w':World}{t:SV}{S:List Nat}(h:Bc B w t)(b:Kept w w' S)(c:∀x∈S,x<B):Bc B w' t:=
 ⟨h.first.kept b (fun d _ e a=>by have:=h.Nr d e;have:=c _ a;omega),h.now.kept b (fun d _ e a=>by have:=h.O3 d e;have:=c _ a;omega),fu h.own b (fun x a e=>by have:=aS h.own x e;have:=c _ a;omega),h.NZ,h.Hu,h.Nr,h.O3,fun v g f e=>(h.ops v g f e).kept b (fun x a=>by have:=aS h.own f.block (by rw[e];rfl);have:=c _ a;omega)⟩
def sO (s:SV) (aF aL aN:Option Addr) (cF cL cN:Nat) (us:List EV):SV:=⟨aF,s.fn,cF,s.first,aL,s.ln,cL,us,aN,s.nn,cN,s.now⟩
structure Bd (w:World) (s:SV) (aF aL aN:Option Addr) (cF cL cN k:Nat) (us:List EV) (wr:World):Prop where
 hP:Blk wr w.heap.size (lA (sO s aF aL aN cF cL cN us)) 26
 hQ:Blk wr (w.heap.size+1) (lA eP) 26
 dF:cy wr aF s.fn cF s.first
 dN:cy wr aN s.nn cN s.now
 oL:wr.ownsRow (w.heap.size+2) 71 3 (.slice aL s.ln cL) s.ln (bD (us++s.log.drop k))
 oF:Rl aF aL
 oN:Rl aN aL
 lF:∀ ad:Addr,aF=some ad->w.heap.size+2<=ad.block
 lN:∀ ad:Addr,aN=some ad->w.heap.size+2<=ad.block
 bf:Below w.heap.size w wr
 len:us.length=k
 en:us.map EV.en=(s.log.take k).map EV.en
 ops:∀ v ∈ us,∀ bd:Addr,aL=some bd->au (bd.block+1) wr v.ao v.n v.cap v.vs
def RX (w:World) (s:SV) (wr:World):Prop:=∃ (aF aL aN:Option Addr) (cF cL cN:Nat),Bd w s aF aL aN cF cL cN 0 [] wr
theorem L3{s:SV}{w W a:World}{f d c:Option Addr}{k i h:Nat}(t:Blk W w.heap.size (lA s) 26)(r:Blk W (w.heap.size+1) (lA eP) 26)(u:Below w.heap.size w W)(n:Below W.heap.size W a)
  (E:cy a f s.fn k s.first)(D:cy a c s.nn h s.now)(o:a.ownsRow (w.heap.size+2) 71 3 (.slice d s.ln i) s.ln (bD s.log))(q:∀b:Addr,f=some b->w.heap.size+2<=b.block)(p:∀b:Addr,c=some b->w.heap.size+2<=b.block)(z:Rl f d)(y:Rl c d):
  RX w s (((a.setCell ⟨w.heap.size,0,none⟩ (.slice f s.fn k)).setCell ⟨w.heap.size,1,none⟩ (.slice d s.ln i)).setCell ⟨w.heap.size,2,none⟩ (.slice c s.nn h)):=by
 have m:=fs a w.heap.size (sO s f d c k i h []);have C:Blk a w.heap.size (lA s) 26:=(n.block _ t.lt).trans t;have B:Blk a (w.heap.size+1) (lA eP) 26:=(n.block _ r.lt).trans r;have l:=u.trans (n.mono u.size);show RX w s (fC a w.heap.size (sO s f d c k i h []))
 exact⟨f,d,c,k,i,h,dv C,m.aM B (by simp),E.kept m (fun b _ e g=>by have:=q b e;simp at g;omega),D.kept m (fun b _ e g=>by have:=p b e;simp at g;omega),
  fu o m (fun x g e=>by have:=aS o _ e;simp at g;omega),z,y,q,p,l.trans ((cP _ _ _)),rfl,rfl,fun v A=>by cases A⟩
theorem Bd.step{w:World}{s:SV}{B A:Option Addr}{z y u k g:Nat}{us:List EV}{wr c:World}{m:Option Addr}{l:Nat}{b:List PV}(h:Bd w s B (some ⟨g,0,none⟩) A z y u k us wr)(p:k<s.log.length)(f:Below wr.heap.size wr c)
  (D:au wr.heap.size c m s.log[k].n l b)(C:b.map PV.pt=s.log[k].vs.map PV.pt):
  Bd w s B (some ⟨g,0,none⟩) A z y u (k+1) (us++[{s.log[k]with ao:=m,cap:=l,vs:=b}]) (c.setCell ⟨g,k*3+2,none⟩ (.slice m s.log[k].n l)):=by
 have E:=h.oL.lt g rfl;have a:Kept c (c.setCell ⟨g,k*3+2,none⟩ (.slice m s.log[k].n l)) [g]:=dX _ _ _ _ _ (by simp);have r:Blk c w.heap.size _ 26:=(f.block _ h.hP.lt).trans h.hP;have q:Blk c (w.heap.size+1) _ 26:=(f.block _ h.hQ.lt).trans h.hQ;have t:k<(us++s.log.drop k).length:=by rw[VI,XG,h.len];omega
 refine⟨a.aM r (by simp;omega),a.aM q (by simp;omega),(h.dF.below f).kept a (fun n _ e d=>by have:n.block≠g:=h.oF n _ e rfl;simp at d;omega),(h.dN.below f).kept a (fun n _ e d=>by have:n.block≠g:=h.oN n _ e rfl;simp at d;omega),?_,h.oF,h.oN,h.lF,h.lN,(h.bf.trans (f.mono h.bf.size)).setCell (by show w.heap.size<=g;omega) _,by rw[VI,h.len];rfl,?_,?_⟩
 ·have o:=((ax h.oL f).stored (k*3+2) (.slice m s.log[k].n l)).1;rw[qa _ _ t m s.log[k].n l b,yO us s.log k p h.len t,Er us s.log k p h.len]at o;exact o
 ·rw[WN,h.en,WY p,WN];show _++[(⟨s.log[k].aR,s.log[k].seq,b.map PV.pt⟩:Sv.En)]=_
  rw[C];rfl
 ·intro v i F e
  cases e
  rcases VW.1 i with i|i
  ·exact((h.ops v i _ rfl).below f).kept a (fun x d=>by simp at d;show x<g+1;omega)
  ·rw[UY]at i;subst i;exact(D.mono (by show g+1<=wr.heap.size;omega)).kept a (fun x d=>by simp at d;show x<g+1;omega)
theorem Bd.done{w:World}{s:SV}{i a g:Option Addr}{f d c:Nat}{us:List EV}{wr:World}(h:Bd w s i a g f d c s.ln us wr)(p:s.log.length=s.ln):
  Blk (fC wr (w.heap.size+1) (sO s i a g f d c us)) (w.heap.size+1) (lA (sO s i a g f d c us)) 26/\Bc w.heap.size (fC wr (w.heap.size+1) (sO s i a g f d c us)) (sO s i a g f d c us)/\(sO s i a g f d c us).se=s.se/\Below w.heap.size w (fC wr (w.heap.size+1) (sO s i a g f d c us)):=by
 have n:=fs wr (w.heap.size+1) (sO s i a g f d c us);have t:=WI (by rw[p];exact UZ _);have r:=XD (by rw[p];exact UZ _);have b:=h.oL;rw[t,VY]at b;have m:=h.en;rw[r]at m;refine⟨dv h.hQ,⟨h.dF.kept n (fun l _ e k=>by have:=h.lF l e;simp at k;omega),h.dN.kept n (fun l _ e k=>by have:=h.lN l e;simp at k;omega),(fu b n (fun x k e=>by have:=aS b _ e;simp at k;omega)).mono (by omega),h.oF,h.oN,fun l e=>by have:=h.lF l e;omega,fun l e=>by have:=h.lN l e;omega,fun v q o e=>(h.ops v q o e).kept n (fun x k=>by have:=aS b o.block (by have u:a=some o:=e;rw[u];rfl);simp at k;omega)⟩,?_,h.bf.trans ((cP _ _ _).mono (by omega))⟩
 show(⟨s.first,us.map EV.en,s.now⟩:Sv.Se)=⟨s.first,s.log.map EV.en,s.now⟩
 rw[m]
theorem au.ku{B:Nat}{w:World}{a:Option Addr}{n c:Nat}{b:List PV}{g:Nat}{i:Option Addr}{d f:Nat}{T:TypeId}(h:au B w a n c b)(e:Blk w g [.slice i d f] T)(v:Value):au B (w.setCell ⟨g,0,none⟩ v) a n c b:=⟨h.ops.ku e v,h.row,h.QU⟩
theorem BL(v:EV)(g:Nat)(a:Option Addr)(n c:Nat)(us:List PV)(w:World)(x:Blk w g [.slice a n c] 32)(s:ae w a n c us)(u:ae w v.ao v.n v.cap v.vs)(t:df w):
  Calls prog 115 #[.agg #[.int .i64 v.aR,.int .i64 v.seq,.slice v.ao v.n v.cap],.pointer (some ⟨g,0,none⟩)] w fun e w'=>e=.returned (.int .i64 (Ac.fO v.en.o (us.map PV.pt)))/\∃d i f h b,w'=d.setCell ⟨g,0,none⟩ (.slice i f h)/\Below w.heap.size w d/\au w.heap.size d i f h b/\b.map PV.pt=Ac.gY v.en.o (us.map PV.pt):=by
 have M:=hId (v7 v.ao a v.n v.cap n c v.vs us _ (u.below (aW v w)) (s.below (aW v w)) (t.below (aW v w)));have o:=hId (aW v w);have m:Hd (Blk (dU v w) g [.slice a n c] 32):=x.alloc _;have K:=hId (km v w);clear x s u t;change Calls prog _ _ _ fun e w'=>e=.returned (.int .i64 (Ac.fO (v.vs.map PV.pt) (us.map PV.pt)))/\∃d i f h b,w'=d.setCell ⟨g,0,none⟩ (.slice i f h)/\Below w.heap.size w d/\au w.heap.size d i f h b/\b.map PV.pt=Ac.gY (v.vs.map PV.pt) (us.map PV.pt);generalize Ac.fO (v.vs.map PV.pt) (us.map PV.pt)=E at*;generalize Ac.gY (v.vs.map PV.pt) (us.map PV.pt)=Y at*;generalize Ac.lZ (v.vs.map PV.pt) (us.map PV.pt)=X at*;go_enter func115,ntmps115
 go_upto_region 1 with fail
 change Code.wp prog _ _ _ (dU v w);generalize dU v w=W at*;obtain⟨B,A,z⟩:=K.o;simp only[VR]at B A z
 have y:=ja m.o;go_wp2_with fail
 refine M.o.mono ?_
 rintro e d⟨⟨Q,O,P,N,G,D,F,C,rfl,I,r,H,q⟩,l⟩;have J:=hId (r.mono o.o.size);have p:=hId q;have L:=hId (o.o.trans (l.mono o.o.size));have k:Hd (Blk d g [.slice a n c] 32):=(l.block _ m.o.lt).trans m.o;clear I r H q l B A z y;have y:=ja k.o;have S:=k.o.frozen 0;go_wp2
 go_ret
 exact⟨rfl,d,G,D,F,C,rfl,L.o,J.o,p.o⟩
theorem Ii(B g:Nat)(a:Option Addr)(n c:Nat)(m:List PV)(D:Option Addr)(r C:Nat)(b:List EV)(w:World)(Z:B<=g)(T:B<=w.heap.size)(hB:Blk w g [.slice a n c] 32)(hU:au B w a n c m)(s:fQ w D r C b)(hS:df w):
  Calls prog 38 #[.slice D r C,.func (.func 115) #[] #[.pointer (some ⟨g,0,none⟩)]] w fun e w'=>e=.returned (.int .i64 (Sv.je (b.map EV.en) (m.map PV.pt)))/\(∃i d f us,Blk w' g [.slice i d f] 32/\au B w' i d f us/\us.map PV.pt=Sv.jJ (b.map EV.en) (m.map PV.pt))/\Below B w w':=by
 refine(Ap 115 (.pointer (some ⟨g,0,none⟩)) D r C b
  (fun k wr=>Below B w wr/\fQ wr D r C b/\df wr/\∃i d f us,Blk wr g [.slice i d f] 32/\au B wr i d f us/\Sv.je ((b.map EV.en).drop k) (us.map PV.pt)=Sv.je (b.map EV.en) (m.map PV.pt)/\Sv.jJ ((b.map EV.en).drop k) (us.map PV.pt)=Sv.jJ (b.map EV.en) (m.map PV.pt))
  (fun E wr=>Below B w wr/\E=Sv.je (b.map EV.en) (m.map PV.pt)/\∃i d f us,Blk wr g [.slice i d f] 32/\au B wr i d f us/\us.map PV.pt=Sv.jJ (b.map EV.en) (m.map PV.pt))
  w (.inr rfl) ⟨s.row.room,s.row.fg,s.len⟩ (fun k wr h=>h.2.1) (fun k wr v h=>?_) ⟨VE _ _,s,hS,a,n,c,m,hB,hU,rfl,rfl⟩ (fun k U wr h=>?_)).mono ?_
 ·obtain⟨p,J,I,i,d,f,us,t,M,H,G⟩:=h;exact⟨p.trans ((aW v wr).mono (VX T p.size)),J.below (aW v wr),I.below (aW v wr),i,d,f,us,t.alloc _,M.below (aW v wr),H,G⟩
 ·obtain⟨p,J,I,i,d,f,us,t,M,H,G⟩:=h;refine(BL b[k] g i d f us wr t M.ops (J.ops _ (WT U)) I).mono ?_
  rintro e w'⟨rfl,S,P,K,N,u,rfl,F,V,L⟩;have l:Blk S g [.slice i d f] 32:=(F.block _ t.lt).trans t;have q:=VX T p.size;have y:Below B w (S.setCell ⟨g,0,none⟩ (.slice P K N)):=(p.trans (F.mono q)).setCell Z _;have Q:∀(x:List Ac.Pt),Sv.je ((b.map EV.en).drop k) x=(if Ac.fO b[k].en.o x=0 then Sv.je ((b.map EV.en).drop (k+1)) (Ac.gY b[k].en.o x)else Ac.fO b[k].en.o x)/\Sv.jJ ((b.map EV.en).drop k) x=(if Ac.fO b[k].en.o x=0 then Sv.jJ ((b.map EV.en).drop (k+1)) (Ac.gY b[k].en.o x)else Ac.gY b[k].en.o x):=fun x=>by
   rw[VU (by rw[VH];exact U),List.getElem_map];exact⟨rfl,rfl⟩
  obtain⟨A,z⟩:=Q (us.map PV.pt);refine⟨_,rfl,fun o=>?_,fun o=>?_⟩
  ·rw[VC o]at A z;exact⟨y,(J.below F).ku l _,(I.below F).ku l _,P,K,N,u,l.set 0 _,(V.mono q).ku l _,by rw[L,<-A];exact H,by rw[L,<-z];exact G⟩
  ·rw[VD o]at A z;exact⟨y,by rw[<-A];exact H,P,K,N,u,l.set 0 _,(V.mono q).ku l _,by rw[L,<-z];exact G⟩
 ·rintro e w'⟨E,rfl,h0,p⟩;by_cases o:E=0
  ·obtain⟨O,-,-,i,d,f,us,b4,b5,X,W⟩:=h0 o;have Y:(b.map EV.en).drop r=[]:=WI (by rw[VH,s.len];exact UZ _);rw[Y]at X W;exact⟨by rw[o,<-X];rfl,⟨i,d,f,us,b4,b5,W⟩,O⟩
  ·obtain⟨O,b2,b3⟩:=p o;exact⟨by rw[b2],b3,O⟩
def xQ (a:Option Addr) (n c:Nat) (w:World):World:=w.alloc (.cells #[.slice a n c] 32)
theorem BD(a:Option Addr)(n c:Nat)(w:World):Below w.heap.size w (xQ a n c w):=(VE _ _).alloc (UZ _) _
theorem I2(a:Option Addr)(n c:Nat)(w:World):Blk (xQ a n c w) w.heap.size [.slice a n c] 32:=Blk.new w _ _
theorem EI(u:Option Addr)(s t:Nat)(k:List EV)(h:Option Addr)(n b:Nat)(f:List PV)(w:World)(H:fQ w u s t k)(G:ae w h n b f)(F:df w)(I:0<n)(B:n<=40)(C:∀v∈f,v.m<=80):
  Calls prog 99 #[.slice u s t,.slice h n b] w fun e w'=>(∃a i c us,e=.returned (.tuple #[.slice a i c,.int .i64 (Sv.je (k.map EV.en) (f.map PV.pt))])/\au w.heap.size w' a i c us/\us.map PV.pt=Sv.jJ (k.map EV.en) (f.map PV.pt))/\Below w.heap.size w w':=by
 have y:Hd (Below w.heap.size w (xQ h n b w)):=BD _ _ _ _;have z:Hd (Blk (xQ h n b w) w.heap.size [.slice h n b] 32):=I2 _ _ _ _;have Q:=hId (uf h n b f _ (G.below y.o) I B C);have S:Hd (∀a c us d,us.map PV.pt=f.map PV.pt->Below w.heap.size w d->Blk d w.heap.size [.slice h n b] 32->au w.heap.size d a n c us->Calls prog 38 #[.slice u s t,.func (.func 115) #[] #[.pointer (some ⟨w.heap.size,0,none⟩)]] (d.setCell ⟨w.heap.size,0,none⟩ (.slice a n c)) fun e w'=>e=.returned (.int .i64 (Sv.je (k.map EV.en) (f.map PV.pt)))/\(∃r i q us,Blk w' w.heap.size [.slice r i q] 32/\au w.heap.size w' r i q us/\us.map PV.pt=Sv.jJ (k.map EV.en) (f.map PV.pt))/\Below w.heap.size (d.setCell ⟨w.heap.size,0,none⟩ (.slice a n c)) w'):=fun a c us d l g o m=>by
  have:=Ii w.heap.size w.heap.size a n c us u s t k (d.setCell ⟨w.heap.size,0,none⟩ (.slice a n c)) (UZ _) (by rw[World.size_setCell];exact g.size) (o.set 0 _) (m.ku o _) ((H.below g).ku o _) ((F.below g).ku o _);rw[l]at this;exact this
 clear H G F C I B;generalize Sv.je (k.map EV.en) (f.map PV.pt)=E at*;generalize Sv.jJ (k.map EV.en) (f.map PV.pt)=D at*;go_enter func99,ntmps99
 go_upto_region 1 with fail
 change Code.wp prog _ _ _ (xQ h n b w);generalize xQ h n b w=W at*;have x:=ja z.o;go_wp2_with fail
 refine Q.o.mono ?_
 rintro e d⟨⟨a,c,us,rfl,m,l⟩,g⟩;have J:=hId (y.o.trans (g.mono y.o.size));have p:Hd (Blk d w.heap.size [.slice h n b] 32):=(g.block _ z.o.lt).trans z.o;have K:=S.o a c us d l J.o p.o (m.mono y.o.size);clear m l g x;have x:=ja p.o;have L:=p.o.frozen 0;have P:Hd (Below w.heap.size w (d.setCell ⟨w.heap.size,0,none⟩ (.slice a n c))):=J.o.setCell (UZ _) _;go_upto_region 2 with fail
 change Code.wp prog _ _ _ (d.setCell ⟨w.heap.size,0,none⟩ (.slice a n c));generalize d.setCell ⟨w.heap.size,0,none⟩ (.slice a n c)=U at*;clear x L;go_wp2_with fail
 refine K.mono ?_
 rintro e T⟨rfl,⟨r,i,q,A,o,m,l⟩,g⟩;have N:=hId m;have M:=hId l;have O:=hId (P.o.trans g);have x:=ja o;clear m l g o K;go_wp2
 exact VL (v:=.tuple #[.slice r i q,.int .i64 E]) (by simp[results,Tryz.results99,go_sem]) rfl ⟨⟨r,i,q,A,rfl,N.o,M.o⟩,O.o⟩
theorem vm(s:SV)(x:EV)(w:World)(h:nU w s)(i:ae w x.ao x.n x.cap x.vs)(g:df w):
  Calls prog 97 #[.agg #[.slice s.fa s.fn s.fc,.slice s.la s.ln s.lc,.slice s.na s.nn s.nc],.agg #[.int .i64 x.aR,.int .i64 x.seq,.slice x.ao x.n x.cap]] w fun e w'=>e=.returned (.int .i64 (if Sv.dL s.se=0 then Sv.eG x.en else Sv.dL s.se))/\Below w.heap.size w w':=by
 have b:=hId ((bM s w).trans ((aW x _).mono (bM s w).size));have l:Hd (PR (dU x (ai s w)) (ai s w).heap.size 0 x):=km x _;have v:Hd (Blk (dU x (ai s w)) w.heap.size (lA s) 26):=(fI s w).alloc _;have B:=hId (zU s _ (h.below b.o) (g.below b.o));have A:=hId (fun w' a=>Aj x w' ((i.below b.o).below a) ((g.below b.o).below a));clear h i g;rw[fN]at l;generalize Sv.dL s.se=r at*;generalize Sv.eG x.en=q at*;obtain⟨z,c⟩:∃z,(if r=0 then q else r)=z:=⟨_,rfl⟩;rw[c];have k:=hId c;clear c;go_enter func97,ntmps97
 go_upto_region 1 with fail
 change Code.wp prog _ _ _ (dU x (ai s w));generalize dU x (ai s w)=W at*;obtain⟨o,n,m⟩:=mi v.o;go_wp2_with fail
 refine B.o.mono ?_
 rintro e E⟨rfl,a⟩;have d:=hId a;clear a o n m;obtain⟨u,t,p⟩:=l.o.below d.o;simp only[VR]at u t p
 by_cases f:r=0
 ·obtain rfl:z=q:=by rw[<-k.o,VC f]
  subst f;go_wp2_with fail
  refine(A.o _ d.o).mono ?_
  rintro e D⟨rfl,a⟩;have y:=hId (d.o.trans (a.mono d.o.size));clear a;go_wp2
  go_ret
  exact⟨rfl,b.o.trans (y.o.mono b.o.size)⟩
 ·obtain rfl:z=r:=by rw[<-k.o,VD f]
  have C:(z !=0)=true:=by simp[f]
  go_wp2
  go_ret
  exact⟨rfl,b.o.trans (d.o.mono b.o.size)⟩
theorem JC(ao ar:Option Addr)(n D n' a9:Nat)(l:List It)(M:List PV)(w:World)(hD:cy w ao n D l)(hO:ae w ar n' a9 M)(hS:df w)(hE:Ac.ag l (M.map PV.pt)=0):
  Calls prog 40 #[.slice ao n D,.slice ar n' a9] w fun e w'=>(∃a c,e=.returned (.tuple #[.slice a (Ac.mk l (M.map PV.pt)).1.length c,.int .i64 0])/\cy w' a (Ac.mk l (M.map PV.pt)).1.length c (Ac.mk l (M.map PV.pt)).1/\∀ad:Addr,a=some ad->w.heap.size<=ad.block)/\Below w.heap.size w w':=by
 obtain⟨aa,b7,ba,bt⟩:=Ac.kj hE;have a7:=(Ac.oA aa).1;obtain⟨i0,hi,b5,b4,b3⟩:=info_parts Tryz.DQ;have ag:n≠0:=by
  obtain⟨_,_,l',x,e,_⟩:=Ac.oA aa;have:=hD.len;rw[e]at this;simp at this
  omega
 obtain⟨b,J,rfl,hA⟩:=hD.bH ag;have H1:Hd (Below w.heap.size w (w.alloc (.cells #[.slice (some ⟨b,J,none⟩) n D] 23))):=(VE _ _).alloc (UZ _) _;have CF:=hId (yR _ ar n D n' a9 l M _ (hD.below H1.o) (hO.below H1.o) (hS.below H1.o));rw[hE]at CF;have bi:Hd (Blk (w.alloc (.cells #[.slice (some ⟨b,J,none⟩) n D] 23)) w.heap.size [.slice (some ⟨b,J,none⟩) n D] 23):=Blk.new w _ _;have bj:Hd (w.heap.size<(w.alloc (.cells #[.slice (some ⟨b,J,none⟩) n D] 23)).heap.size):=by show _<_;simp
 have bn:=hId hA;have bg:=hId hO;have HN:=hId hO.len;have c8:=hId hD.len;have br:=hId hD.fit;have bz:=hId (Ac.qg aa);have bv:=hId (fun v hv=>b7.ok _ (XI.2 ⟨v,hv,rfl⟩));have bd:Hd (∀k,(Ac.mk l ((M.map PV.pt).take k)).2<=n/\(Ac.mk l ((M.map PV.pt).take k)).1.length<=80):=fun k=>by
  have:=Ac.FB l (M.map PV.pt) ba k;rw[hD.len]at this;exact⟨this.1,by omega⟩
 have ah:=hD.room;have cf:=hO.row.room;have ci:=hO.row.fg;rw[hD.len]at a7;clear hD hO hS hE aa b7 ba bt hA ag;obtain⟨R,hR⟩:∃R,(Ac.mk l (M.map PV.pt)).1=R:=⟨_,rfl⟩;have HR:=hId hR;rw[hR];clear hR;go_enter func40,ntmps40
 go_wp2_with fail
 refine CF.o.mono ?_
 rintro e B⟨rfl,hb⟩;have H2:=hId (H1.o.trans (hb.mono H1.o.size));have af:Hd (Blk B w.heap.size [.slice (some ⟨b,J,none⟩) n D] 23):=(hb.block _ bj.o).trans bi.o;have ab:=hId af.o.lt;have a5:=hId (bn.o.below H2.o);have bf:=hId (bg.o.below H2.o);have cd:=hId (Blk.new B [.int .i64 0] 3);have cb:Hd (Below B.heap.size B (B.alloc (.cells #[.int .i64 0] 3))):=(VE _ _).alloc (UZ _) _;clear hb CF bi bj bn bg;go_wp2
 go_loopw [9,21] (fun mv i wr=>∃k:Nat,k<=n'/\i=.int .i64 k/\JP B mv (Ac.mk l ((M.map PV.pt).take k)) wr) (fun _ i _=>n'-(intOf i).toNat)
 case atStart=>exact⟨0,VN _,rfl,XM _ _ _ _,cd.o,cb.o,fun x hx=>absurd hx (by simp[Ac.mk])⟩
 case round=>
  obtain⟨k,hk,rfl,hI⟩:=hrel;have E:=hId hI;clear hI;by_cases an:k<n'
  ·obtain⟨pb,po,rfl,hG⟩:=bf.o.get (by omega);have Z:k<M.length:=by rw[HN.o];exact an
   have Y:Hd (Ac.mk l ((M.map PV.pt).take (k+1))=Ac.vh l (Ac.mk l ((M.map PV.pt).take k)) M[k].pt):=by
    have:=Ac.FC l (M.map PV.pt) k (by rw[VH];exact Z);rw[List.getElem_map]at this;exact this
   have aq:=bd.o k;have L:=bd.o (k+1);rw[Y.o]at L;have V:=bv.o M[k] (WT Z);have X:=bf.o.iE M[k] (WT Z);obtain⟨c0,c1,c2,c3,c4,c5,c6⟩:=(hG k Z).same (E.o.bf.block pb (gW (hG k Z).c0));clear hG;generalize Ac.mk l ((M.map PV.pt).take k)=s at*;generalize M[k]=v at*;obtain⟨a6,q,C,m,d,r,t,A,z,y⟩:=v;simp only at c0 c1 c2 c3 c4 c5 c6
   clear Z;obtain⟨p,f⟩:=s;by_cases h1:a6=1
   ·subst h1;obtain⟨b6,bb,am,al⟩:=Ac.kY V rfl;change 1<=q at am;change q<=80 at al;obtain⟨o,rfl⟩:∃o:Nat,q=o:=⟨q.toNat,by omega⟩;have O:Ac.vh l (p,f) (PV.pt ⟨1,o,C,m,d,r,t,A,z,y⟩)=(p++((l.drop f).take o).map (fun x=>Ac.change x ⟨t,A,z,y⟩),f+o):=rfl;rw[O]at Y L;have a0:(p++((l.drop f).take o).map (fun x=>Ac.change x ⟨t,A,z,y⟩)).length<=80:=L.2;rw[VI,VH]at a0;obtain⟨N,G⟩:∃N,p.length=N:=⟨_,rfl⟩;have b0:=hId G;have bh:=E.o.lt;have ay:Hd (some wr.heap.size≠u9.ownBlock):=fun e=>by have:=(E.o.own.lt _ e.symm).2;omega
    have T:=ab.o;have W:Hd (bV (aH ⟨1,o,C,m,d,r,t,A,z,y⟩ wr) wr.heap.size 0 ⟨1,o,C,m,d,r,t,A,z,y⟩):=dS _ wr;have F:Below wr.heap.size wr (aH ⟨1,o,C,m,d,r,t,A,z,y⟩ wr):=aK _ wr;have K:=hId (E.o.bf.trans (F.mono (by omega)));have a4:Hd ((aH ⟨1,o,C,m,d,r,t,A,z,y⟩ wr).ownsRow (B.heap.size+1) 67 3 u9 N (aI p)):=by
     have:=ax E.o.own F;rw[G]at this;exact this
    have I:Hd (Blk (aH ⟨1,o,C,m,d,r,t,A,z,y⟩ wr) B.heap.size [.int .i64 f] 3):=(F.block _ E.o.JB.lt).trans E.o.JB;have ac:Hd (Blk (aH ⟨1,o,C,m,d,r,t,A,z,y⟩ wr) w.heap.size [.slice (some ⟨b,J,none⟩) n D] 23):=(K.o.block _ T).trans af.o;have bl:=hId (a5.o.below K.o);have a1:0<o:=by omega
    have ak:f+o<=n:=L.1;have CN:Hd (Calls prog 66 #[.int .i64 o,.pointer (some ⟨B.heap.size,0,none⟩),.pointer (some ⟨w.heap.size,0,none⟩)] (aH ⟨1,o,C,m,d,r,t,A,z,y⟩ wr).drew fun e w'=>e=.returned (.slice (some ⟨b,J+f*3,none⟩) o (D-f))/\w'=(aH ⟨1,o,C,m,d,r,t,A,z,y⟩ wr).drew.setCell ⟨B.heap.size,0,none⟩ (.int .i64 ((f+o:Nat):Int))):=qC B.heap.size w.heap.size b J n D f o (f+o) _ I.o ac.o (by omega) rfl a1 ak a7 ah;have Q:Hd (Below B.heap.size B ((aH ⟨1,o,C,m,d,r,t,A,z,y⟩ wr).drew.setCell ⟨B.heap.size,0,none⟩ (.int .i64 ((f+o:Nat):Int)))):=K.o.drew.setCell (UZ _) _;have U:Hd (Blk ((aH ⟨1,o,C,m,d,r,t,A,z,y⟩ wr).drew.setCell ⟨B.heap.size,0,none⟩ (.int .i64 ((f+o:Nat):Int))) B.heap.size [.int .i64 ((f+o:Nat):Int)] 3):=I.o.set 0 _;have av:Hd (bV ((aH ⟨1,o,C,m,d,r,t,A,z,y⟩ wr).drew.setCell ⟨B.heap.size,0,none⟩ (.int .i64 ((f+o:Nat):Int))) wr.heap.size 0 ⟨1,o,C,m,d,r,t,A,z,y⟩):=W.o.same (XN (aH ⟨1,o,C,m,d,r,t,A,z,y⟩ wr).drew _ _ _ (by simp;omega));have aw:Hd (((aH ⟨1,o,C,m,d,r,t,A,z,y⟩ wr).drew.setCell ⟨B.heap.size,0,none⟩ (.int .i64 ((f+o:Nat):Int))).ownsRow (B.heap.size+1) 67 3 u9 N (aI p)):=ownsRow_setCell_below a4.o (by simp) _;have bm:=hId (a5.o.below Q.o);generalize (aH ⟨1,o,C,m,d,r,t,A,z,y⟩ wr).drew.setCell ⟨B.heap.size,0,none⟩ (.int .i64 ((f+o:Nat):Int))=W1 at*;have a2:((l.drop f).take o).length=o:=by rw[List.length_take,XG,c8.o];omega
    have ce:=hId (nQ b (J+f*3) o (D-f) _ 1 o C m d r t A z y W1 (bm.o.part f o) a2 a1 (by omega) (FD bz.o _ _) b6 bb);have b1:Hd ((aI (((l.drop f).take o).map fun x=>Ac.change x ⟨t,A,z,y⟩)).length=o*3):=by show _=_;rw[dP,VH,a2]
    have b2:Hd (Fit (p++(((l.drop f).take o).map fun x=>Ac.change x ⟨t,A,z,y⟩))):=qY E.o.fit (pI (Ab br.o _ _) _ X.fit);have bs:N+o<=80:=by rw[a2]at a0;omega
    have az:Hd ((p++(((l.drop f).take o).map fun x=>Ac.change x ⟨t,A,z,y⟩)).length=N+o):=by show _=_;rw[VI,VH,a2,G]
    clear O aq L a0 G a2 F V b6 bb X;generalize (((l.drop f).take o).map fun x=>Ac.change x ⟨t,A,z,y⟩)=ch at*;go_upto_region 12 with fail
    change Code.wp prog _ _ _ (aH ⟨1,o,C,m,d,r,t,A,z,y⟩ wr);generalize (aH ⟨1,o,C,m,d,r,t,A,z,y⟩ wr)=W5 at*;clear c0 c1 c2 c3 c4 c5 c6;obtain⟨d0,d1,d2,d3,d4,d5,d6⟩:=W.o;obtain⟨x0,x1,x2,x3,x4,x5,x6⟩:=av.o;simp only[VR]at d0 d1 d2 d3 d4 d5 d6 x0 x1 x2 x3 x4 x5 x6
    go_region_held3 (fun w'=>w'.cell? ⟨wr.heap.size,0,none⟩=some (.int .i64 1)/\w'.cell? ⟨wr.heap.size,1,none⟩=some (.int .i64 o)/\w'.cell? ⟨wr.heap.size,2,none⟩=some (.slice C m d)/\w'.cell? ⟨wr.heap.size,3,none⟩=some (.int .i64 t)/\w'.cell? ⟨wr.heap.size,4,none⟩=some (.int .i64 A)/\w'.cell? ⟨wr.heap.size,5,none⟩=some (.bool z)/\w'.cell? ⟨wr.heap.size,6,none⟩=some (.string y)) (first|exact⟨d0,d1,d2,d3,d4,d5,d6⟩|exact⟨x0,x1,x2,x3,x4,x5,x6⟩|exact⟨y0,y1,y2,y3,y4,y5,y6⟩|exact⟨z0,z1,z2,z3,z4,z5,z6⟩) (first|(go_at_call 66;refine CN.o.mono ?_;rintro e w6⟨rfl,rfl⟩)|(go_at_call 67;refine ce.o.mono ?_;rintro e w7⟨⟨g,cg,rfl,ho⟩,hb⟩;have au:Hd (bV w7 wr.heap.size 0 ⟨1,o,C,m,d,r,t,A,z,y⟩):=av.o.below hb;obtain⟨y0,y1,y2,y3,y4,y5,y6⟩:=au.o;simp only[VR]at y0 y1 y2 y3 y4 y5 y6;have bw:Hd (w7.ownsRow (B.heap.size+1) 67 3 u9 N (aI p)):=ax aw.o hb;have bx:Hd (∀j u,(aI ch)[j]?=some u->w7.cell? ((⟨g,0,none⟩:Addr).add j)=some u):=ho.cells rfl;have ai:Hd (Blk w7 B.heap.size [.int .i64 ((f+o:Nat):Int)] 3):=(hb.block _ U.o.lt).trans U.o;have cc:Hd (Below B.heap.size B w7):=Q.o.trans (hb.mono (YB U.o.lt));have bo:B.heap.size+1<=w7.heap.size:=ai.o.lt;clear ho hb)|(refine kN _ rfl (.tmp 29) (.tmp 35) 23 22 67 rfl underlying22 (B.heap.size+1) 67 i0 (.agg #[.int .u8 0,.int .i64 0,.string ⟨#[]⟩]) 3 32 underlying23 hi b5 b4 b3 rfl (by decide) u9 N (aI p) rfl bw.o ⟨g,0,none⟩ o cg (aI ch) rfl b1.o bx.o (bR _) a1 (by unfold maxLen;omega) (by omega) bo _ rfl ?_;intro g2 a8 w8 P H ap an;obtain⟨z0,z1,z2,z3,z4,z5,z6⟩:=au.o.same (H.block _ (gW au.o.c0) ay.o);simp only[VR]at z0 z1 z2 z3 z4 z5 z6;have S:Hd (JP B (.slice (some ⟨g2,0,none⟩) (N+o) a8) (p++ch,f+o) w8):=E.o.push ai.o cc.o (by rw[fb,az.o];exact P) H b2.o;clear P H ap an))
    go_wp2
    go_roundw
    case rel=>exact⟨k+1,by omega,by go_num,by rw[Y.o];exact S.o⟩
    case measure=>simp[intOf];omega
   ·by_cases h2:a6=2
    ·subst h2;obtain⟨b9,b8,-⟩:=Ac.jT V rfl;change 1<=r.length at b9;change r.length<=80 at b8;have a3:r.length=m:=X.jd.len;have O:Ac.vh l (p,f) (PV.pt ⟨2,q,C,m,d,r,t,A,z,y⟩)=(p++r,f):=rfl;rw[O]at Y L;have a0:(p++r).length<=80:=L.2;rw[VI,a3]at a0;rw[a3]at b9 b8;obtain⟨N,G⟩:∃N,p.length=N:=⟨_,rfl⟩;have b0:=hId G;have bh:=E.o.lt;have ay:Hd (some wr.heap.size≠u9.ownBlock):=fun e=>by have:=(E.o.own.lt _ e.symm).2;omega
     have T:=ab.o;have W:Hd (bV (aH ⟨2,q,C,m,d,r,t,A,z,y⟩ wr) wr.heap.size 0 ⟨2,q,C,m,d,r,t,A,z,y⟩):=dS _ wr;have F:Below wr.heap.size wr (aH ⟨2,q,C,m,d,r,t,A,z,y⟩ wr):=aK _ wr;have K:=hId (E.o.bf.trans (F.mono (by omega)));have a4:Hd ((aH ⟨2,q,C,m,d,r,t,A,z,y⟩ wr).ownsRow (B.heap.size+1) 67 3 u9 N (aI p)):=by
      have:=ax E.o.own F;rw[G]at this;exact this
     have I:Hd (Blk (aH ⟨2,q,C,m,d,r,t,A,z,y⟩ wr) B.heap.size [.int .i64 f] 3):=(F.block _ E.o.JB.lt).trans E.o.JB;have ac:Hd (Blk (aH ⟨2,q,C,m,d,r,t,A,z,y⟩ wr) w.heap.size [.slice (some ⟨b,J,none⟩) n D] 23):=(K.o.block _ T).trans af.o;have bl:=hId (a5.o.below K.o);obtain⟨ib,io,rfl,bc⟩:=X.jd.bH (by change m≠0;omega);have c9:Hd (∀j u,(aI r)[j]?=some u->(aH ⟨2,q,some ⟨ib,io,none⟩,m,d,r,t,A,z,y⟩ wr).cell? ((⟨ib,io,none⟩:Addr).add j)=some u):=lW (bc.below K.o);have b1:Hd ((aI r).length=m*3):=by show _=_;rw[dP,a3]
     have b2:Hd (Fit (p++r)):=qY E.o.fit X.jd.fit;have bs:N+m<=80:=by omega
     have az:Hd ((p++r).length=N+m):=by show _=_;rw[VI,a3,G]
     have bp:B.heap.size+1<=(aH ⟨2,q,some ⟨ib,io,none⟩,m,d,r,t,A,z,y⟩ wr).heap.size:=I.o.lt;clear O aq L a0 G F V X bc a3;go_upto_region 13 with fail
     change Code.wp prog _ _ _ (aH ⟨2,q,some ⟨ib,io,none⟩,m,d,r,t,A,z,y⟩ wr);generalize aH ⟨2,q,some ⟨ib,io,none⟩,m,d,r,t,A,z,y⟩ wr=W5 at*;clear c0 c1 c2 c3 c4 c5 c6;obtain⟨d0,d1,d2,d3,d4,d5,d6⟩:=W.o;simp only[VR]at d0 d1 d2 d3 d4 d5 d6
     go_wp2_with (at_builtin;refine jO _ rfl (.tmp 39) (.tmp 41) 23 22 67 rfl underlying22 (B.heap.size+1) 67 i0 (.agg #[.int .u8 0,.int .i64 0,.string ⟨#[]⟩]) 3 32 underlying23 hi b5 b4 b3 rfl (by decide) u9 N (aI p) rfl a4.o ⟨ib,io,none⟩ m d (aI r) rfl b1.o c9.o (bR _) (by omega) (by unfold maxLen;omega) (by omega) bp _ rfl ?c7)
     case c7=>
      intro g2 a8 w8 P H ap bq;have S:Hd (JP B (.slice (some ⟨g2,0,none⟩) (N+m) a8) (p++r,f) w8):=E.o.push I.o K.o (by rw[fb,az.o];exact P) H b2.o;clear P H ap bq;go_wp2
      go_roundw
      case rel=>exact⟨k+1,by omega,by go_num,by rw[Y.o];exact S.o⟩
      case measure=>simp[intOf];omega
    ·by_cases h3:a6=3
     ·subst h3;obtain⟨am,al⟩:=Ac.Ay V rfl;change 1<=q at am;change q<=80 at al;obtain⟨o,rfl⟩:∃o:Nat,q=o:=⟨q.toNat,by omega⟩;have O:Ac.vh l (p,f) (PV.pt ⟨3,o,C,m,d,r,t,A,z,y⟩)=(p,f+o):=rfl;rw[O]at Y L;obtain⟨N,G⟩:∃N,p.length=N:=⟨_,rfl⟩;have b0:=hId G;have bh:=E.o.lt;have ay:Hd (some wr.heap.size≠u9.ownBlock):=fun e=>by have:=(E.o.own.lt _ e.symm).2;omega
      have T:=ab.o;have W:Hd (bV (aH ⟨3,o,C,m,d,r,t,A,z,y⟩ wr) wr.heap.size 0 ⟨3,o,C,m,d,r,t,A,z,y⟩):=dS _ wr;have F:Below wr.heap.size wr (aH ⟨3,o,C,m,d,r,t,A,z,y⟩ wr):=aK _ wr;have K:=hId (E.o.bf.trans (F.mono (by omega)));have a4:Hd ((aH ⟨3,o,C,m,d,r,t,A,z,y⟩ wr).ownsRow (B.heap.size+1) 67 3 u9 N (aI p)):=by
       have:=ax E.o.own F;rw[G]at this;exact this
      have I:Hd (Blk (aH ⟨3,o,C,m,d,r,t,A,z,y⟩ wr) B.heap.size [.int .i64 f] 3):=(F.block _ E.o.JB.lt).trans E.o.JB;have ac:Hd (Blk (aH ⟨3,o,C,m,d,r,t,A,z,y⟩ wr) w.heap.size [.slice (some ⟨b,J,none⟩) n D] 23):=(K.o.block _ T).trans af.o;have bl:=hId (a5.o.below K.o);have a1:0<o:=by omega
      have ak:f+o<=n:=L.1;have CN:=hId (qC B.heap.size w.heap.size b J n D f o (f+o) _ I.o ac.o (by omega) rfl a1 ak a7 ah);have Q:Hd (Below B.heap.size B ((aH ⟨3,o,C,m,d,r,t,A,z,y⟩ wr).setCell ⟨B.heap.size,0,none⟩ (.int .i64 ((f+o:Nat):Int)))):=K.o.setCell (UZ _) _;have U:Hd (Blk ((aH ⟨3,o,C,m,d,r,t,A,z,y⟩ wr).setCell ⟨B.heap.size,0,none⟩ (.int .i64 ((f+o:Nat):Int))) B.heap.size [.int .i64 ((f+o:Nat):Int)] 3):=I.o.set 0 _;have av:Hd (bV ((aH ⟨3,o,C,m,d,r,t,A,z,y⟩ wr).setCell ⟨B.heap.size,0,none⟩ (.int .i64 ((f+o:Nat):Int))) wr.heap.size 0 ⟨3,o,C,m,d,r,t,A,z,y⟩):=W.o.same (XN (aH ⟨3,o,C,m,d,r,t,A,z,y⟩ wr) _ _ _ (by simp;omega));have aw:Hd (((aH ⟨3,o,C,m,d,r,t,A,z,y⟩ wr).setCell ⟨B.heap.size,0,none⟩ (.int .i64 ((f+o:Nat):Int))).ownsRow (B.heap.size+1) 67 3 u9 N (aI p)):=ownsRow_setCell_below a4.o (by simp) _;have bm:=hId (a5.o.below Q.o);have S:Hd (JP B u9 (p,f+o) ((aH ⟨3,o,C,m,d,r,t,A,z,y⟩ wr).setCell ⟨B.heap.size,0,none⟩ (.int .i64 ((f+o:Nat):Int)))):=⟨by rw[b0.o];exact aw.o,U.o,Q.o,E.o.fit⟩;clear O aq L G F V X;go_upto_region 13 with fail
      change Code.wp prog _ _ _ (aH ⟨3,o,C,m,d,r,t,A,z,y⟩ wr);generalize aH ⟨3,o,C,m,d,r,t,A,z,y⟩ wr=W5 at*;clear c0 c1 c2 c3 c4 c5 c6;obtain⟨d0,d1,d2,d3,d4,d5,d6⟩:=W.o;simp only[VR]at d0 d1 d2 d3 d4 d5 d6
      go_wp2_with fail
      refine CN.o.mono ?_
      rintro e w6⟨rfl,rfl⟩;go_wp2
      go_roundw
      case rel=>exact⟨k+1,by omega,by go_num,by rw[Y.o];exact S.o⟩
      case measure=>simp[intOf];omega
     ·exact absurd (Ac.cz V) (fun h=>h.elim h1 (fun h=>h.elim h2 h3))
  ·have bu:k=n':=by omega
   have hm:Ac.mk l ((M.map PV.pt).take k)=Ac.mk l (M.map PV.pt):=by rw[XD (by rw[VH,HN.o];omega)]
   rw[hm]at E;obtain⟨a,c,hv,hd⟩:=sW E.o.own E.o.fit rfl;have ca:Hd (∀ad:Addr,a=some ad->w.heap.size<=ad.block):=fun ad e=>by
    have h1:=aS E.o.own ad.block (by rw[hv,e];rfl);have:=H2.o.size;omega
   rw[HR.o]at hv hd;have HB:=hId (H2.o.trans (E.o.bf.mono (YB ab.o)));have bk:=hId hd;obtain⟨rl,aj⟩:∃rl,R.length=rl:=⟨_,rfl⟩;rw[aj]at hv bk;have be:=hId aj;subst hv bu;clear hm hd aj;go_wp2
   go_ret2
   exact⟨⟨a,c,by rw[be.o];rfl,by rw[be.o];exact bk.o,ca.o⟩,HB.o⟩
