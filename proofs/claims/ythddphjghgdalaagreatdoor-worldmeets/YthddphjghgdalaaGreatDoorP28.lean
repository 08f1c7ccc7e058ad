/- A part. -/
import Derived.Test.YthddphjghgdalaaGreatDoorP25
import Derived.Lib.IndexMore
import Derived.Lib.Strings
import Derived.Lib.BufSteps
set_option maxRecDepth 100000
set_option maxHeartbeats 1600000
namespace Go.Proofs.YthddphjghgdalaaGreatDoor
open Go.RowKit Go.Proofs.Tryz
structure Tk where
 kind:Int
 name:List UInt8
 text:List UInt8
 kG:List UInt8
namespace Tk
def sp (c:UInt8):Bool:=c == 32 || c == 9 || c == 10 || c == 13 || c == 12
def letter (c:UInt8):Bool:=(decide (97<=c)&&decide (c<=122)) || (decide (65<=c)&&decide (c<=90))
def oP (c:UInt8):Bool:=!sp c&&c != 47&&c != 62
def ej (c:UInt8):Bool:=!sp c&&c != 47&&c != 62&&c != 61
def BM (c:UInt8):Bool:=!sp c&&c != 62
def not (q:UInt8) (c:UInt8):Bool:=c != q
def nL:List UInt8:=[104,114,101,102]
def after (pat:List UInt8):List UInt8->Option (List UInt8)
 | []=>none
 | c :: t=>if pat.isPrefixOf (c :: t) then some ((c :: t).drop pat.length) else after pat t
def val:List UInt8->List UInt8 × List UInt8
 | []=>([],[])
 | q :: r=>if q == 34 || q == 39 then (r.takeWhile (not q),(r.dropWhile (not q)).drop 1) else ((q :: r).takeWhile BM,(q :: r).dropWhile BM)
def value (r:List UInt8):List UInt8 × List UInt8 :=
 match r.dropWhile sp with
 | []=>([],r)
 | c :: r2=>if c == 61 then val (r2.dropWhile sp) else ([],r)
def sJ:Nat->List UInt8->Option (List UInt8)->Option (Option (List UInt8) × List UInt8)
 | 0,_,_=>none
 | _+1,[],_=>none
 | n+1,c :: t,h=>if c == 62 then some (h,t) else if sp c || c == 47 then sJ n t h else
   sJ n (value (t.dropWhile ej)).2 (if Lk.small (c :: t.takeWhile ej) == nL&&h.isNone then some (value (t.dropWhile ej)).1 else h)
theorem cd(p:UInt8->Bool)(l:List UInt8):(l.dropWhile p).length<=l.length:=(List.dropWhile_sublist p).length_le
theorem Eb(l:List UInt8):(val l).2.length<=l.length:=by
 cases l with
 |nil=>exact UZ _
 |cons q r=>
  rw[val];split
  ·have:=cd (not q) r;simp only[XG,VG]
   omega
  ·exact cd BM (q::r)
theorem lC(l:List UInt8):(value l).2.length<=l.length:=by
 unfold value;have b:=cd sp l
 cases h:l.dropWhile sp with
 |nil=>exact UZ _
 |cons c a=>
  rw[h]at b;simp only
  split
  ·have e:=Eb (a.dropWhile sp);have d:=cd sp a;simp at b
   omega
  ·exact UZ _
theorem pP:∀(n m:Nat)(l:List UInt8)(h:Option (List UInt8)),l.length<n->l.length<m->sJ n l h=sJ m l h
 |0,_,_,_,h,_=>by omega
 |_,0,_,_,_,h=>by omega
 |n+1,m+1,[],_,_,_=>rfl
 |n+1,m+1,c::t,h,b,a=>by
  have e:=lC (t.dropWhile ej);have d:=cd ej t;simp only[VG]at b a
  unfold sJ;rw[pP n m t h (by omega) (by omega),pP n m (value (t.dropWhile ej)).2 _ (by omega) (by omega)]
def attr (l:List UInt8) (h:Option (List UInt8)):Option (Option (List UInt8) × List UInt8):=sJ (l.length+1) l h
theorem BN(h:Option (List UInt8)):attr [] h=none:=rfl
theorem iC (c:UInt8) (t:List UInt8) (h:Option (List UInt8)):attr (c :: t) h=if c == 62 then some (h,t) else if sp c || c == 47 then attr t h else
   attr (value (t.dropWhile ej)).2 (if Lk.small (c :: t.takeWhile ej) == nL&&h.isNone then some (value (t.dropWhile ej)).1 else h):=by
 have h3:=lC (t.dropWhile ej);have h4:=cd ej t;show sJ (t.length+1+1) (c :: t) h=_
 unfold sJ;rw[pP (t.length+1) ((value (t.dropWhile ej)).2.length+1) (value (t.dropWhile ej)).2 _ (by omega) (by omega)];rfl
theorem uz:∀(n:Nat)(l:List UInt8)(h:Option (List UInt8))(x:Option (List UInt8)×List UInt8),l.length<=n->attr l h=some x->x.2.length<l.length
 |_,[],_,_,_,e=>by rw[BN]at e;cases e
 |0,_::_,_,_,a,_=>by simp at a
 |n+1,c::t,h,x,a,e=>by
  have d:=lC (t.dropWhile ej);have b:=cd ej t;simp only[VG]at a⊢
  rw[iC]at e;split at e
  ·cases e;simp
  split at e
  ·have:=uz n t h x (by omega) e;omega
  ·have:=uz n _ _ x (by omega) e;omega
def ou (l:List UInt8):Tk:=⟨1,[],l,[]⟩
def mh:Tk:=⟨4,[],[],[]⟩
def tag (shut:Bool) (u:List UInt8):List Tk × List UInt8 :=
 match attr (u.dropWhile oP) none with
 | some (h,r)=>([⟨if shut then 3 else 2,Lk.small (u.takeWhile oP),[],if shut then [] else Esc.rd (h.getD [])⟩],r)
 | none=>([],[])
def iK:List UInt8->List Tk × List UInt8
 | []=>([ou [60]],[47])
 | e :: v=>if letter e then tag true (e :: v) else ([ou [60]],47 :: e :: v)
def kC (t:List UInt8):List Tk × List UInt8 :=
 if ([33,45,45]:List UInt8).isPrefixOf t then ([mh],(after [45,45,62] (t.drop 3)).getD [])
 else match t with
  | []=>([ou [60]],[])
  | d :: u=>if d == 33 || d == 63 then ([mh],(after [62] t).getD [])
   else if d == 47 then iK u else if letter d then tag false t else ([ou [60]],t)
def first (c:UInt8) (t:List UInt8):List Tk × List UInt8 :=
 if c == 60 then kC t else ([ou (Esc.rd (c :: t.takeWhile (not 60)))],t.dropWhile (not 60))
def wB:Nat->List UInt8->List Tk
 | 0,_=>[]
 | _+1,[]=>[]
 | n+1,c :: t=>(first c t).1++wB n (first c t).2
def eA (l:List UInt8):List Tk:=wB l.length l
theorem xZ(p:List UInt8):∀(l r:List UInt8),after p l=some r->r.length<=l.length
 |[],_,h=>by cases h
 |c::t,r,h=>by
  rw[after]at h;split at h
  ·cases h;simp
  ·have:=xZ p t r h;simp;omega
theorem BU(p l:List UInt8):((after p l).getD []).length<=l.length:=by
 cases h:after p l with
 |none=>simp
 |some r=>exact xZ p l r h
theorem Ek(s:Bool)(u:List UInt8):(tag s u).2.length<=u.length:=by
 unfold tag;have b:=cd oP u
 cases h:attr (u.dropWhile oP) none with
 |none=>simp
 |some x=>
  have:=uz _ _ _ x (UZ _) h;obtain⟨a,r⟩:=x;simp only at this⊢
  omega
theorem xX:kC []=([ou [60]],[]):=rfl
theorem mR(d:UInt8)(u:List UInt8):kC (d::u)=if([33,45,45]:List UInt8).isPrefixOf (d::u)then([mh],(after [45,45,62] ((d::u).drop 3)).getD [])else if d==33||d==63 then([mh],(after [62] (d::u)).getD [])
  else if d==47 then iK u else if letter d then tag false (d::u)else([ou [60]],d::u):=rfl
theorem za(u:List UInt8):(iK u).2.length<=u.length+1:=by
 cases u with
 |nil=>simp[iK]
 |cons e v=>
  rw[iK];split
  ·have:=Ek true (e::v);simp only[VG]at this⊢;omega
  ·simp
theorem xY(t:List UInt8):(kC t).2.length<=t.length:=by
 cases t with
 |nil=>simp[xX]
 |cons d u=>
  rw[mR];split
  ·have:=BU [45,45,62] ((d::u).drop 3);simp only[XG]at this
   simp only
   omega
  split
  ·exact BU [62] (d::u)
  split
  ·have:=za u;simp only[VG]
   omega
  split
  ·exact Ek false (d::u)
  ·simp
theorem lQ(c:UInt8)(t:List UInt8):(first c t).2.length<=t.length:=by
 unfold first;split
 ·exact xY t
 ·exact cd _ t
theorem tN:∀(n m:Nat)(l:List UInt8),l.length<=n->l.length<=m->wB n l=wB m l
 |0,0,_,_,_=>rfl
 |0,_+1,[],_,_=>rfl
 |_+1,0,[],_,_=>rfl
 |0,_+1,_::_,h,_=>by simp at h
 |_+1,0,_::_,_,h=>by simp at h
 |_+1,_+1,[],_,_=>rfl
 |n+1,m+1,c::t,b,a=>by
  have:=lQ c t;simp only[VG]at b a
  simp only[wB]
  rw[tN n m _ (by omega) (by omega)]
theorem zB:eA []=[]:=rfl
theorem dD(c:UInt8)(t:List UInt8):eA (c::t)=(first c t).1++eA (first c t).2:=by
 have:=lQ c t;show(first c t).1++wB t.length (first c t).2=_
 rw[tN t.length (first c t).2.length _ this (UZ _)];rfl
end Tk
namespace Tk
open Pg (Nm Tok enc)
def one:Tok->Tk
 | .inl (.inl n)=>⟨2,Pg.name n,[],[]⟩
 | .inl (.inr n)=>⟨3,Pg.name n,[],[]⟩
 | .inr (.inl l)=>⟨2,[97],[],l⟩
 | .inr (.inr c)=>ou [c]
def Em (u:List UInt8):List Tk:=if u.isEmpty then [] else [ou u]
theorem tw'(x:UInt8)(r:List UInt8)(l:List UInt8)(h:∀y∈l,y≠x):(l++x::r).takeWhile (not x)=l/\(l++x::r).dropWhile (not x)=x::r:=
 Pg.tw (not x) x r (by simp[not]) l (fun y a=>by simpa[not]using h y a)
theorem ER(p:UInt8->Bool):∀t:List UInt8,(∀y∈t,p y=true)->t.takeWhile p=t/\t.dropWhile p=[]
 |[],_=>⟨rfl,rfl⟩
 |x::t,h=>by
  obtain⟨d,c⟩:=ER p t (fun y b=>h y (by simp[b]));have a:=h x (by simp);exact⟨by rw[XK,a,d];rfl,by rw[WS,a,c];rfl⟩
end Tk
namespace Tk
open Pg (Nm Tok enc St)
def names:List (List UInt8):=[[112],[104,49],[104,50],[108,105],[117,108],[97],[98],[105]]
def pD (o:List (List UInt8)) (k:Tk):Bool:=names.contains k.name&&((k.name == [97]) == !k.kG.isEmpty)&&(k.kG.isEmpty || Lk.may k.kG)&&!o.contains k.name
def gC:List Tk->List (List UInt8)->List UInt8->Option (List (List UInt8) × List UInt8)
 | [],o,t=>some (o,t)
 | k :: ks,o,t=>if k.kind == 1 then gC ks o (t++k.text) else if k.kind == 2 then (if pD o k then gC ks (o++[k.name]) t else none)
   else if k.kind == 3 then (if o.getLast? == some k.name then gC ks o.dropLast t else none) else none
def eQ:List Tok->List (List UInt8)->List UInt8->Option (List (List UInt8) × List UInt8)
 | [],o,t=>some (o,t)
 | .inr (.inr c) :: r,o,t=>eQ r o (t++[c])
 | .inl (.inl n) :: r,o,t=>if pD o (one (.op n)) then eQ r (o++[Pg.name n]) t else none
 | .inl (.inr n) :: r,o,t=>if o.getLast? == some (Pg.name n) then eQ r o.dropLast t else none
 | .inr (.inl l) :: r,o,t=>if pD o (one (.a l)) then eQ r (o++[[97]]) t else none
theorem dx:∀(s r:List Tok)(o:List (List UInt8))(t:List UInt8),eQ (s++r) o t=(eQ s o t).bind fun x=>eQ r x.1 x.2
 |[],r,o,t=>rfl
 | .inr (.inr c)::s,r,o,t=>by rw[VF,eQ,eQ,dx s r]
 | .inl (.inl n)::s,r,o,t=>by
  rw[VF,eQ,eQ,dx s r];split<;>rfl
 | .inl (.inr n)::s,r,o,t=>by
  rw[VF,eQ,eQ,dx s r];split<;>rfl
 | .inr (.inl l)::s,r,o,t=>by
  rw[VF,eQ,eQ,dx s r];split<;>rfl
theorem j9:∀(u:List UInt8)(o:List (List UInt8))(t:List UInt8),eQ (u.map .ch) o t=some (o,t++u)
 |[],o,t=>by simp[eQ]
 |c::u,o,t=>by rw[XA,eQ,j9 u,VT];rfl
theorem SO(o:List (List UInt8))(n:Nm)(a:n≠.a)(h:o.contains (Pg.name n)=false):pD o (one (.op n))=true:=by
 unfold pD;rw[show(one (.op n)).name=Pg.name n from rfl,h];obtain⟨x,y,z⟩:=n
 cases x<;>cases y<;>cases z<;>first|rfl|exact absurd rfl a
theorem lT(n:Nm)(s:List Tok)(o:List (List UInt8))(t u:List UInt8)(b:n≠.a)(h:o.contains (Pg.name n)=false)(a:eQ s (o++[Pg.name n]) t=some (o++[Pg.name n],t++u)):
  eQ (.op n::(s++[.cl n])) o t=some (o,t++u):=by
 rw[eQ,SO o n b h,VC rfl,dx,a];show eQ [.cl n] (o++[Pg.name n]) (t++u)=_
 rw[eQ,List.getLast?_append];simp[eQ]
def clean (o:List (List UInt8)):Prop:=o.contains [97]=false/\o.contains [98]=false/\o.contains [105]=false
theorem yN(o:List (List UInt8))(x y:List UInt8)(h:o.contains x=false)(a:x≠y):(o++[y]).contains x=false:=by
 have b:x∉o:=by simpa using h
 simp[b,a]
theorem xM(m:Int)(e:0<=m)(d:m<=3)(u:List UInt8)(o:List (List UInt8))(t:List UInt8)(b:o.contains [98]=false)(a:o.contains [105]=false):eQ (Pg.Gu m (u.map .ch)) o t=some (o,t++u):=by
 have c:m=0\/m=1\/m=2\/m=3:=by omega
 rcases c with rfl|rfl|rfl|rfl
 ·exact j9 u o t
 ·exact lT .b _ o t u (by decide) b (j9 u _ t)
 ·exact lT .i _ o t u (by decide) a (j9 u _ t)
 ·exact lT .b _ o t u (by decide) b (lT .i _ _ t u (by decide) (yN o _ _ a (by decide)) (j9 u _ t))
def Good (x:It):Prop:=0<=x.m/\x.m<=3/\(x.l.toList.isEmpty=true\/Lk.may x.l.data.toList=true)
theorem L9(x:It)(k:Good x)(u:List UInt8)(o:List (List UInt8))(t:List UInt8)(l:clean o):eQ (Pg.Po x u) o t=some (o,t++u):=by
 obtain⟨g,f,m⟩:=k;obtain⟨i,d,oi⟩:=l;unfold Pg.Po Pg.linked
 cases e:x.l.toList.isEmpty
 ·have a:Lk.may x.l.data.toList=true:=by rcases m with h|h;rw[e]at h;cases h;exact h
  have c:x.l.data.toList.isEmpty=false:=by rw[<-Lib.toList_data];exact e
  have b:pD o (one (.a x.l.data.toList))=true:=by
   unfold pD;show(names.contains [97]&&(([97]==[97])==!x.l.data.toList.isEmpty)&&(x.l.data.toList.isEmpty||Lk.may x.l.data.toList)&&!o.contains [97])=true
   rw[c,a,i];rfl
  rw[VD (by decide),eQ,b,VC rfl,dx,xM x.m g f u _ t (yN o _ _ d (by decide)) (yN o _ _ oi (by decide))];show eQ [.cl .a] (o++[[97]]) (t++u)=_
  rw[eQ,List.getLast?_append];simp[eQ,Pg.name]
 ·rw[VC rfl];exact xM x.m g f u o t d oi
def Pj (b:Bool):List (List UInt8):=if b then [[117,108]] else []
theorem D7(a b:Bool)(t:List UInt8):eQ (Pg.lists a b) (Pj a) t=some (Pj b,t):=by
 cases a<;>cases b<;>rfl
def chars (l:List It):List UInt8:=(l.filter (fun x=>!Dc.ends x)).map It.c
theorem kA(l:List It)(x:It):chars (l++[x])=if Dc.ends x then chars l else chars l++[x.c]:=by
 unfold chars;rw[List.filter_append,WN]
 cases h:Dc.ends x<;>simp[h]
structure JN (S:St) (l:List It):Prop where
 back:∃ T1 T2,eQ S.rJ [] []=some (Pj S.list,T1)/\(∀ o t,clean o->eQ S.ins o t=some (o,t++T2))/\chars l=T1++T2++S.text
 ok:S.text≠[]->Good S.last
theorem JN.flush{S:St}{l:List It}(h:JN S l):JN (Pg.flush S) l:=by
 obtain⟨⟨f,b,m,k,i⟩,g⟩:=h;refine⟨⟨f,b++S.text,m,fun o t d=>?_,?_⟩,fun h=>absurd rfl h⟩
 ·show eQ (S.ins++Pg.tail S.last S.text) o t=_
  rw[dx,k o t d];show eQ (Pg.tail S.last S.text) o (t++b)=_
  unfold Pg.tail
  cases a:S.text.isEmpty
  ·have c:S.text≠[]:=by intro e;rw[e]at a;cases a
   rw[VD (by decide),L9 S.last (g c) S.text o _ d,VT]
  ·have e:S.text=[]:=by simpa using a
   rw[VC rfl,e,VY];rfl
 ·rw[i];show _=f++(b++S.text)++[]
  simp
theorem DL(b:Bool)(m:Int):clean (Pj b++[Pg.name (Pg.kind m)])/\(Pj b).contains (Pg.name (Pg.kind m))=false/\Pg.kind m≠.a:=by
 unfold clean Pg.kind;split
 ·cases b<;>decide
 split
 ·cases b<;>decide
 split
 ·cases b<;>decide
 ·cases b<;>decide
theorem JN.step{S:St}{l:List It}{x:It}(h:JN S l)(g:Good x):JN (Pg.step S x) (l++[x]):=by
 unfold Pg.step
 cases f:Dc.ends x
 ·simp only[YA,if_false]
  cases p:(!S.text.isEmpty&&Pg.diff S.last x)
  ·simp only[YA,if_false]
   obtain⟨⟨a,b,e,d,c⟩,i⟩:=h;refine⟨⟨a,b,e,d,?_⟩,fun _=>g⟩
   rw[kA,f,c];simp
  ·simp only[if_true]
   obtain⟨⟨a,b,e,d,c⟩,i⟩:=h.flush;refine⟨⟨a,b,e,d,?_⟩,fun _=>g⟩
   rw[kA,f,c,Pg.dT];simp
 ·simp only[if_true]
  obtain⟨⟨a,b,e,d,c⟩,i⟩:=h.flush;refine⟨⟨a++b,[],?_,fun o t _=>?_,?_⟩,fun h=>absurd (Pg.dT S) h⟩
  ·show eQ ((Pg.flush S).rJ++Pg.lists (Pg.flush S).list (x.m==2)++.op (Pg.kind x.m)::((Pg.flush S).ins++[.cl (Pg.kind x.m)])) [] []=some (Pj (x.m==2),a++b)
   obtain⟨n,m,k⟩:=DL (x.m==2) x.m;rw[dx,dx,e];show((eQ (Pg.lists (Pg.flush S).list (x.m==2)) (Pj (Pg.flush S).list) a).bind fun z=>eQ (.op (Pg.kind x.m)::((Pg.flush S).ins++[.cl (Pg.kind x.m)])) z.1 z.2)=_
   rw[D7];exact lT (Pg.kind x.m) _ _ a b k m (d _ _ n)
  ·show eQ [] o t=_
   simp[eQ]
  ·rw[kA,f,c,Pg.dT];show _=a++b++[]++(Pg.flush S).text
   rw[Pg.dT];simp
end Tk
namespace Tk
def E (w:List UInt8):Prop:=w.getLast?=some 62
def qL:List UInt8:=[60,113,62]
theorem og:¬E []:=by intro h;cases h
theorem mU{c:UInt8}{t:List UInt8}(h:E (c::t))(a:c≠62):E t:=by
 cases t with
 |nil=>unfold E at h;simp at h;exact absurd h a
 |cons d u=>unfold E at h⊢;rw[List.getLast?_cons_cons]at h;exact h
theorem Ma:∀(a:List UInt8)(c:UInt8)(b:List UInt8),E (a++c::b)->E (c::b)
 |[],_,_,h=>h
 |x::a,c,b,h=>by
  refine Ma a c b ?_
  unfold E at h⊢
  cases e:a++c::b with
  |nil=>simp at e
  |cons d u=>rw[VF,e,List.getLast?_cons_cons]at h;exact h
theorem vK:∀(n:Nat){w:List UInt8},E w->w.drop n=[]\/E (w.drop n)
 |0,w,h=>.inr h
 |n+1,[],h=>.inl rfl
 |n+1,c::t,h=>by
  show t.drop n=[]\/E (t.drop n)
  cases t with
  |nil=>exact .inl (by simp)
  |cons d u=>exact vK n (by unfold E at h⊢;rw[List.getLast?_cons_cons]at h;exact h)
theorem JK(p:UInt8->Bool)(b:p 62=false):∀{w:List UInt8},E w->E (w.dropWhile p)/\∀X,(w++X).takeWhile p=w.takeWhile p/\(w++X).dropWhile p=w.dropWhile p++X
 |[],h=>absurd h og
 |c::t,h=>by
  cases a:p c
  ·refine⟨by rw[WS,a];exact h,fun X=>⟨?_,?_⟩⟩
   ·rw[VF,XK,XK,a];rfl
   ·rw[VF,WS,WS,a];rfl
  ·obtain⟨f,d⟩:=JK p b (mU h (by intro e;rw[e,b]at a;cases a));refine⟨by rw[WS,a];exact f,fun X=>⟨?_,?_⟩⟩
   ·rw[VF,XK,XK,a,(d X).1]
   ·rw[VF,WS,WS,a,(d X).2];rfl
theorem quote(q:UInt8):∀(w:List UInt8),(∃r,w.dropWhile (not q)=q::r/\∀X,(w++X).takeWhile (not q)=w.takeWhile (not q)/\(w++X).dropWhile (not q)=q::(r++X))\/(∀y∈w,not q y=true)
 |[]=>.inr (fun y b=>by simp at b)
 |c::t=>by
  cases a:not q c
  ·have e:c=q:=by simpa[not]using a
   subst e;refine .inl ⟨t,by rw[WS,a];rfl,fun X=>⟨?_,?_⟩⟩
   ·rw[VF,XK,XK,a];rfl
   ·rw[VF,WS,a];rfl
  ·rcases quote q t with⟨r,f,d⟩|h
   ·refine .inl ⟨r,by rw[WS,a];exact f,fun X=>⟨?_,?_⟩⟩
    ·rw[VF,XK,XK,a,(d X).1]
    ·rw[VF,WS,a];exact(d X).2
   ·exact .inr (fun y b=>by rcases WG.1 b with rfl|b;exact a;exact h y b)
theorem Rn{w:List UInt8}(h:E w):(∃v r,val w=(v,r)/\E r/\∀X,val (w++X)=(v,r++X))\/(∃v,val w=(v,[])/\∃n,val (w++qL)=(n,[])):=by
 cases w with
 |nil=>exact absurd h og
 |cons q r=>
  cases a:(q==34||q==39)
  ·left
   obtain⟨b,f⟩:=JK BM (by decide) h;refine⟨(q::r).takeWhile BM,(q::r).dropWhile BM,by rw[val,a];rfl,b,fun X=>?_⟩
   rw[VF,val,a];show((q::(r++X)).takeWhile BM,(q::(r++X)).dropWhile BM)=_
   have:=f X;rw[VF]at this;rw[this.1,this.2]
  ·have d:q≠62:=by intro e;subst e;cases a
   have i:=mU h d;rcases quote q r with⟨u,b,f⟩|b
   ·left
    have o:E u:=by
     have e:=List.takeWhile_append_dropWhile (p:=not q) (l:=r);rw[b]at e;rw[<-e]at i;exact mU (Ma _ _ _ i) d
    refine⟨r.takeWhile (not q),u,?_,o,fun X=>?_⟩
    ·rw[val,a,b];rfl
    ·rw[VF,val,a,(f X).1,(f X).2];rfl
   ·right
    obtain⟨A,z⟩:=ER (not q) r b;have g:q=34\/q=39:=by simpa using a
    have s:∀y∈r++qL,not q y=true:=fun y c=>by
     rcases VW.1 c with c|c
     ·exact b y c
     ·have m:∀y∈qL,not 34 y=true:=by decide
      have k:∀y∈qL,not 39 y=true:=by decide
      rcases g with rfl|rfl
      ·exact m y c
      ·exact k y c
    obtain⟨x,t⟩:=ER (not q) (r++qL) s;refine⟨r,?_,r++qL,?_⟩
    ·rw[val,a,A,z];rfl
    ·rw[VF,val,a,x,t];rfl
theorem Mq{w:List UInt8}(h:E w):(∃v r,value w=(v,r)/\E r/\∀X,value (w++X)=(v,r++X))\/(∃v,value w=(v,[])/\∃i,value (w++qL)=(i,[])):=by
 obtain⟨g,p⟩:=JK sp (by decide) h
 cases k:w.dropWhile sp with
 |nil=>rw[k]at g;exact absurd g og
 |cons c f=>
  rw[k]at g p;have o:∀X,value (w++X)=if c==61 then val ((f++X).dropWhile sp)else([],w++X):=fun X=>by
   unfold value;rw[(p X).2];rfl
  have q:value w=if c==61 then val (f.dropWhile sp)else([],w):=by
   unfold value;rw[k]
  cases a:(c==61)
  ·left
   refine⟨[],w,by rw[q,a];rfl,h,fun X=>by rw[o,a];rfl⟩
  ·have n:c≠62:=by intro e;subst e;cases a
   obtain⟨t,s⟩:=JK sp (by decide) (mU g n);have d:value w=val (f.dropWhile sp):=by rw[q,a];rfl
   have b:∀X,value (w++X)=val (f.dropWhile sp++X):=fun X=>by rw[o,a,(s X).2];rfl
   rcases Rn t with⟨v,r,m,l,u⟩|⟨v,m,i,l⟩
   ·exact .inl ⟨v,r,by rw[d,m],l,fun X=>by rw[b,u]⟩
   ·exact .inr ⟨v,by rw[d,m],i,by rw[b,l]⟩
theorem EN:∀(n:Nat)(w:List UInt8)(h:Option (List UInt8)),w.length<=n->E w->
  (∃f r,attr w h=some (f,r)/\(r=[]\/E r)/\∀X,attr (w++X) h=some (f,r++X))\/(attr w h=none/\attr (w++qL) h=none)
 |_,[],_,_,l=>absurd l og
 |0,_::_,_,m,_=>by simp at m
 |n+1,c::t,h,m,l=>by
  simp only[VG]at m
  have o:∀X,attr (c::t++X) h=_:=fun X=>by rw[VF,iC]
  cases b:(c==62)
  ·have u:c≠62:=by simpa using b
   have y:=mU l u
   cases k:(sp c||c==47)
   ·obtain⟨B,x⟩:=JK ej (by decide) y;have C:=cd ej t;have i:=lC (t.dropWhile ej);have a:attr (c::t) h=attr (value (t.dropWhile ej)).2 (if Lk.small (c::t.takeWhile ej)==nL&&h.isNone then some (value (t.dropWhile ej)).1 else h):=by rw[iC,b,k];rfl
    have g:∀X,attr (c::t++X) h=attr (value (t.dropWhile ej++X)).2 (if Lk.small (c::t.takeWhile ej)==nL&&h.isNone then some (value (t.dropWhile ej++X)).1 else h):=fun X=>by
     rw[o,b,k,(x X).1,(x X).2];rfl
    rcases Mq B with⟨v,r,q,p,z⟩|⟨v,q,D,p⟩
    ·rw[q]at a i;simp only at a i
     rcases EN n r (if Lk.small (c::t.takeWhile ej)==nL&&h.isNone then some v else h) (by omega) p with⟨f,A,e,d,s⟩|⟨e,d⟩
     ·exact .inl ⟨f,A,by rw[a,e],d,fun X=>by rw[g,z];exact s X⟩
     ·exact .inr ⟨by rw[a,e],by rw[g,z];exact d⟩
    ·rw[q]at a;exact .inr ⟨by rw[a];rfl,by rw[g,p];rfl⟩
   ·have a:attr (c::t) h=attr t h:=by rw[iC,b,k];rfl
    have g:∀X,attr (c::t++X) h=attr (t++X) h:=fun X=>by rw[o,b,k];rfl
    rcases EN n t h (by omega) y with⟨f,r,e,d,s⟩|⟨e,d⟩
    ·exact .inl ⟨f,r,by rw[a,e],d,fun X=>by rw[g,s]⟩
    ·exact .inr ⟨by rw[a,e],by rw[g,d]⟩
  ·left
   refine⟨h,t,by rw[iC,b];rfl,?_,fun X=>by rw[o,b];rfl⟩
   exact vK 1 l
theorem Ou(b:Bool){u:List UInt8}(h:E u):(∃k r,tag b u=(k,r)/\(r=[]\/E r)/\∀X,tag b (u++X)=(k,r++X))\/(tag b u=([],[])/\tag b (u++qL)=([],[])):=by
 obtain⟨f,d⟩:=JK oP (by decide) h;have e:∀X,tag b (u++X)=match attr (u.dropWhile oP++X) none with
   |some (h,r)=>([⟨if b then 3 else 2,Lk.small (u.takeWhile oP),[],if b then[]else Esc.rd (h.getD [])⟩],r)
   |none=>([],[]):=fun X=>by
  unfold tag;rw[(d X).1,(d X).2]
 rcases EN _ _ none (UZ _) f with⟨i,r,c,a,g⟩|⟨c,a⟩
 ·refine .inl ⟨_,r,by unfold tag;rw[c],a,fun X=>by rw[e,g]⟩
 ·exact .inr ⟨by unfold tag;rw[c],by rw[e,a]⟩
theorem BW:∀{w:List UInt8},E w->∃r,after [62] w=some r/\(r=[]\/E r)/\∀X,after [62] (w++X)=some (r++X)
 |[],h=>absurd h og
 |c::t,h=>by
  by_cases a:c=62
  ·subst a;exact⟨t,rfl,vK 1 h,fun X=>rfl⟩
  ·obtain⟨r,i,g,f⟩:=BW (mU h a);have d:(62==c)=false:=by simpa using fun e=>a e.symm
   have b:∀z:List UInt8,([62]:List UInt8).isPrefixOf (c::z)=false:=fun z=>by simp[List.isPrefixOf,d]
   refine⟨r,by rw[after,b];exact i,g,fun X=>?_⟩
   rw[VF,after,b];exact f X
def oR:List UInt8:=[45,45,62]
theorem L0{w:List UInt8}(h:E w)(X:List UInt8):oR.isPrefixOf (w++X)=oR.isPrefixOf w:=by
 match w,h with
 |[],h=>exact absurd h og
 |[a],h=>
  have:a=62:=by unfold E at h;simpa using h
  subst this;rfl
 |[a,b],h=>
  have:b=62:=by unfold E at h;simpa using h
  subst this;simp[oR,List.isPrefixOf]
 |a::b::c::t,_=>simp[oR,List.isPrefixOf]
theorem vC:∀{w:List UInt8},E w->(∃r,after oR w=some r/\(r=[]\/E r)/\∀X,after oR (w++X)=some (r++X))\/(after oR w=none/\after oR (w++qL)=none)
 |[],h=>absurd h og
 |c::t,h=>by
  have f:∀X,after oR (c::t++X)=if oR.isPrefixOf (c::t)then some ((c::t++X).drop 3)else after oR (t++X):=fun X=>by
   have:=L0 h X;rw[VF]at this⊢;rw[after,this];rfl
  cases a:oR.isPrefixOf (c::t)
  ·have i:after oR (c::t)=after oR t:=by rw[after,a];rfl
   by_cases l:c=62
   ·subst l
    cases t with
    |nil=>exact .inr ⟨rfl,rfl⟩
    |cons d u=>
     have m:E (d::u):=by unfold E at h⊢;rw[List.getLast?_cons_cons]at h;exact h
     rcases vC m with⟨r,e,b,k⟩|⟨e,b⟩
     ·exact .inl ⟨r,by rw[i,e],b,fun X=>by rw[f,a];exact k X⟩
     ·exact .inr ⟨by rw[i,e],by rw[f,a];exact b⟩
   ·rcases vC (mU h l)with⟨r,e,b,k⟩|⟨e,b⟩
    ·exact .inl ⟨r,by rw[i,e],b,fun X=>by rw[f,a];exact k X⟩
    ·exact .inr ⟨by rw[i,e],by rw[f,a];exact b⟩
  ·have g:3<=(c::t).length:=Esc.ji a;refine .inl ⟨(c::t).drop 3,by rw[after,a];rfl,vK 3 h,fun X=>?_⟩
   rw[f,a,VC rfl,List.drop_append_of_le_length g]
def EL:List UInt8:=[33,45,45]
theorem MQ{w:List UInt8}(h:E w)(X:List UInt8):EL.isPrefixOf (w++X)=EL.isPrefixOf w:=by
 match w,h with
 |[],h=>exact absurd h og
 |[a],h=>
  have:a=62:=by unfold E at h;simpa using h
  subst this;rfl
 |[a,b],h=>
  have:b=62:=by unfold E at h;simpa using h
  subst this;simp[EL,List.isPrefixOf]
 |a::b::c::t,_=>simp[EL,List.isPrefixOf]
theorem Of{t:List UInt8}(h:E t):(∃k r,kC t=(k,r)/\(r=[]\/E r)/\∀X,kC (t++X)=(k,r++X))\/(∃k,kC t=(k,[])/\kC (t++qL)=(k,[])):=by
 cases t with
 |nil=>exact absurd h og
 |cons d u=>
  have l:∀X,kC (d::u++X)=if EL.isPrefixOf (d::u)then([mh],(after oR ((d::u++X).drop 3)).getD [])else if d==33||d==63 then([mh],(after [62] (d::u++X)).getD [])
    else if d==47 then iK (u++X)else if letter d then tag false (d::u++X)else([ou [60]],d::u++X):=fun X=>by
   rw[<-MQ h X];rfl
  have m:kC (d::u)=if EL.isPrefixOf (d::u)then([mh],(after oR ((d::u).drop 3)).getD [])else if d==33||d==63 then([mh],(after [62] (d::u)).getD [])
    else if d==47 then iK u else if letter d then tag false (d::u)else([ou [60]],d::u):=rfl
  cases a:EL.isPrefixOf (d::u)
  ·cases b:(d==33||d==63)
   ·cases f:(d==47)
    ·cases c:letter d
     ·exact .inl ⟨[ou [60]],d::u,by rw[m,a,b,f,c];rfl,.inr h,fun X=>by rw[l,a,b,f,c];rfl⟩
     ·rcases Ou false h with⟨k,r,i,g,n⟩|⟨i,g⟩
      ·exact .inl ⟨k,r,by rw[m,a,b,f,c];exact i,g,fun X=>by rw[l,a,b,f,c];exact n X⟩
      ·exact .inr ⟨[],by rw[m,a,b,f,c];exact i,by rw[l,a,b,f,c];exact g⟩
    ·have s:d=47:=by simpa using f
     have w:=mU h (by rw[s];decide)
     cases u with
     |nil=>exact absurd w og
     |cons e v=>
      have o:∀X,iK (e::v++X)=if letter e then tag true (e::v++X)else([ou [60]],47::(e::v++X)):=fun X=>rfl
      cases c:letter e
      ·refine .inl ⟨[ou [60]],d::e::v,?_,.inr h,fun X=>?_⟩
       ·rw[m,a,b,f,iK,c,s];rfl
       ·rw[l,a,b,f,o,c,s];rfl
      ·rcases Ou true w with⟨k,r,i,g,n⟩|⟨i,g⟩
       ·refine .inl ⟨k,r,?_,g,fun X=>?_⟩
        ·rw[m,a,b,f,iK,c];exact i
        ·rw[l,a,b,f,o,c];exact n X
       ·refine .inr ⟨[],?_,?_⟩
        ·rw[m,a,b,f,iK,c];exact i
        ·rw[l,a,b,f,o,c];exact g
   ·obtain⟨r,i,g,n⟩:=BW h;refine .inl ⟨[mh],r,by rw[m,a,b,i];rfl,g,fun X=>by rw[l,a,b,n];rfl⟩
  ·have q:3<=(d::u).length:=Esc.ji a;have z:E ((d::u).drop 3):=by
    rcases vK 3 h with e|e
    ·exfalso
     have y:(d::u).length=3:=by
      have:=VQ List.length e;simp only[XG,List.length_nil]at this
      omega
     have x:=List.isPrefixOf_iff_prefix.1 a;have:=x.eq_of_length (by rw[y];rfl);rw[<-this]at h;unfold E at h
     cases h
    ·exact e
   have p:∀X,(d::u++X).drop 3=(d::u).drop 3++X:=fun X=>List.drop_append_of_le_length q;rcases vC z with⟨r,i,g,n⟩|⟨i,g⟩
   ·exact .inl ⟨[mh],r,by rw[m,a,i];rfl,g,fun X=>by rw[l,a,p,n];rfl⟩
   ·exact .inr ⟨[mh],by rw[m,a,i];rfl,by rw[l,a,p,g];rfl⟩
theorem Jm(p:UInt8->Bool)(x:UInt8)(b:p x=false)(s:List UInt8):∀t:List UInt8,(t++x::s).takeWhile p=t.takeWhile p/\(t++x::s).dropWhile p=t.dropWhile p++x::s
 |[]=>by simp[b]
 |c::t=>by
  obtain⟨e,d⟩:=Jm p x b s t
  cases a:p c
  ·exact⟨by rw[VF,XK,XK,a];rfl,by rw[VF,WS,WS,a];rfl⟩
  ·exact⟨by rw[VF,XK,XK,a,e],by rw[VF,WS,WS,a,d];rfl⟩
theorem parts:∀(n:Nat)(a:List UInt8),a.length<=n->(a=[]\/E a)->(∀s,eA (a++60::s)=eA a++eA (60::s))\/eA (a++qL)=eA a
 |_,[],_,_=>.inl (fun s=>rfl)
 |0,_::_,m,_=>by simp at m
 |n+1,c::t,m,B=>by
  simp only[VG]at m
  have v:E (c::t):=by rcases B with e|e;cases e;exact e
  cases f:(c==60)
  ·have F:=cd (not 60) t;have A:t.dropWhile (not 60)=[]\/E (t.dropWhile (not 60)):=by
    cases y:t.dropWhile (not 60)with
    |nil=>exact .inl rfl
    |cons x r=>
     right
     have e:=List.takeWhile_append_dropWhile (p:=not 60) (l:=t);rw[y]at e;have i:=v;rw[<-e,<-VF]at i;exact Ma _ _ _ i
   have d:first c t=([ou (Esc.rd (c::t.takeWhile (not 60)))],t.dropWhile (not 60)):=by unfold first;rw[f];rfl
   have b:∀s,first c (t++60::s)=([ou (Esc.rd (c::t.takeWhile (not 60)))],t.dropWhile (not 60)++60::s):=fun s=>by
    unfold first;obtain⟨D,C⟩:=Jm (not 60) 60 (by decide) s t;rw[f,D,C];rfl
   rcases parts n (t.dropWhile (not 60)) (by omega) A with h|h
   ·left
    intro s;rw[VF,dD,dD c t,b,d,h s,VT]
   ·right
    show eA (c::t++60::[113,62])=_
    rw[VF,dD,dD c t,b,d];rw[show eA (t.dropWhile (not 60)++60::[113,62])=eA (t.dropWhile (not 60))from h]
  ·have q:c=60:=by simpa using f
   have z:=mU v (by rw[q];decide);have d:first c t=kC t:=by unfold first;rw[f];rfl
   have b:∀X,first c (t++X)=kC (t++X):=fun X=>by unfold first;rw[f];rfl
   have u:=xY t;rcases Of z with⟨k,r,g,o,w⟩|⟨k,g,o⟩
   ·rw[g]at u;rcases parts n r (by simp only at u;omega) o with h|h
    ·left
     intro s;rw[VF,dD,dD c t,b,d,w,g,h s,VT]
    ·right
     rw[VF,dD,dD c t,b,d,w,g,h]
   ·right
    rw[VF,dD,dD c t,b,d,o,g]
end Tk
namespace Lk
theorem Pe(p:UInt8->Bool):∀l:List UInt8,(∀x∈l,p x=false)->tl p l=l
 |[],_=>rfl
 |x::t,h=>by rw[tl,h x (by simp)];rfl
theorem Jw(p:UInt8->Bool):∀l:List UInt8,(∀x∈l,p x=false)->tr p l=l
 |[],_=>rfl
 |x::t,h=>by
  have a:=Jw p t (fun y b=>h y (by simp[b]));rw[tr,a]
  cases t with
  |nil=>simp only;rw[h x (by simp)];rfl
  |cons y u=>rfl
theorem Gw{x:UInt8}(h:iI x=true):33<=x.toNat/\x.toNat<=126/\pO.contains x=false:=by
 unfold iI at h;rw[WD,WD,XF,XF,XH,XH]at h;refine⟨h.1.1,h.1.2,?_⟩
 cases a:pO.contains x
 ·rfl
 ·rw[a]at h;cases h.2
theorem J9{x:UInt8}(h:iI x=true):bl x=false:=by
 have a:=(Gw h).1;unfold bl ff;simp only[List.contains_cons,List.contains_nil,Bool.or_false,Bool.or_eq_false_iff,beq_eq_false_iff_ne]
 refine⟨?_,?_,?_,?_,?_⟩<;>(intro e;subst e;revert a;decide)
theorem IB{c:List UInt8}(h:may c=true):1<=c.length/\c.length<=24/\(∀x∈c,iI x=true)/\lead (scheme c)=true:=by
 unfold may at h;rw[WD,WD,WD,XF,XF,XR]at h;exact⟨h.1.1.1,h.1.1.2,h.1.2,h.2⟩
theorem Jt{c:List UInt8}(h:may c=true):trim c=c:=by
 have a:=fun x b=>J9 ((IB h).2.2.1 x b);unfold trim;rw[Jw bl c a,Pe bl c a]
theorem Iu{c:List UInt8}(h:may c=true):clean c=c:=by
 unfold clean;rw[Jt h,h];rfl
theorem D4{l:List UInt8}(h:clean l≠[]):clean l=trim l/\may (clean l)=true:=by
 unfold clean at h⊢
 cases a:may (trim l)
 ·rw[a]at h;exact absurd rfl h
 ·exact⟨rfl,a⟩
end Lk
namespace Sn
open Pg (Nm Tok St)
def cW (n:List UInt8):Option Int:=if n == [112] then some 0 else if n == [100,105,118] then some 0 else if n == [104,49] then some 1 else if n == [108,105] then some 2 else if n == [104,50] then some 3 else none
def sI:List (List UInt8):=[[98],[115,116,114,111,110,103]]
def o8:List (List UInt8):=[[105],[101,109]]
def UE:List UInt8:=[98,114]
def eh:List (List UInt8):=[[115,99,114,105,112,116],[115,116,121,108,101],[116,101,109,112,108,97,116,101],[115,118,103],[109,97,116,104],[105,102,114,97,109,101],[116,105,116,108,101],[116,101,120,116,97,114,101,97],[110,111,115,99,114,105,112,116]]
structure S where
 d:List It
 fJ:Int
 cv:Int
 kind:Int
 link:List UInt8
 cX:List UInt8
 opened:Bool
def fR (m:Int):It:=⟨10,m,B []⟩
def whole (d:List It):Bool:=match d.getLast? with
 | some x=>Dc.ends x
 | none=>true
def shut (s:S):S:={ s with d:=if s.opened || !whole s.d then s.d++[fR s.kind] else s.d,opened:=false,kind:=0 }
def JU (c:UInt8):UInt8:=if c == 9 || c == 10 || c == 13 || c == 12 then 32 else if c<32 || 126<c then 63 else c
def item (s:S) (c:UInt8):It:=⟨JU c,(if 0<s.fJ then 1 else 0)+(if 0<s.cv then 2 else 0),B s.link⟩
def one (k:Int):Int:=if k == 2 then 1 else if k == 3 then -1 else 0
def up (x:Int):Int:=if x<0 then 0 else x
def other (s:S) (t:Tk):S :=
 if sI.contains t.name then { s with fJ:=up (s.fJ+one t.kind) }
 else if o8.contains t.name then { s with cv:=up (s.cv+one t.kind) }
 else if t.name == [97] then { s with link:=if t.kind == 2 then Lk.clean t.kG else [] }
 else if t.kind == 3 then s
 else if t.name == UE then { shut { s with opened:=true } with kind:=s.kind }
 else if eh.contains t.name then { s with cX:=t.name } else s
def step (s:S) (t:Tk):S :=
 if !s.cX.isEmpty then (if t.kind == 3&&t.name == s.cX then { s with cX:=[] } else s)
 else if t.kind == 1 then { s with d:=s.d++t.text.map (item s) }
 else if t.kind == 4 then s
 else match cW t.name with
  | some k=>if t.kind == 2 then { shut s with opened:=true,kind:=k } else shut s
  | none=>other s t
def run:S->List Tk->Option S
 | s,[]=>some s
 | s,t :: r=>if 80<(step s t).d.length then none else run (step s t) r
def s0:S:=⟨[],0,0,0,[],[],false⟩
def all (s:S):List It:=if (shut s).d.isEmpty then [fR 0] else (shut s).d
def fin (s:S):Option (List It):=if 80<(all s).length then none else some (all s)
def read (ts:List Tk):Option (List It):=(run s0 ts).bind fin
theorem za(s:S):s.d.length<=(shut s).d.length:=by
 unfold shut;show s.d.length<=(if s.opened||!whole s.d then s.d++[fR s.kind]else s.d).length
 split<;>simp
theorem tp:∀(b:List Tk)(s a:S),run s b=some a->a=b.foldl step s
 |[],s,a,h=>by cases h;rfl
 |t::r,s,a,h=>by
  rw[run]at h;split at h
  ·cases h
  ·exact tp r _ _ h
def eT (s:S) (t:Tok):S:=step s (Tk.one t)
structure In (s:S):Prop where
 fJ:s.fJ=0
 cv:s.cv=0
 link:s.link=[]
 cX:s.cX=[]
def plus (s:S) (d:List It):S:={ s with d:=s.d++d }
theorem In.plus{s:S}(h:In s)(d:List It):In (plus s d):=⟨h.fJ,h.cv,h.link,h.cX⟩
def Jd (c:UInt8):Prop:=32<=c/\c<=126
theorem OT{c:UInt8}(h:Jd c):JU c=c:=by
 obtain⟨g,f⟩:=h;have b:=UInt8.not_lt.2 g;have i:=UInt8.not_lt.2 f;have a:∀k:UInt8,k<32->(c==k)=false:=fun k d=>by
  apply beq_eq_false_iff_ne.2
  intro e;subst e;exact b d
 unfold JU;rw[a 9 (by decide),a 10 (by decide),a 13 (by decide),a 12 (by decide)];simp[b,i]
theorem Db(u:List UInt8)(s:S)(h:s.cX=[]):(u.map Tok.ch).foldl eT s={s with d:=s.d++u.map (item s)}:=by
 induction u generalizing s with
 |nil=>simp
 |cons c u a=>
  have e:eT s (.ch c)={s with d:=s.d++[item s c]}:=by
   unfold eT step;simp[h,Tk.one,Tk.ou]
  rw[XA,List.foldl_cons,e,a {s with d:=s.d++[item s c]} h];simp[item]
theorem lG(s:S)(t:Tk)(h:s.cX=[]):step s t=if t.kind==1 then{s with d:=s.d++t.text.map (item s)}else if t.kind==4 then s else match cW t.name with
  |some k=>if t.kind==2 then{shut s with opened:=true,kind:=k}else shut s
  |none=>other s t:=by
 unfold step;rw[VD (by rw[h];decide)]
def Tx (b sl:Int) (l:List UInt8) (c:UInt8):It:=⟨JU c,(if 0<b then 1 else 0)+(if 0<sl then 2 else 0),B l⟩
theorem ki(d:List It)(b a k:Int)(l:List UInt8)(o:Bool)(u:List UInt8):(u.map Tok.ch).foldl eT ⟨d,b,a,k,l,[],o⟩=⟨d++u.map (Tx b a l),b,a,k,l,[],o⟩:=Db u _ rfl
theorem sg(b a m:Int)(l u:List UInt8)(d:∀c∈u,Jd c)(h:(if 0<b then(1:Int)else 0)+(if 0<a then 2 else 0)=m):u.map (Tx b a l)=u.map (Pg.mk m (B l)):=by
 apply List.map_congr_left
 intro c e;unfold Tx Pg.mk;rw[OT (d c e),h]
theorem xF(m:Int)(f:0<=m)(e:m<=3)(u:List UInt8)(a:∀c∈u,Jd c)(d:List It)(k:Int)(l:List UInt8)(o:Bool):
  (Pg.Gu m (u.map .ch)).foldl eT ⟨d,0,0,k,l,[],o⟩=⟨d++u.map (Pg.mk m (B l)),0,0,k,l,[],o⟩:=by
 have b:m=0\/m=1\/m=2\/m=3:=by omega
 rcases b with rfl|rfl|rfl|rfl
 ·show(u.map Tok.ch).foldl eT ⟨d,0,0,k,l,[],o⟩=_
  rw[ki,sg 0 0 0 l u a rfl]
 ·show(.op .b::(u.map Tok.ch++[.cl .b])).foldl eT ⟨d,0,0,k,l,[],o⟩=_
  rw[List.foldl_cons,XC];show List.foldl eT (List.foldl eT ⟨d,1,0,k,l,[],o⟩ (u.map Tok.ch)) [.cl .b]=_
  rw[ki,sg 1 0 1 l u a rfl];rfl
 ·show(.op .i::(u.map Tok.ch++[.cl .i])).foldl eT ⟨d,0,0,k,l,[],o⟩=_
  rw[List.foldl_cons,XC];show List.foldl eT (List.foldl eT ⟨d,0,1,k,l,[],o⟩ (u.map Tok.ch)) [.cl .i]=_
  rw[ki,sg 0 1 2 l u a rfl];rfl
 ·show(.op .b::((.op .i::(u.map Tok.ch++[.cl .i]))++[.cl .b])).foldl eT ⟨d,0,0,k,l,[],o⟩=_
  rw[List.foldl_cons,XC];show List.foldl eT (List.foldl eT ⟨d,1,1,k,l,[],o⟩ (u.map Tok.ch++[.cl .i])) [.cl .b]=_
  rw[XC,ki,sg 1 1 3 l u a rfl];rfl
def xB (d:List It) (k:Int) (o:Bool):S:=⟨d,0,0,k,[],[],o⟩
theorem Lo(x:It)(i:Tk.Good x)(u:List UInt8)(e:∀c∈u,Jd c)(d:List It)(k:Int)(o:Bool):(Pg.Po x u).foldl eT (xB d k o)=xB (d++u.map (Pg.mk x.m x.l)) k o:=by
 obtain⟨h,f,l⟩:=i;unfold Pg.Po Pg.linked xB
 cases b:x.l.toList.isEmpty
 ·have a:Lk.may x.l.data.toList=true:=by rcases l with g|g;rw[b]at g;cases g;exact g
  rw[VD (by decide),List.foldl_cons,XC];show List.foldl eT (List.foldl eT ⟨d,0,0,k,Lk.clean x.l.data.toList,[],o⟩ (Pg.Gu x.m (u.map Tok.ch))) [.cl .a]=_
  rw[Lk.Iu a,xF x.m h f u e,RY];rfl
 ·have:x.l=B []:=by
   rw[Lib.toList_data]at b;apply iP
   rw[eO];simpa using b
  rw[VC rfl,xF x.m h f u e,<-this]
def JJ (x:It):Prop:=Tk.Good x/\(Dc.ends x=true->x.l=B [])/\(Dc.ends x=false->Jd x.c)
structure JH (T:St) (l:List It):Prop where
 back:∃ d1 d2,T.rJ.foldl eT s0=xB d1 0 false/\whole d1=true/\(∀ d k o,T.ins.foldl eT (xB d k o)=xB (d++d2) k o)/\l=d1++d2++T.text.map (Pg.mk T.last.m T.last.l)
 ok:T.text≠[]->Tk.Good T.last
 Jd:∀ c ∈ T.text,Jd c
theorem JH.flush{T:St}{l:List It}(h:JH T l):JH (Pg.flush T) l:=by
 obtain⟨⟨g,f,s,r,q,p⟩,n,m⟩:=h;refine⟨⟨g,f++T.text.map (Pg.mk T.last.m T.last.l),s,r,fun d k o=>?_,?_⟩,fun h=>absurd rfl h,fun c i=>by simp[Pg.flush]at i⟩
 ·show(T.ins++Pg.tail T.last T.text).foldl eT (xB d k o)=_
  rw[XC,q];unfold Pg.tail
  cases a:T.text.isEmpty
  ·have b:T.text≠[]:=by intro e;rw[e]at a;cases a
   rw[VD (by decide),Lo T.last (n b) T.text m,VT]
  ·have e:T.text=[]:=by simpa using a
   rw[VC rfl,e];simp
 ·rw[p];show _=g++(f++T.text.map _)++[]
  simp
theorem Da(a b:Bool)(d:List It)(k:Int)(o:Bool):(Pg.lists a b).foldl eT (xB d k o)=xB d k o:=by
 cases a<;>cases b<;>rfl
theorem Bw(d:List It)(m:Int):whole (d++[fR m])=true:=by
 unfold whole;simp[fR,Dc.ends]
theorem wK(m:Int)(f:0<=m)(e:m<=3)(d:List It):(whole d=true->eT (xB d 0 false) (.op (Pg.kind m))=xB d m true)/\eT (xB d m true) (.cl (Pg.kind m))=xB (d++[fR m]) 0 false:=by
 have a:m=0\/m=1\/m=2\/m=3:=by omega
 refine⟨fun b=>?_,?_⟩
 ·have c:shut (xB d 0 false)=xB d 0 false:=by unfold shut xB;simp[b]
  have:∀k:Int,({shut (xB d 0 false)with opened:=true,kind:=k}:S)=xB d k true:=fun k=>by rw[c];rfl
  rcases a with rfl|rfl|rfl|rfl
  ·exact this 0
  ·exact this 1
  ·exact this 2
  ·exact this 3
 ·rcases a with rfl|rfl|rfl|rfl<;>rfl
theorem JH.step{T:St}{l:List It}{x:It}(h:JH T l)(y:JJ x):JH (Pg.step T x) (l++[x]):=by
 obtain⟨x1,x2,x3⟩:=y;unfold Pg.step
 cases i:Dc.ends x
 ·have s:=x3 i;simp only[YA,if_false]
  cases z:(!T.text.isEmpty&&Pg.diff T.last x)
  ·simp only[YA,if_false]
   obtain⟨⟨b,g,p,n,m,f⟩,u,r⟩:=h;refine⟨⟨b,g,p,n,m,?_⟩,fun _=>x1,fun c a=>?_⟩
   ·show l++[x]=b++g++(T.text++[x.c]).map (Pg.mk x.m x.l)
    rw[WN,<-VT,f];congr 2
    by_cases t:T.text=[]
    ·rw[t];rfl
    ·have:Pg.diff T.last x=false:=by simpa[t]using z
     obtain⟨B,A⟩:=Pg.zz this;rw[B,A]
   ·rcases VW.1 a with a|a
    ·exact r c a
    ·simp at a;rw[a];exact s
  ·simp only[if_true]
   obtain⟨⟨b,g,p,n,m,f⟩,u,r⟩:=h.flush;refine⟨⟨b,g,p,n,m,?_⟩,fun _=>x1,fun c a=>?_⟩
   ·rw[Pg.dT]at f;rw[f];simp
    rfl
   ·simp at a;rw[a];exact s
 ·simp only[if_true]
  obtain⟨⟨b,g,p,n,m,f⟩,u,r⟩:=h.flush;refine⟨⟨l++[x],[],?_,?_,fun d k o=>?_,?_⟩,fun h=>absurd (Pg.dT T) h,fun c a=>?_⟩
  ·show((Pg.flush T).rJ++Pg.lists (Pg.flush T).list (x.m==2)++Tok.op (Pg.kind x.m)::((Pg.flush T).ins++[Tok.cl (Pg.kind x.m)])).foldl eT s0=_
   obtain⟨x0,q,_⟩:=x1;obtain⟨w,_⟩:=wK x.m x0 q b;obtain⟨_,v⟩:=wK x.m x0 q (b++g);rw[XC,XC,p,Da,List.foldl_cons,w n,XC,m];show eT (xB (b++g) x.m true) (.cl (Pg.kind x.m))=_
   rw[v];rw[Pg.dT]at f;have:x=fR x.m:=by unfold fR;rw[<-x2 i,<-Pg.yV i]
   rw[f,<-this];simp
  ·have:x=fR x.m:=by unfold fR;rw[<-x2 i,<-Pg.yV i]
   rw[this];exact Bw l x.m
  ·show xB d k o=_
   rw[VY]
  ·show l++[x]=l++[x]++[]++(Pg.flush T).text.map _
   rw[Pg.dT];simp
  ·have e:(Pg.Q2 (Pg.flush T) x.m).text=[]:=rfl;rw[e]at a;simp at a
end Sn
namespace Sn
theorem RE(c:UInt8):Jd (JU c):=by
 unfold JU Jd;split
 ·decide
 split
 ·decide
 ·rename_i b a;simp only[Bool.or_eq_true,XF,not_or]at a
  exact⟨UInt8.not_lt.1 a.1,UInt8.not_lt.1 a.2⟩
theorem Jc{x:It}(h:Jd x.c):Dc.ends x=false:=by
 cases a:Dc.ends x
 ·rfl
 ·have:=Pg.yV a;rw[this]at h;exact absurd h.1 (by decide)
theorem FV:(B []).toList.isEmpty=true:=by rw[Lib.toList_data,eO];rfl
structure Made (s:S):Prop where
 nice:∀ x ∈ s.d,JJ x
 link:s.link=[]\/Lk.may s.link=true
 lo:0<=s.kind
 hi:s.kind<=3
theorem AA(m:Int)(b:0<=m)(a:m<=3):JJ (fR m):=
 ⟨⟨b,a,.inl FV⟩,fun _=>rfl,fun h=>by simp[fR,Dc.ends]at h⟩
theorem Hz{s:S}(h:Made s)(c:UInt8):JJ (item s c):=by
 have a:Jd (item s c).c:=RE c;refine⟨⟨?_,?_,?_⟩,fun b=>?_,fun _=>a⟩
 ·show(0:Int)<=(if 0<s.fJ then 1 else 0)+(if 0<s.cv then 2 else 0)
  split<;>split<;>decide
 ·show(if 0<s.fJ then(1:Int)else 0)+(if 0<s.cv then 2 else 0)<=3
  split<;>split<;>decide
 ·rcases h.link with e|e
  ·left
   show(B s.link).toList.isEmpty=true
   rw[e];exact FV
  ·right
   exact e
 ·rw[Jc a]at b
  cases b
theorem Made.shut{s:S}(h:Made s):Made (shut s):=by
 refine⟨fun x a=>?_,h.link,XV 0,(by decide:(0:Int)<=3)⟩
 change x∈(if s.opened||!whole s.d then s.d++[fR s.kind]else s.d)at a;split at a
 ·rcases VW.1 a with a|a
  ·exact h.nice x a
  ·simp at a;rw[a];exact AA _ h.lo h.hi
 ·exact h.nice x a
theorem D5(l:List UInt8):Lk.clean l=[]\/Lk.may (Lk.clean l)=true:=by
 by_cases h:Lk.clean l=[]
 ·exact .inl h
 ·exact .inr (Lk.D4 h).2
theorem Made.other{s:S}(h:Made s)(t:Tk):Made (other s t):=by
 unfold Sn.other;split
 ·exact⟨h.nice,h.link,h.lo,h.hi⟩
 split
 ·exact⟨h.nice,h.link,h.lo,h.hi⟩
 split
 ·refine⟨h.nice,?_,h.lo,h.hi⟩
  show(if t.kind==2 then Lk.clean t.kG else[])=[]\/_
  split
  ·exact D5 _
  ·exact .inl rfl
 split
 ·exact h
 split
 ·have b:Made {s with opened:=true}:=⟨h.nice,h.link,h.lo,h.hi⟩;have a:=b.shut;exact⟨a.nice,a.link,h.lo,h.hi⟩
 split
 ·exact⟨h.nice,h.link,h.lo,h.hi⟩
 ·exact h
theorem ED{n:List UInt8}{k:Int}(h:cW n=some k):0<=k/\k<=3:=by
 unfold cW at h;split at h
 ·cases h;decide
 split at h
 ·cases h;decide
 split at h
 ·cases h;decide
 split at h
 ·cases h;decide
 split at h
 ·cases h;decide
 ·cases h
theorem Made.step{s:S}(h:Made s)(t:Tk):Made (step s t):=by
 unfold Sn.step;split
 ·split
  ·exact⟨h.nice,h.link,h.lo,h.hi⟩
  ·exact h
 split
 ·refine⟨fun x a=>?_,h.link,h.lo,h.hi⟩
  rcases VW.1 a with a|a
  ·exact h.nice x a
  ·obtain⟨c,_,rfl⟩:=XI.1 a;exact Hz h c
 split
 ·exact h
 split
 ·rename_i k d;obtain⟨k0,b⟩:=ED d;split
  ·exact⟨h.shut.nice,h.shut.link,k0,b⟩
  ·exact h.shut
 ·exact h.other t
theorem wm:∀(a:List Tk)(s:S),Made s->Made (a.foldl step s)
 |[],_,h=>h
 |t::r,_,h=>wm r _ (h.step t)
theorem Sc:Made s0:=⟨fun x a=>by simp[s0]at a,.inl rfl,by decide,by decide⟩
theorem KT{f:List Tk}{d:List It}(h:read f=some d):(∀x∈d,JJ x)/\d.length<=80/\∃k x,d=k++[x]/\Dc.ends x=true:=by
 unfold read at h
 cases l:run s0 f with
 |none=>rw[l]at h;cases h
 |some s=>
  rw[l]at h;change fin s=some d at h;have n:Made s:=by rw[tp f s0 s l];exact wm f s0 Sc
  unfold fin at h;split at h
  ·cases h
  ·rename_i m;have a:all s=d:=by cases h;rfl
   rw[a]at m;unfold all at a;split at a
   ·subst a;exact⟨fun x g=>by simp at g;rw[g];exact AA 0 (by decide) (by decide),by omega,[],fR 0,rfl,rfl⟩
   ·rename_i o;refine⟨fun x g=>n.shut.nice x (by rw[a];exact g),by omega,?_⟩
    change (if s.opened||!whole s.d then s.d++[fR s.kind]else s.d)=d at a;split at a
    ·exact⟨s.d,fR s.kind,a.symm,rfl⟩
    ·rename_i i;have b:whole d=true:=by rw[<-a];simp at i;exact i.2
     have c:d≠[]:=by
      intro e;apply o
      change (if s.opened||!whole s.d then s.d++[fR s.kind]else s.d).isEmpty=true;rw[VD i,a,e];rfl
     refine⟨d.dropLast,d.getLast c,(List.dropLast_concat_getLast c).symm,?_⟩
     unfold whole at b;rw[List.getLast?_eq_some_getLast c]at b;exact b
theorem lz:∀(a b:List Tk)(s:S),run s (a++b)=(run s a).bind fun c=>run c b
 |[],_,_=>rfl
 |t::a,b,s=>by
  rw[VF,run,run];split
  ·rfl
  ·exact lz a b _
theorem Et:∀(c:List Tk)(s a:S),s.d.length<=80->run s c=some a->a.d.length<=80
 |[],_,_,b,h=>by cases h;exact b
 |t::r,s,a,b,h=>by
  rw[run]at h;split at h
  ·cases h
  ·exact Et r _ _ (by omega) h
def Idle (X:List Tk):Prop:=∀ s:S,s.cX=[]->s.d.length<=80->run s X=some s
def ov (u:List UInt8):List Tk:=if u.isEmpty then [] else [Tk.ou (Esc.rd u)]
theorem CQ(u s:List UInt8)(a:∀y∈u,y≠60):Tk.eA (u++60::s)=ov u++Tk.eA (60::s):=by
 cases u with
 |nil=>rfl
 |cons c t=>
  have d:(c==60)=false:=by simpa using a c (by simp)
  obtain⟨f,e⟩:=Tk.tw' 60 s t (fun y b=>a y (by simp[b]));rw[VF,Tk.dD];unfold Tk.first;rw[d];simp only[YA,if_false,f,e]
  rfl
theorem KN(a X b:List Tk)(f:Idle X)(e:∀c,run s0 a=some c->c.cX=[]):read (a++(X++b))=read (a++b):=by
 unfold read;rw[lz,lz]
 cases d:run s0 a with
 |none=>rfl
 |some c=>
  show((run c (X++b)).bind fin)=((run c b).bind fin)
  rw[lz,f c (e c d) (Et a s0 c (by decide) d)];rfl
def uT:Tk:=⟨2,[117],[],[]⟩
theorem Pk(s:S)(h:s.cX=[]):step s uT=s:=by rw[lG s uT h];rfl
theorem Pp(a:List UInt8)(b:S)(h:run s0 (ov a++[uT])=some b):b.cX=[]:=by
 rw[tp _ _ _ h,XC];have c:((ov a).foldl step s0).cX=[]:=by
  unfold ov
  cases a.isEmpty
  ·rfl
  ·rfl
 show(step _ uT).cX=[]
 rw[Pk _ c];exact c
def uL:List UInt8:=[60,117,62]
theorem Pd(r:List UInt8):Tk.eA (uL++r)=uT::Tk.eA r:=by
 show Tk.eA (60::117::62::r)=_
 rw[Tk.dD];rfl
theorem Ef(a r:List UInt8)(b:∀y∈a,y≠60):Tk.eA (a++(uL++r))=(ov a++[uT])++Tk.eA r:=by
 have:a++(uL++r)=a++60::([117,62]++r):=rfl;rw[this,CQ a _ b];show ov a++Tk.eA (uL++r)=_
 rw[Pd];simp
theorem xD(a b X:List UInt8)(c:List Tk)(d:∀y∈a,y≠60)(g:Tk.eA (X++b)=c++Tk.eA b)(f:Idle c):read (Tk.eA (a++(uL++(X++b))))=read (Tk.eA (a++(uL++b))):=by
 rw[Ef a _ d,Ef a _ d,g];exact KN (ov a++[uT]) c (Tk.eA b) f (fun e h=>Pp a e h)
end Sn
def MX (b:Nat) (cs:List UInt8) (w:World):Prop:=∀ x:UInt8,w.cell? ⟨b,x.toNat,none⟩=some (.bool (cs.contains x))
theorem My(p:UInt8->Bool)(x:UInt8)(t:List UInt8)(h:p x=true):Lk.tl p (x::t)=Lk.tl p t:=by simp[Lk.tl,h]
theorem Mx(p:UInt8->Bool)(x:UInt8)(t:List UInt8)(h:p x=false):Lk.tl p (x::t)=x::t:=by simp[Lk.tl,h]
theorem Rq(l cs:List UInt8)(b:Nat)(w:World)(A:l.length<=9223372036854775807)(u:MX b cs w):
  Calls prog 192 #[.string (B l),.pointer (some ⟨b,0,none⟩)] w fun e w'=>e=.returned (.string (B (Lk.tl (fun c=>cs.contains c) l)))/\w'=w:=by
 obtain⟨r,o⟩:∃r,Lk.tl (fun c=>cs.contains c) l=r:=⟨_,rfl⟩;rw[o];have y:=hId o;have E:=hId u;clear o u;go_enter func192,ntmps192
 go_wp2
 go_loopg [0] l.length (fun g v z=>∃m:List UInt8,m.length=g/\v=.string (B m)/\z=w/\m.length<=9223372036854775807/\Lk.tl (fun c=>cs.contains c) m=r)
 case atStart=>exact⟨l,rfl,rfl,rfl,A,y.o⟩
 case round=>
  obtain⟨m,s,rfl,rfl,q,i⟩:=hrel;have p:=hId i;clear i y;have a:=cI m
  cases m with
  |nil=>
   have I:¬((0:Int)<0):=by omega
   simp only[List.length_nil]at a
   have h:r=[]:=p.o.symm;subst h;go_wp2
   go_ret
   exact⟨rfl,rfl⟩
  |cons x t=>
   have k:0<(B (x::t)).size:=by rw[a];simp
   have H:∀w,(Instr.index 9 (.string (B (x::t))) (.int .i64 0)).run prog w=.ok (.int .u8 x.toNat) w:=fun w=>aq (B (x::t)) 0 k w;have G:∀w,(Instr.slice 9 (.string (B (x::t))) (some (.int .i64 1)) none none).run prog w=.ok (.string (B t)) w:=fun w=>oz (B (x::t)) 1 (by omega) w;have f:=E.o x;simp only[VG]at s q
   cases d:cs.contains x
   ·rw[d]at f;have h:r=x::t:=by rw[<-p.o];exact Mx _ x t d
    subst h;clear a;generalize C:B (x::t)=D at*;go_wp2_with (go_at_call 187;refine(Tryz.asciiSet_contains _ x _ _ f).mono ?_;rintro e w'⟨rfl,n⟩;rw[n])
    go_ret
    exact⟨by rw[C];rfl,rfl⟩
   ·rw[d]at f;have F:Hd (Lk.tl (fun c=>cs.contains c) t=r):=by show _=_;rw[<-p.o];exact(My _ x t d).symm
    clear a;generalize B (x::t)=D at*;go_wp2_with (go_at_call 187;refine(Tryz.asciiSet_contains _ x _ _ f).mono ?_;rintro e w'⟨rfl,n⟩;rw[n])
    go_roundg t.length
    case measure=>omega
    case rel=>exact⟨t,rfl,rfl,rfl,by omega,F.o⟩
theorem DR(m:List UInt8)(x:UInt8)(w:World):(Instr.index 9 (.string (B (m++[x]))) (.int .i64 m.length)).run prog w=.ok (.int .u8 x.toNat) w:=by
 have h:m.length<(B (m++[x])).size:=by rw[cI];simp
 rw[aq (B (m++[x])) m.length h w];have:(B (m++[x]))[m.length]'h=x:=by
  have a:=Lib.data_getElem? (B (m++[x])) m.length h;rw[eO,List.getElem?_append_right (UZ _)]at a;simp at a
  exact a.symm
 rw[this]
theorem Ck(m:List UInt8)(x:UInt8)(w:World):(Instr.slice 9 (.string (B (m++[x]))) none (some (.int .i64 m.length)) none).run prog w=.ok (.string (B m)) w:=by
 rw[tg (B (m++[x])) m.length (by rw[cI];simp) w,eO];simp
theorem Rp(l cs:List UInt8)(b:Nat)(w:World)(D:l.length<=9223372036854775807)(z:MX b cs w):
  Calls prog 193 #[.string (B l),.pointer (some ⟨b,0,none⟩)] w fun e w'=>e=.returned (.string (B (Lk.tr (fun c=>cs.contains c) l)))/\w'=w:=by
 obtain⟨r,q⟩:∃r,Lk.tr (fun c=>cs.contains c) l=r:=⟨_,rfl⟩;rw[q];have A:=hId q;have G:=hId z;clear q z;go_enter func193,ntmps193
 go_wp2
 go_loopg [0] l.length (fun g v C=>∃m:List UInt8,m.length=g/\v=.string (B m)/\C=w/\m.length<=9223372036854775807/\Lk.tr (fun c=>cs.contains c) m=r)
 case atStart=>exact⟨l,rfl,rfl,rfl,D,A.o⟩
 case round=>
  obtain⟨m,y,rfl,rfl,u,k⟩:=hrel;have s:=hId k;clear k A;have a:=cI m;rcases List.eq_nil_or_concat m with rfl|⟨t,x,rfl⟩
  ·simp only[List.length_nil]at a
   have i:r=[]:=s.o.symm;subst i;go_wp2
   go_ret
   exact⟨rfl,rfl⟩
  ·simp only[XU]at*
   have K:=fun w=>DR t x w;have J:=fun w=>Ck t x w;have h:=G.o x;have d:=Lk.Ee (fun c=>cs.contains c) x t;have o:(t++[x]).length=t.length+1:=by simp
   rw[o]at a y u;have n:((B (t++[x])).size:Int)-1=(t.length:Int):=by omega
   have I:IntKind.i64.wrap ((B (t++[x])).size-1)=(t.length:Int):=by rw[n];exact IntWalk.i64_in _ ⟨by omega,by omega⟩
   cases f:cs.contains x
   ·rw[f]at h;have i:r=t++[x]:=by rw[<-s.o,d];simp only[f];rfl
    subst i;clear a d;generalize E:B (t++[x])=F at*;go_wp2_with (go_at_call 187;refine(Tryz.asciiSet_contains _ x _ _ h).mono ?_;rintro e w'⟨rfl,p⟩;rw[p])
    go_ret
    exact⟨by rw[E];rfl,rfl⟩
   ·rw[f]at h;have H:Hd (Lk.tr (fun c=>cs.contains c) t=r):=by show _=_;rw[<-s.o,d];simp only[f];rfl
    clear a d;generalize B (t++[x])=F at*;go_wp2_with (go_at_call 187;refine(Tryz.asciiSet_contains _ x _ _ h).mono ?_;rintro e w'⟨rfl,p⟩;rw[p])
    go_roundg t.length
    case measure=>omega
    case rel=>exact⟨t,rfl,rfl,rfl,by omega,H.o⟩
theorem ye:me ⟨#[32,9,10,13,12]⟩:=by
 intro j b h;match j,h with
 |0,h=>cases h;decide
 |1,h=>cases h;decide
 |2,h=>cases h;decide
 |3,h=>cases h;decide
 |4,h=>cases h;decide
 |j+5,h=>simp at h
theorem Jv(s:ByteArray)(w:World)(y:s.size<=9223372036854775807):
  Calls prog 179 #[.string s,.string ⟨#[32,9,10,13,12]⟩] w fun e w'=>e=.returned (.string (B (Lk.trim s.data.toList)))/\Below w.heap.size w w':=by
 have i:=iO s;by_cases z:s.size=0
 ·have b:s.data.toList=[]:=List.eq_nil_of_length_eq_zero (by omega);have l:s=⟨#[]⟩:=iP b;subst l;clear b i;go_enter func179,ntmps179
  go_wp2
  go_ret
  exact⟨rfl,VE _ _⟩
 ·have q:s.toList.isEmpty=false:=by
   rw[Lib.toList_data]
   cases h:s.data.toList with
   |nil=>rw[h,List.length_nil]at i;omega
   |cons _ _=>rfl
  obtain⟨r,g⟩:∃r,Lk.trim s.data.toList=r:=⟨_,rfl⟩;rw[g];have p:=Tryz.strings_makeASCIISet (zero_of_info Lj).1 ⟨#[32,9,10,13,12]⟩ w (by decide) ye;change Calls prog 186 _ w fun e w'=>e=.returned (.tuple #[.agg (Lib.setCells Lk.ff),.bool true])/\w'=w.alloc (.cells (Lib.setCells Lk.ff) 228)at p;have v:=Lw.store w Lk.ff;have u:=Lib.setCells_size Lk.ff;have t:Hd (Below w.heap.size w (Lw w Lk.ff)):=Lw.below w _;have a:MX (w.heap.size+1) Lk.ff (Lw w Lk.ff):=Lw.cell w _;have x:=(zero_of_info Lj).1;have k:=Rp s.data.toList Lk.ff (w.heap.size+1) (Lw w Lk.ff) (by omega) a;have f:=Rq (Lk.tr (fun c=>Lk.ff.contains c) s.data.toList) Lk.ff (w.heap.size+1) (Lw w Lk.ff) (by have:=Lk.B8 (fun c=>Lk.ff.contains c) s.data.toList;omega) a;change Calls prog 192 _ _ fun e w'=>e=.returned (.string (B (Lk.trim s.data.toList)))/\w'=Lw w Lk.ff at f;rw[g]at f;rw[RY]at k;have n:=hId k;have o:=hId f;clear k f g a i;generalize B (Lk.tr (fun c=>Lk.ff.contains c) s.data.toList)=m at*;go_enter func179,ntmps179
  go_wp2_with (go_at_call 186;refine p.mono ?_;rintro e w'⟨rfl,d⟩;rw[d])
  refine n.o.mono ?_
  rintro e w'⟨rfl,d⟩;rw[d];go_wp2_with fail
  refine o.o.mono ?_
  rintro e w'⟨rfl,d⟩;rw[d];go_wp2
  go_ret
  exact⟨rfl,t.o⟩
theorem Cq(s:ByteArray)(w:World)(b:s.size<=281474976710656):Calls prog 180 #[.string s] w fun e w'=>e=.returned (.string s)/\Below w.heap.size w w':=by
 go_enter func180,ntmps180
 go_wp2_with fail
 refine(Tryz.stringslite_Clone s w b).mono ?_
 rintro e d⟨rfl,a⟩;have c:=hId a;clear a;go_wp2
 go_ret
 exact⟨rfl,c.o⟩
theorem Iv(s:ByteArray)(w:World)(y:s.size<=20000)(o:df w):
  Calls prog 165 #[.string s] w fun e w'=>e=.returned (.tuple #[.string (B (Lk.clean s.data.toList)),.int .i64 0])/\Below w.heap.size w w':=by
 have p:=hId o;clear o;have d:=Lk.Ju s.data.toList;rw[iO]at d;have n:=hId (Jv s w (by omega));have k:Hd (∀w,df w->Calls prog 101 #[.string (B (Lk.trim s.data.toList))] w fun e w'=>e=.returned (.bool (Lk.may (Lk.trim s.data.toList)))/\Below w.heap.size w w'):=fun w h=>sY (B (Lk.trim s.data.toList)) w (by rw[cI];omega) h;have u:Hd (∀w,Calls prog 180 #[.string (B (Lk.trim s.data.toList))] w fun e w'=>e=.returned (.string (B (Lk.trim s.data.toList)))/\Below w.heap.size w w'):=fun w=>Cq _ w (by rw[cI];omega)
 cases f:Lk.may (Lk.trim s.data.toList)
 ·have b:Lk.clean s.data.toList=[]:=by unfold Lk.clean;rw[f];rfl
  rw[b];rw[f]at k;clear f b d;generalize B (Lk.trim s.data.toList)=t at*;go_enter func165,ntmps165
  go_wp2_with fail
  refine n.o.mono ?_
  rintro e r⟨rfl,a⟩;have g:=hId a;have m:=hId (p.o.below a);clear a;go_wp2_with fail
  refine(k.o _ m.o).mono ?_
  rintro e q⟨rfl,c⟩;have l:=hId (g.o.trans (c.mono g.o.size));clear c;go_wp2
  go_ret2
  exact⟨rfl,l.o⟩
 ·have b:Lk.clean s.data.toList=Lk.trim s.data.toList:=by unfold Lk.clean;rw[f];rfl
  rw[b];rw[f]at k;clear f b d;generalize B (Lk.trim s.data.toList)=t at*;go_enter func165,ntmps165
  go_wp2_with fail
  refine n.o.mono ?_
  rintro e r⟨rfl,a⟩;have g:=hId a;have m:=hId (p.o.below a);clear a;go_wp2_with fail
  refine(k.o _ m.o).mono ?_
  rintro e q⟨rfl,c⟩;have l:=hId (g.o.trans (c.mono g.o.size));clear c;go_wp2_with fail
  refine(u.o _).mono ?_
  rintro e x⟨rfl,i⟩;have v:=hId (l.o.trans (i.mono l.o.size));clear i;go_wp2
  go_ret2
  exact⟨rfl,v.o⟩
namespace Tk
def sl (c:UInt8):Bool:=sp c || c == 47
def mX (r:List UInt8):List UInt8 :=
 match r.dropWhile sp with
 | []=>[]
 | c :: r2=>if c == 61 then (val (r2.dropWhile sp)).2 else c :: r2
theorem SE(c:UInt8)(h:sp c=true):(c==62)=false:=by
 unfold sp at h;simp only[Bool.or_eq_true,beq_iff_eq]at h
 rcases h with(((h|h)|h)|h)|h<;>subst h<;>rfl
theorem SF(c:UInt8)(h:sl c=true):(c==62)=false:=by
 unfold sl at h;rw[Bool.or_eq_true]at h;rcases h with h|h
 ·exact SE c h
 ·rw[beq_iff_eq]at h;subst h;rfl
theorem MR(c:UInt8)(t:List UInt8)(h:Option (List UInt8))(a:sl c=true):attr (c::t) h=attr t h:=by
 rw[iC,SF c a,VD WB];unfold sl at a;rw[VC a]
theorem rW(p:UInt8->Bool)(b:∀c,p c=true->sl c=true):∀(l:List UInt8)(h:Option (List UInt8)),attr (l.dropWhile p) h=attr l h
 |[],_=>rfl
 |c::t,h=>by
  cases a:p c
  ·rw[WS,a];rfl
  ·rw[WS,a,VC rfl,rW p b t h,MR c t h (b c a)]
theorem Fq(l:List UInt8)(h:Option (List UInt8)):attr (l.dropWhile sp) h=attr l h:=rW sp (fun c a=>by unfold sl;rw[a];rfl) l h
theorem Fs(l:List UInt8)(h:Option (List UInt8)):attr (l.dropWhile sl) h=attr l h:=rW sl (fun _ a=>a) l h
theorem EM(r:List UInt8)(h:Option (List UInt8)):attr (mX r) h=attr (value r).2 h:=by
 unfold mX value
 cases e:r.dropWhile sp with
 |nil=>
  have:=Fq r h;rw[e]at this;exact this
 |cons c a=>
  simp only
  split
  ·rfl
  ·have:=Fq r h;rw[e]at this;exact this
theorem wV(l:List UInt8):(mX l).length<=l.length:=by
 unfold mX;have a:=cd sp l
 cases h:l.dropWhile sp with
 |nil=>simp
 |cons c b=>
  rw[h]at a;simp only
  split
  ·have e:=Eb (b.dropWhile sp);have d:=cd sp b;simp at a
   omega
  ·exact a
theorem KR(r a:List UInt8)(h:r.dropWhile sp=61::a):mX r=(val (a.dropWhile sp)).2/\(value r).1=(val (a.dropWhile sp)).1/\(value r).2=(val (a.dropWhile sp)).2:=by
 unfold mX value;rw[h];exact⟨rfl,rfl,rfl⟩
theorem KQ(r:List UInt8)(h:∀a,r.dropWhile sp≠61::a):mX r=r.dropWhile sp/\(value r).1=[]/\(value r).2=r:=by
 unfold mX value
 cases e:r.dropWhile sp with
 |nil=>exact⟨rfl,rfl,rfl⟩
 |cons c a=>
  have b:(c==61)=false:=by
   rw[beq_eq_false_iff_ne];intro b;exact h a (by rw[e,b])
  simp only[b]
  exact⟨rfl,rfl,rfl⟩
theorem Je(l:List UInt8):(val l).1.length<=l.length:=by
 cases l with
 |nil=>exact UZ _
 |cons q r=>
  rw[val];split
  ·have:=(List.takeWhile_sublist (not q) (l:=r)).length_le;simp only[VG]
   omega
  ·exact(List.takeWhile_sublist BM).length_le
theorem B4(l:List UInt8):(value l).1.length<=l.length:=by
 unfold value;have b:=cd sp l
 cases h:l.dropWhile sp with
 |nil=>simp
 |cons c a=>
  rw[h]at b;simp only
  split
  ·have e:=Je (a.dropWhile sp);have d:=cd sp a;simp at b
   omega
  ·simp
theorem Ft(c:UInt8)(t:List UInt8)(h:Option (List UInt8))(b:(c==62)=false)(a:sl c=false):attr (c::t) h=
  attr (mX (t.dropWhile ej)) (if Lk.small (c::t.takeWhile ej)==nL&&h.isNone then some (value (t.dropWhile ej)).1 else h):=by
 rw[iC,b,VD WB,EM];unfold sl at a;rw[a,VD WB]
theorem sK(p:List UInt8)(e:p≠[]):∀l,(Lib.index l p=-1/\after p l=none)\/(∃k:Nat,Lib.index l p=k/\k+p.length<=l.length/\after p l=some (l.drop (k+p.length)))
 |[]=>by
  left
  refine⟨?_,rfl⟩
  unfold Lib.index
  cases p with
  |nil=>exact absurd rfl e
  |cons a b=>rfl
 |c::t=>by
  by_cases h:p.isPrefixOf (c::t)=true
  ·right
   refine⟨0,?_,?_,?_⟩
   ·unfold Lib.index;rw[VC h];rfl
   ·have:=(List.isPrefixOf_iff_prefix.1 h).length_le;omega
   ·rw[after,VC h,VR]
  ·rcases sK p e t with⟨d,f⟩|⟨k,d,f,g⟩
   ·left
    refine⟨?_,by rw[after,VD h,f]⟩
    unfold Lib.index;rw[VD h,d];rfl
   ·right
    refine⟨k+1,?_,by simp only[VG];omega,?_⟩
    ·unfold Lib.index;have:((k:Int)==-1)=false:=by rw[beq_eq_false_iff_ne];omega
     rw[VD h,d,this,VD WB];omega
    ·rw[after,VD h,g,show k+1+p.length=(k+p.length)+1 by omega,List.drop_succ_cons]
theorem Il(p:List UInt8)(c:p≠[])(l:List UInt8):(Lib.cut l p).2.1=(after p l).getD []:=by
 unfold Lib.cut;rcases sK p c l with⟨a,b⟩|⟨k,a,b,d⟩
 ·rw[a,b];rfl
 ·rw[a,d,VC (by omega)];simp
theorem yy{l:List UInt8}{p:UInt8->Bool}{i k:Nat}(f:i<=k)(e:k<=l.length)(h:l.drop k=(l.drop i).dropWhile p):(l.drop i).take (k-i)=(l.drop i).takeWhile p:=by
 have a:(l.drop i).takeWhile p++(l.drop i).dropWhile p=l.drop i:=List.takeWhile_append_dropWhile;have d:=VQ List.length a;rw[<-h,VI,XG,XG]at d;have c:((l.drop i).takeWhile p).length=k-i:=by omega
 have b:(l.drop i).take (k-i)=((l.drop i).takeWhile p++(l.drop i).dropWhile p).take (k-i):=by rw[a]
 rw[b,<-c,List.take_left]
theorem PI{l:List UInt8}{p:UInt8->Bool}{k:Nat}(a:k<l.length)(h:p l[k]=true):(l.drop (k+1)).dropWhile p=(l.drop k).dropWhile p:=by
 rw[VU a,WS,h,VC rfl]
theorem FW{l:List UInt8}{p:UInt8->Bool}{k:Nat}(a:k<l.length)(h:p l[k]=false):(l.drop k).dropWhile p=l.drop k:=by
 rw[VU a,WS,h];rfl
theorem Lz{l:List UInt8}{p:UInt8->Bool}{k:Nat}(a:l.length<=k):(l.drop k).dropWhile p=l.drop k:=by
 rw[WI a];rfl
def yq (set:List UInt8) (c:UInt8):Bool:=decide (0<=Lib.indexByte set c)
theorem rY(f:UInt8->Bool)(h:∀n:Fin 256,f (UInt8.ofNat n.val)=true)(c:UInt8):f c=true:=by
 have:=h ⟨c.toNat,c.toNat_lt⟩;simpa using this
theorem LS(c:UInt8):yq [32,9,10,13,12] c=sp c:=by
 have:=rY (fun c=>yq [32,9,10,13,12] c==sp c) (by decide+kernel) c;simpa using this
theorem rz(c:UInt8):yq [32,9,10,13,12,47] c=sl c:=by
 have:=rY (fun c=>yq [32,9,10,13,12,47] c==sl c) (by decide+kernel) c;simpa using this
theorem LU(c:UInt8):yq [32,9,10,13,12,47,62] c=!oP c:=by
 have:=rY (fun c=>yq [32,9,10,13,12,47,62] c==!oP c) (by decide+kernel) c;simpa using this
theorem LV(c:UInt8):yq [32,9,10,13,12,47,62,61] c=!ej c:=by
 have:=rY (fun c=>yq [32,9,10,13,12,47,62,61] c==!ej c) (by decide+kernel) c;simpa using this
theorem Qg(c:UInt8):yq [32,9,10,13,12,62] c=!BM c:=by
 have:=rY (fun c=>yq [32,9,10,13,12,62] c==!BM c) (by decide+kernel) c;simpa using this
theorem DS(q c:UInt8):yq [q] c=!not q c:=by
 unfold yq not Lib.indexByte Lib.indexByte;by_cases h:q=c
 ·subst h;simp
 ·have b:(q==c)=false:=by simpa using h
  have a:(c !=q)=true:=by simp;exact fun e=>h e.symm
  rw[b,a];simp
end Tk
def jM:Array Value:=#[.int .u8 38,.string ⟨#[38,97,109,112,59]⟩,.int .u8 60,.string ⟨#[38,108,116,59]⟩,.int .u8 62,.string ⟨#[38,103,116,59]⟩,.int .u8 34,.string ⟨#[38,113,117,111,116,59]⟩]
def gS (w:World):Prop:=∃ t fr,w.heap[4]?=some (.cells jM t fr)
def b8 (b:UInt8):Value:=.int .u8 b.toNat
theorem gS.below{B:Nat}{w w':World}(h:gS w)(b:Below B w w')(c:4<B):gS w':=by
 obtain⟨t,d,a⟩:=h;exact⟨t,d,(b.block 4 c).trans a⟩
theorem gS.alloc{w:World}(h:gS w)(o:Obj):gS (w.alloc o):=by
 obtain⟨t,b,a⟩:=h;exact⟨t,b,(Below.heap_alloc w o 4 (WE.1 a).1).trans a⟩
theorem gS.pos{w:World}(h:gS w):4<w.heap.size:=by
 obtain⟨t,b,a⟩:=h;exact(WE.1 a).1
theorem BS(w:World):(Instr.index 243 (.agg jM) (.int .i64 0)).run prog w=.ok (.agg #[.int .u8 38,.string ⟨#[38,97,109,112,59]⟩]) w:=by kernel_rfl
theorem Fw(w:World):(Instr.index 243 (.agg jM) (.int .i64 1)).run prog w=.ok (.agg #[.int .u8 60,.string ⟨#[38,108,116,59]⟩]) w:=by kernel_rfl
theorem Qh(w:World):(Instr.index 243 (.agg jM) (.int .i64 2)).run prog w=.ok (.agg #[.int .u8 62,.string ⟨#[38,103,116,59]⟩]) w:=by kernel_rfl
theorem Sx(w:World):(Instr.index 243 (.agg jM) (.int .i64 3)).run prog w=.ok (.agg #[.int .u8 34,.string ⟨#[38,113,117,111,116,59]⟩]) w:=by kernel_rfl
theorem J6:(prog.info? 243).map (·.size)=some jM.size:=by kernel_rfl
theorem Tryz.Qf:(prog.info? 5).map (fun i=>(i.zero,i.size,i.bytes))=some (some (.int .u8 0),1,1):=by kernel_rfl
theorem L4{B n:Nat}{v:Value}{l:List UInt8}{m w:World}(h:Lib.OwnBuf B 5 v n (l.map b8) m w):(convert 33 9 v).run prog w=.ok (.string ⟨l.toArray⟩) w:=by
 obtain⟨⟨e,d⟩,_,_⟩:=h;have f:n=l.length:=by simpa using e.symm
 subst f;have a:w.ownsRowF B 5 1 v l.length (l.map b8):=⟨e,d⟩;rcases d with⟨rfl,k⟩|⟨g,b,o,p,rfl,c⟩
 ·obtain rfl:l=[]:=VS.1 k;exact run_convert_bytes_nil w 33 5 underlying33 underlying5 0 0 9 underlying9
 ·refine run_convert_bytes_back w 33 9 5 ⟨g,0,none⟩ b l underlying33 underlying5 underlying9 (fun j i=>?_)
  exact a.cells (g:=g) rfl j _ (by simp[b8,VM i])
theorem Kf{w a:World}{n:Nat}(h:a.ownsRow w.heap.size 5 1 (.slice (some ⟨w.heap.size,0,none⟩) 0 n) 0 [])(b:w.grownBy a none):Lib.OwnBuf w.heap.size 5 (.slice (some ⟨w.heap.size,0,none⟩) 0 n) 0 [] w a:=
 ⟨World.ownsRowF_of h,(VE _ _).grown b (UZ _) (fun k c=>by cases c),b.size⟩
theorem rA(s:ByteArray)(k:Nat)(h:k<s.size):s.data.toList.take (k+1)=s.data.toList.take k++[s[k]]:=by
 rw[WY (by simpa using h)];rfl
theorem ke(s p:ByteArray)(w:World)(b:Bool)(h:Lib.hasPrefix s.data.toList p.data.toList=b):
  Calls prog 159 #[.string s,.string p] w fun e w'=>e=.returned (.bool b)/\w'=w:=by
 have:=Tryz.strings_HasPrefix s p w;rw[h]at this;exact this
def pR (l:List UInt8) (w:World) (e:Ending) (w':World):Prop :=
 e=.returned (.tuple #[.int .u8 (Esc.iF l).1.toNat,.int .i64 (Esc.iF l).2])/\Below w.heap.size w w'
theorem EH{w:World}(a:Obj):Below w.heap.size w (w.alloc a):=(VE w.heap.size w).alloc (UZ _) a
theorem EG{w:World}(a b:Obj):Below w.heap.size w ((w.alloc a).alloc b):=(EH a).alloc (EH a).size b
theorem EF{w:World}(b a c:Obj):Below w.heap.size w (((w.alloc b).alloc a).alloc c):=(EG b a).alloc (EG b a).size c
theorem ML{w:World}(c b a d:Obj):Below w.heap.size w ((((w.alloc c).alloc b).alloc a).alloc d):=(EF c b a).alloc (EF c b a).size d
theorem T6(s:ByteArray)(w:World)(f:gS w)(a:Lib.hasPrefix s.data.toList [38,97,109,112,59]=true):Calls prog 189 #[.string s] w (pR s.data.toList w):=by
 have c:Esc.iF s.data.toList=(38,5):=by unfold Lib.hasPrefix at a;simp[Esc.iF,a]
 have h:Hd (Esc.iF s.data.toList=(38,5)):=c;clear c;have i:Hd (Lib.hasPrefix s.data.toList [38,97,109,112,59]=true):=a;clear a;obtain⟨t,d,b⟩:=f;have g:Hd (w.heap[4]?=some (.cells jM t d)):=b;clear b;have k:=BS;go_enter func189,ntmps189
 go_wp2_with (refine wpList_load_row rfl 243 _ rfl 4 rfl t _ d _ g.o underlying243 rfl J6 ?_)
 refine WH 5 ?_
 rw[VJ];go_wp2_with fail
 refine(ke s ⟨#[38,97,109,112,59]⟩ _ true i.o).mono ?_
 rintro e w'⟨rfl,rfl⟩;go_wp2_with fail
 go_quiet (fail)
 go_wp2
 go_ret2
 exact⟨by rw[h.o];rfl,Go.below_drewN (EH _) _⟩
theorem T5(s:ByteArray)(w:World)(g:gS w)(b:Lib.hasPrefix s.data.toList [38,97,109,112,59]=false)(a:Lib.hasPrefix s.data.toList [38,108,116,59]=true):Calls prog 189 #[.string s] w (pR s.data.toList w):=by
 have d:Esc.iF s.data.toList=(60,4):=by unfold Lib.hasPrefix at b a;simp[Esc.iF,b,a]
 have i:Hd (Esc.iF s.data.toList=(60,4)):=d;clear d;have l:Hd (Lib.hasPrefix s.data.toList [38,97,109,112,59]=false):=b;clear b;have k:Hd (Lib.hasPrefix s.data.toList [38,108,116,59]=true):=a;clear a;obtain⟨t,f,c⟩:=g;have h:Hd (w.heap[4]?=some (.cells jM t f)):=c;clear c;have n:=BS;have m:=Fw;go_enter func189,ntmps189
 go_wp2_with (refine wpList_load_row rfl 243 _ rfl 4 rfl t _ f _ h.o underlying243 rfl J6 ?_)
 refine WH 5 ?_
 rw[VJ];go_wp2_with fail
 refine(ke s ⟨#[38,97,109,112,59]⟩ _ false l.o).mono ?_
 rintro e w'⟨rfl,rfl⟩;go_wp2_with fail
 rw[VJ];go_wp2_with fail
 refine(ke s ⟨#[38,108,116,59]⟩ _ true k.o).mono ?_
 rintro e w'⟨rfl,rfl⟩;go_wp2_with fail
 go_quiet (fail)
 go_wp2
 go_ret2
 exact⟨by rw[i.o];rfl,Go.below_drewN (EG _ _) _⟩
theorem T4(s:ByteArray)(w:World)(h:gS w)(c:Lib.hasPrefix s.data.toList [38,97,109,112,59]=false)(b:Lib.hasPrefix s.data.toList [38,108,116,59]=false)(a:Lib.hasPrefix s.data.toList [38,103,116,59]=true):Calls prog 189 #[.string s] w (pR s.data.toList w):=by
 have f:Esc.iF s.data.toList=(62,4):=by unfold Lib.hasPrefix at c b a;simp[Esc.iF,c,b,a]
 have k:Hd (Esc.iF s.data.toList=(62,4)):=f;clear f;have n:Hd (Lib.hasPrefix s.data.toList [38,97,109,112,59]=false):=c;clear c;have m:Hd (Lib.hasPrefix s.data.toList [38,108,116,59]=false):=b;clear b;have l:Hd (Lib.hasPrefix s.data.toList [38,103,116,59]=true):=a;clear a;obtain⟨t,g,d⟩:=h;have i:Hd (w.heap[4]?=some (.cells jM t g)):=d;clear d;have q:=BS;have p:=Fw;have o:=Qh;go_enter func189,ntmps189
 go_wp2_with (refine wpList_load_row rfl 243 _ rfl 4 rfl t _ g _ i.o underlying243 rfl J6 ?_)
 refine WH 5 ?_
 rw[VJ];go_wp2_with fail
 refine(ke s ⟨#[38,97,109,112,59]⟩ _ false n.o).mono ?_
 rintro e w'⟨rfl,rfl⟩;go_wp2_with fail
 rw[VJ];go_wp2_with fail
 refine(ke s ⟨#[38,108,116,59]⟩ _ false m.o).mono ?_
 rintro e w'⟨rfl,rfl⟩;go_wp2_with fail
 rw[VJ];go_wp2_with fail
 refine(ke s ⟨#[38,103,116,59]⟩ _ true l.o).mono ?_
 rintro e w'⟨rfl,rfl⟩;go_wp2_with fail
 go_quiet (fail)
 go_wp2
 go_ret2
 exact⟨by rw[k.o];rfl,Go.below_drewN (EF _ _ _) _⟩
theorem T3(s:ByteArray)(w:World)(i:gS w)(d:Lib.hasPrefix s.data.toList [38,97,109,112,59]=false)(c:Lib.hasPrefix s.data.toList [38,108,116,59]=false)(b:Lib.hasPrefix s.data.toList [38,103,116,59]=false)(a:Lib.hasPrefix s.data.toList [38,113,117,111,116,59]=true):Calls prog 189 #[.string s] w (pR s.data.toList w):=by
 have g:Esc.iF s.data.toList=(34,6):=by unfold Lib.hasPrefix at d c b a;simp[Esc.iF,d,c,b,a]
 have l:Hd (Esc.iF s.data.toList=(34,6)):=g;clear g;have p:Hd (Lib.hasPrefix s.data.toList [38,97,109,112,59]=false):=d;clear d;have o:Hd (Lib.hasPrefix s.data.toList [38,108,116,59]=false):=c;clear c;have n:Hd (Lib.hasPrefix s.data.toList [38,103,116,59]=false):=b;clear b;have m:Hd (Lib.hasPrefix s.data.toList [38,113,117,111,116,59]=true):=a;clear a;obtain⟨t,h,f⟩:=i;have k:Hd (w.heap[4]?=some (.cells jM t h)):=f;clear f;have v:=BS;have u:=Fw;have r:=Qh;have q:=Sx;go_enter func189,ntmps189
 go_wp2_with (refine wpList_load_row rfl 243 _ rfl 4 rfl t _ h _ k.o underlying243 rfl J6 ?_)
 refine WH 5 ?_
 rw[VJ];go_wp2_with fail
 refine(ke s ⟨#[38,97,109,112,59]⟩ _ false p.o).mono ?_
 rintro e w'⟨rfl,rfl⟩;go_wp2_with fail
 rw[VJ];go_wp2_with fail
 refine(ke s ⟨#[38,108,116,59]⟩ _ false o.o).mono ?_
 rintro e w'⟨rfl,rfl⟩;go_wp2_with fail
 rw[VJ];go_wp2_with fail
 refine(ke s ⟨#[38,103,116,59]⟩ _ false n.o).mono ?_
 rintro e w'⟨rfl,rfl⟩;go_wp2_with fail
 rw[VJ];go_wp2_with fail
 refine(ke s ⟨#[38,113,117,111,116,59]⟩ _ true m.o).mono ?_
 rintro e w'⟨rfl,rfl⟩;go_wp2_with fail
 go_quiet (fail)
 go_wp2
 go_ret2
 exact⟨by rw[l.o];rfl,Go.below_drewN (ML _ _ _ _) _⟩
theorem T0(s:ByteArray)(w:World)(k:gS w)(d:Lib.hasPrefix s.data.toList [38,97,109,112,59]=false)(c:Lib.hasPrefix s.data.toList [38,108,116,59]=false)(b:Lib.hasPrefix s.data.toList [38,103,116,59]=false)(a:Lib.hasPrefix s.data.toList [38,113,117,111,116,59]=false)(i:0<s.size):Calls prog 189 #[.string s] w (pR s.data.toList w):=by
 have g:Esc.iF s.data.toList=(s[0],1):=by
  unfold Lib.hasPrefix at d c b a;simp[Esc.iF,d,c,b,a,List.headD_eq_head?_getD,List.head?_eq_getElem?,VM (show 0<s.data.toList.length by simpa using i)]
  rfl
 have m:Hd (Esc.iF s.data.toList=(s[0],1)):=g;clear g;have q:Hd (Lib.hasPrefix s.data.toList [38,97,109,112,59]=false):=d;clear d;have p:Hd (Lib.hasPrefix s.data.toList [38,108,116,59]=false):=c;clear c;have o:Hd (Lib.hasPrefix s.data.toList [38,103,116,59]=false):=b;clear b;have n:Hd (Lib.hasPrefix s.data.toList [38,113,117,111,116,59]=false):=a;clear a;obtain⟨t,h,f⟩:=k;have l:Hd (w.heap[4]?=some (.cells jM t h)):=f;clear f;have x:=BS;have v:=Fw;have u:=Qh;have r:=Sx;go_enter func189,ntmps189
 go_wp2_with (refine wpList_load_row rfl 243 _ rfl 4 rfl t _ h _ l.o underlying243 rfl J6 ?_)
 refine WH 5 ?_
 rw[VJ];go_wp2_with fail
 refine(ke s ⟨#[38,97,109,112,59]⟩ _ false q.o).mono ?_
 rintro e w'⟨rfl,rfl⟩;go_wp2_with fail
 rw[VJ];go_wp2_with fail
 refine(ke s ⟨#[38,108,116,59]⟩ _ false p.o).mono ?_
 rintro e w'⟨rfl,rfl⟩;go_wp2_with fail
 rw[VJ];go_wp2_with fail
 refine(ke s ⟨#[38,103,116,59]⟩ _ false o.o).mono ?_
 rintro e w'⟨rfl,rfl⟩;go_wp2_with fail
 rw[VJ];go_wp2_with fail
 refine(ke s ⟨#[38,113,117,111,116,59]⟩ _ false n.o).mono ?_
 rintro e w'⟨rfl,rfl⟩;go_wp2_with fail
 rw[VJ];go_wp2
 go_ret2
 exact⟨by rw[m.o];rfl,ML _ _ _ _⟩
theorem Qz(s:ByteArray)(w:World)(a:gS w)(f:0<s.size):Calls prog 189 #[.string s] w (pR s.data.toList w):=by
 cases b:Lib.hasPrefix s.data.toList [38,97,109,112,59]
 ·cases c:Lib.hasPrefix s.data.toList [38,108,116,59]
  ·cases d:Lib.hasPrefix s.data.toList [38,103,116,59]
   ·cases e:Lib.hasPrefix s.data.toList [38,113,117,111,116,59]
    ·exact T0 s w a b c d e f
    ·exact T3 s w a b c d e
   ·exact T4 s w a b c d
  ·exact T5 s w a b c
 ·exact T6 s w a b
