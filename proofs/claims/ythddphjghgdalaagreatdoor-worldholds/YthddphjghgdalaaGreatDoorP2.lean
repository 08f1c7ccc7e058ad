/- A part. -/
import Derived.Test.YthddphjghgdalaaGreatDoorP1
import Derived.Laws.StructEq
import Derived.Laws.ResultCell
import Derived.Laws.Rows
import Derived.Deep.CutRange
import Derived.Deep.CutBlock
set_option maxRecDepth 100000
set_option maxHeartbeats 1600000
namespace Go.Proofs.YthddphjghgdalaaGreatDoor
open Go.RowKit Go.Proofs.Tryz
namespace Dc
def Cx (l:List It):Nat->Bool
 | 0=>true
 | j+1=>turns (l[j]?.getD It.zero) (l[j+1]?.getD It.zero)
theorem G9{l:List It}{j:Nat}(a:j+1<l.length):Cx l (j+1)=turns l[j] l[j+1]:=by
 show turns (l[j]?.getD It.zero) (l[j+1]?.getD It.zero)=_
 rw[VM (by omega),VM a];rfl
end Dc
namespace Dc
end Dc
namespace Dc
def alike (x y:It):Bool:=((x.c.toNat:Int) == (y.c.toNat:Int))&&((x.m == y.m)&&(x.l.toList == y.l.toList))
def same:List It->List It->Bool
 | [],[]=>true
 | x :: s,y :: t=>alike x y&&same s t
 | _,_=>false
theorem nA:∀(s t:List It),¬s.length=t.length->same s t=false
 |[],[],h=>absurd rfl h
 |[],_::_,_=>rfl
 |_::_,[],_=>rfl
 |x::s,y::t,h=>by
  rw[same,nA s t (by simpa using h),Bool.and_false]
theorem rB(s t:List It)(k:Nat)(h:k<s.length)(a:k<t.length):same (s.drop k) (t.drop k)=(alike s[k] t[k]&&same (s.drop (k+1)) (t.drop (k+1))):=by
 rw[VU h,VU a,same]
end Dc
theorem FN:prog.eqGuardType prog.depth 67=false:=by kernel_rfl
theorem Qx:prog.stoodInHeld 67=false:=by kernel_rfl
theorem Ms:prog.underlying 67=some (.struct (prog.fieldsOf 67)):=by kernel_rfl
theorem wi(x y:It)(w:World):(binOp .neq 67 (.agg #[.int .u8 x.c.toNat,.int .i64 x.m,.string x.l]) (.agg #[.int .u8 y.c.toNat,.int .i64 y.m,.string y.l])).run prog w=.ok (.bool (!Dc.alike x y)) w:=by
 rw[run_neq_struct,run_equalIn_agg w 9999 67 _ _ Ms Qx];have d:=underlying67;simp[go_sem,d,Program.fieldsOf]
 unfold Dc.alike;by_cases a:(x.c.toNat:Int)=(y.c.toNat:Int)
 ·by_cases b:x.m=y.m
  ·by_cases c:x.l.toList=y.l.toList
   ·simp[a,b,c]
   ·simp[a,b,c]
  ·simp[a,b]
 ·simp[a]
theorem Ic(H t:Option Addr)(n s A g:Nat)(l f:List It)(w:World)(v:cy w H n s l)(q:cy w t A g f):
  Calls prog 31 #[.slice H n s,.slice t A g] w fun e w'=>e=.returned (.bool (Dc.same l f))/\∃m,w'=w.drewN m:=by
 have z:=hId v;have d:=hId q;have M:=v.room;have N:=v.fg;clear v q;obtain⟨r,B⟩:∃r,Dc.same l f=r:=⟨_,rfl⟩;have J:=hId B;rw[B];clear B;by_cases o:n=A
 ·subst o;have X:=FN;go_enter func31,ntmps31
  go_wp2
  go_loopw [13] (fun i wr=>∃k:Nat,k<=n/\i=.int .i64 k/\(∃m,wr=w.drewN m)/\Dc.same (l.drop k) (f.drop k)=r) (fun i _=>n-(intOf i).toNat)
  case atStart=>exact⟨0,VN _,rfl,⟨0,rfl⟩,J.o⟩
  case round=>
   obtain⟨k,W,rfl,⟨m,rfl⟩,h⟩:=hrel;have E:=hId h;clear h;by_cases p:k<n
   ·obtain⟨b,O,rfl,K⟩:=z.o.bH (by omega);obtain⟨Y,L,rfl,u⟩:=d.o.bH (by omega);have D:k<l.length:=by rw[z.o.len];exact p
    have C:k<f.length:=by rw[d.o.len];exact p
    obtain⟨V,U,T⟩:=K.get (VM D);obtain⟨S,Q,P⟩:=u.get (VM C);have I:=hId (Dc.rB l f k D C);clear K u;generalize l[k]=x at*;generalize f[k]=y at*;clear D C;have G:=wi x y
    cases a:Dc.alike x y
    ·have c:r=false:=by rw[<-E.o,I.o,a];rfl
     subst c;rw[a]at G;clear a;go_wp2
     go_quiet (fail)
     go_wp2
     go_ret
     exact⟨rfl,_,(World.drewN_drewN _ _ _)⟩
    ·have F:Hd (Dc.same (l.drop (k+1)) (f.drop (k+1))=r):=by show _=_;rw[<-E.o,I.o,a,Bool.true_and]
     rw[a]at G;clear a;go_wp2
     go_quiet (fail)
     go_wp2
     go_roundw
     case rel=>exact⟨k+1,by omega,by go_num,⟨_,rfl⟩,F.o⟩
     case measure=>simp[intOf];omega
   ·have c:r=true:=by
     rw[<-E.o,WI (by rw[z.o.len];omega),WI (by rw[d.o.len];omega)];rfl
    subst c;go_wp2
    go_ret
    exact⟨rfl,m,rfl⟩
 ·have c:=J.o.symm.trans (Dc.nA _ _ (by rw[z.o.len,d.o.len];exact o));subst c;go_enter func31,ntmps31
  go_wp2
  go_ret
  exact⟨rfl,0,rfl⟩
theorem gJ(h c:Option Addr)(n b g a:Nat)(l f:List It)(w:World)(i:cy w h n b l)(d:cy w c g a f):
  Calls prog 15 #[.slice h n b,.slice c g a] w fun e w'=>e=.returned (.bool (Dc.same l f))/\∃m,w'=w.drewN m:=by
 have k:=Ic h c n b g a l f w i d;clear i d;generalize Dc.same l f=r at*;have H:=hId k;clear k;go_enter func15,ntmps15
 go_wp2_with fail
 refine H.o.mono ?_
 rintro e o⟨rfl,m,rfl⟩;go_wp2
 go_ret
 exact⟨rfl,m,rfl⟩
def gH:List It:=[⟨97,0,⟨#[]⟩⟩,⟨98,1,⟨#[]⟩⟩,⟨10,1,⟨#[]⟩⟩,⟨60,0,⟨#[104,116,116,112,58,38]⟩⟩,⟨10,2,⟨#[]⟩⟩]
theorem rn:Dc.check gH=0:=by decide+kernel
def aI:List It->List Value
 | []=>[]
 | x :: t=>.int .u8 x.c.toNat :: .int .i64 x.m :: .string x.l :: aI t
theorem cZ:∀(l:List It)(i:Nat)(h:i<l.length),(aI l)[i*3]?=some (.int .u8 l[i].c.toNat)/\(aI l)[i*3+1]?=some (.int .i64 l[i].m)/\(aI l)[i*3+2]?=some (.string l[i].l)
 |[],_,h=>by simp at h
 |x::t,0,_=>⟨rfl,rfl,rfl⟩
 |x::t,i+1,h=>by
  obtain⟨c,b,a⟩:=cZ t i (by simpa using h);have e:(i+1)*3=i*3+1+1+1:=by omega
  rw[e];exact⟨c,b,a⟩
theorem BP{w:World}{b:Nat}{l:List It}{T:TypeId}{d:Nat×Nat}(h:w.heap[b]?=some (.cells (aI l).toArray T d)):At w b 0 l:=by
 have c:∀j,w.cell? ⟨b,j,none⟩=(aI l)[j]?:=fun j=>by
  unfold World.cell?;rw[h];simp
 refine⟨fun i a=>?_,fun i a=>?_,fun i a=>?_⟩
 ·rw[VR,c];exact(cZ l i a).1
 ·rw[VR,c];exact(cZ l i a).2.1
 ·rw[VR,c];exact(cZ l i a).2.2
theorem At.take{w:World}{b a:Nat}{l:List It}(h:At w b a l)(k:Nat):At w b a (l.take k):=by
 refine⟨fun i c=>?_,fun i c=>?_,fun i c=>?_⟩
 all_goals
  have d:i<l.length:=by simp at c;omega
  rw[List.getElem_take]
 ·exact h.c i d
 ·exact h.m i d
 ·exact h.l i d
theorem Cf(w:World):Calls prog 22 #[] w fun e w'=>e=.returned (.slice (some ⟨w.heap.size,0,none⟩) 5 5)/\w'=w.alloc (.cells (aI gH).toArray 67):=by
 go_enter func22,ntmps22
 go_wp2
 go_ret
 exact⟨rfl,rfl⟩
theorem Gy:Fit gH:=by unfold Fit;decide+kernel
theorem KC(w:World):cy (w.alloc (.cells (aI gH).toArray 67)) (some ⟨w.heap.size,0,none⟩) 5 5 gH:=
 ⟨Gy,rfl,UZ _,by decide,fun _=>⟨_,_,rfl,BP (heap_alloc_new w _)⟩⟩
theorem Pn(w:World):Calls prog 22 #[] w fun e w'=>e=.returned (.slice (some ⟨w.heap.size,0,none⟩) 5 5)/\cy w' (some ⟨w.heap.size,0,none⟩) 5 5 gH/\Below w.heap.size w w':=
 (Cf w).mono fun _ _⟨b,a⟩=>⟨b,by rw[a];exact KC w,by rw[a];exact(VE _ _).alloc (UZ _) _⟩
theorem cy.take{w:World}{d:Option Addr}{n a:Nat}{l:List It}(h:cy w d n a l)(k:Nat)(g:k<=n):cy w d k a (l.take k):=
 ⟨fun x f=>h.fit x (List.mem_of_mem_take f),by rw[List.length_take,h.len];omega,VX g h.room,h.fg,fun m=>by obtain⟨b,c,e,i⟩:=h.bH (by omega);exact⟨b,c,e,i.take k⟩⟩
theorem Tryz.Qe:(prog.info? 67).map (fun i=>(i.zero,i.size,i.bytes))=some (some (.agg #[.int .u8 0,.int .i64 0,.string ⟨#[]⟩]),3,32):=by kernel_rfl
theorem dP:∀l:List It,(aI l).length=l.length*3
 |[]=>rfl
 |x::t=>by
  show(aI t).length+1+1+1=_
  rw[dP t,VG,Nat.add_mul]
theorem fb:∀l a:List It,aI (l++a)=aI l++aI a
 |[],_=>rfl
 |x::t,a=>by
  show _::_::_::aI (t++a)=_
  rw[fb t a];rfl
theorem bR:∀l:List It,∀u∈aI l,u.oneCell'=true
 |[],u,a=>by simp[aI]at a
 |x::t,u,a=>by
  simp only[aI,WG]at a
  rcases a with rfl|rfl|rfl|a
  ·rfl
  ·rfl
  ·rfl
  ·exact bR t u a
theorem lW{w:World}{b a:Nat}{l:List It}(h:At w b a l)(j:Nat)(u:Value)(c:(aI l)[j]?=some u):w.cell? ((⟨b,a,none⟩:Addr).add j)=some u:=by
 have d:(⟨b,a,none⟩:Addr).add j=⟨b,a+j,none⟩:=by unfold Addr.add;split<;>simp_all
 rw[d];have n:j<l.length*3:=by rw[<-dP];exact(VO.1 c).1
 have f:j/3<l.length:=by omega
 obtain⟨m,k,i⟩:=cZ l (j/3) f;have g:j=j/3*3\/j=j/3*3+1\/j=j/3*3+2:=by omega
 rcases g with e|e|e
 ·rw[e,m]at c;rw[e];exact(h.c _ f).trans c
 ·rw[e,k]at c;rw[e,<-WX];exact(h.m _ f).trans c
 ·rw[e,i]at c;rw[e,<-WX];exact(h.l _ f).trans c
theorem C9{w:World}{f g c n:Nat}{l:List It}(h:w.ownsRow f 67 3 (.slice (some ⟨g,0,none⟩) n c) n (aI l)):At w g 0 l:=by
 have b:∀j u,(aI l)[j]?=some u->w.cell? ⟨g,0+j,none⟩=some u:=fun j u d=>by
  have:=h.cells (g:=g) rfl j u d;have e:(⟨g,0,none⟩:Addr).add j=⟨g,0+j,none⟩:=by unfold Addr.add;split<;>simp_all
  rw[e]at this;exact this
 refine⟨fun i a=>b _ _ (cZ l i a).1,fun i a=>?_,fun i a=>?_⟩
 ·rw[WX];exact b _ _ (cZ l i a).2.1
 ·rw[WX];exact b _ _ (cZ l i a).2.2
namespace Ac
structure Ch where
 set:Int
 bm:Int
 goes:Bool
 link:ByteArray
abbrev A:=Option (Ch ⊕ It)
namespace A
abbrev af (c:Ch):A:=some (.inl c)
abbrev put (x:It):A:=some (.inr x)
abbrev cut:A:=none
end A
def wg:Ch:=⟨0,0,false,⟨#[]⟩⟩
def mark (m c s:Int):Int:=((m.toNat - (m.toNat &&& c.toNat)) ||| s.toNat:Nat)
def less (a b:Int):Int:=(a.toNat - (a.toNat &&& b.toNat):Nat)
def both (a b:Int):Int:=(a.toNat ||| b.toNat:Nat)
def change (x:It) (c:Ch):It:=⟨x.c,mark x.m c.bm c.set,if c.goes&&!Dc.ends x then c.link else x.l⟩
def m4 (m:Int):Prop:=0<=m/\m<=3
structure JM (c:Ch):Prop where
 set:m4 c.set
 bm:m4 c.bm
theorem cG{m:Int}(h:m4 m):∃k:Nat,k<4/\m=k:=by
 obtain⟨b,a⟩:=h;exact⟨m.toNat,by omega,by omega⟩
def A.ok:A->Prop
 | some (.inl c)=>JM c
 | some (.inr x)=>m4 x.m
 | none=>True
def Ok (l:List A):Prop:=∀ a ∈ l,A.ok a
def ap:List A->List It->Option (List It)
 | [],[]=>some []
 | [],_ :: _=>none
 | some (.inr x) :: r,d=>(ap r d).map (x :: ·)
 | some (.inl _) :: _,[]=>none
 | some (.inl c) :: r,x :: d=>(ap r d).map (change x c :: ·)
 | none :: _,[]=>none
 | none :: r,_ :: d=>ap r d
def aX:List A->Nat
 | []=>0
 | some (.inr _) :: r=>aX r
 | some (.inl _) :: r=>aX r+1
 | none :: r=>aX r+1
def leave:List A->Nat
 | []=>0
 | some (.inr _) :: r=>leave r+1
 | some (.inl _) :: r=>leave r+1
 | none :: r=>leave r
theorem yj(r:List A)(x:It)(d:List It):ap (.cut::r) (x::d)=ap r d:=rfl
theorem iT(c:Ch)(r:List A)(x:It)(d:List It):ap (.af c::r) (x::d)=(ap r d).map (change x c::·):=rfl
theorem kB(x:It)(r:List A)(d:List It):ap (.put x::r) d=(ap r d).map (x::·):=by cases d<;>rfl
theorem yK{m c s:Int}(f:m4 m)(i:m4 c)(d:m4 s):m4 (mark m c s):=by
 obtain⟨a,l,rfl⟩:=cG f;obtain⟨b,k,rfl⟩:=cG i;obtain⟨e,g,rfl⟩:=cG d;have h:∀a<4,∀b<4,∀e<4,((a-(a&&& b))|||e)<=3:=by decide
 have:=h a l b k e g;refine⟨Int.natCast_nonneg _,?_⟩
 show(((a-(a&&& b))|||e:Nat):Int)<=3
 omega
theorem mD{a b:Int}(f:m4 a)(e:m4 b):m4 (less a b):=by
 obtain⟨x,d,rfl⟩:=cG f;obtain⟨y,c,rfl⟩:=cG e;have h:∀a<4,∀b<4,(a-(a&&& b))<=3:=by decide
 have:=h x d y c;refine⟨Int.natCast_nonneg _,?_⟩
 show((x-(x&&& y):Nat):Int)<=3
 omega
theorem oG{a b:Int}(f:m4 a)(e:m4 b):m4 (both a b):=by
 obtain⟨x,d,rfl⟩:=cG f;obtain⟨y,c,rfl⟩:=cG e;have h:∀a<4,∀b<4,(a|||b)<=3:=by decide
 have:=h x d y c;refine⟨Int.natCast_nonneg _,?_⟩
 show((x|||y:Nat):Int)<=3
 omega
theorem Ky{m:Int}(b:m4 m):mark m 0 0=m:=by
 obtain⟨a,c,rfl⟩:=cG b;have h:∀a<4,((a-(a&&& 0))|||0)=a:=by decide
 show(((a-(a&&& 0))|||0:Nat):Int)=_
 rw[h a c]
theorem ID{m d c k i:Int}(q:m4 m)(p:m4 d)(n:m4 c)(o:m4 k)(l:m4 i):
  mark (mark m d c) (less k (both c d)) (less i (both c d))=mark (mark m k i) d c:=by
 obtain⟨a,v,rfl⟩:=cG q;obtain⟨b,u,rfl⟩:=cG p;obtain⟨e,t,rfl⟩:=cG n;obtain⟨f,s,rfl⟩:=cG o;obtain⟨g,r,rfl⟩:=cG l;have h:∀a<4,∀b<4,∀e<4,∀f<4,∀g<4,((((a-(a&&& b))|||e)-(((a-(a&&& b))|||e)&&& (f-(f&&& (e|||b)))))|||(g-(g&&& (e|||b))))=((((a-(a&&& f))|||g)-(((a-(a&&& f))|||g)&&& b))|||e):=by decide+kernel
 exact VQ Int.ofNat (h a v b u e t f s g r)
theorem IE{m k i d c:Int}(q:m4 m)(p:m4 k)(n:m4 i)(o:m4 d)(l:m4 c):
  mark m (both (less k c) d) (both (less i d) c)=mark (mark m k i) d c:=by
 obtain⟨a,v,rfl⟩:=cG q;obtain⟨b,u,rfl⟩:=cG p;obtain⟨e,t,rfl⟩:=cG n;obtain⟨f,s,rfl⟩:=cG o;obtain⟨g,r,rfl⟩:=cG l;have h:∀a<4,∀b<4,∀e<4,∀f<4,∀g<4,((a-(a&&& ((b-(b&&& g))|||f)))|||((e-(e&&& f))|||g))=((((a-(a&&& b))|||e)-(((a-(a&&& b))|||e)&&& f))|||g):=by decide+kernel
 exact VQ Int.ofNat (h a v b u e t f s g r)
def behind (b a:Ch):Ch:=⟨less b.set (both a.set a.bm),less b.bm (both a.set a.bm),b.goes&&!a.goes,if a.goes then ⟨#[]⟩ else b.link⟩
def iH (a b:Ch):Ch:=⟨both (less a.set b.bm) b.set,both (less a.bm b.set) b.bm,a.goes || b.goes,if b.goes then b.link else a.link⟩
theorem Ak(x:It)(c:Ch):Dc.ends (change x c)=Dc.ends x:=rfl
theorem BA {x:It} {a b:Ch} (hx:m4 x.m) (ha:JM a) (hb:JM b):change (change x a) (behind b a)=change (change x b) a:=by
 have hm:(change (change x a) (behind b a)).m=(change (change x b) a).m:=ID hx ha.bm ha.set hb.bm hb.set;have hl:(change (change x a) (behind b a)).l=(change (change x b) a).l:=by
  show (if (b.goes&&!a.goes)&&!Dc.ends x then (if a.goes then (⟨#[]⟩:ByteArray) else b.link) else (if a.goes&&!Dc.ends x then a.link else x.l))=(if a.goes&&!Dc.ends x then a.link else (if b.goes&&!Dc.ends x then b.link else x.l))
  cases a.goes <;> cases b.goes <;> cases Dc.ends x <;> rfl
 show (⟨x.c,(change (change x a) (behind b a)).m,(change (change x a) (behind b a)).l⟩:It)=⟨x.c,(change (change x b) a).m,(change (change x b) a).l⟩
 rw[hm,hl]
theorem BB {x:It} {a b:Ch} (hx:m4 x.m) (ha:JM a) (hb:JM b):change x (iH a b)=change (change x a) b:=by
 have hm:(change x (iH a b)).m=(change (change x a) b).m:=IE hx ha.bm ha.set hb.bm hb.set;have hl:(change x (iH a b)).l=(change (change x a) b).l:=by
  show (if (a.goes || b.goes)&&!Dc.ends x then (if b.goes then b.link else a.link) else x.l)=(if b.goes&&!Dc.ends x then b.link else (if a.goes&&!Dc.ends x then a.link else x.l))
  cases a.goes <;> cases b.goes <;> cases Dc.ends x <;> rfl
 show (⟨x.c,(change x (iH a b)).m,(change x (iH a b)).l⟩:It)=⟨x.c,(change (change x a) b).m,(change (change x a) b).l⟩
 rw[hm,hl]
theorem mM{x:It}(a:m4 x.m):change x wg=x:=by
 show(⟨x.c,mark x.m 0 0,x.l⟩:It)=x
 rw[Ky a]
def NU (h:Option Ch) (f:List A->List A × List A):List A->List A × List A
 | []=>([],[])
 | some (.inr y) :: b=>(.af wg :: (NU h f b).1,.put y :: (NU h f b).2)
 | some (.inl d) :: b=>match h with
  | some c=>(.af c :: (f b).1,.af (behind d c) :: (f b).2)
  | none=>(.cut :: (f b).1,(f b).2)
 | none :: b=>match h with
  | some _=>((f b).1,.cut :: (f b).2)
  | none=>f b
def J5:List A->List A × List A
 | some (.inr y) :: b=>(.af wg :: (J5 b).1,.put y :: (J5 b).2)
 | _=>([],[])
def bF:List A->List A->List A × List A
 | [],b=>J5 b
 | some (.inr x) :: a,b=>(.put x :: (bF a b).1,.af wg :: (bF a b).2)
 | some (.inl c) :: a,b=>NU (some c) (bF a) b
 | none :: a,b=>NU none (bF a) b
theorem mn(x:It)(a b:List A):bF (.put x::a) b=(.put x::(bF a b).1,.af wg::(bF a b).2):=rfl
theorem xp(y:It)(b:List A):bF [] (.put y::b)=(.af wg::(bF [] b).1,.put y::(bF [] b).2):=rfl
theorem nX(c:Ch)(y:It)(a b:List A):bF (.af c::a) (.put y::b)=(.af wg::(bF (.af c::a) b).1,.put y::(bF (.af c::a) b).2):=rfl
theorem pX(y:It)(a b:List A):bF (.cut::a) (.put y::b)=(.af wg::(bF (.cut::a) b).1,.put y::(bF (.cut::a) b).2):=rfl
theorem pV(c d:Ch)(a b:List A):bF (.af c::a) (.af d::b)=(.af c::(bF a b).1,.af (behind d c)::(bF a b).2):=rfl
theorem pY(d:Ch)(a b:List A):bF (.cut::a) (.af d::b)=(.cut::(bF a b).1,(bF a b).2):=rfl
theorem pW(c:Ch)(a b:List A):bF (.af c::a) (.cut::b)=((bF a b).1,.cut::(bF a b).2):=rfl
theorem pZ(a b:List A):bF (.cut::a) (.cut::b)=bF a b:=rfl
theorem Ed:bF [] []=([],[]):=rfl
end Ac
namespace Ac
def M4 (d:List It):Prop:=∀ x ∈ d,m4 x.m
theorem Ok.tail{a:A}{l:List A}(h:Ok (a::l)):Ok l:=fun b c=>h b (by simp[c])
theorem Ok.head{a:A}{l:List A}(h:Ok (a::l)):A.ok a:=h a (by simp)
theorem M4.tail{x:It}{d:List It}(h:M4 (x::d)):M4 d:=fun y a=>h y (by simp[a])
theorem M4.head{x:It}{d:List It}(h:M4 (x::d)):m4 x.m:=h x (by simp)
theorem cw{x:It}{r:List A}{d p:List It}(h:ap (.put x::r) d=some p):∃a,p=x::a/\ap r d=some a:=by
 rw[kB]at h
 cases b:ap r d with
 |none=>rw[b]at h;cases h
 |some q=>rw[b]at h;cases h;exact⟨q,rfl,rfl⟩
theorem cK{c:Ch}{r:List A}{d p:List It}(h:ap (.af c::r) d=some p):∃z a e,d=z::a/\p=change z c::e/\ap r a=some e:=by
 cases d with
 |nil=>cases h
 |cons z a=>
  rw[iT]at h
  cases b:ap r a with
  |none=>rw[b]at h;cases h
  |some q=>rw[b]at h;cases h;exact⟨z,a,q,rfl,rfl,b⟩
theorem dy{r:List A}{d p:List It}(h:ap (.cut::r) d=some p):∃z a,d=z::a/\ap r a=some p:=by
 cases d with
 |nil=>cases h
 |cons z a=>exact⟨z,a,rfl,h⟩
theorem br{d p:List It}(h:ap [] d=some p):d=[]/\p=[]:=by
 cases d with
 |nil=>cases h;exact⟨rfl,rfl⟩
 |cons=>cases h
theorem eZ:∀ (n:Nat) (a b:List A),a.length+b.length<=n->∀ (d p q:List It),M4 d->Ok a->Ok b->ap a d=some p->ap b d=some q->∃ r,ap (bF a b).2 p=some r/\ap (bF a b).1 q=some r
 | n,some (.inr x) :: a,b,hn,d,p,q,hd,ha,hb,h1,h2=>by
  obtain ⟨p',rfl,h1'⟩:=cw h1;match n,hn with
  | 0,hn=>simp at hn
  | n+1,hn =>
   obtain ⟨r,g1,g2⟩:=eZ n a b (by simp only[VG] at hn;omega) d p' q hd ha.tail hb h1' h2;rw[mn];refine ⟨x :: r,?_,?_⟩
   ·show ap (.af wg :: (bF a b).2) (x :: p')=_
    rw[iT,g1,mM ha.head];rfl
   ·show ap (.put x :: (bF a b).1) q=_
    rw[kB,g2];rfl
 | n,[],some (.inr y) :: b,hn,d,p,q,hd,ha,hb,h1,h2=>by
  obtain ⟨q',rfl,h2'⟩:=cw h2;match n,hn with
  | 0,hn=>simp at hn
  | n+1,hn =>
   obtain ⟨r,g1,g2⟩:=eZ n [] b (by simp only[VG] at hn;omega) d p q' hd ha hb.tail h1 h2';rw[xp];refine ⟨y :: r,?_,?_⟩
   ·show ap (.put y :: (bF [] b).2) p=_
    rw[kB,g1];rfl
   ·show ap (.af wg :: (bF [] b).1) (y :: q')=_
    rw[iT,g2,mM hb.head];rfl
 | n,some (.inl c) :: a,some (.inr y) :: b,hn,d,p,q,hd,ha,hb,h1,h2=>by
  obtain ⟨q',rfl,h2'⟩:=cw h2;match n,hn with
  | 0,hn=>simp at hn
  | n+1,hn =>
   obtain ⟨r,g1,g2⟩:=eZ n (.af c :: a) b (by simp only[VG] at hn ⊢;omega) d p q' hd ha hb.tail h1 h2';rw[nX];refine ⟨y :: r,?_,?_⟩
   ·show ap (.put y :: (bF (.af c :: a) b).2) p=_
    rw[kB,g1];rfl
   ·show ap (.af wg :: (bF (.af c :: a) b).1) (y :: q')=_
    rw[iT,g2,mM hb.head];rfl
 | n,none :: a,some (.inr y) :: b,hn,d,p,q,hd,ha,hb,h1,h2=>by
  obtain ⟨q',rfl,h2'⟩:=cw h2;match n,hn with
  | 0,hn=>simp at hn
  | n+1,hn =>
   obtain ⟨r,g1,g2⟩:=eZ n (.cut :: a) b (by simp only[VG] at hn ⊢;omega) d p q' hd ha hb.tail h1 h2';rw[pX];refine ⟨y :: r,?_,?_⟩
   ·show ap (.put y :: (bF (.cut :: a) b).2) p=_
    rw[kB,g1];rfl
   ·show ap (.af wg :: (bF (.cut :: a) b).1) (y :: q')=_
    rw[iT,g2,mM hb.head];rfl
 | n,some (.inl c) :: a,some (.inl e) :: b,hn,d,p,q,hd,ha,hb,h1,h2=>by
  obtain ⟨z,d',p',rfl,rfl,h1'⟩:=cK h1;obtain ⟨z2,d2,q',hz,rfl,h2'⟩:=cK h2
  cases hz
  match n,hn with
  | 0,hn=>simp at hn
  | n+1,hn =>
   obtain ⟨r,g1,g2⟩:=eZ n a b (by simp only[VG] at hn;omega) d' p' q' hd.tail ha.tail hb.tail h1' h2';rw[pV];refine ⟨change (change z e) c :: r,?_,?_⟩
   ·show ap (.af (behind e c) :: (bF a b).2) (change z c :: p')=_
    rw[iT,g1,BA hd.head ha.head hb.head];rfl
   ·show ap (.af c :: (bF a b).1) (change z e :: q')=_
    rw[iT,g2];rfl
 | n,none :: a,some (.inl e) :: b,hn,d,p,q,hd,ha,hb,h1,h2=>by
  obtain ⟨z,d',rfl,h1'⟩:=dy h1;obtain ⟨z2,d2,q',hz,rfl,h2'⟩:=cK h2
  cases hz
  match n,hn with
  | 0,hn=>simp at hn
  | n+1,hn =>
   obtain ⟨r,g1,g2⟩:=eZ n a b (by simp only[VG] at hn;omega) d' p q' hd.tail ha.tail hb.tail h1' h2';rw[pY];exact ⟨r,g1,g2⟩
 | n,some (.inl c) :: a,none :: b,hn,d,p,q,hd,ha,hb,h1,h2=>by
  obtain ⟨z,d',p',rfl,rfl,h1'⟩:=cK h1;obtain ⟨z2,d2,hz,h2'⟩:=dy h2
  cases hz
  match n,hn with
  | 0,hn=>simp at hn
  | n+1,hn =>
   obtain ⟨r,g1,g2⟩:=eZ n a b (by simp only[VG] at hn;omega) d' p' q hd.tail ha.tail hb.tail h1' h2';rw[pW];exact ⟨r,g1,g2⟩
 | n,none :: a,none :: b,hn,d,p,q,hd,ha,hb,h1,h2=>by
  obtain ⟨z,d',rfl,h1'⟩:=dy h1;obtain ⟨z2,d2,hz,h2'⟩:=dy h2
  cases hz
  match n,hn with
  | 0,hn=>simp at hn
  | n+1,hn =>
   obtain ⟨r,g1,g2⟩:=eZ n a b (by simp only[VG] at hn;omega) d' p q hd.tail ha.tail hb.tail h1' h2';rw[pZ];exact ⟨r,g1,g2⟩
 | _,[],[],_,d,p,q,_,_,_,h1,h2=>by
  rw[(br h1).2,(br h2).2,Ed];exact ⟨[],rfl,rfl⟩
 | _,[],some (.inl e) :: b,_,d,p,q,_,_,_,h1,h2=>by
  rw[(br h1).1] at h2;cases h2
 | _,[],none :: b,_,d,p,q,_,_,_,h1,h2=>by
  rw[(br h1).1] at h2;cases h2
 | _,some (.inl c) :: a,[],_,d,p,q,_,_,_,h1,h2=>by
  rw[(br h2).1] at h1;cases h1
 | _,none :: a,[],_,d,p,q,_,_,_,h1,h2=>by
  rw[(br h2).1] at h1;cases h1
def Sq (h:Ch ⊕ It) (f:List A->List A):List A->List A
 | []=>[]
 | some (.inr y) :: b=>.put y :: Sq h f b
 | some (.inl e) :: b=>match h with
  | .inl c=>.af (iH c e) :: f b
  | .inr x=>.put (change x e) :: f b
 | none :: b=>match h with
  | .inl _=>.cut :: f b
  | .inr _=>f b
def NL:List A->List A
 | some (.inr y) :: b=>.put y :: NL b
 | _=>[]
def join:List A->List A->List A
 | [],b=>NL b
 | none :: a,b=>.cut :: join a b
 | some h :: a,b=>Sq h (join a) b
theorem nI(a b:List A):join (.cut::a) b=.cut::join a b:=rfl
theorem join_nil:join [] []=[]:=rfl
theorem qO(c e:Ch)(a b:List A):join (.af c::a) (.af e::b)=.af (iH c e)::join a b:=rfl
theorem qP(c:Ch)(a b:List A):join (.af c::a) (.cut::b)=.cut::join a b:=rfl
theorem qM(x:It)(e:Ch)(a b:List A):join (.put x::a) (.af e::b)=.put (change x e)::join a b:=rfl
theorem qN(x:It)(a b:List A):join (.put x::a) (.cut::b)=join a b:=rfl
theorem FJ(c:Ch)(y:It)(a b:List A):join (.af c::a) (.put y::b)=.put y::join (.af c::a) b:=rfl
theorem FH(x y:It)(a b:List A):join (.put x::a) (.put y::b)=.put y::join (.put x::a) b:=rfl
theorem FI(y:It)(b:List A):join [] (.put y::b)=.put y::join [] b:=rfl
theorem nH(a b:List A)(y:It)(h:∀d,a≠.cut::d):join a (.put y::b)=.put y::join a b:=by
 match a,h with
 |[],_=>rfl
 |some (.inl c)::a,_=>rfl
 |some (.inr x)::a,_=>rfl
 |none::a,h=>exact absurd rfl (h a)
theorem jf:∀ (n:Nat) (a b:List A),a.length+b.length<=n->∀ (d p q:List It),M4 d->Ok a->Ok b->ap a d=some p->ap b p=some q->ap (join a b) d=some q
 | n,none :: a,b,hn,d,p,q,hd,ha,hb,h1,h2=>by
  obtain ⟨z,d',rfl,h1'⟩:=dy h1;match n,hn with
  | 0,hn=>simp at hn
  | n+1,hn =>
   rw[nI,yj];exact jf n a b (by simp only[VG] at hn;omega) d' p q hd.tail ha.tail hb h1' h2
 | n,[],some (.inr y) :: b,hn,d,p,q,hd,ha,hb,h1,h2=>by
  obtain ⟨q',rfl,h2'⟩:=cw h2;match n,hn with
  | 0,hn=>simp at hn
  | n+1,hn =>
   rw[nH _ _ _ (by intro a' e;cases e),kB,jf n [] b (by simp only[VG] at hn;omega) d p q' hd ha hb.tail h1 h2'];rfl
 | n,some (.inl c) :: a,some (.inr y) :: b,hn,d,p,q,hd,ha,hb,h1,h2=>by
  obtain ⟨q',rfl,h2'⟩:=cw h2;match n,hn with
  | 0,hn=>simp at hn
  | n+1,hn =>
   rw[nH _ _ _ (by intro a' e;cases e),kB,jf n (.af c :: a) b (by simp only[VG] at hn ⊢;omega) d p q' hd ha hb.tail h1 h2'];rfl
 | n,some (.inr x) :: a,some (.inr y) :: b,hn,d,p,q,hd,ha,hb,h1,h2=>by
  obtain ⟨q',rfl,h2'⟩:=cw h2;match n,hn with
  | 0,hn=>simp at hn
  | n+1,hn =>
   rw[nH _ _ _ (by intro a' e;cases e),kB,jf n (.put x :: a) b (by simp only[VG] at hn ⊢;omega) d p q' hd ha hb.tail h1 h2'];rfl
 | n,some (.inl c) :: a,some (.inl e) :: b,hn,d,p,q,hd,ha,hb,h1,h2=>by
  obtain ⟨z,d',p',rfl,rfl,h1'⟩:=cK h1;obtain ⟨z2,p2,q',hz,rfl,h2'⟩:=cK h2
  cases hz
  match n,hn with
  | 0,hn=>simp at hn
  | n+1,hn =>
   rw[qO,iT,jf n a b (by simp only[VG] at hn;omega) d' p' q' hd.tail ha.tail hb.tail h1' h2',BB hd.head ha.head hb.head];rfl
 | n,some (.inl c) :: a,none :: b,hn,d,p,q,hd,ha,hb,h1,h2=>by
  obtain ⟨z,d',p',rfl,rfl,h1'⟩:=cK h1;obtain ⟨z2,p2,hz,h2'⟩:=dy h2
  cases hz
  match n,hn with
  | 0,hn=>simp at hn
  | n+1,hn =>
   rw[qP,yj];exact jf n a b (by simp only[VG] at hn;omega) d' p' q hd.tail ha.tail hb.tail h1' h2'
 | n,some (.inr x) :: a,some (.inl e) :: b,hn,d,p,q,hd,ha,hb,h1,h2=>by
  obtain ⟨p',rfl,h1'⟩:=cw h1;obtain ⟨z2,p2,q',hz,rfl,h2'⟩:=cK h2
  cases hz
  match n,hn with
  | 0,hn=>simp at hn
  | n+1,hn =>
   rw[qM,kB,jf n a b (by simp only[VG] at hn;omega) d p' q' hd ha.tail hb.tail h1' h2'];rfl
 | n,some (.inr x) :: a,none :: b,hn,d,p,q,hd,ha,hb,h1,h2=>by
  obtain ⟨p',rfl,h1'⟩:=cw h1;obtain ⟨z2,p2,hz,h2'⟩:=dy h2
  cases hz
  match n,hn with
  | 0,hn=>simp at hn
  | n+1,hn =>
   rw[qN];exact jf n a b (by simp only[VG] at hn;omega) d p' q hd ha.tail hb.tail h1' h2'
 | _,[],[],_,d,p,q,_,_,_,h1,h2=>by
  rw[(br h1).1,(br h2).2,join_nil];rfl
 | _,[],some (.inl e) :: b,_,d,p,q,_,_,_,h1,h2=>by
  rw[(br h1).2] at h2;cases h2
 | _,[],none :: b,_,d,p,q,_,_,_,h1,h2=>by
  rw[(br h1).2] at h2;cases h2
 | _,some (.inl c) :: a,[],_,d,p,q,_,_,_,h1,h2=>by
  rw[(br h2).1] at h1;obtain ⟨_,_,_,_,e,_⟩:=cK h1
  cases e
 | _,some (.inr x) :: a,[],_,d,p,q,_,_,_,h1,h2=>by
  rw[(br h2).1] at h1;obtain ⟨_,e,_⟩:=cw h1
  cases e
end Ac
namespace Ac
theorem fo:∀(n:Nat)(a b:List A),a.length+b.length<=n->aX a=aX b->aX (bF a b).1=leave b/\aX (bF a b).2=leave a/\leave (bF a b).1=leave (bF a b).2
 |n,some (.inr x)::a,b,d,h=>by
  match n,d with
  |0,d=>simp at d
  |n+1,d=>
   obtain⟨i,g,f⟩:=fo n a b (by simp only[VG]at d;omega) h;rw[mn];exact⟨i,by simp[aX,leave,g],by simp[leave,f]⟩
 |n,[],some (.inr y)::b,d,h=>by
  match n,d with
  |0,d=>simp at d
  |n+1,d=>
   obtain⟨i,g,f⟩:=fo n [] b (by simp only[VG]at d;omega) h;rw[xp];exact⟨by simp[aX,leave,i],g,by simp[leave,f]⟩
 |n,some (.inl c)::a,some (.inr y)::b,d,h=>by
  match n,d with
  |0,d=>simp at d
  |n+1,d=>
   obtain⟨i,g,f⟩:=fo n (.af c::a) b (by simp only[VG]at d⊢;omega) h;rw[nX];exact⟨by simp[aX,leave,i],g,by simp[leave,f]⟩
 |n,none::a,some (.inr y)::b,d,h=>by
  match n,d with
  |0,d=>simp at d
  |n+1,d=>
   obtain⟨i,g,f⟩:=fo n (.cut::a) b (by simp only[VG]at d⊢;omega) h;rw[pX];exact⟨by simp[aX,leave,i],g,by simp[leave,f]⟩
 |n,some (.inl c)::a,some (.inl e)::b,d,h=>by
  match n,d with
  |0,d=>simp at d
  |n+1,d=>
   obtain⟨i,g,f⟩:=fo n a b (by simp only[VG]at d;omega) (by simpa[aX]using h);rw[pV];exact⟨by simp[aX,leave,i],by simp[aX,leave,g],by simp[leave,f]⟩
 |n,none::a,some (.inl e)::b,d,h=>by
  match n,d with
  |0,d=>simp at d
  |n+1,d=>
   obtain⟨i,g,f⟩:=fo n a b (by simp only[VG]at d;omega) (by simpa[aX]using h);rw[pY];exact⟨by simp[aX,leave,i],by simp[leave,g],by simp[leave,f]⟩
 |n,some (.inl c)::a,none::b,d,h=>by
  match n,d with
  |0,d=>simp at d
  |n+1,d=>
   obtain⟨i,g,f⟩:=fo n a b (by simp only[VG]at d;omega) (by simpa[aX]using h);rw[pW];exact⟨by simp[leave,i],by simp[aX,leave,g],by simp[leave,f]⟩
 |n,none::a,none::b,d,h=>by
  match n,d with
  |0,d=>simp at d
  |n+1,d=>
   obtain⟨i,g,f⟩:=fo n a b (by simp only[VG]at d;omega) (by simpa[aX]using h);rw[pZ];exact⟨by simp[leave,i],by simp[leave,g],f⟩
 |_,[],[],_,_=>by
  rw[Ed];exact⟨rfl,rfl,rfl⟩
 |_,[],some (.inl e)::b,_,h=>by simp[aX]at h
 |_,[],none::b,_,h=>by simp[aX]at h
 |_,some (.inl c)::a,[],_,h=>by simp[aX]at h
 |_,none::a,[],_,h=>by simp[aX]at h
end Ac
namespace Ac
end Ac
namespace Ac
def group (ps:List It) (n:Nat):List A:=ps.map A.put++List.replicate n A.cut
def norm:List It->Nat->List A->List A
 | ps,n,[]=>group ps n
 | ps,n,some (.inr x) :: r=>norm (ps++[x]) n r
 | ps,n,none :: r=>norm ps (n+1) r
 | ps,n,some (.inl c) :: r=>group ps n++.af c :: norm [] 0 r
def nf (l:List A):List A:=norm [] 0 l
theorem yg:∀(a:List It)(l:List A)(d:List It),ap (a.map A.put++l) d=(ap l d).map (a++·)
 |[],l,d=>by simp
 |x::a,l,d=>by
  rw[XA,VF,kB,yg a l d,Option.map_map];rfl
theorem yi:∀(n:Nat)(l:List A)(d:List It),ap (List.replicate n A.cut++l) d=if n<=d.length then ap l (d.drop n)else none
 |0,l,d=>by simp
 |n+1,l,[]=>by simp[WR,ap]
 |n+1,l,x::d=>by
  rw[WR,VF,yj,yi n l d];simp
theorem BR(a:List It)(n:Nat)(l:List A)(d:List It):ap (group a n++l) d=(if n<=d.length then ap l (d.drop n)else none).map (a++·):=by
 unfold group;rw[VT,yg,yi]
theorem tC:∀(l:List A)(a:List It)(n:Nat)(d:List It),ap (norm a n l) d=(if n<=d.length then ap l (d.drop n)else none).map (a++·)
 |[],a,n,d=>by
  rw[norm];have:=BR a n [] d;rw[VY]at this;exact this
 |some (.inr x)::r,a,n,d=>by
  rw[norm,tC r,kB];split
  ·rw[Option.map_map];congr 1
   funext z
   simp
  ·rfl
 |none::r,a,n,d=>by
  rw[norm,tC r];by_cases h:n+1<=d.length
  ·rw[VC h,VC (by omega)];have f:n<d.length:=by omega
   rw[VU f,yj]
  ·rw[VD h];by_cases b:n<=d.length
   ·have e:d.length=n:=by omega
    rw[VC b,WI (by omega)];rfl
   ·rw[VD b]
 |some (.inl c)::r,a,n,d=>by
  rw[norm,BR];split
  ·cases g:d.drop n with
   |nil=>rfl
   |cons x i=>
    rw[iT,iT,tC r];simp
  ·rfl
theorem MT(l:List A)(d:List It):ap (nf l) d=ap l d:=by
 unfold nf;rw[tC];simp
def sQ (l l':List A):Prop:=∀ ps n,norm ps n l=norm ps n l'
theorem sQ.refl(l:List A):sQ l l:=fun _ _=>rfl
theorem sQ.symm{l a:List A}(h:sQ l a):sQ a l:=fun b n=>(h b n).symm
theorem sQ.trans{a b c:List A}(h:sQ a b)(k:sQ b c):sQ a c:=fun d n=>(h d n).trans (k d n)
theorem sQ.cons{l b:List A}(a:A)(h:sQ l b):sQ (a::l) (a::b):=by
 intro d n;rcases a with _|(c|x)
 ·exact h _ _
 ·show group d n++.af c::norm [] 0 l=group d n++.af c::norm [] 0 b
  rw[h]
 ·exact h _ _
theorem wj:∀(l:List A)(b:List It)(n:Nat),aX (norm b n l)=n+aX l/\leave (norm b n l)=b.length+leave l:=by
 have e:∀(b:List It)(n:Nat)(r:List A),aX (group b n++r)=n+aX r/\leave (group b n++r)=b.length+leave r:=by
  intro b n r;unfold group;rw[VT];have f:∀(k:Nat),aX (List.replicate k A.cut++r)=k+aX r/\leave (List.replicate k A.cut++r)=leave r:=by
   intro k;induction k with
   |zero=>simp
   |succ k d=>rw[WR,VF,aX,leave,d.1,d.2];exact⟨by omega,rfl⟩
  induction b with
  |nil=>simpa using f n
  |cons x b d=>
   rw[XA,VF,aX,leave,d.1,d.2];exact⟨rfl,by simp;omega⟩
 intro l;induction l with
 |nil=>
  intro b n;have:=e b n [];rw[VY]at this;exact this
 |cons a r d=>
  intro b n;rcases a with _|(c|x)
  ·rw[norm,(d _ _).1,(d _ _).2];simp[aX,leave];omega
  ·rw[norm,(e _ _ _).1,(e _ _ _).2];simp[aX,leave,(d [] 0).1,(d [] 0).2]
  ·rw[norm,(d _ _).1,(d _ _).2];simp[aX,leave];omega
theorem Nd(l:List A):aX (nf l)=aX l:=by have:=(wj l [] 0).1;rw[VR]at this;exact this
theorem LH(l:List A):leave (nf l)=leave l:=by have:=(wj l [] 0).2;rw[List.length_nil,VR]at this;exact this
def Step (l l':List A):Prop:=∃ p x r,l=p++.cut :: .put x :: r/\l'=p++.put x :: .cut :: r
theorem Step.cons(a:A){l b:List A}(h:Step l b):Step (a::l) (a::b):=by
 obtain⟨p,x,r,rfl,rfl⟩:=h;exact⟨a::p,x,r,rfl,rfl⟩
def vG:Nat->List A->List A->Prop
 | 0,l,l'=>l=l'
 | k+1,l,l'=>∃ m,Step l m/\vG k m l'
def Steps (l l':List A):Prop:=∃ k,vG k l l'
theorem Steps.refl(l:List A):Steps l l:=⟨0,rfl⟩
theorem Steps.head{a b c:List A}(h:Step a b)(k:Steps b c):Steps a c:=by
 obtain⟨n,d⟩:=k;exact⟨n+1,b,h,d⟩
theorem pp:∀(n:Nat){a b c:List A},vG n a b->Steps b c->Steps a c
 |0,a,b,c,h,k=>by rw[show a=b from h];exact k
 |n+1,a,b,c,h,k=>by
  obtain⟨m,e,d⟩:=h;exact Steps.head e (pp n d k)
theorem Steps.trans{a b c:List A}(h:Steps a b)(k:Steps b c):Steps a c:=by
 obtain⟨n,d⟩:=h;exact pp n d k
theorem rm(a:A):∀(n:Nat){l b:List A},vG n l b->vG n (a::l) (a::b)
 |0,l,b,h=>by rw[show l=b from h];exact rfl
 |n+1,l,b,h=>by
  obtain⟨m,d,c⟩:=h;exact⟨a::m,d.cons a,rm a n c⟩
theorem Steps.cons{l b:List A}(a:A)(h:Steps l b):Steps (a::l) (a::b):=by
 obtain⟨n,c⟩:=h;exact⟨n,rm a n c⟩
end Ac
namespace Ac
theorem fy:∀(n:Nat)(a b:List A),a.length+b.length<=n->leave a=aX b->aX (join a b)=aX a/\leave (join a b)=leave b
 |n,none::a,b,d,h=>by
  match n,d with
  |0,d=>simp at d
  |n+1,d=>
   obtain⟨g,f⟩:=fy n a b (by simp only[VG]at d;omega) h;rw[nI];exact⟨by simp[aX,g],by simp[leave,f]⟩
 |n,[],some (.inr y)::b,d,h=>by
  match n,d with
  |0,d=>simp at d
  |n+1,d=>
   obtain⟨g,f⟩:=fy n [] b (by simp only[VG]at d;omega) h;rw[FI];exact⟨by simpa[aX]using g,by simp[leave,f]⟩
 |n,some (.inl c)::a,some (.inr y)::b,d,h=>by
  match n,d with
  |0,d=>simp at d
  |n+1,d=>
   obtain⟨g,f⟩:=fy n (.af c::a) b (by simp only[VG]at d⊢;omega) h;rw[FJ];exact⟨by simpa[aX]using g,by simp[leave,f]⟩
 |n,some (.inr x)::a,some (.inr y)::b,d,h=>by
  match n,d with
  |0,d=>simp at d
  |n+1,d=>
   obtain⟨g,f⟩:=fy n (.put x::a) b (by simp only[VG]at d⊢;omega) h;rw[FH];exact⟨by simpa[aX]using g,by simp[leave,f]⟩
 |n,some (.inl c)::a,some (.inl e)::b,d,h=>by
  match n,d with
  |0,d=>simp at d
  |n+1,d=>
   obtain⟨g,f⟩:=fy n a b (by simp only[VG]at d;omega) (by simpa[leave,aX]using h);rw[qO];exact⟨by simp[aX,g],by simp[leave,f]⟩
 |n,some (.inl c)::a,none::b,d,h=>by
  match n,d with
  |0,d=>simp at d
  |n+1,d=>
   obtain⟨g,f⟩:=fy n a b (by simp only[VG]at d;omega) (by simpa[leave,aX]using h);rw[qP];exact⟨by simp[aX,g],by simp[leave,f]⟩
 |n,some (.inr x)::a,some (.inl e)::b,d,h=>by
  match n,d with
  |0,d=>simp at d
  |n+1,d=>
   obtain⟨g,f⟩:=fy n a b (by simp only[VG]at d;omega) (by simpa[leave,aX]using h);rw[qM];exact⟨by simp[aX,g],by simp[leave,f]⟩
 |n,some (.inr x)::a,none::b,d,h=>by
  match n,d with
  |0,d=>simp at d
  |n+1,d=>
   obtain⟨g,f⟩:=fy n a b (by simp only[VG]at d;omega) (by simpa[leave,aX]using h);rw[qN];exact⟨by simp[aX,g],by simp[leave,f]⟩
 |_,[],[],_,_=>by rw[join_nil];exact⟨rfl,rfl⟩
 |_,[],some (.inl e)::b,_,h=>by simp[leave,aX]at h
 |_,[],none::b,_,h=>by simp[leave,aX]at h
 |_,some (.inl c)::a,[],_,h=>by simp[leave,aX]at h
 |_,some (.inr x)::a,[],_,h=>by simp[leave,aX]at h
end Ac
namespace Ac
structure Pt where
 kind:Int
 n:Int
 aB:List It
 set:Int
 bm:Int
 goes:Bool
 link:ByteArray
def dt (p:Pt):Ch:=⟨p.set,p.bm,p.goes,p.link⟩
def jw (c:Ch) (n:Int):Pt:=⟨1,n,[],c.set,c.bm,c.goes,c.link⟩
def iW (xs:List It):Pt:=⟨2,0,xs,0,0,false,⟨#[]⟩⟩
def Dt (n:Nat):Pt:=⟨3,n,[],0,0,false,⟨#[]⟩⟩
def bt (p:Pt):List A:=if p.kind=2 then p.aB.map A.put else List.replicate p.n.toNat (if p.kind=1 then A.af (dt p) else A.cut)
def ah (o:List Pt):List A:=o.flatMap bt
theorem fK:ah []=[]:=rfl
theorem cB(p:Pt)(o:List Pt):ah (p::o)=bt p++ah o:=rfl
theorem ct(o o':List Pt):ah (o++o')=ah o++ah o':=List.flatMap_append
theorem vE(c:Ch)(n:Int):bt (jw c n)=List.replicate n.toNat (A.af c):=rfl
theorem xe(xs:List It):bt (iW xs)=xs.map A.put:=rfl
theorem JE(n:Nat):bt (Dt n)=List.replicate n A.cut:=rfl
def bL (ps:List It) (n:Nat):List Pt:=(if ps.isEmpty then [] else [iW ps])++(if n=0 then [] else [Dt n])
theorem vD(a:List It)(n:Nat):ah (bL a n)=group a n:=by
 unfold bL group;rw[ct];congr 1
 ·cases a with
  |nil=>rfl
  |cons x t=>simp[ah,xe]
 ·cases n with
  |zero=>rfl
  |succ n=>simp[ah,JE]
def lM (p:Pt) (c:Ch):Bool:=p.kind == 1&&p.set == c.set&&p.bm == c.bm&&p.goes == c.goes&&p.link.data.toList == c.link.data.toList
def kJ:List Pt->Ch->List Pt
 | [],c=>[jw c 1]
 | [p],c=>if lM p c then [{ p with n:=p.n+1 }] else [p,jw c 1]
 | p :: q :: o,c=>p :: kJ (q :: o) c
theorem nF{p:Pt}{c:Ch}(h:lM p c=true):p.kind=1/\dt p=c:=by
 unfold lM at h;simp only[WD,beq_iff_eq]at h
 obtain⟨⟨⟨⟨f,e⟩,d⟩,b⟩,a⟩:=h;refine⟨f,?_⟩
 unfold dt
 cases c
 simp at e d b a
 have:p.link=_:=ByteArray.ext a;rw[e,d,b,this]
def Pos (o:List Pt):Prop:=∀ p ∈ o,p.kind=1->1<=p.n
theorem xd:∀(o:List Pt)(c:Ch),Pos o->ah (kJ o c)=ah o++[A.af c]
 |[],c,_=>rfl
 |[p],c,a=>by
  rw[kJ];split
  ·rename_i h;obtain⟨b,e⟩:=nF h;have l:=a p (by simp) b;have f:∀q:Pt,q.kind=1->dt q=c->bt q=List.replicate q.n.toNat (A.af c):=fun q d g=>by
    unfold bt;rw[VD (by rw[d];decide),VC d,g]
   have k:dt {p with n:=p.n+1}=c:=e;rw[cB,fK,cB,fK,VY,VY,f p b e,f {p with n:=p.n+1} b k];show List.replicate (p.n+1).toNat _=_
   rw[show(p.n+1).toNat=p.n.toNat+1 by omega,List.replicate_succ']
  ·rw[cB,cB,cB,fK,VY,VY];rfl
 |p::q::o,c,a=>by
  rw[kJ,cB,xd (q::o) c (fun x i=>a x (VP _ i)),cB p,VT]
theorem BX:∀(o:List Pt)(c:Ch),Pos o->Pos (kJ o c)
 |[],c,_=>by
  intro p d _;simp[kJ]at d
  subst d;exact XV _
 |[p],c,h=>by
  rw[kJ];split
  ·intro x a b;simp at a
   subst a;have:=h p (by simp) b;simp only
   omega
  ·intro x a b;simp at a
   rcases a with rfl|rfl
   ·exact h x (by simp) b
   ·exact XV _
 |p::q::o,c,h=>by
  rw[kJ];intro x a b;rcases WG.1 a with rfl|a
  ·exact h x (by simp) b
  ·exact BX (q::o) c (fun x a=>h x (VP _ a)) x a b
theorem IY(c:List It)(n:Nat):Pos (bL c n):=by
 intro p a b;unfold bL at a;rcases VW.1 a with h|h
 ·split at h
  ·cases h
  ·simp at h;subst h;cases b
 ·split at h
  ·cases h
  ·simp at h;subst h;cases b
theorem Pos.app{o o':List Pt}(h:Pos o)(c:Pos o'):Pos (o++o'):=fun p a b=>by
 rcases VW.1 a with a|a
 ·exact h p a b
 ·exact c p a b
def lD:List Pt->List It->Nat->List A->List Pt
 | out,ps,n,[]=>out++bL ps n
 | out,ps,n,some (.inr x) :: r=>lD out (ps++[x]) n r
 | out,ps,n,none :: r=>lD out ps (n+1) r
 | out,ps,n,some (.inl c) :: r=>lD (kJ (out++bL ps n) c) [] 0 r
theorem qj:∀ (l:List A) (out:List Pt) (ps:List It) (n:Nat),Pos out->ah (lD out ps n l)=ah out++norm ps n l
 | [],out,ps,n,_=>by rw[lD,norm,ct,vD]
 | some (.inr x) :: r,out,ps,n,h=>by rw[lD,norm,qj r out _ _ h]
 | none :: r,out,ps,n,h=>by rw[lD,norm,qj r out _ _ h]
 | some (.inl c) :: r,out,ps,n,h=>by
  have hp:=h.app (IY ps n);rw[lD,norm,qj r _ _ _ (BX _ c hp),xd _ c hp,ct,vD];simp
def tidy (o:List Pt):List Pt:=lD [] [] 0 (ah o)
theorem zL:∀(b:List It)(a:List Pt)(c:List It)(n:Nat)(r:List A),lD a c n (b.map A.put++r)=lD a (c++b) n r
 |[],a,c,n,r=>by simp
 |x::b,a,c,n,r=>by
  rw[XA,VF,lD,zL b];simp
theorem zN:∀(k:Nat)(a:List Pt)(b:List It)(n:Nat)(r:List A),lD a b n (List.replicate k A.cut++r)=lD a b (n+k) r
 |0,a,b,n,r=>by simp
 |k+1,a,b,n,r=>by
  rw[WR,VF,lD,zN k];congr 1
  omega
end Ac
namespace Ac
def mz (p q:Pt):Bool:=(p.set == q.set)&&((p.bm == q.bm)&&((p.goes == q.goes)&&(p.link.toList == q.link.toList)))
def gK (p q:Pt):Bool:=(p.kind == q.kind)&&((p.n == q.n)&&(Dc.same p.aB q.aB&&mz p q))
def eU:List Pt->List Pt->Bool
 | [],[]=>true
 | p :: s,q :: t=>gK p q&&eU s t
 | _,_=>false
theorem wT:∀(s t:List Pt),¬s.length=t.length->eU s t=false
 |[],[],h=>absurd rfl h
 |[],_::_,_=>rfl
 |_::_,[],_=>rfl
 |x::s,y::t,h=>by rw[eU,wT s t (by simpa using h),Bool.and_false]
theorem Cs(s t:List Pt)(k:Nat)(h:k<s.length)(a:k<t.length):eU (s.drop k) (t.drop k)=(gK s[k] t[k]&&eU (s.drop (k+1)) (t.drop (k+1))):=by
 rw[VU h,VU a,eU]
def ez (p:Pt):Pt:=if p.kind=1 then { p with aB:=[] } else if p.kind=2 then ⟨p.kind,0,p.aB,0,0,false,⟨#[]⟩⟩ else ⟨p.kind,p.n,[],0,0,false,⟨#[]⟩⟩
def rX (m:Int):Bool:=decide (0<=m)&&decide (m<=3)
def oQ (n:Int):Int:=if n<1\/80<n then 3 else 0
def mH (l:List It):Int:=if l.length<1\/80<l.length then 2 else Dc.jF l
def be (s c:Int):Bool:=!rX s || (!rX c || (s.toNat &&& c.toNat) != 0)
def cJ (g:Bool) (l:ByteArray):Bool:=!l.toList.isEmpty&&(!g || !Lk.may l.data.toList)
def Af (p:Pt):Int:=if be p.set p.bm then 3 else if cJ p.goes p.link then 4 else oQ p.n
def yU (p:Pt):Int:=if p.kind=1 then Af p else if p.kind=2 then mH p.aB else if p.kind=3 then oQ p.n else 4
def bG (p:Pt):Int:=if yU p=0 then (if gK p (ez p) then 0 else 4) else yU p
def kI:Int->List Pt->Int
 | _,[]=>0
 | s,p :: t=>if bG p=0 then (if 80<s+p.n then 2 else kI (s+p.n) t) else bG p
def gC (o:List Pt):Int:=if o.length<1\/40<o.length then 2 else if kI 0 o=0 then (match o.getLast? with | some p=>if p.kind=1 then 0 else 4 | none=>4) else kI 0 o
def LF (s:Int) (p:Pt):Int:=if p.kind=1\/p.kind=3 then wrap64 (s+p.n) else s
def LB (s:Int) (p:Pt):Int:=if p.kind=1 then wrap64 (s+p.n) else if p.kind=2 then wrap64 (s+p.aB.length) else s
def lf (o:List Pt):Int:=o.foldl LF 0
def lt (o:List Pt):Int:=o.foldl LB 0
end Ac
structure PV where
 kind:Int
 n:Int
 ao:Option Addr
 m:Nat
 cap:Nat
 aB:List It
 set:Int
 bm:Int
 goes:Bool
 link:ByteArray
def PV.pt (v:PV):Ac.Pt:=⟨v.kind,v.n,v.aB,v.set,v.bm,v.goes,v.link⟩
def iD (v:PV):List Value:=[.int .i64 v.kind,.int .i64 v.n,.slice v.ao v.m v.cap,.int .i64 v.set,.int .i64 v.bm,.bool v.goes,.string v.link]
def aG (l:List PV):List Value:=l.flatMap iD
theorem iN(v:PV)(l:List PV):aG (v::l)=.int .i64 v.kind::.int .i64 v.n::.slice v.ao v.m v.cap::.int .i64 v.set::.int .i64 v.bm::.bool v.goes::.string v.link::aG l:=rfl
theorem jB(l a:List PV):aG (l++a)=aG l++aG a:=List.flatMap_append
theorem bq(v:PV):aG [v]=iD v:=by simp[aG]
theorem gm:∀l:List PV,(aG l).length=l.length*7
 |[]=>rfl
 |k::l=>by rw[iN];simp only[VG];rw[gm l];omega
theorem ga:∀(l:List PV)(i:Nat)(h:i<l.length),(aG l)[i*7]?=some (.int .i64 l[i].kind)/\(aG l)[i*7+1]?=some (.int .i64 l[i].n)/\(aG l)[i*7+2]?=some (.slice l[i].ao l[i].m l[i].cap)/\(aG l)[i*7+3]?=some (.int .i64 l[i].set)/\(aG l)[i*7+4]?=some (.int .i64 l[i].bm)/\(aG l)[i*7+5]?=some (.bool l[i].goes)/\(aG l)[i*7+6]?=some (.string l[i].link)
 |[],_,h=>by simp at h
 |k::l,0,_=>⟨rfl,rfl,rfl,rfl,rfl,rfl,rfl⟩
 |k::l,i+1,h=>by
  have:=ga l i (by simpa using h);rw[iN,show(i+1)*7=i*7+1+1+1+1+1+1+1 by omega];exact this
theorem aY(l:List PV):∀u∈aG l,u.oneCell'=true:=by
 intro u a;obtain⟨k,_,h⟩:=List.mem_flatMap.1 a;simp only[iD,WG,List.not_mem_nil,or_false]at h
 rcases h with rfl|rfl|rfl|rfl|rfl|rfl|rfl<;>rfl
structure dV (w:World) (v:PV):Prop where
 jd:cy w v.ao v.m v.cap v.aB
 fit:v.link.size<=9223372036854775807
theorem dV.below{w w':World}{v:PV}(h:dV w v)(a:Below w.heap.size w w'):dV w' v:=⟨h.jd.below a,h.fit⟩
structure bV (w:World) (b off:Nat) (v:PV):Prop where
 c0:w.cell? ⟨b,off,none⟩=some (.int .i64 v.kind)
 c1:w.cell? ⟨b,off+1,none⟩=some (.int .i64 v.n)
 c2:w.cell? ⟨b,off+2,none⟩=some (.slice v.ao v.m v.cap)
 c3:w.cell? ⟨b,off+3,none⟩=some (.int .i64 v.set)
 c4:w.cell? ⟨b,off+4,none⟩=some (.int .i64 v.bm)
 c5:w.cell? ⟨b,off+5,none⟩=some (.bool v.goes)
 c6:w.cell? ⟨b,off+6,none⟩=some (.string v.link)
theorem bV.below{w w':World}{b c:Nat}{v:PV}(h:bV w b c v)(a:Below w.heap.size w w'):bV w' b c v:=
 ⟨aA h.c0 a,aA h.c1 a,aA h.c2 a,aA h.c3 a,aA h.c4 a,aA h.c5 a,aA h.c6 a⟩
structure ae (w:World) (ao:Option Addr) (n cap:Nat) (vs:List PV):Prop where
 row:Row w ao n cap 7 (aG vs)
 iE:∀ v ∈ vs,dV w v
theorem ae.below{w w':World}{d:Option Addr}{n a:Nat}{b:List PV}(h:ae w d n a b)(c:Below w.heap.size w w'):ae w' d n a b:=
 ⟨h.row.below c,fun v e=>(h.iE v e).below c⟩
theorem ae.len{w:World}{c:Option Addr}{n a:Nat}{b:List PV}(h:ae w c n a b):b.length=n:=by
 have:=h.row.len;rw[gm]at this;omega
theorem ae.get{w:World}{k:Option Addr}{n f:Nat}{d:List PV}(h:ae w k n f d)(l:n≠0):∃b a,k=some ⟨b,a,none⟩/\∀i(g:i<d.length),bV w b (a+i*7) d[i]:=by
 obtain⟨b,a,e,c⟩:=h.row.bH l;refine⟨b,a,e,fun i g=>?_⟩
 obtain⟨t,s,r,q,p,o,m⟩:=ga d i g;exact⟨c _ _ t,by rw[WX];exact c _ _ s,by rw[WX];exact c _ _ r,by rw[WX];exact c _ _ q,by rw[WX];exact c _ _ p,by rw[WX];exact c _ _ o,by rw[WX];exact c _ _ m⟩
def aH (v:PV) (w:World):World:=w.alloc (.cells #[.int .i64 v.kind,.int .i64 v.n,.slice v.ao v.m v.cap,.int .i64 v.set,.int .i64 v.bm,.bool v.goes,.string v.link] 100)
theorem aK(v:PV)(w:World):Below w.heap.size w (aH v w):=(VE _ _).alloc (UZ _) _
theorem cV(v:PV)(w:World):(aH v w).heap.size=w.heap.size+1:=WO ..
theorem dC(v:PV)(w:World):Blk (aH v w) w.heap.size (iD v) 100:=Blk.new w _ _
theorem G1{w:World}{b:Nat}{v:PV}(h:Blk w b (iD v) 100):bV w b 0 v:=⟨h.cell 0,h.cell 1,h.cell 2,h.cell 3,h.cell 4,h.cell 5,h.cell 6⟩
theorem dS(v:PV)(w:World):bV (aH v w) w.heap.size 0 v:=G1 (dC v w)
theorem jI(v u:PV)(w:World):Below w.heap.size w (aH u (aH v w)):=(aK v w).trans ((aK u _).mono (aK v w).size)
theorem xP(v u:PV)(w:World):bV (aH u (aH v w)) w.heap.size 0 v:=(dS v w).below (aK u _)
theorem I1(v u:PV)(w:World):bV (aH u (aH v w)) (w.heap.size+1) 0 u:=by
 have:=dS u (aH v w);rw[cV]at this;exact this
theorem Tryz.vj:(prog.info? 100).map (fun i=>(i.zero,i.size,i.bytes))=some (some (.agg #[.int .i64 0,.int .i64 0,.slice none 0 0,.int .i64 0,.int .i64 0,.bool false,.string ⟨#[]⟩]),7,80):=by kernel_rfl
theorem Dn(H t:Option Addr)(n s A g:Nat)(l f:List It)(w:World)(v:cy w H n s l)(q:cy w t A g f):
  Calls prog 84 #[.slice H n s,.slice t A g] w fun e w'=>e=.returned (.bool (Dc.same l f))/\∃m,w'=w.drewN m:=by
 have z:=hId v;have d:=hId q;have M:=v.room;have N:=v.fg;clear v q;obtain⟨r,B⟩:∃r,Dc.same l f=r:=⟨_,rfl⟩;have J:=hId B;rw[B];clear B;by_cases o:n=A
 ·subst o;have X:=FN;go_enter func84,ntmps84
  go_wp2
  go_loopw [13] (fun i wr=>∃k:Nat,k<=n/\i=.int .i64 k/\(∃m,wr=w.drewN m)/\Dc.same (l.drop k) (f.drop k)=r) (fun i _=>n-(intOf i).toNat)
  case atStart=>exact⟨0,VN _,rfl,⟨0,rfl⟩,J.o⟩
  case round=>
   obtain⟨k,W,rfl,⟨m,rfl⟩,h⟩:=hrel;have E:=hId h;clear h;by_cases p:k<n
   ·obtain⟨b,O,rfl,K⟩:=z.o.bH (by omega);obtain⟨Y,L,rfl,u⟩:=d.o.bH (by omega);have D:k<l.length:=by rw[z.o.len];exact p
    have C:k<f.length:=by rw[d.o.len];exact p
    obtain⟨V,U,T⟩:=K.get (VM D);obtain⟨S,Q,P⟩:=u.get (VM C);have I:=hId (Dc.rB l f k D C);clear K u;generalize l[k]=x at*;generalize f[k]=y at*;clear D C;have G:=wi x y
    cases a:Dc.alike x y
    ·have c:r=false:=by rw[<-E.o,I.o,a];rfl
     subst c;rw[a]at G;clear a;go_wp2
     go_quiet (fail)
     go_wp2
     go_ret
     exact⟨rfl,_,(World.drewN_drewN _ _ _)⟩
    ·have F:Hd (Dc.same (l.drop (k+1)) (f.drop (k+1))=r):=by show _=_;rw[<-E.o,I.o,a,Bool.true_and]
     rw[a]at G;clear a;go_wp2
     go_quiet (fail)
     go_wp2
     go_roundw
     case rel=>exact⟨k+1,by omega,by go_num,⟨_,rfl⟩,F.o⟩
     case measure=>simp[intOf];omega
   ·have c:r=true:=by
     rw[<-E.o,WI (by rw[z.o.len];omega),WI (by rw[d.o.len];omega)];rfl
    subst c;go_wp2
    go_ret
    exact⟨rfl,m,rfl⟩
 ·have c:=J.o.symm.trans (Dc.nA _ _ (by rw[z.o.len,d.o.len];exact o));subst c;go_enter func84,ntmps84
  go_wp2
  go_ret
  exact⟨rfl,0,rfl⟩
theorem tj(a b:PV)(w:World):Calls prog 85 #[.agg #[.int .i64 a.kind,.int .i64 a.n,.slice a.ao a.m a.cap,.int .i64 a.set,.int .i64 a.bm,.bool a.goes,.string a.link],.agg #[.int .i64 b.kind,.int .i64 b.n,.slice b.ao b.m b.cap,.int .i64 b.set,.int .i64 b.bm,.bool b.goes,.string b.link]] w fun e w'=>e=.returned (.bool (Ac.mz a.pt b.pt))/\Below w.heap.size w w':=by
 have f:=hId (jI a b w);obtain⟨r,c⟩:∃r,Ac.mz a.pt b.pt=r:=⟨_,rfl⟩;rw[c];simp only[Ac.mz,PV.pt]at c
 cases d:(a.set==b.set)
 ·skip
  obtain rfl:=c.symm.trans (show _=false by simp[d]);go_enter func85,ntmps85
  go_wp2
  go_ret
  exact⟨rfl,f.o⟩
 ·skip
  cases g:(a.bm==b.bm)
  ·skip
   obtain rfl:=c.symm.trans (show _=false by simp[d,g]);go_enter func85,ntmps85
   go_wp2
   go_ret
   exact⟨rfl,f.o⟩
  ·skip
   cases h:(a.goes==b.goes)
   ·skip
    obtain rfl:=c.symm.trans (show _=false by simp[d,g,h]);go_enter func85,ntmps85
    go_wp2
    go_ret
    exact⟨rfl,f.o⟩
   ·skip
    cases i:(a.link.toList==b.link.toList)
    ·obtain rfl:=c.symm.trans (show _=false by simp[d,g,h,i]);go_enter func85,ntmps85
     go_wp2
     go_ret
     exact⟨rfl,f.o⟩
    ·obtain rfl:=c.symm.trans (show _=true by simp[d,g,h,i]);go_enter func85,ntmps85
     go_wp2
     go_ret
     exact⟨rfl,f.o⟩
def an (v:PV):PV:=if v.kind=1 then { v with ao:=none,m:=0,cap:=0,aB:=[] } else if v.kind=2 then ⟨v.kind,0,v.ao,v.m,v.cap,v.aB,0,0,false,⟨#[]⟩⟩ else ⟨v.kind,v.n,none,0,0,[],0,0,false,⟨#[]⟩⟩
theorem pU(v:PV):(an v).pt=Ac.ez v.pt:=by
 unfold an Ac.ez PV.pt;split
 ·rfl
 ·split<;>rfl
theorem cf(w:World):cy w none 0 0 []:=⟨(fun x a=>absurd a (by simp)),rfl,UZ _,by decide,(fun h=>absurd rfl h)⟩
theorem nW{w:World}{v:PV}(h:dV w v):dV w (an v):=by
 unfold an;split
 ·exact⟨cf w,h.fit⟩
 ·split
  ·exact⟨h.jd,VN _⟩
  ·exact⟨cf w,VN _⟩
theorem bJ(w:World)(q:Nat):Below w.heap.size w (w.drewN q):=⟨rfl,rfl,rfl,UZ _,fun _ _=>rfl⟩
theorem rE(a b:PV)(w:World)(o:dV w a)(g:dV w b):Calls prog 55 #[.agg #[.int .i64 a.kind,.int .i64 a.n,.slice a.ao a.m a.cap,.int .i64 a.set,.int .i64 a.bm,.bool a.goes,.string a.link],.agg #[.int .i64 b.kind,.int .i64 b.n,.slice b.ao b.m b.cap,.int .i64 b.set,.int .i64 b.bm,.bool b.goes,.string b.link]] w fun e w'=>e=.returned (.bool (Ac.gK a.pt b.pt))/\Below w.heap.size w w':=by
 have d:=hId (jI a b w);have p:=hId (Dn _ _ _ _ _ _ _ _ _ (o.jd.below d.o) (g.jd.below d.o));clear o g;obtain⟨r,c⟩:∃r,Ac.gK a.pt b.pt=r:=⟨_,rfl⟩;rw[c];unfold Ac.gK at c;have x:=hId (fun w'=>tj a b w');generalize Ac.mz a.pt b.pt=q at*;simp only[PV.pt]at c
 generalize Dc.same a.aB b.aB=s at*
 cases h:(a.kind==b.kind)
 ·obtain rfl:=c.symm.trans (show _=false by rw[h];rfl);clear c;go_enter func55,ntmps55
  go_wp2
  go_ret
  exact⟨rfl,d.o⟩
 ·cases l:(a.n==b.n)
  ·obtain rfl:=c.symm.trans (show _=false by rw[h,l];rfl);clear c;go_enter func55,ntmps55
   go_wp2
   go_ret
   exact⟨rfl,d.o⟩
  ·cases s
   ·obtain rfl:=c.symm.trans (show _=false by rw[h,l];rfl);clear c;go_enter func55,ntmps55
    go_wp2_with fail
    change Calls prog 84 _ (aH b (aH a w)) _;refine p.o.mono ?_
    rintro e k⟨rfl,m,f⟩;have i:Hd (Below w.heap.size w k):=by rw[f];exact d.o.trans ((bJ _ m).mono d.o.size)
    clear f;go_wp2
    go_ret
    exact⟨rfl,i.o⟩
   ·obtain rfl:=c.symm.trans (show _=q by rw[h,l];rfl);clear c;go_enter func55,ntmps55
    go_wp2_with fail
    change Calls prog 84 _ (aH b (aH a w)) _;refine p.o.mono ?_
    rintro e k⟨rfl,m,f⟩;have n:Hd (Below (aH b (aH a w)).heap.size (aH b (aH a w)) k):=by rw[f];exact bJ _ m
    have i:=hId (d.o.trans (n.o.mono d.o.size));have u:=(xP a b w).below n.o;have t:=(I1 a b w).below n.o;obtain⟨M,L,K,J,I,H,G⟩:=u;obtain⟨F,E,D,C,B,A,z⟩:=t;clear f;go_wp2_with fail
    refine(x.o _).mono ?_
    rintro e y⟨rfl,g⟩;have v:=hId (i.o.trans (g.mono i.o.size));clear g;go_wp2
    go_ret
    exact⟨rfl,v.o⟩
def iZ:PV:=⟨0,0,none,0,0,[],0,0,false,⟨#[]⟩⟩
theorem Th(k:PV):(prog.info? 100).map (·.size)=some (iD k).toArray.size:=by
 have h:(prog.info? 100).map (·.size)=some 7:=by kernel_rfl
 exact h
theorem gL{b:Func}{p:Tmp}{k:PV}{w:World}{g:Nat}(h:b.results=#[.cell p 100])(a:Array Value)(c:a.getD p undef=.pointer (some ⟨g,0,none⟩))(d:Blk w g (iD k) 100):(results b a).run prog w=.ok (.agg #[.int .i64 k.kind,.int .i64 k.n,.slice k.ao k.m k.cap,.int .i64 k.set,.int .i64 k.bm,.bool k.goes,.string k.link]) w:=
 results_cell_row h a w g 100 (iD k).toArray (0,0) _ c d underlying100 rfl (Th k)
def iW (w:World) (g:Nat) (k:PV):World:=((((((w.setCell ⟨g,0,none⟩ (.int .i64 k.kind)).setCell ⟨g,1,none⟩ (.int .i64 k.n)).setCell ⟨g,2,none⟩ (.slice k.ao k.m k.cap)).setCell ⟨g,3,none⟩ (.int .i64 k.set)).setCell ⟨g,4,none⟩ (.int .i64 k.bm)).setCell ⟨g,5,none⟩ (.bool k.goes)).setCell ⟨g,6,none⟩ (.string k.link)
theorem gN{w:World}{g:Nat}{j k:PV}(h:Blk w g (iD j) 100):Blk (iW w g k) g (iD k) 100:=((((((h.set 0 (.int .i64 k.kind)).set 1 (.int .i64 k.n)).set 2 (.slice k.ao k.m k.cap)).set 3 (.int .i64 k.set)).set 4 (.int .i64 k.bm)).set 5 (.bool k.goes)).set 6 (.string k.link)
theorem gg(w:World)(g:Nat)(k:PV):Below g w (iW w g k):=(((((((VE g w).setCell (UZ _) _).setCell (UZ _) _).setCell (UZ _) _).setCell (UZ _) _).setCell (UZ _) _).setCell (UZ _) _).setCell (UZ _) _
theorem Jf(v:PV)(w:World):Blk (aH iZ (aH v w)) (w.heap.size+1) (iD iZ) 100:=by
 have:=dC iZ (aH v w);rw[cV]at this;exact this
theorem pT(v:PV)(w:World):Calls prog 105 #[.agg #[.int .i64 v.kind,.int .i64 v.n,.slice v.ao v.m v.cap,.int .i64 v.set,.int .i64 v.bm,.bool v.goes,.string v.link]] w fun e w'=>e=.returned (.agg #[.int .i64 (an v).kind,.int .i64 (an v).n,.slice (an v).ao (an v).m (an v).cap,.int .i64 (an v).set,.int .i64 (an v).bm,.bool (an v).goes,.string (an v).link])/\Below w.heap.size w w':=by
 have b:=hId (Jf v w);have d:Hd (Blk (aH iZ (aH v w)) w.heap.size (iD v) 100):=(dC v w).alloc _;have t:=hId (jI v iZ w);obtain⟨u,r⟩:∃u,an v=u:=⟨_,rfl⟩;rw[r];have s:=hId r;clear r;obtain⟨a,n,o,m,c,p,f,l,i,g⟩:=v;go_enter func105,ntmps105
 go_upto_region 1 with fail
 change Code.wp prog _ _ _ (aH iZ (aH ⟨a,n,o,m,c,p,f,l,i,g⟩ w));generalize aH iZ (aH ⟨a,n,o,m,c,p,f,l,i,g⟩ w)=W at*;have V:=d.o.c0;have N:=b.o.c0;have F:=b.o.frozen 0;have U:=d.o.c1;have M:=b.o.c1;have E:=b.o.frozen 1;have T:=d.o.c2;have L:=b.o.c2;have D:=b.o.frozen 2;have S:=d.o.c3;have K:=b.o.c3;have C:=b.o.frozen 3;have Q:=d.o.c4;have J:=b.o.c4;have B:=b.o.frozen 4;have P:=d.o.c5;have I:=b.o.c5;have A:=b.o.frozen 5;have O:=d.o.c6;have H:=b.o.c6;have z:=b.o.frozen 6;have G:=d.o.frozen 2;by_cases h:a=1
 ·subst h;obtain rfl:u=⟨1,n,none,0,0,[],f,l,i,g⟩:=s.o.symm;go_wp2
  change bodyPost prog _ _ Exit.ret _ (iW (W.setCell ⟨w.heap.size,2,none⟩ (.slice none 0 0)) (w.heap.size+1) ⟨1,n,none,0,0,[],f,l,i,g⟩);exact VL (gL (k:=⟨1,n,none,0,0,[],f,l,i,g⟩) rfl _ rfl (gN (b.o.other _ _ (by simp)))) rfl ⟨rfl,(t.o.setCell (UZ _) _).trans ((gg _ _ _).mono (by omega))⟩
 ·have y:(a==1)=false:=by simp[h]
  by_cases q:a=2
  ·subst q;obtain rfl:u=⟨2,0,o,m,c,p,0,0,false,⟨#[]⟩⟩:=s.o.symm;clear h;go_wp2
   change bodyPost prog _ _ Exit.ret _ (iW W (w.heap.size+1) ⟨2,0,o,m,c,p,0,0,false,⟨#[]⟩⟩);exact VL (gL (k:=⟨2,0,o,m,c,p,0,0,false,⟨#[]⟩⟩) rfl _ rfl (gN b.o)) rfl ⟨rfl,t.o.trans ((gg _ _ _).mono (by omega))⟩
  ·have x:(a==2)=false:=by simp[q]
   obtain rfl:u=⟨a,n,none,0,0,[],0,0,false,⟨#[]⟩⟩:=by rw[<-s.o];unfold an;rw[VD h,VD q]
   clear h q;go_wp2
   change bodyPost prog _ _ Exit.ret _ (iW W (w.heap.size+1) ⟨a,n,none,0,0,[],0,0,false,⟨#[]⟩⟩);exact VL (gL (k:=⟨a,n,none,0,0,[],0,0,false,⟨#[]⟩⟩) rfl _ rfl (gN b.o)) rfl ⟨rfl,t.o.trans ((gg _ _ _).mono (by omega))⟩
