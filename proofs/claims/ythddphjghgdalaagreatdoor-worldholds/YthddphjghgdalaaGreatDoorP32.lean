/- A part. -/
import Derived.Test.YthddphjghgdalaaGreatDoorP31
set_option maxRecDepth 100000
set_option maxHeartbeats 3200000
namespace Go.Proofs.YthddphjghgdalaaGreatDoor
open Go.RowKit Go.Proofs.Tryz
theorem A6(b:Nat)(s:Sn.S)(v:Value)(c:List UInt8)(w:World)(l:Wk w b s v)(i:Zt w b)(y:s.d.length<=900000)(k:Int)(d:Sn.cW c=some k):Calls prog 111 #[.pointer (some ⟨b,0,none⟩),.string (B c)] w fun e w'=>e=.returned (.tuple #[])/\aZ w b v w' (Sn.shut s):=by
 have o:=hId l;have n:=hId i;have p:Hd (∀w',Bn w'->Calls prog 137 #[.string (B c)] w' fun e g=>e=.returned (.tuple #[.int .i64 k,.bool true])/\Below w'.heap.size w' g):=fun w' h=>by have:=fZ c w' h;rw[d]at this;exact this
 have t:=hId (fun w'=>by have:=jG b c w';exact this);clear l i d;go_enter func111,ntmps111
 go_wp2_with fail
 refine(p.o _ n.o.bn).mono ?_
 rintro e g⟨rfl,a⟩;have q:=hId (o.o.under a);have f:=hId a;clear a o n p;go_wp2_with fail
 refine(t.o _).mono ?_
 rintro e x⟨rfl,rfl⟩;generalize dp b c=z at*;go_wp2_with fail
 refine(jb b s v _ q.o (by omega)).mono ?_
 rintro e u⟨rfl,m⟩;have r:=hId m;clear m;go_wp2
 go_end0
 exact⟨rfl,aZ.pre f.o r.o⟩
theorem A5(b:Nat)(s:Sn.S)(v:Value)(c:List UInt8)(w:World)(n:Wk w b s v)(m:Zt w b)(_:s.d.length<=900000)(l:s.fJ=0)(_:s.fJ<=1000000)(f:Sn.cW c=none)(d:dp b c=some ⟨b,1,none⟩):Calls prog 111 #[.pointer (some ⟨b,0,none⟩),.string (B c)] w fun e w'=>e=.returned (.tuple #[])/\aZ w b v w' {s with fJ:=0}:=by
 have p:=hId n;have o:=hId m;have q:Hd (∀w',Bn w'->Calls prog 137 #[.string (B c)] w' fun e k=>e=.returned (.tuple #[.int .i64 0,.bool false])/\Below w'.heap.size w' k):=fun w' h=>by have:=fZ c w' h;rw[f]at this;exact this
 have t:=hId (fun w'=>by have:=jG b c w';rw[d]at this;exact this);clear n m f d;go_enter func111,ntmps111
 go_wp2_with fail
 refine(q.o _ o.o.bn).mono ?_
 rintro e k⟨rfl,a⟩;have g:=hId (p.o.under a);have i:=hId a;clear a p o q;go_wp2_with fail
 refine(t.o _).mono ?_
 rintro e y⟨rfl,rfl⟩;have r:=IK g.o.aM;have z:=g.o.aM.frozen 1;rw[l]at r;clear l;go_wp2
 go_end0
 exact⟨rfl,aZ.pre i.o (aZ.over (.inl rfl) (Kept.refl _ _) g.o (g.o.aM.set 1 _) (du ..) rfl)⟩
theorem A3(b:Nat)(s:Sn.S)(v:Value)(c:List UInt8)(w:World)(n:Wk w b s v)(m:Zt w b)(_:s.d.length<=900000)(r:0<s.fJ)(t:s.fJ<=1000000)(f:Sn.cW c=none)(d:dp b c=some ⟨b,1,none⟩):Calls prog 111 #[.pointer (some ⟨b,0,none⟩),.string (B c)] w fun e w'=>e=.returned (.tuple #[])/\aZ w b v w' {s with fJ:=s.fJ-1}:=by
 have p:=hId n;have o:=hId m;have q:Hd (∀w',Bn w'->Calls prog 137 #[.string (B c)] w' fun e k=>e=.returned (.tuple #[.int .i64 0,.bool false])/\Below w'.heap.size w' k):=fun w' h=>by have:=fZ c w' h;rw[f]at this;exact this
 have z:=hId (fun w'=>by have:=jG b c w';rw[d]at this;exact this);clear n m f d;go_enter func111,ntmps111
 go_wp2_with fail
 refine(q.o _ o.o.bn).mono ?_
 rintro e k⟨rfl,a⟩;have g:=hId (p.o.under a);have i:=hId a;clear a p o q;go_wp2_with fail
 refine(z.o _).mono ?_
 rintro e C⟨rfl,rfl⟩;have u:=IK g.o.aM;have D:=g.o.aM.frozen 1;obtain⟨x,l⟩:∃x:Nat,s.fJ=x+1:=⟨(s.fJ-1).toNat,by omega⟩;have y:Hd (s.fJ-1=x):=by show s.fJ-1=x;omega
 rw[l]at u t;clear l r;go_wp2
 go_end0
 refine⟨rfl,aZ.pre i.o (aZ.over (.inl rfl) (Kept.refl _ _) g.o ?_ (du ..) rfl)⟩
 rw[y.o];exact g.o.aM.set 1 _
theorem yZ(b:Nat)(s:Sn.S)(v:Value)(c:List UInt8)(w:World)(n:Wk w b s v)(m:Zt w b)(_:s.d.length<=900000)(l:s.cv=0)(_:s.cv<=1000000)(f:Sn.cW c=none)(d:dp b c=some ⟨b,2,none⟩):Calls prog 111 #[.pointer (some ⟨b,0,none⟩),.string (B c)] w fun e w'=>e=.returned (.tuple #[])/\aZ w b v w' {s with cv:=0}:=by
 have p:=hId n;have o:=hId m;have q:Hd (∀w',Bn w'->Calls prog 137 #[.string (B c)] w' fun e k=>e=.returned (.tuple #[.int .i64 0,.bool false])/\Below w'.heap.size w' k):=fun w' h=>by have:=fZ c w' h;rw[f]at this;exact this
 have t:=hId (fun w'=>by have:=jG b c w';rw[d]at this;exact this);clear n m f d;go_enter func111,ntmps111
 go_wp2_with fail
 refine(q.o _ o.o.bn).mono ?_
 rintro e k⟨rfl,a⟩;have g:=hId (p.o.under a);have i:=hId a;clear a p o q;go_wp2_with fail
 refine(t.o _).mono ?_
 rintro e y⟨rfl,rfl⟩;have r:=IJ g.o.aM;have z:=g.o.aM.frozen 2;rw[l]at r;clear l;go_wp2
 go_end0
 exact⟨rfl,aZ.pre i.o (aZ.over (.inl rfl) (Kept.refl _ _) g.o (g.o.aM.set 2 _) (du ..) rfl)⟩
theorem yY(b:Nat)(s:Sn.S)(v:Value)(c:List UInt8)(w:World)(n:Wk w b s v)(m:Zt w b)(_:s.d.length<=900000)(r:0<s.cv)(t:s.cv<=1000000)(f:Sn.cW c=none)(d:dp b c=some ⟨b,2,none⟩):Calls prog 111 #[.pointer (some ⟨b,0,none⟩),.string (B c)] w fun e w'=>e=.returned (.tuple #[])/\aZ w b v w' {s with cv:=s.cv-1}:=by
 have p:=hId n;have o:=hId m;have q:Hd (∀w',Bn w'->Calls prog 137 #[.string (B c)] w' fun e k=>e=.returned (.tuple #[.int .i64 0,.bool false])/\Below w'.heap.size w' k):=fun w' h=>by have:=fZ c w' h;rw[f]at this;exact this
 have z:=hId (fun w'=>by have:=jG b c w';rw[d]at this;exact this);clear n m f d;go_enter func111,ntmps111
 go_wp2_with fail
 refine(q.o _ o.o.bn).mono ?_
 rintro e k⟨rfl,a⟩;have g:=hId (p.o.under a);have i:=hId a;clear a p o q;go_wp2_with fail
 refine(z.o _).mono ?_
 rintro e C⟨rfl,rfl⟩;have u:=IJ g.o.aM;have D:=g.o.aM.frozen 2;obtain⟨x,l⟩:∃x:Nat,s.cv=x+1:=⟨(s.cv-1).toNat,by omega⟩;have y:Hd (s.cv-1=x):=by show s.cv-1=x;omega
 rw[l]at u t;clear l r;go_wp2
 go_end0
 refine⟨rfl,aZ.pre i.o (aZ.over (.inl rfl) (Kept.refl _ _) g.o ?_ (du ..) rfl)⟩
 rw[y.o];exact g.o.aM.set 2 _
theorem OS(b:Nat)(s:Sn.S)(v:Value)(a:List UInt8)(w:World)(m:Wk w b s v)(l:Zt w b)(_:s.d.length<=900000)(f:Sn.cW a=none)(d:dp b a=none)(u:((B a).toList==[97])=true):Calls prog 111 #[.pointer (some ⟨b,0,none⟩),.string (B a)] w fun e w'=>e=.returned (.tuple #[])/\aZ w b v w' {s with link:=[]}:=by
 have o:=hId m;have n:=hId l;have p:Hd (∀w',Bn w'->Calls prog 137 #[.string (B a)] w' fun e k=>e=.returned (.tuple #[.int .i64 0,.bool false])/\Below w'.heap.size w' k):=fun w' h=>by have:=fZ a w' h;rw[f]at this;exact this
 have q:=hId (fun w'=>by have:=jG b a w';rw[d]at this;exact this);clear m l f d;go_enter func111,ntmps111
 go_wp2_with fail
 refine(p.o _ n.o.bn).mono ?_
 rintro e k⟨rfl,c⟩;have g:=hId (o.o.under c);have i:=hId c;clear c o n p;go_wp2_with fail
 refine(q.o _).mono ?_
 rintro e t⟨rfl,rfl⟩;have y:=Bg g.o.aM;have x:=g.o.aM.frozen 3;go_wp2
 go_end0
 exact⟨rfl,aZ.pre i.o (aZ.over (.inl rfl) (Kept.refl _ _) g.o (g.o.aM.set 3 _) (du ..) rfl)⟩
theorem Du(b:Nat)(s:Sn.S)(v:Value)(a:List UInt8)(w:World)(l:Wk w b s v)(k:Zt w b)(_:s.d.length<=900000)(f:Sn.cW a=none)(d:dp b a=none)(u:((B a).toList==[97])=false):Calls prog 111 #[.pointer (some ⟨b,0,none⟩),.string (B a)] w fun e w'=>e=.returned (.tuple #[])/\aZ w b v w' s:=by
 have n:=hId l;have m:=hId k;have o:Hd (∀w',Bn w'->Calls prog 137 #[.string (B a)] w' fun e i=>e=.returned (.tuple #[.int .i64 0,.bool false])/\Below w'.heap.size w' i):=fun w' h=>by have:=fZ a w' h;rw[f]at this;exact this
 have q:=hId (fun w'=>by have:=jG b a w';rw[d]at this;exact this);clear l k f d;go_enter func111,ntmps111
 go_wp2_with fail
 refine(o.o _ m.o.bn).mono ?_
 rintro e i⟨rfl,c⟩;have p:=hId (n.o.under c);have g:=hId c;clear c n m o;go_wp2_with fail
 refine(q.o _).mono ?_
 rintro e t⟨rfl,rfl⟩;go_wp2
 go_end0
 exact⟨rfl,aZ.pre g.o (aZ.refl p.o)⟩
theorem Ec{x:Int}(h:0<x):Sn.up (x+-1)=x-1:=by unfold Sn.up;rw[VD (by omega)];omega
theorem va(b:Nat)(s:Sn.S)(v:Value)(a l m:List UInt8)(w:World)(h:Wk w b s v)(g:Zt w b)(f:s.d.length<=900000)(i:EX 1000000 s)(u:s.cX=[]):Calls prog 111 #[.pointer (some ⟨b,0,none⟩),.string (B a)] w fun e w'=>e=.returned (.tuple #[])/\aZ w b v w' (Sn.step s ⟨3,a,l,m⟩):=by
 have p:=Sn.lG s ⟨3,a,l,m⟩ u
 cases c:Sn.cW a with
 |some k=>
  have e:Sn.step s ⟨3,a,l,m⟩=Sn.shut s:=by rw[p];simp[c]
  rw[e];exact A6 b s v a w h g f k c
 |none=>
  have e:Sn.step s ⟨3,a,l,m⟩=Sn.other s ⟨3,a,l,m⟩:=by rw[p];simp[c]
  rw[e];clear p e;unfold Sn.other
  cases q:Sn.sI.contains a
  ·cases t:Sn.o8.contains a
   ·have d:=FY (b:=b) q t;rw[VD WB,VD WB]
    cases r:(a==[97])
    ·rw[VD WB,VC (show((3:Int)==3)=true by decide)];exact Du b s v a w h g f c d ((rS a [97]).trans r)
    ·rw[VC rfl,VD (show¬((3:Int)==2)=true by decide)];exact OS b s v a w h g f c d ((rS a [97]).trans r)
   ·rw[VD WB,VC rfl];have d:=Aq (b:=b) q t;show Calls _ _ _ _ fun e w'=>_/\aZ w b v w' {s with cv:=Sn.up (s.cv+-1)}
    by_cases n:s.cv=0
    ·have e:Sn.up (s.cv+-1)=0:=by rw[n];rfl
     rw[e];exact yZ b s v a w h g f n i.s1 c d
    ·have o:0<s.cv:=by have:=i.s0;omega
     rw[Ec o];exact yY b s v a w h g f o i.s1 c d
  ·rw[VC rfl];have d:=FZ (b:=b) q;show Calls _ _ _ _ fun e w'=>_/\aZ w b v w' {s with fJ:=Sn.up (s.fJ+-1)}
   by_cases n:s.fJ=0
   ·have e:Sn.up (s.fJ+-1)=0:=by rw[n];rfl
    rw[e];exact A5 b s v a w h g f n i.b1 c d
   ·have o:0<s.fJ:=by have:=i.b0;omega
    rw[Ec o];exact A3 b s v a w h g f o i.b1 c d
theorem M6(b:Nat)(s:Sn.S)(v:Value)(d g h:List UInt8)(w:World)(c:Wk w b s v)(o:(B s.cX).toList.isEmpty=false)(m:((B d).toList==(B s.cX).toList)=true):Calls prog 93 #[.pointer (some ⟨b,0,none⟩),.agg #[.int .i64 3,.string (B d),.string (B g),.string (B h)]] w fun e w'=>e=.returned (.tuple #[])/\aZ w b v w' {s with cX:=[]}:=by
 have a:Below w.heap.size w (w.alloc (.cells #[.int .i64 3,.string (B d),.string (B g),.string (B h)] 147)):=(VE _ _).alloc (UZ _) _;have i:=hId (c.under a);have f:=hId a;have l:=c.fg;have p:=QT c.aM;have n:=c.aM.frozen 6;clear c a;go_enter func93,ntmps93
 go_wp2
 go_quiet (fail)
 go_wp2
 go_end0
 refine⟨rfl,?_⟩
 have k:=i.o.aM.set 6 (.string (B []));exact aZ.pre (Below.trans f.o (Below.mono (B:=_) (Go.below_drewN (VE _ _) _) (UZ _))) (aZ.over (.inl rfl) (Kept.refl _ _) (i.o.under (Go.below_drewN (VE _ _) _)) k (du ..) rfl)
theorem J3(b:Nat)(s:Sn.S)(v:Value)(d g h:List UInt8)(w:World)(c:Wk w b s v)(m:(B s.cX).toList.isEmpty=false)(l:((B d).toList==(B s.cX).toList)=false):Calls prog 93 #[.pointer (some ⟨b,0,none⟩),.agg #[.int .i64 3,.string (B d),.string (B g),.string (B h)]] w fun e w'=>e=.returned (.tuple #[])/\aZ w b v w' s:=by
 have a:Below w.heap.size w (w.alloc (.cells #[.int .i64 3,.string (B d),.string (B g),.string (B h)] 147)):=(VE _ _).alloc (UZ _) _;have i:=hId (c.under a);have f:=hId a;have k:=c.fg;have n:=QT c.aM;clear c a;go_enter func93,ntmps93
 go_wp2
 go_quiet (fail)
 go_wp2
 go_end0
 exact⟨rfl,aZ.pre f.o (aZ.pre (Go.below_drewN (VE _ _) _) (aZ.refl (i.o.under (Go.below_drewN (VE _ _) _))))⟩
theorem M5(b:Nat)(s:Sn.S)(v:Value)(d:Int)(h g i:List UInt8)(w:World)(c:Wk w b s v)(n:(B s.cX).toList.isEmpty=false)(m:(d==3)=false):Calls prog 93 #[.pointer (some ⟨b,0,none⟩),.agg #[.int .i64 d,.string (B h),.string (B g),.string (B i)]] w fun e w'=>e=.returned (.tuple #[])/\aZ w b v w' s:=by
 have a:Below w.heap.size w (w.alloc (.cells #[.int .i64 d,.string (B h),.string (B g),.string (B i)] 147)):=(VE _ _).alloc (UZ _) _;have k:=hId (c.under a);have f:=hId a;have l:=c.fg;have o:=QT c.aM;clear c a;go_enter func93,ntmps93
 go_wp2
 go_quiet (fail)
 go_wp2
 go_end0
 exact⟨rfl,aZ.pre f.o (aZ.pre (Go.below_drewN (VE _ _) _) (aZ.refl (k.o.under (Go.below_drewN (VE _ _) _))))⟩
theorem Gr(b:Nat)(s:Sn.S)(v:Value)(g c h:List UInt8)(w:World)(d:Wk w b s v)(k:s.d.length+c.length<=900000)(p:(B s.cX).toList.isEmpty=true):Calls prog 93 #[.pointer (some ⟨b,0,none⟩),.agg #[.int .i64 1,.string (B g),.string (B c),.string (B h)]] w fun e w'=>e=.returned (.tuple #[])/\aZ w b v w' (s.chars c):=by
 have a:Below w.heap.size w (w.alloc (.cells #[.int .i64 1,.string (B g),.string (B c),.string (B h)] 147)):=(VE _ _).alloc (UZ _) _;have l:=hId (d.under a);have f:=hId a;have n:=d.fg;have q:=QT d.aM;clear d a;go_enter func93,ntmps93
 go_wp2_with fail
 refine(xt b s v c _ l.o k).mono ?_
 rintro e o⟨rfl,i⟩;have m:=hId i;clear i;go_wp2
 go_end0
 exact⟨rfl,aZ.pre f.o m.o⟩
theorem Gs(b:Nat)(s:Sn.S)(v:Value)(f d c:List UInt8)(w:World)(g:Wk w b s v)(k:Zt w b)(o:s.d.length<=900000)(m:EX 1000000 s)(p:c.length<=20000)(n:s.cX=[])(z:(B s.cX).toList.isEmpty=true):Calls prog 93 #[.pointer (some ⟨b,0,none⟩),.agg #[.int .i64 2,.string (B f),.string (B d),.string (B c)]] w fun e w'=>e=.returned (.tuple #[])/\aZ w b v w' (Sn.step s ⟨2,f,d,c⟩):=by
 have a:Below w.heap.size w (w.alloc (.cells #[.int .i64 2,.string (B f),.string (B d),.string (B c)] 147)):=(VE _ _).alloc (UZ _) _;have r:=hId (g.under a);have i:=hId a;have h:=g.fg;have A:=QT g.aM;have q:=hId (k.under a (YB h));have u:=hId m;have x:=hId n;clear m n k;clear g a;go_enter func93,ntmps93
 go_wp2_with fail
 refine(xw b s v f d c _ r.o q.o o u.o p x.o).mono ?_
 rintro e y⟨rfl,l⟩;have t:=hId l;clear l;go_wp2
 go_end0
 exact⟨rfl,aZ.pre i.o t.o⟩
theorem Cd(b:Nat)(s:Sn.S)(v:Value)(d c f:List UInt8)(w:World)(g:Wk w b s v)(k:Zt w b)(o:s.d.length<=900000)(m:EX 1000000 s)(n:s.cX=[])(y:(B s.cX).toList.isEmpty=true):Calls prog 93 #[.pointer (some ⟨b,0,none⟩),.agg #[.int .i64 3,.string (B d),.string (B c),.string (B f)]] w fun e w'=>e=.returned (.tuple #[])/\aZ w b v w' (Sn.step s ⟨3,d,c,f⟩):=by
 have a:Below w.heap.size w (w.alloc (.cells #[.int .i64 3,.string (B d),.string (B c),.string (B f)] 147)):=(VE _ _).alloc (UZ _) _;have q:=hId (g.under a);have i:=hId a;have h:=g.fg;have z:=QT g.aM;have p:=hId (k.under a (YB h));have t:=hId m;have u:=hId n;clear m n k;clear g a;go_enter func93,ntmps93
 go_wp2_with fail
 refine(va b s v d c f _ q.o p.o o t.o u.o).mono ?_
 rintro e x⟨rfl,l⟩;have r:=hId l;clear l;go_wp2
 go_end0
 exact⟨rfl,aZ.pre i.o r.o⟩
theorem Cc(b:Nat)(s:Sn.S)(v:Value)(g f h:List UInt8)(w:World)(c:Wk w b s v)(l:(B s.cX).toList.isEmpty=true):Calls prog 93 #[.pointer (some ⟨b,0,none⟩),.agg #[.int .i64 4,.string (B g),.string (B f),.string (B h)]] w fun e w'=>e=.returned (.tuple #[])/\aZ w b v w' s:=by
 have a:Below w.heap.size w (w.alloc (.cells #[.int .i64 4,.string (B g),.string (B f),.string (B h)] 147)):=(VE _ _).alloc (UZ _) _;have i:=hId (c.under a);have d:=hId a;have k:=c.fg;have m:=QT c.aM;clear c a;go_enter func93,ntmps93
 go_wp2
 go_end0
 exact⟨rfl,aZ.pre d.o (aZ.refl i.o)⟩
theorem An(l:List UInt8):(B l).toList.isEmpty=l.isEmpty:=by rw[Lib.toList_data,eO]
theorem Mf(x y:List UInt8):((B x).toList==(B y).toList)=(x==y):=by rw[Lib.toList_data,eO,Lib.toList_data,eO]
theorem F3(b:Nat)(s:Sn.S)(v:Value)(t:Tk)(w:World)(h:Wk w b s v)(p:Zt w b)(y:s.d.length<=80)(q:EX 1000000 s)(m:Tk.Fits 20000 t):Calls prog 93 #[.pointer (some ⟨b,0,none⟩),.agg #[.int .i64 t.kind,.string (B t.name),.string (B t.text),.string (B t.kG)]] w fun e w'=>e=.returned (.tuple #[])/\aZ w b v w' (Sn.step s t):=by
 obtain⟨i,a,c,d⟩:=t;have x:=m.text;have u:=m.kG;have r:=m.kind;simp only at x u r⊢
 cases l:s.cX.isEmpty
 ·have g:=(An s.cX).trans l;have k:Sn.step s ⟨i,a,c,d⟩=if i==3&&a==s.cX then{s with cX:=[]}else s:=by unfold Sn.step;rw[l];rfl
  rw[k]
  cases o:(i==3)
  ·exact M5 b s v i a c d w h g o
  ·have:i=3:=by simpa using o
   subst this
   cases n:(a==s.cX)
   ·exact J3 b s v a c d w h g ((Mf _ _).trans n)
   ·exact M6 b s v a c d w h g ((Mf _ _).trans n)
 ·have g:=(An s.cX).trans l;have f:s.cX=[]:=by simpa using l
  rcases r with rfl|rfl|rfl|rfl
  ·have k:Sn.step s ⟨1,a,c,d⟩=s.chars c:=by rw[Sn.lG s _ f];rfl
   rw[k];exact Gr b s v a c d w h (by omega) g
  ·exact Gs b s v a c d w h p (by omega) q u f g
  ·exact Cd b s v a c d w h p (by omega) q f g
  ·have k:Sn.step s ⟨4,a,c,d⟩=s:=by rw[Sn.lG s _ f];rfl
   rw[k];exact Cc b s v a c d w h g
theorem EX.mono{n m:Nat}{s:Sn.S}(h:EX n s)(a:n<=m):EX m s:=⟨h.b0,by have:=h.b1;omega,h.s0,by have:=h.s1;omega⟩
theorem one_le(k:Int):Sn.one k<=1:=by
 unfold Sn.one;split
 ·omega
 ·split<;>omega
theorem Oq(x:Int):0<=Sn.up x:=by unfold Sn.up;split<;>omega
theorem Oo{x:Int}{n:Nat}(h:x<=n):Sn.up x<=n:=by unfold Sn.up;split<;>omega
theorem LD{n:Nat}{s:Sn.S}(h:EX n s):EX n (Sn.shut s):=⟨h.b0,h.b1,h.s0,h.s1⟩
theorem IH{n:Nat}{s:Sn.S}(h:EX n s)(t:Tk):EX (n+1) (Sn.other s t):=by
 have g:=h.mono (Nat.le_succ n);have b:=one_le t.kind;have c:=h.b1;have a:=h.s1;unfold Sn.other;split
 ·exact⟨Oq _,Oo (by push_cast;omega),g.s0,g.s1⟩
 split
 ·exact⟨g.b0,g.b1,Oq _,Oo (by push_cast;omega)⟩
 split
 ·exact⟨g.b0,g.b1,g.s0,g.s1⟩
 split
 ·exact g
 split
 ·exact⟨g.b0,g.b1,g.s0,g.s1⟩
 split
 ·exact⟨g.b0,g.b1,g.s0,g.s1⟩
 ·exact g
theorem LC{n:Nat}{s:Sn.S}(h:EX n s)(t:Tk):EX (n+1) (Sn.step s t):=by
 have g:=h.mono (Nat.le_succ n);unfold Sn.step;split
 ·split
  ·exact⟨g.b0,g.b1,g.s0,g.s1⟩
  ·exact g
 split
 ·exact⟨g.b0,g.b1,g.s0,g.s1⟩
 split
 ·exact g
 split
 ·split
  ·exact⟨g.b0,g.b1,g.s0,g.s1⟩
  ·exact LD g
 ·exact IH h t
theorem lY(l:List UInt8)(w:World)(E:l.length<=20000):
  Calls prog 161 #[.string (B l)] w fun e w'=>e=.returned (.string (B (Lk.small l)))/\Below w.heap.size w w':=by
 obtain⟨r,a⟩:∃r,Lk.small l=r:=⟨_,rfl⟩;rw[a];have x:=hId a;clear a;have t:=cI l;have n:=Lib.run_convert_string_bytes (P:=prog) w 9 33 5 (B l) underlying9 underlying33 underlying5;have v:Hd (kK w.heap.size w (Lib.bytesWorld w 5 (B l)) (sT l 0)):=by rw[zX];exact kK.start w (B l)
 generalize Lib.bytesWorld w 5 (B l)=D at*;rw[t]at n;generalize grownCap w l.length 0 5=q at*;go_enter func161,ntmps161
 go_wp2
 go_loopw [10] (fun i wr=>∃k:Nat,k<=l.length/\i=.int .i64 k/\kK w.heap.size w wr (sT l k)) (fun i _=>l.length-(intOf i).toNat)
 case atStart=>exact⟨0,VN _,rfl,v.o⟩
 case round=>
  obtain⟨k,F,rfl,m⟩:=hrel;have o:=hId m;clear m n;by_cases d:k<l.length
  ·have b:k<(sT l k).length:=by rw[xx];exact d
   obtain⟨c,p⟩:∃c:UInt8,l[k]=c:=⟨_,rfl⟩;have g:=o.o.cell k b;rw[Cg _ _ d,p]at g;have A:=o.o.frozen k b;have z:Hd (kK w.heap.size w (wr.setCell ⟨w.heap.size,k,none⟩ (.int .u8 (Lk.dm c).toNat)) (sT l (k+1))):=by
    rw[tf _ _ d,p];exact o.o.set k _
   have y:=hId (oX c wr);clear p b;go_wp2_with fail
   refine y.o.mono ?_
   rintro e C⟨rfl,rfl⟩;go_wp2
   go_roundw
   case rel=>exact⟨k+1,by omega,by go_num,z.o⟩
   case measure=>simp[intOf];omega
  ·have h:(sT l k)=Lk.small l:=Eo _ _ (by omega);have s:Hd (kK w.heap.size w wr (Lk.small l)):=by rw[<-h];exact o.o
   have f:=run_convert_bytes_back (P:=prog) wr 33 9 5 ⟨w.heap.size,0,none⟩ q (Lk.small l) underlying33 underlying5 underlying9 (fun j u=>by
    rw[show(⟨w.heap.size,0,none⟩:Addr).add j=⟨w.heap.size,j,none⟩by cases j<;>simp[Addr.add]]
    exact s.o.cell j u)
   rw[Lk.wP]at f;change _=Result.ok (Value.string (B (Lk.small l))) _ at f;rw[x.o]at f;clear h;go_wp2
   go_ret
   exact⟨rfl,s.o.below⟩
theorem v8(l:List UInt8)(w:World)(a:gS w)(g:l.length<=20000):
  Calls prog 157 #[.string (B l)] w fun e w'=>e=.returned (.string (B (Esc.rd l)))/\Below w.heap.size w w':=by
 have d:Hd (Calls prog 174 #[.string (B l)] w fun e w'=>e=.returned (.tuple #[.string (B (Esc.rd l)),.int .i64 0])/\Below w.heap.size w w'):=NI (B l) w a (by rw[cI];omega);clear a;generalize Esc.rd l=r at*;go_enter func157,ntmps157
 go_wp2_with fail
 refine d.o.mono ?_
 rintro e f⟨rfl,b⟩;have c:=hId b;clear b;go_wp2
 go_ret
 exact⟨rfl,c.o⟩
theorem Rg(w:World):(Instr.index 234 (.agg #[.string ⟨#[34]⟩,.string ⟨#[39]⟩]) (.int .i64 0)).run prog w=.ok (.string ⟨#[34]⟩) w:=by kernel_rfl
theorem Sp(w:World):(Instr.index 234 (.agg #[.string ⟨#[34]⟩,.string ⟨#[39]⟩]) (.int .i64 1)).run prog w=.ok (.string ⟨#[39]⟩) w:=by kernel_rfl
def Eg:Tk:=⟨0,[],[],[]⟩
theorem Rw(k:Tk):(prog.info? 147).map (·.size)=some (tQ k).toArray.size:=by
 have h:(prog.info? 147).map (·.size)=some 4:=by kernel_rfl
 exact h
theorem NE{b:Func}{p:Tmp}{k:Tk}{w:World}{g:Nat}(h:b.results=#[.cell p 147])(a:Array Value)(c:a.getD p undef=.pointer (some ⟨g,0,none⟩))(d:Blk w g (tQ k) 147):(results b a).run prog w=.ok (wC k) w:=
 results_cell_row h a w g 147 (tQ k).toArray (0,0) _ c d underlying147 rfl (Rw k)
theorem fU{b:Func}{p u:Tmp}{k:Tk}{w:World}{g:Nat}(h:b.results=#[.cell p 147,.tmp u])(a:Array Value)(c:a.getD p undef=.pointer (some ⟨g,0,none⟩))(d:Blk w g (tQ k) 147):(results b a).run prog w=.ok (.tuple #[wC k,a.getD u undef]) w:=by
 rw[results_cell_tmp h,c];have:=run_loadVar_row (P:=prog) w g 147 147 (tQ k).toArray (0,0) _ d underlying147 rfl (Rw k);simp only[asAddr,Sem.run_pure,Result.andThen,this]
 rfl
def pB (w:World) (g:Nat) (k:Tk):World:=(((w.setCell ⟨g,0,none⟩ (.int .i64 k.kind)).setCell ⟨g,1,none⟩ (.string (B k.name))).setCell ⟨g,2,none⟩ (.string (B k.text))).setCell ⟨g,3,none⟩ (.string (B k.kG))
theorem fB{w:World}{g:Nat}{j k:Tk}(h:Blk w g (tQ j) 147):Blk (pB w g k) g (tQ k) 147:=(((h.set 0 (.int .i64 k.kind)).set 1 (.string (B k.name))).set 2 (.string (B k.text))).set 3 (.string (B k.kG))
theorem bK(w:World)(g:Nat)(k:Tk)(S:List Nat)(a:g∈S):Kept w (pB w g k) S:=
 ((((Kept.refl w S).setCell _ _ (.inl a)).setCell _ _ (.inl a)).setCell _ _ (.inl a)).setCell _ _ (.inl a)
theorem Cz(w:World)(g:Nat)(k:Tk):Below g w (pB w g k):=((((VE g w).setCell (UZ _) _).setCell (UZ _) _).setCell (UZ _) _).setCell (UZ _) _
theorem zH(l:List UInt8)(w:World)(d:gS w)(f:l.length<=20000):
  Calls prog 127 #[.string (B l)] w fun e w'=>e=.returned (wC (Tk.ou (Esc.rd l)))/\Below w.heap.size w w':=by
 have h:Hd (Calls prog 157 #[.string (B l)] (w.alloc (.cells #[.int .i64 0,.string ⟨#[]⟩,.string ⟨#[]⟩,.string ⟨#[]⟩] 147)) fun e w'=>e=.returned (.string (B (Esc.rd l)))/\Below (w.alloc (.cells #[.int .i64 0,.string ⟨#[]⟩,.string ⟨#[]⟩,.string ⟨#[]⟩] 147)).heap.size (w.alloc (.cells #[.int .i64 0,.string ⟨#[]⟩,.string ⟨#[]⟩,.string ⟨#[]⟩] 147)) w'):=v8 l _ (d.alloc _) f;clear d;generalize Esc.rd l=r at*;go_enter func127,ntmps127
 go_wp2_with fail
 refine h.o.mono ?_
 rintro e c⟨rfl,b⟩;have a:Hd (Blk c w.heap.size (tQ Eg) 147):=(b.block _ (by simp)).trans (Blk.new w (tQ Eg) 147);have o:=a.o.frozen 0;have n:=a.o.frozen 1;have m:=a.o.frozen 2;have i:=a.o.frozen 3;have t:=a.o.c0;have s:=a.o.c1;have q:=a.o.c2;have p:=a.o.c3;have g:=hId (((VE _ _).alloc (UZ _) _).trans (b.mono (by simp)));clear b;go_wp2
 change bodyPost prog _ _ Exit.ret _ (pB c w.heap.size (Tk.ou r));exact VL (NE (k:=Tk.ou r) rfl _ rfl (fB a.o)) rfl ⟨rfl,g.o.trans (Cz _ _ _)⟩
theorem q9(p:UInt8->Bool)(l:List UInt8):(l.takeWhile p).length<=l.length:=(List.takeWhile_sublist p).length_le
theorem NN(q:UInt8)(l:List UInt8):([q]:List UInt8).isPrefixOf l=true↔∃r,l=q::r:=by
 cases l with
 |nil=>simp
 |cons c t=>
  simp[List.isPrefixOf]
  exact eq_comm
theorem tU(b:Nat)(l p:List UInt8)(w:World)(a:Rd w b l):
  Calls prog 163 #[.pointer (some ⟨b,0,none⟩),.string (B p)] w fun e w'=>e=.returned (.bool (p.isPrefixOf l))/\Rd w' b (if p.isPrefixOf l then l.drop p.length else l)/\Kept w w' [b]:=by
 cases c:p.isPrefixOf l
 ·refine(fq b l p w a c).mono ?_
  rintro e w'⟨rfl,rfl⟩;exact⟨rfl,a,Kept.refl _ _⟩
 ·exact ie b l p w a c
theorem Dr(q:UInt8):∀r:List UInt8,(if([q]:List UInt8).isPrefixOf (r.dropWhile (Tk.not q))then(r.dropWhile (Tk.not q)).drop 1 else r.dropWhile (Tk.not q))=(r.dropWhile (Tk.not q)).drop 1
 |[]=>rfl
 |c::t=>by
  cases h:Tk.not q c
  ·have a:c=q:=by unfold Tk.not at h;simpa using h
   subst a;rw[WS,h];simp[List.isPrefixOf]
  ·rw[WS,h];exact Dr q t
theorem Rd.over{w w':World}{a b:Nat}{l:List UInt8}(h:Rd w b l)(d:Kept w w' [a])(c:b≠a):Rd w' b l:=d.aM h (by simpa using c)
theorem Pa(b:Nat)(r:List UInt8)(w:World)(a:Rd w b (34::r))(E:r.length<=19999):
  Calls prog 178 #[.pointer (some ⟨b,0,none⟩)] w fun e w'=>e=.returned (.string (B (r.takeWhile (Tk.not 34))))/\Rd w' b ((r.dropWhile (Tk.not 34)).drop 1)/\Kept w w' [b]:=by
 obtain⟨h,g⟩:∃h,h=w:=⟨w,rfl⟩;have s:=hId a;have z:=hId (Dr 34 r);clear a g;have D:=Rg;go_enter func178,ntmps178
 go_wp2
 refine WH 3 ?_
 rw[VJ];go_wp2_with fail
 refine(ie b (34::r) [34] _ s.o (by simp[List.isPrefixOf])).mono ?_
 rintro e m⟨rfl,a,d⟩;have q:Hd (Rd m b r):=a;have y:=hId d;clear a d;go_wp2_with fail
 refine(gn [34] _).mono ?_
 rintro e l⟨rfl,i,f⟩;have A:=hId i;have p:=hId (q.o.cu f);have v:=hId (y.o.cu f);clear i f;go_wp2_with fail
 refine(iy _ b (Tk.not 34) [34] (r) l (fun c=>Tk.DS 34 c) p.o A.o (by omega)).mono ?_
 rintro e k⟨rfl,a,d⟩;have o:=hId a;have u:=hId (v.o.trans d);clear a d;go_wp2_with fail
 refine(tU b (r.dropWhile (Tk.not 34)) [34] k o.o).mono ?_
 rintro e C⟨rfl,a,d⟩;rw[show([34]:List UInt8).length=1 from rfl,z.o]at a;have n:=hId a;have t:=hId (u.o.trans d);clear a d;generalize ([34]:List UInt8).isPrefixOf (r.dropWhile (Tk.not 34))=x;go_wp2
 go_ret
 exact⟨rfl,n.o,t.o⟩
theorem PZ(b:Nat)(r:List UInt8)(w:World)(a:Rd w b (39::r))(H:r.length<=19999):
  Calls prog 178 #[.pointer (some ⟨b,0,none⟩)] w fun e w'=>e=.returned (.string (B (r.takeWhile (Tk.not 39))))/\Rd w' b ((r.dropWhile (Tk.not 39)).drop 1)/\Kept w w' [b]:=by
 obtain⟨h,g⟩:∃h,h=w:=⟨w,rfl⟩;have k:=hId a;have A:=hId (Dr 39 r);clear a g;have G:=Rg;have F:=Sp;go_enter func178,ntmps178
 go_wp2
 refine WH 3 ?_
 rw[VJ];go_wp2_with fail
 refine(fq b (39::r) [34] w k.o rfl).mono ?_
 rintro e D⟨rfl,o⟩;rw[o];go_wp2
 rw[VJ];go_wp2_with fail
 refine(ie b (39::r) [39] _ k.o (by simp[List.isPrefixOf])).mono ?_
 rintro e n⟨rfl,a,d⟩;have t:Hd (Rd n b r):=a;have z:=hId d;clear a d;go_wp2_with fail
 refine(gn [39] _).mono ?_
 rintro e m⟨rfl,i,f⟩;have C:=hId i;have s:=hId (t.o.cu f);have y:=hId (z.o.cu f);clear i f;go_wp2_with fail
 refine(iy _ b (Tk.not 39) [39] (r) m (fun c=>Tk.DS 39 c) s.o C.o (by omega)).mono ?_
 rintro e l⟨rfl,a,d⟩;have q:=hId a;have v:=hId (y.o.trans d);clear a d;go_wp2_with fail
 refine(tU b (r.dropWhile (Tk.not 39)) [39] l q.o).mono ?_
 rintro e E⟨rfl,a,d⟩;rw[show([39]:List UInt8).length=1 from rfl,A.o]at a;have p:=hId a;have u:=hId (v.o.trans d);clear a d;generalize ([39]:List UInt8).isPrefixOf (r.dropWhile (Tk.not 39))=x;go_wp2
 go_ret
 exact⟨rfl,p.o,u.o⟩
theorem vx(b:Nat)(l:List UInt8)(w:World)(a:Rd w b l)(o:l.length<=20000)(n:([34]:List UInt8).isPrefixOf l=false)(m:([39]:List UInt8).isPrefixOf l=false):
  Calls prog 178 #[.pointer (some ⟨b,0,none⟩)] w fun e w'=>e=.returned (.string (B (l.takeWhile Tk.BM)))/\Rd w' b (l.dropWhile Tk.BM)/\Kept w w' [b]:=by
 have f:=hId a;have v:=hId n;have u:=hId m;clear a n m;have A:=Rg;have z:=Sp;go_enter func178,ntmps178
 go_wp2
 refine WH 3 ?_
 rw[VJ];go_wp2_with fail
 refine(fq b l [34] _ f.o v.o).mono ?_
 rintro e g⟨rfl,rfl⟩;go_wp2
 rw[VJ];go_wp2_with fail
 refine(fq b l [39] _ f.o u.o).mono ?_
 rintro e h⟨rfl,rfl⟩;have t:Hd (Kept h h [b]):=Kept.refl _ _;go_wp2
 rw[VJ];go_wp2_with fail
 refine(gn [32,9,10,13,12,62] _).mono ?_
 rintro e g⟨rfl,k,d⟩;have x:=hId k;have q:=hId (f.o.cu d);have s:=hId (t.o.cu d);clear k d;go_wp2_with fail
 refine(iy _ b (Tk.BM) [32,9,10,13,12,62] (l) g (fun c=>Tk.Qg c) q.o x.o o).mono ?_
 rintro e y⟨rfl,a,i⟩;have p:=hId a;have r:=hId (s.o.trans i);clear a i;go_wp2
 go_ret
 exact⟨rfl,p.o,r.o⟩
theorem Jo(b:Nat)(l:List UInt8)(w:World)(a:Rd w b l)(f:l.length<=20000):
  Calls prog 178 #[.pointer (some ⟨b,0,none⟩)] w fun e w'=>e=.returned (.string (B (Tk.val l).1))/\Rd w' b (Tk.val l).2/\Kept w w' [b]:=by
 cases l with
 |nil=>exact vx b [] w a f rfl rfl
 |cons q r=>
  simp only[VG]at f
  by_cases d:q=34
  ·subst d;exact Pa b r w a (by omega)
  ·by_cases c:q=39
   ·subst c;exact PZ b r w a (by omega)
   ·have i:(q==34)=false:=by simpa using d
    have h:(q==39)=false:=by simpa using c
    have g:Tk.val (q::r)=((q::r).takeWhile Tk.BM,(q::r).dropWhile Tk.BM):=by
     rw[Tk.val,i,h];rfl
    rw[g];refine vx b (q::r) w a (by simp only[VG];omega) ?_ ?_
    ·have:((34:UInt8)==q)=false:=by simpa using(fun e=>d e.symm)
     simp[List.isPrefixOf,this]
    ·have:((39:UInt8)==q)=false:=by simpa using(fun e=>c e.symm)
     simp[List.isPrefixOf,this]
theorem Oe(b:Nat)(c:UInt8)(t g:List UInt8)(w:World)(a:Rd w b (c::t))(Y:t.length<=19999)(i:(t.dropWhile Tk.ej).dropWhile Tk.sp=61::g):
  Calls prog 164 #[.pointer (some ⟨b,0,none⟩)] w fun e w'=>e=.returned (.tuple #[.string (B (c::t.takeWhile Tk.ej)),.string (B ((Tk.val (g.dropWhile Tk.sp)).1))])/\Rd w' b ((Tk.val (g.dropWhile Tk.sp)).2)/\Kept w w' [b]:=by
 have G:=hId a;have Q:=hId i;have d1:=Tk.cd Tk.ej t;have d2:=Tk.cd Tk.sp (t.dropWhile Tk.ej);have d3:=q9 Tk.ej t;have m:B [c]++B (t.takeWhile Tk.ej)=B (c::t.takeWhile Tk.ej):=PW [c] _;have n:=cI [c];have V:=cI (t.takeWhile Tk.ej);have d4:g.length<=19999:=by have:=VQ List.length i;simp only[VG]at this;omega
 have Z:=Tk.cd Tk.sp g;clear a i;rw[<-m];clear m;simp only[VG,List.length_nil]at n
 go_enter func164,ntmps164
 go_wp2_with fail
 refine(fp b 1 (c::t) w G.o (by simp)).mono ?_
 rintro e u⟨rfl,a,d⟩;have F:Hd (Rd u b t):=a;have P:=hId d;clear a d;go_wp2_with fail
 refine(gn [32,9,10,13,12,47,62,61] _).mono ?_
 rintro e s⟨rfl,h,f⟩;have U:=hId h;have E:=hId (F.o.cu f);have O:=hId (P.o.cu f);clear h f;go_wp2_with fail
 refine(iy _ b (Tk.ej) [32,9,10,13,12,47,62,61] (t) s (fun c=>Tk.LV c) E.o U.o (by omega)).mono ?_
 rintro e X⟨rfl,a,d⟩;have D:=hId a;have N:=hId (O.o.trans d);clear a d;go_wp2_with fail
 refine(dg [32,9,10,13,12] _).mono ?_
 rintro e r⟨rfl,h,f⟩;have T:=hId h;have C:=hId (D.o.cu f);have M:=hId (N.o.cu f);clear h f;go_wp2_with fail
 refine(eK _ b (Tk.sp) [32,9,10,13,12] (t.dropWhile Tk.ej) r (fun c=>VQ _ (Tk.LS c)) C.o T.o (by omega)).mono ?_
 rintro e l⟨rfl,a,d⟩;have A:=hId a;have L:=hId (M.o.trans d);clear a d;have k:Hd (Rd l b (61::g)):=by rw[<-Q.o];exact A.o
 go_wp2_with fail
 refine(ie b (61::g) [61] l k.o (by simp[List.isPrefixOf])).mono ?_
 rintro e q⟨rfl,a,d⟩;have z:Hd (Rd q b g):=a;have K:=hId (L.o.trans d);clear a d;go_wp2_with fail
 refine(dg [32,9,10,13,12] _).mono ?_
 rintro e p⟨rfl,h,f⟩;have S:=hId h;have y:=hId (z.o.cu f);have J:=hId (K.o.cu f);clear h f;go_wp2_with fail
 refine(eK _ b (Tk.sp) [32,9,10,13,12] (g) p (fun c=>VQ _ (Tk.LS c)) y.o S.o (by omega)).mono ?_
 rintro e o⟨rfl,a,d⟩;have x:=hId a;have I:=hId (J.o.trans d);clear a d;go_wp2_with fail
 refine(Jo b (g.dropWhile Tk.sp) o x.o (by omega)).mono ?_
 rintro e W⟨rfl,a,d⟩;have v:=hId a;have H:=hId (I.o.trans d);clear a d;go_wp2
 go_ret2
 exact⟨rfl,v.o,H.o⟩
theorem Od(b:Nat)(c:UInt8)(t:List UInt8)(w:World)(a:Rd w b (c::t))(J:t.length<=19999)(h:([61]:List UInt8).isPrefixOf ((t.dropWhile Tk.ej).dropWhile Tk.sp)=false):
  Calls prog 164 #[.pointer (some ⟨b,0,none⟩)] w fun e w'=>e=.returned (.tuple #[.string (B (c::t.takeWhile Tk.ej)),.string (B ([]))])/\Rd w' b ((t.dropWhile Tk.ej).dropWhile Tk.sp)/\Kept w w' [b]:=by
 have v:=hId a;have D:=hId h;have L:=Tk.cd Tk.ej t;have K:=q9 Tk.ej t;have i:B [c]++B (t.takeWhile Tk.ej)=B (c::t.takeWhile Tk.ej):=PW [c] _;have l:=cI [c];have G:=cI (t.takeWhile Tk.ej);clear a h;rw[<-i];clear i;simp only[VG,List.length_nil]at l
 go_enter func164,ntmps164
 go_wp2_with fail
 refine(fp b 1 (c::t) w v.o (by simp)).mono ?_
 rintro e p⟨rfl,a,d⟩;have u:Hd (Rd p b t):=a;have C:=hId d;clear a d;go_wp2_with fail
 refine(gn [32,9,10,13,12,47,62,61] _).mono ?_
 rintro e o⟨rfl,g,f⟩;have F:=hId g;have s:=hId (u.o.cu f);have A:=hId (C.o.cu f);clear g f;go_wp2_with fail
 refine(iy _ b (Tk.ej) [32,9,10,13,12,47,62,61] (t) o (fun c=>Tk.LV c) s.o F.o (by omega)).mono ?_
 rintro e I⟨rfl,a,d⟩;have r:=hId a;have z:=hId (A.o.trans d);clear a d;go_wp2_with fail
 refine(dg [32,9,10,13,12] _).mono ?_
 rintro e n⟨rfl,g,f⟩;have E:=hId g;have q:=hId (r.o.cu f);have y:=hId (z.o.cu f);clear g f;go_wp2_with fail
 refine(eK _ b (Tk.sp) [32,9,10,13,12] (t.dropWhile Tk.ej) n (fun c=>VQ _ (Tk.LS c)) q.o E.o (by omega)).mono ?_
 rintro e m⟨rfl,a,d⟩;have k:=hId a;have x:=hId (y.o.trans d);clear a d;go_wp2_with fail
 refine(fq b _ [61] m k.o D.o).mono ?_
 rintro e H⟨rfl,rfl⟩;go_wp2
 go_ret2
 exact⟨rfl,k.o,x.o⟩
theorem qh(b:Nat)(c:UInt8)(t:List UInt8)(w:World)(i:Rd w b (c::t))(g:t.length<=19999):
  Calls prog 164 #[.pointer (some ⟨b,0,none⟩)] w fun e w'=>e=.returned (.tuple #[.string (B (c::t.takeWhile Tk.ej)),.string (B (Tk.value (t.dropWhile Tk.ej)).1)])/\Rd w' b (Tk.mX (t.dropWhile Tk.ej))/\Kept w w' [b]:=by
 by_cases h:∃a,(t.dropWhile Tk.ej).dropWhile Tk.sp=61::a
 ·obtain⟨a,h⟩:=h;obtain⟨f,d,_⟩:=Tk.KR _ a h;rw[f,d];exact Oe b c t a w i g h
 ·obtain⟨f,d,_⟩:=Tk.KQ (t.dropWhile Tk.ej) (fun a e=>h ⟨a,e⟩);rw[f,d];refine Od b c t w i g ?_
  cases k:([61]:List UInt8).isPrefixOf ((t.dropWhile Tk.ej).dropWhile Tk.sp)
  ·rfl
  ·exact absurd ((NN 61 _).1 k) h
