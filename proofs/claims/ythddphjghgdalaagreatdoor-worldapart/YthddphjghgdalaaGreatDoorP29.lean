/- A part. -/
import Derived.Test.YthddphjghgdalaaGreatDoorP28
set_option maxRecDepth 100000
set_option maxHeartbeats 1600000
namespace Go.Proofs.YthddphjghgdalaaGreatDoor
open Go.RowKit Go.Proofs.Tryz
theorem yB{B n:Nat}{v:Value}{xs:List Value}{l w w':World}(h:Lib.OwnBuf B 5 v n xs l w)(c:Below w.heap.size w w'):Lib.OwnBuf B 5 v n xs l w':=by
 obtain⟨⟨m,b⟩,o,k⟩:=h;refine⟨⟨m,?_⟩,o.trans (c.mono k),VX k c.size⟩
 rcases b with b|⟨g,f,e,p,b,d,i,a⟩
 ·exact .inl b
 ·exact .inr ⟨g,f,e,p,b,d,(c.block g (WE.1 i).1).trans i,a⟩
theorem NJ(l:List UInt8)(k:Nat)(a:List UInt8)(b:k<l.length)(h:a++Esc.rd (l.drop k)=Esc.rd l):
  (a++[(Esc.iF (l.drop k)).1])++Esc.rd (l.drop (k+(Esc.iF (l.drop k)).2))=Esc.rd l:=by
 rw[<-h,Esc.Ev (l.drop k) (by intro e;have:=VQ List.length e;simp at this;omega),List.drop_drop];simp
theorem NI(s:ByteArray)(w:World)(D:gS w)(X:s.size<=120000):
  Calls prog 174 #[.string s] w fun e w'=>e=.returned (.tuple #[.string ⟨(Esc.rd s.data.toList).toArray⟩,.int .i64 0])/\Below w.heap.size w w':=by
 have N:Hd (gS w):=D;have B:=D.pos;clear D;obtain⟨G,H,r,q,p⟩:=info_parts Tryz.Qf;go_enter func174,ntmps174
 go_wp2_with (at_make;refine wpList_make_own _ rfl _ _ 33 rfl w.heap.size 5 G (.int .u8 0) 1 underlying33 H r q _ _ _ s.size rfl rfl (by omega) ?_ ?_ ?_ ?_)
 ·rw[p];omega
 ·unfold maxLen;omega
 ·exact UZ _
 intro L m g;have d:=Kf m g;have O:Hd (Lib.OwnBuf w.heap.size 5 (.slice (some ⟨w.heap.size,0,none⟩) 0 s.size) 0 [] w L):=d;clear m g d;go_wp2
 go_loopw [4,5] (fun v i wr=>∃(k:Nat)(a:List UInt8),k<=s.size/\i=.int .i64 k/\a.length<=k/\a++Esc.rd (s.data.toList.drop k)=Esc.rd s.data.toList/\Lib.OwnBuf w.heap.size 5 v a.length (a.map b8) w wr) (fun _ i _=>s.size-(intOf i).toNat)
 case atStart=>exact⟨0,[],VN _,rfl,UZ _,by simp,O.o⟩
 case round=>
  obtain⟨k,a,Y,rfl,U,l,d⟩:=hrel;have C:Hd (Lib.OwnBuf w.heap.size 5 u4 a.length (a.map b8) w wr):=d;have I:Hd (a++Esc.rd (s.data.toList.drop k)=Esc.rd s.data.toList):=l;clear d l;by_cases W:k<s.size
  ·obtain⟨c,n,f⟩:∃c n,Esc.iF (s.data.toList.drop k)=(c,n):=⟨_,_,rfl⟩;have x:s.data.toList.length=s.size:=by simp
   have t:s.data.toList.drop k≠[]:=by intro e;have:=VQ List.length e;simp at this;omega
   have u:1<=n/\n<=6:=by have:=Esc.qX (s.data.toList.drop k);rw[f]at this;exact this
   have E:k+n<=s.size:=by have:=Esc.FP _ t;rw[f,XG,x]at this;simp at this;omega
   have b:=NJ s.data.toList k a (by omega) I.o;rw[f]at b;have h:=Qz (s.extract k s.size) wr (N.o.below C.o.2.1 B) (by simp;omega);unfold pR at h;rw[Lib.extract_to_end,f]at h;have Q:Hd (Calls prog 189 #[.string (s.extract k s.size)] wr fun e w'=>e=.returned (.tuple #[.int .u8 c.toNat,.int .i64 n])/\Below wr.heap.size wr w'):=h;have P:Hd ((a++[c])++Esc.rd (s.data.toList.drop (k+n))=Esc.rd s.data.toList):=b;clear h b f t x;obtain⟨u,V⟩:=u;go_wp2_with fail
   refine Q.o.mono ?_
   rintro e K⟨rfl,A⟩;have S:Hd (Lib.OwnBuf w.heap.size 5 u4 a.length (a.map b8) w K):=yB C.o A;clear A;go_wp2_with (at_builtin;refine Lib.wpList_append_byte rfl (.tmp 25) (.tmp 27) 33 rfl w.heap.size 5 G underlying33 H r q p u4 a.length (a.map b8) rfl w _ c.toNat S.o rfl ?_ ?_)
   ·omega
   ·intro M J z;have T:Hd (Lib.OwnBuf w.heap.size 5 M (a++[c]).length ((a++[c]).map b8) w J):=by
     rw[VI,WN];exact z
    clear z;go_wp2
    go_roundw
    case rel=>exact⟨k+n,a++[c],E,by go_num,by simp;omega,P.o,T.o⟩
    case measure=>simp[intOf];omega
  ·have y:s.data.toList.drop k=[]:=List.drop_of_length_le (by simp;omega);have F:=L4 C.o;have o:a=Esc.rd s.data.toList:=by have:=I.o;rw[y,Esc.KU]at this;simpa using this
   rw[o]at F;clear y o;go_wp2
   go_ret2
   exact⟨rfl,C.o.2.1⟩
def Rd (w:World) (b:Nat) (l:List UInt8):Prop:=Blk w b [.string (B l)] 161
theorem Rd.cell{w:World}{b:Nat}{l:List UInt8}(h:Rd w b l):w.cell? ⟨b,0,none⟩=some (.string (B l)):=Blk.cell h 0
theorem Rd.free{w:World}{b:Nat}{l:List UInt8}(h:Rd w b l):w.frozen? ⟨b,0,none⟩=false:=Blk.frozen h 0
theorem Rd.put{w:World}{b:Nat}{l:List UInt8}(h:Rd w b l)(r:List UInt8):Rd (w.setCell ⟨b,0,none⟩ (.string (B r))) b r:=Blk.set h 0 _
theorem Kept.of{w w':World}(h:Below w.heap.size w w')(S:List Nat):Kept w w' S:=⟨h.os,h.tape,h.output,h.size,fun k a _=>h.block k a⟩
theorem Kept.one(w:World)(b:Nat)(v:Value):Kept w (w.setCell ⟨b,0,none⟩ v) [b]:=(Kept.refl w [b]).setCell _ _ (.inl (UY.2 rfl))
theorem Rd.cu{w w':World}{b:Nat}{l:List UInt8}(h:Rd w b l)(a:Below w.heap.size w w'):Rd w' b l:=(a.block b h.lt).trans h
theorem Kept.cu{w a b:World}{S:List Nat}(h:Kept w a S)(c:Below a.heap.size a b):Kept w b S:=h.trans (Kept.of c S)
theorem PW(a b:List UInt8):B a++B b=B (a++b):=by
 apply iP
 rw[ByteArray.data_append,Array.toList_append];rfl
theorem bS(b:Nat)(l p:List UInt8)(w:World)(a:Rd w b l):
  Calls prog 130 #[.pointer (some ⟨b,0,none⟩),.string (B p)] w fun e w'=>e=.returned (.bool (p.isPrefixOf l))/\w'=w:=by
 have d:=a.cell;have H:Hd (∀w,Calls prog 159 #[.string (B l),.string (B p)] w fun e w'=>e=.returned (.bool (p.isPrefixOf l))/\w'=w):=fun w=>Tryz.strings_HasPrefix (B l) (B p) w;clear a;go_enter func130,ntmps130
 go_wp2_with fail
 refine(H.o _).mono ?_
 rintro e c⟨rfl,rfl⟩;go_wp2
 go_ret
 exact⟨rfl,rfl⟩
theorem fp(b n:Nat)(l:List UInt8)(w:World)(a:Rd w b l)(d:n<=l.length):
  Calls prog 131 #[.pointer (some ⟨b,0,none⟩),.int .i64 n] w fun e w'=>e=.returned (.string (B (l.take n)))/\Rd w' b (l.drop n)/\Kept w w' [b]:=by
 have k:=a.cell;have i:=a.free;have h:=hId a;have c:=cI l;have g:=tg (B l) n (by rw[c];exact d);have f:=oz (B l) n (by rw[c];exact d);rw[eO]at g f;clear a c;go_enter func131,ntmps131
 go_wp2
 go_ret
 exact⟨rfl,h.o.put _,Kept.one _ _ _⟩
theorem ie(b:Nat)(l p:List UInt8)(w:World)(c:Rd w b l)(a:p.isPrefixOf l=true):
  Calls prog 163 #[.pointer (some ⟨b,0,none⟩),.string (B p)] w fun e w'=>e=.returned (.bool true)/\Rd w' b (l.drop p.length)/\Kept w w' [b]:=by
 have k:Hd (Calls prog 130 #[.pointer (some ⟨b,0,none⟩),.string (B p)] w fun e w'=>e=.returned (.bool true)/\w'=w):=by
  have:=bS b l p w c;rw[a]at this;exact this
 have i:=hId (fp b p.length l w c (List.isPrefixOf_iff_prefix.1 a).length_le);have q:=cI p;clear c a;generalize l.take p.length=x at*;generalize l.drop p.length=y at*;generalize p.length=n at*;go_enter func163,ntmps163
 go_wp2_with fail
 refine k.o.mono ?_
 rintro e o⟨rfl,rfl⟩;go_wp2_with fail
 refine i.o.mono ?_
 rintro e m⟨rfl,f,d⟩;have h:=hId f;have g:=hId d;clear f d;go_wp2
 go_ret
 exact⟨rfl,h.o,g.o⟩
theorem fq(b:Nat)(l p:List UInt8)(w:World)(c:Rd w b l)(a:p.isPrefixOf l=false):
  Calls prog 163 #[.pointer (some ⟨b,0,none⟩),.string (B p)] w fun e w'=>e=.returned (.bool false)/\w'=w:=by
 have d:Hd (Calls prog 130 #[.pointer (some ⟨b,0,none⟩),.string (B p)] w fun e w'=>e=.returned (.bool false)/\w'=w):=by
  have:=bS b l p w c;rw[a]at this;exact this
 clear c a;go_enter func163,ntmps163
 go_wp2_with fail
 refine d.o.mono ?_
 rintro e f⟨rfl,rfl⟩;go_wp2
 go_ret
 exact⟨rfl,rfl⟩
theorem oX(c:UInt8)(w:World):Calls prog 176 #[.int .u8 c.toNat] w fun e w'=>e=.returned (.int .u8 (Lk.dm c).toNat)/\w'=w:=by
 by_cases d:65<=c.toNat
 ·by_cases b:c.toNat<=90
  ·have a:=zW c d b;rw[a];go_enter func176,ntmps176
   go_wp2
   go_ret
   exact⟨by rw[show((c.toNat+32:Nat):Int)=(c.toNat:Int)-65+97 by omega];rfl,rfl⟩
  ·rw[wO c (by omega)];go_enter func176,ntmps176
   go_wp2
   go_ret
   exact⟨rfl,rfl⟩
 ·rw[wO c (by omega)];go_enter func176,ntmps176
  go_wp2
  go_ret
  exact⟨rfl,rfl⟩
theorem yL(c:UInt8):Tk.letter c=(decide (97<=(Lk.dm c).toNat)&&decide ((Lk.dm c).toNat<=122)):=by
 have:=Tk.rY (fun c=>Tk.letter c==(decide (97<=(Lk.dm c).toNat)&&decide ((Lk.dm c).toNat<=122))) (by decide+kernel) c;simpa using this
theorem zD(c:UInt8)(w:World):Calls prog 160 #[.int .u8 c.toNat] w fun e w'=>e=.returned (.bool (Tk.letter c))/\w'=w:=by
 have a:=hId (oX c w);rw[yL];generalize (Lk.dm c).toNat=k at*;by_cases f:97<=k
 ·by_cases d:k<=122
  all_goals
   go_enter func160,ntmps160
   go_wp2_with fail
   refine a.o.mono ?_
   rintro e b⟨rfl,rfl⟩;go_wp2
   go_ret
   exact⟨by simp[f,d];omega,rfl⟩
 ·go_enter func160,ntmps160
  go_wp2_with fail
  refine a.o.mono ?_
  rintro e b⟨rfl,rfl⟩;go_wp2
  go_ret
  exact⟨by simp,rfl⟩
def UR (w:World):Prop:=∃ m,w.cell? ⟨3,0,none⟩=some (.int .i64 m)
structure Env (w:World) (b:Nat):Prop where
 uB:gS w
 mx:UR w
 low:4<b/\3<b
 size:b<=w.heap.size
theorem Env.kept{w w':World}{b c:Nat}(h:Env w b)(f:Kept w w' [c])(g:b<=c):Env w' b:=by
 have a:=f.below (B:=b) h.size (fun x d=>by rw[UY.1 d];exact g);obtain⟨m,e⟩:=h.mx;exact⟨h.uB.below a h.low.1,⟨m,(WC (w:=w) (a.block _ h.low.2)).trans e⟩,h.low,VX h.size a.size⟩
theorem Env.below{w w':World}{b:Nat}(h:Env w b)(a:Below w.heap.size w w'):Env w' b:=h.kept (Kept.of a [b]) (UZ _)
def wu (p l:List UInt8):Bool:=p.isPrefixOf l&&(match l.drop p.length with
 | []=>false
 | c :: _=>Tk.letter c)
theorem qK(b:Nat)(l p:List UInt8)(w:World)(m:Rd w b l):
  Calls prog 133 #[.pointer (some ⟨b,0,none⟩),.string (B p)] w fun e w'=>e=.returned (.bool (wu p l))/\w'=w:=by
 have v:=m.cell;have i:=bS b l p w m;clear m;have q:=cI l;have u:=cI p
 cases a:p.isPrefixOf l
 ·have f:wu p l=false:=by unfold wu;rw[a];rfl
  rw[a]at i;have d:=hId i;rw[f];clear i f a;go_enter func133,ntmps133
  go_wp2_with fail
  refine d.o.mono ?_
  rintro e k⟨rfl,rfl⟩;go_wp2
  go_ret
  exact⟨rfl,rfl⟩
 ·have t:=(List.isPrefixOf_iff_prefix.1 a).length_le;rw[a]at i;have d:=hId i;clear i;by_cases h:p.length<l.length
  ·have f:wu p l=Tk.letter l[p.length]:=by
    unfold wu;rw[a,VU h];rfl
   have s:Hd (Calls prog 160 #[.int .u8 l[p.length].toNat] w fun e w'=>e=.returned (.bool (Tk.letter l[p.length]))/\w'=w):=zD _ w;have o:=aq (B l) p.length (by rw[q];exact h);have g:(B l)[p.length]'(by rw[q];exact h)=l[p.length]:=by simp[B,WZ]
   rw[g]at o;rw[f];clear g f a;generalize l[p.length]=c at*;generalize Tk.letter c=r at*;generalize p.length=n at*;go_enter func133,ntmps133
   go_wp2_with fail
   refine d.o.mono ?_
   rintro e k⟨rfl,rfl⟩;go_wp2_with fail
   refine s.o.mono ?_
   rintro e k⟨rfl,rfl⟩;go_wp2
   go_ret
   exact⟨rfl,rfl⟩
  ·have f:wu p l=false:=by
    unfold wu;rw[a,WI (by omega)];rfl
   rw[f];clear f a;generalize p.length=n at*;go_enter func133,ntmps133
   go_wp2_with fail
   refine d.o.mono ?_
   rintro e k⟨rfl,rfl⟩;go_wp2
   go_ret
   exact⟨rfl,rfl⟩
theorem mu(b:Nat)(l p:List UInt8)(w:World)(a:Rd w b l)(g:Env w b)(s:l.length<=20000)(i:p≠[]):
  Calls prog 132 #[.pointer (some ⟨b,0,none⟩),.string (B p)] w fun e w'=>e=.returned (.tuple #[])/\Rd w' b ((Tk.after p l).getD [])/\Kept w w' [b]:=by
 have t:=a.cell;have h:=a.free;have k:=hId a;obtain⟨m,f⟩:=g.mx;have c:=Tryz.strings_Cut (B l) (B p) m w (by rw[cI];omega) f;rw[eO,eO,Tk.Il p i l]at c;change Calls prog 147 _ w fun e w'=>e=.returned (.tuple #[.string (B (Lib.cut l p).1),.string (B ((Tk.after p l).getD [])),.bool (Lib.cut l p).2.2])/\∃n,w'=w.drewN n at c;generalize (Lib.cut l p).1=x at*;generalize (Lib.cut l p).2.2=y at*;generalize (Tk.after p l).getD []=r at*;have d:=hId c;clear c a g f;go_enter func132,ntmps132
 go_wp2_with fail
 refine d.o.mono ?_
 rintro e q⟨rfl,n,rfl⟩;have o:(w.drewN n).frozen? ⟨b,0,none⟩=false:=h;go_wp2
 go_end0
 exact⟨rfl,Rd.put (w:=w.drewN n) k.o _,((Kept.refl w [b]).drewN n).trans (Kept.one _ _ _)⟩
theorem gn(s:List UInt8)(w:World):
  Calls prog 129 #[.string (B s)] w fun e w'=>e=.returned (.func (.func 158) #[] #[.pointer (some ⟨w.heap.size,0,none⟩)])/\Blk w' w.heap.size [.string (B s)] 9/\Below w.heap.size w w':=by
 go_enter func129,ntmps129
 go_wp2
 go_ret
 exact⟨rfl,Blk.new w [.string (B s)] 9,(VE _ _).alloc (UZ _) _⟩
theorem Hs(a:Nat)(s:List UInt8)(c:UInt8)(w:World)(d:Blk w a [.string (B s)] 9):
  Calls prog 158 #[.int .u8 c.toNat,.pointer (some ⟨a,0,none⟩)] w fun e w'=>e=.returned (.bool (Tk.yq s c))/\w'=w:=by
 have i:=ja d;have b:=Tryz.strings_IndexByte (B s) (c.toNat:Int) w;rw[show((c.toNat:Int)).toNat.toUInt8=c by simp,eO]at b;unfold Tk.yq;generalize Lib.indexByte s c=x at*;have g:=hId b;clear b d;by_cases f:0<=x
 all_goals
  go_enter func158,ntmps158
  go_wp2_with fail
  refine g.o.mono ?_
  rintro e h⟨rfl,rfl⟩;go_wp2
  go_ret
  exact⟨by simp[f],rfl⟩
theorem iy(a b:Nat)(p:UInt8->Bool)(s l:List UInt8)(w:World)(J:∀c,(Tk.yq s c)=!p c)(C:Rd w b l)(M:Blk w a [.string (B s)] 9)(W:l.length<=20000):
  Calls prog 128 #[.pointer (some ⟨b,0,none⟩),.func (.func 158) #[] #[.pointer (some ⟨a,0,none⟩)]] w fun e w'=>e=.returned (.string (B (l.takeWhile p)))/\Rd w' b (l.dropWhile p)/\Kept w w' [b]:=by
 have X:=C.cell;have I:=cI l;have U:=hId C;have V:Hd (∀c:UInt8,Calls prog 158 #[.int .u8 c.toNat,.pointer (some ⟨a,0,none⟩)] w fun e w'=>e=.returned (.bool (!p c))/\w'=w):=fun c=>by
  have:=Hs a s c w M;rw[J c]at this;exact this
 clear C M J;obtain⟨x,A⟩:∃x,l.takeWhile p=x:=⟨_,rfl⟩;obtain⟨y,z⟩:∃y,l.dropWhile p=y:=⟨_,rfl⟩;rw[A,z];have S:=hId A;have O:=hId z;clear A z;go_enter func128,ntmps128
 go_wp2
 go_loopw [5] (fun i wr=>∃k:Nat,k<=l.length/\i=.int .i64 k/\wr=w/\(l.drop k).dropWhile p=y) (fun i _=>l.length-(intOf i).toNat)
 case atStart=>exact⟨0,VN _,rfl,rfl,O.o⟩
 case round=>
  obtain⟨k,K,rfl,rfl,L⟩:=hrel;have D:=hId L;clear L;have T:Hd (l.drop k=y->Calls prog 131 #[.pointer (some ⟨b,0,none⟩),.int .i64 k] wr fun e w'=>e=.returned (.string (B x))/\Rd w' b y/\Kept wr w' [b]):=fun h=>by
   have t:=fp b k l wr U.o K;have N:=Tk.yy (l:=l) (p:=p) (i:=0) (k:=k) (VN _) K (by rw[h,XW,O.o]);rw[XW,Nat.sub_zero,S.o]at N;rw[N,h]at t;exact t
  by_cases f:k<l.length
  ·have G:=aq (B l) k (by rw[I];exact f);have d:(B l)[k]'(by rw[I];exact f)=l[k]:=by simp[B,WZ]
   rw[d]at G;have o:=V.o l[k]
   cases n:p l[k]
   ·have q:l.drop k=y:=by rw[<-D.o];exact(Tk.FW f n).symm
    have v:=T.o q;rw[n]at o;have m:Hd (Calls prog 158 #[.int .u8 l[k].toNat,.pointer (some ⟨a,0,none⟩)] wr fun e w'=>e=.returned (.bool true)/\w'=wr):=o;have g:=hId v;clear o v q n d;generalize l[k]=c at*;go_wp2_with fail
    refine m.o.mono ?_
    rintro e Q⟨rfl,rfl⟩;go_wp2_with fail
    refine g.o.mono ?_
    rintro e P⟨rfl,u,r⟩;have F:=hId u;have E:=hId r;clear u r;go_wp2
    go_ret
    exact⟨rfl,F.o,E.o⟩
   ·have H:=hId ((Tk.PI f n).trans D.o);rw[n]at o;have m:Hd (Calls prog 158 #[.int .u8 l[k].toNat,.pointer (some ⟨a,0,none⟩)] wr fun e w'=>e=.returned (.bool false)/\w'=wr):=o;clear o n d;generalize l[k]=c at*;go_wp2_with fail
    refine m.o.mono ?_
    rintro e Q⟨rfl,rfl⟩;go_wp2
    go_roundw
    case rel=>exact⟨k+1,by omega,by go_num,trivial,H.o⟩
    case measure=>simp[intOf];omega
  ·have q:l.drop k=y:=by rw[<-D.o];exact(Tk.Lz (by omega)).symm
   have v:=T.o q;have g:=hId v;clear v q;go_wp2_with fail
   refine g.o.mono ?_
   rintro e P⟨rfl,u,r⟩;have F:=hId u;have E:=hId r;clear u r;go_wp2
   go_ret
   exact⟨rfl,F.o,E.o⟩
theorem dg(s:List UInt8)(w:World):
  Calls prog 162 #[.string (B s)] w fun e w'=>e=.returned (.func (.func 177) #[] #[.pointer (some ⟨w.heap.size,0,none⟩)])/\Blk w' w.heap.size [.string (B s)] 9/\Below w.heap.size w w':=by
 go_enter func162,ntmps162
 go_wp2
 go_ret
 exact⟨rfl,Blk.new w [.string (B s)] 9,(VE _ _).alloc (UZ _) _⟩
theorem DC(a:Nat)(s:List UInt8)(c:UInt8)(w:World)(d:Blk w a [.string (B s)] 9):
  Calls prog 177 #[.int .u8 c.toNat,.pointer (some ⟨a,0,none⟩)] w fun e w'=>e=.returned (.bool (!Tk.yq s c))/\w'=w:=by
 have i:=ja d;have b:=Tryz.strings_IndexByte (B s) (c.toNat:Int) w;rw[show((c.toNat:Int)).toNat.toUInt8=c by simp,eO]at b;unfold Tk.yq;generalize Lib.indexByte s c=x at*;have g:=hId b;clear b d;by_cases f:0<=x
 all_goals
  go_enter func177,ntmps177
  go_wp2_with fail
  refine g.o.mono ?_
  rintro e h⟨rfl,rfl⟩;go_wp2
  go_ret
  exact⟨by simp[f],rfl⟩
theorem eK(a b:Nat)(p:UInt8->Bool)(s l:List UInt8)(w:World)(J:∀c,(!Tk.yq s c)=!p c)(C:Rd w b l)(M:Blk w a [.string (B s)] 9)(W:l.length<=20000):
  Calls prog 128 #[.pointer (some ⟨b,0,none⟩),.func (.func 177) #[] #[.pointer (some ⟨a,0,none⟩)]] w fun e w'=>e=.returned (.string (B (l.takeWhile p)))/\Rd w' b (l.dropWhile p)/\Kept w w' [b]:=by
 have X:=C.cell;have I:=cI l;have U:=hId C;have V:Hd (∀c:UInt8,Calls prog 177 #[.int .u8 c.toNat,.pointer (some ⟨a,0,none⟩)] w fun e w'=>e=.returned (.bool (!p c))/\w'=w):=fun c=>by
  have:=DC a s c w M;rw[J c]at this;exact this
 clear C M J;obtain⟨x,A⟩:∃x,l.takeWhile p=x:=⟨_,rfl⟩;obtain⟨y,z⟩:∃y,l.dropWhile p=y:=⟨_,rfl⟩;rw[A,z];have S:=hId A;have O:=hId z;clear A z;go_enter func128,ntmps128
 go_wp2
 go_loopw [5] (fun i wr=>∃k:Nat,k<=l.length/\i=.int .i64 k/\wr=w/\(l.drop k).dropWhile p=y) (fun i _=>l.length-(intOf i).toNat)
 case atStart=>exact⟨0,VN _,rfl,rfl,O.o⟩
 case round=>
  obtain⟨k,K,rfl,rfl,L⟩:=hrel;have D:=hId L;clear L;have T:Hd (l.drop k=y->Calls prog 131 #[.pointer (some ⟨b,0,none⟩),.int .i64 k] wr fun e w'=>e=.returned (.string (B x))/\Rd w' b y/\Kept wr w' [b]):=fun h=>by
   have t:=fp b k l wr U.o K;have N:=Tk.yy (l:=l) (p:=p) (i:=0) (k:=k) (VN _) K (by rw[h,XW,O.o]);rw[XW,Nat.sub_zero,S.o]at N;rw[N,h]at t;exact t
  by_cases f:k<l.length
  ·have G:=aq (B l) k (by rw[I];exact f);have d:(B l)[k]'(by rw[I];exact f)=l[k]:=by simp[B,WZ]
   rw[d]at G;have o:=V.o l[k]
   cases n:p l[k]
   ·have q:l.drop k=y:=by rw[<-D.o];exact(Tk.FW f n).symm
    have v:=T.o q;rw[n]at o;have m:Hd (Calls prog 177 #[.int .u8 l[k].toNat,.pointer (some ⟨a,0,none⟩)] wr fun e w'=>e=.returned (.bool true)/\w'=wr):=o;have g:=hId v;clear o v q n d;generalize l[k]=c at*;go_wp2_with fail
    refine m.o.mono ?_
    rintro e Q⟨rfl,rfl⟩;go_wp2_with fail
    refine g.o.mono ?_
    rintro e P⟨rfl,u,r⟩;have F:=hId u;have E:=hId r;clear u r;go_wp2
    go_ret
    exact⟨rfl,F.o,E.o⟩
   ·have H:=hId ((Tk.PI f n).trans D.o);rw[n]at o;have m:Hd (Calls prog 177 #[.int .u8 l[k].toNat,.pointer (some ⟨a,0,none⟩)] wr fun e w'=>e=.returned (.bool false)/\w'=wr):=o;clear o n d;generalize l[k]=c at*;go_wp2_with fail
    refine m.o.mono ?_
    rintro e Q⟨rfl,rfl⟩;go_wp2
    go_roundw
    case rel=>exact⟨k+1,by omega,by go_num,trivial,H.o⟩
    case measure=>simp[intOf];omega
  ·have q:l.drop k=y:=by rw[<-D.o];exact(Tk.Lz (by omega)).symm
   have v:=T.o q;have g:=hId v;clear v q;go_wp2_with fail
   refine g.o.mono ?_
   rintro e P⟨rfl,u,r⟩;have F:=hId u;have E:=hId r;clear u r;go_wp2
   go_ret
   exact⟨rfl,F.o,E.o⟩
def tQ (k:Tk):List Value:=[.int .i64 k.kind,.string (B k.name),.string (B k.text),.string (B k.kG)]
def wC (k:Tk):Value:=.agg #[.int .i64 k.kind,.string (B k.name),.string (B k.text),.string (B k.kG)]
def eH (l:List Tk):List Value:=l.flatMap tQ
theorem pf(k:Tk)(l:List Tk):eH (k::l)=.int .i64 k.kind::.string (B k.name)::.string (B k.text)::.string (B k.kG)::eH l:=rfl
theorem zE(l a:List Tk):eH (l++a)=eH l++eH a:=List.flatMap_append
theorem ri(k:Tk):eH [k]=tQ k:=by simp[eH]
theorem rk:∀l:List Tk,(eH l).length=l.length*4
 |[]=>rfl
 |k::l=>by rw[pf];simp only[VG];rw[rk l];omega
theorem tP:∀(l:List Tk)(i:Nat)(h:i<l.length),(eH l)[i*4]?=some (.int .i64 l[i].kind)/\(eH l)[i*4+1]?=some (.string (B l[i].name))/\(eH l)[i*4+2]?=some (.string (B l[i].text))/\(eH l)[i*4+3]?=some (.string (B l[i].kG))
 |[],_,h=>by simp at h
 |k::l,0,_=>⟨rfl,rfl,rfl,rfl⟩
 |k::l,i+1,h=>by
  have:=tP l i (by simpa using h);rw[pf,show(i+1)*4=i*4+1+1+1+1 by omega];exact this
theorem sN(l:List Tk):∀u∈eH l,u.oneCell'=true:=by
 intro u a;obtain⟨k,_,h⟩:=List.mem_flatMap.1 a;simp only[tQ,WG,List.not_mem_nil,or_false]at h
 rcases h with rfl|rfl|rfl|rfl<;>rfl
abbrev UO (w:World) (ao:Option Addr) (n cap:Nat) (l:List Tk):Prop:=Row w ao n cap 4 (eH l)
theorem Row.eA{w:World}{b:Option Addr}{n a:Nat}{l:List Tk}(h:UO w b n a l):l.length=n:=by
 have:=h.len;rw[rk]at this;omega
theorem Row.tok{w:World}{f:Option Addr}{n d:Nat}{l:List Tk}(h:UO w f n d l)(g:n≠0):∃b a,f=some ⟨b,a,none⟩/\∀i(e:i<l.length),
  w.cell? ⟨b,a+i*4,none⟩=some (.int .i64 l[i].kind)/\w.cell? ⟨b,a+i*4+1,none⟩=some (.string (B l[i].name))/\w.cell? ⟨b,a+i*4+2,none⟩=some (.string (B l[i].text))/\w.cell? ⟨b,a+i*4+3,none⟩=some (.string (B l[i].kG)):=by
 obtain⟨b,a,k,c⟩:=h.bH g;refine⟨b,a,k,fun i e=>?_⟩
 obtain⟨q,p,o,m⟩:=tP l i e;exact⟨c _ _ q,by rw[WX];exact c _ _ p,by rw[WX];exact c _ _ o,by rw[WX];exact c _ _ m⟩
abbrev Mc (w:World) (ao:Option Addr) (n cap:Nat) (l:List UInt8):Prop:=Row w ao n cap 1 (l.map b8)
theorem Row.bytes{w:World}{b:Option Addr}{n a:Nat}{l:List UInt8}(h:Mc w b n a l):l.length=n:=by
 have:=h.len;rw[VH]at this;omega
theorem Row.byte{w:World}{e:Option Addr}{n c:Nat}{l:List UInt8}(h:Mc w e n c l)(f:n≠0):∃b a,e=some ⟨b,a,none⟩/\∀i(d:i<l.length),w.cell? ⟨b,a+i,none⟩=some (.int .u8 l[i].toNat):=by
 obtain⟨b,a,g,k⟩:=h.bH f;exact⟨b,a,g,fun i d=>k i _ (by simp[b8,VM d])⟩
theorem L5{w:World}{g:Option Addr}{n c:Nat}{l:List UInt8}(h:Mc w g n c l):(convert 33 9 (.slice g n c)).run prog w=.ok (.string (B l)) w:=by
 have k:=h.bytes
 cases g with
 |none=>
  have i:n=0:=Nat.eq_zero_of_not_pos fun i=>by
   obtain⟨b,d,f,_⟩:=h.bH (by omega)
   cases f
  subst i;obtain rfl:l=[]:=VS.1 k;exact run_convert_bytes_nil w 33 5 underlying33 underlying5 0 c 9 underlying9
 |some a=>
  rw[<-k];refine run_convert_bytes_back w 33 9 5 a c l underlying33 underlying5 underlying9 (fun j m=>?_)
  obtain⟨b,d,f,o⟩:=h.byte (by omega)
  cases f
  have e:(⟨b,d,none⟩:Addr).add j=⟨b,d+j,none⟩:=by unfold Addr.add;split<;>simp_all
  rw[e];exact o j m
def SD (b off cap i:Nat):Option Addr:=if cap=i then some ⟨b,off,none⟩ else some ⟨b,off+i,none⟩
theorem Row.part{w:World}{b a n c:Nat}{l:List UInt8}(h:Mc w (some ⟨b,a,none⟩) n c l)(i k:Nat)(s:i<=k)(r:k<=n):Mc w (SD b a c i) (k-i) (c-i) ((l.drop i).take (k-i)):=by
 have q:=h.bytes;have o:=h.room;have t:=h.fg;refine⟨?_,by omega,by omega,fun p=>⟨b,a+i,?_,fun j u d=>?_⟩⟩
 ·simp
  omega
 ·unfold SD;rw[VD (by omega)]
 ·obtain⟨v,e,g,m⟩:=h.bH (by omega)
  cases g
  have f:j<k-i:=by
   have:=(VO.1 d).1;simp at this
   omega
  rw[WX];refine m (i+j) u ?_
  rw[<-d];simp[f,List.getElem?_drop]
namespace Tk
def alike (x y:Tk):Bool:=(x.kind == y.kind)&&((x.name == y.name)&&((x.text == y.text)&&(x.kG == y.kG)))
def same:List Tk->List Tk->Bool
 | [],[]=>true
 | x :: s,y :: t=>alike x y&&same s t
 | _,_=>false
theorem ES(x:Tk):alike x x=true:=by unfold alike;simp
theorem rC:∀l:List Tk,same l l=true
 |[]=>rfl
 |x::t=>by rw[same,ES,rC t];rfl
theorem nA:∀(s t:List Tk),¬s.length=t.length->same s t=false
 |[],[],h=>absurd rfl h
 |[],_::_,_=>rfl
 |_::_,[],_=>rfl
 |x::s,y::t,h=>by
  rw[same,nA s t (by simpa using h),Bool.and_false]
theorem rB(s t:List Tk)(k:Nat)(h:k<s.length)(a:k<t.length):same (s.drop k) (t.drop k)=(alike s[k] t[k]&&same (s.drop (k+1)) (t.drop (k+1))):=by
 rw[VU h,VU a,same]
end Tk
theorem jn(l:List UInt8):(B l).toList=l:=by
 have h:=Lib.extract_toList (B l) 0 (B l).size;have e:(B l).extract 0 (B l).size=B l:=by
  apply iP
  rw[Lib.extract_data,cI];simp[eO]
 rw[e]at h;rw[h,cI];simp[eO]
