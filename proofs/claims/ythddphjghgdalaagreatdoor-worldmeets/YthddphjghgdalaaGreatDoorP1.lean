/- A part. -/
import Derived.Test.YthddphjghgdalaaGreatDoorP0
import Derived.WalkSpells
import Derived.Deep.RegionLaw
import Derived.Laws.BytesArg
import Derived.Deep.RegionHeld3
set_option maxRecDepth 1000000
set_option maxHeartbeats 8000000
namespace Go.Proofs.YthddphjghgdalaaGreatDoor
open Go.RowKit Go.Proofs.Tryz
def Iter (w:World) (s:ByteArray) (i:Nat) (wx:World):Prop:=wx.heap[w.heap.size]?=some (.stringIter s i)/\Below w.heap.size w wx
theorem Iter.start(w:World)(s:ByteArray):Iter w s 0 (w.iter s 0):=⟨World.iter_heap w s 0,(VE _ _).alloc (UZ _) _⟩
theorem Iter.next{w:World}{s:ByteArray}{i:Nat}{a:World}(h:Iter w s i a)(j:Nat):Iter w s j (a.iterAt w.heap.size s j):=
 ⟨Lib.iterAt_heap a w.heap.size s i j h.1,Lib.below_iterAt h.2 (UZ _) s j⟩
theorem Iter.below{w:World}{s:ByteArray}{i:Nat}{a b:World}(h:Iter w s i a)(c:Below a.heap.size a b):Iter w s i b:=
 ⟨(c.block _ (WE.1 h.1).1).trans h.1,h.2.trans (c.mono h.2.size)⟩
theorem DD{s a:ByteArray}(l:me a){i n:Nat}(h:Lib.NoAny s.data.toList a.data.toList i)(k:∀j,i<=j->j<i+n->∃d:j<s.size,128<=(s[j]'d).toNat):Lib.NoAny s.data.toList a.data.toList (i+n):=by
 intro j b d e;by_cases g:j<i
 ·exact h j b g e
 ·obtain⟨f,c⟩:=k j (by omega) d;rw[Lib.data_getElem? s j f]at e
  cases e
  have:=xV l _ c 0;simpa using this
theorem LX(s a:ByteArray)(w:World)(h2:2<=a.size)(Z:s.size<=8)(K:me a):
  Calls prog 170 #[.string s,.string a] w fun e w'=>e=.returned (.int .i64 (Lib.indexAny s.data.toList a.data.toList))/\Below w.heap.size w w':=by
 have M:=hId K;clear K;have N:a.toList.isEmpty=false:=by
  rw[Lib.toList_data]
  cases h:a.data.toList with
  |nil=>have:=Lib.size_eq a;rw[h,List.length_nil]at this;omega
  |cons _ _=>rfl
 have T:((a.size:Int)==1)=false:=beq_eq_false_iff_ne.2 (by omega);have G:decide ((8:Int)<(s.size:Int))=false:=VZ (by omega);go_enter func170,ntmps170
 go_wp2_with (go_at_call 185;refine(Tryz.strings_shouldUseASCIISet _ _).mono ?_;rintro e w'⟨rfl,A⟩;rw[A,G])
 go_loopg [9,10] s.size (fun g _ _ O=>∃i:Nat,i+g=s.size/\Iter w s i O/\Lib.NoAny s.data.toList a.data.toList i)
 case atStart=>exact⟨0,by omega,Iter.start w s,Lib.NoAny.zero _ _⟩
 case round=>
  obtain⟨i,V,C,B⟩:=hrel;have E:=hId B;have y:=hId C;clear B C;by_cases m:i<s.size
  ·obtain⟨x,v⟩:∃x:UInt8,s[i]'m=x:=⟨_,rfl⟩;have p:s.data.toList[i]?=some x:=by rw[<-v];exact Lib.data_getElem? s i m
   by_cases u:x.toNat<128
   ·have d:=fun z=>Lib.run_next_ascii_at (P:=prog) wr w.heap.size s i z y.o.1 m (by rw[v];exact u);rw[v]at d;obtain⟨o,c⟩:∃o,wr.iterAt w.heap.size s (i+1)=o:=⟨_,rfl⟩;rw[c]at d;have F:Hd (Iter w s (i+1) o):=by rw[<-c];exact y.o.next (i+1)
    have L:=hId p;clear p v c;have b:=Lib.contains_iff_indexByte a.data.toList x;have l:((x.toNat:Int)).toNat.toUInt8=x:=by simp
    cases f:a.data.toList.contains x
    ·rw[f]at b;have U:=of_decide_eq_false b.symm;have t:=hId f;clear b f;go_wp2_with (go_at_call 184;refine(Tryz.strings_IndexRune_ascii _ _ _ (by omega) (by omega)).mono ?_;rintro e w'⟨rfl,A⟩;rw[A,l])
     go_roundg (s.size-(i+1))
     case measure=>omega
     case rel=>exact⟨i+1,by omega,F.o,E.o.succ L.o t.o⟩
    ·rw[f]at b;have W:=XS b.symm;have t:=hId f;clear b f;go_wp2_with (go_at_call 184;refine(Tryz.strings_IndexRune_ascii _ _ _ (by omega) (by omega)).mono ?_;rintro e w'⟨rfl,A⟩;rw[A,l])
     go_ret
     exact⟨by rw[Lib.indexAny_hit E.o L.o t.o];rfl,F.o.2⟩
   ·have q:128<=(s[i]'m).toNat:=by rw[v];omega
    have k:=Au s i m q;obtain⟨H,I⟩:=decode_high s i m q;have d:=fun z=>Lib.run_next_any_at (P:=prog) wr w.heap.size s i z y.o.1 m;obtain⟨r,n,J⟩:∃r n,Utf8.decode s i=(r,n):=⟨_,_,rfl⟩;rw[J]at d k H I;simp only at d k H I
    obtain⟨o,c⟩:∃o,wr.iterAt w.heap.size s (i+n)=o:=⟨_,rfl⟩;rw[c]at d;have F:Hd (Iter w s (i+n) o):=by rw[<-c];exact y.o.next (i+n)
    have S:=hId (DD M.o E.o k);have f:i+n<=s.size:=by
     obtain⟨Y,_⟩:=k (i+(n-1)) (by omega) (by omega);omega
    clear k J c q p v;go_wp2_with fail
    refine(QX a r _ M.o (by omega)).mono ?_
    rintro e X⟨rfl,D⟩;have Q:=hId (F.o.below D);clear D;go_wp2
    go_roundg (s.size-(i+n))
    case measure=>omega
    case rel=>exact⟨i+n,by omega,Q.o,S.o⟩
  ·have d:=fun z=>Lib.run_next_end_at (P:=prog) wr w.heap.size s i z y.o.1 m;go_wp2
   go_ret
   exact⟨by rw[Lib.indexAny_none (by rw[<-Lib.size_eq,show s.size=i by omega];exact E.o)];rfl,y.o.2⟩
theorem Lj:(prog.info? 228).map (fun i=>(i.zero,i.size))=some (some (.agg (Array.replicate 256 (.bool false))),256):=by kernel_rfl
def Lw (w:World) (cs:List UInt8):World:=(w.alloc (.cells (Lib.setCells cs) 228)).alloc (.cells (Lib.setCells cs) 228)
theorem Lw.below(w:World)(cs:List UInt8):Below w.heap.size w (Lw w cs):=((VE _ _).alloc (UZ _) _).alloc (by simp) _
theorem Lw.cell(w:World)(cs:List UInt8)(x:UInt8):(Lw w cs).cell? ⟨w.heap.size+1,x.toNat,none⟩=some (.bool (cs.contains x)):=by
 unfold Lw;rw[World.cell?_alloc_at _ _ _ _ (by simp),Lib.setCells_at]
theorem Lw.store(w:World)(cs:List UInt8):(storeCells ⟨w.heap.size+1,0,none⟩ (Lib.setCells cs).toList 0).run prog ((w.alloc (.cells (Lib.setCells cs) 228)).alloc (.cells (Array.replicate 256 (.bool false)) 228))=.ok () (Lw w cs):=by
 have:=run_storeCells_new (P:=prog) (w.alloc (.cells (Lib.setCells cs) 228)) 228 (Array.replicate 256 (.bool false)) (Lib.setCells cs) (by rw[Lib.setCells_size];exact(zero_of_info Lj).2) (by rw[Lib.setCells_size,Array.size_replicate]) (Lib.setCells_one _);simpa[Lw]using this
theorem Hv{s:ByteArray}(h:1<=s.size):s.toList.isEmpty=false:=by
 rw[Lib.toList_data]
 cases a:s.data.toList with
 |nil=>have:=Lib.size_eq s;rw[a,List.length_nil]at this;omega
 |cons _ _=>rfl
theorem OC(s a:ByteArray)(w:World)(M:2<=a.size)(L:a.size<=100)(K:8<s.size)(I:s.size<=9223372036854775807)(n:me a):
  Calls prog 170 #[.string s,.string a] w fun e w'=>e=.returned (.int .i64 (Lib.indexAny s.data.toList a.data.toList))/\Below w.heap.size w w':=by
 obtain⟨z,t⟩:∃z,Lib.indexAny s.data.toList a.data.toList=z:=⟨_,rfl⟩;rw[t];have A:=hId t;have G:=hId (Tryz.strings_makeASCIISet (zero_of_info Lj).1 a w (by omega) n);have B:Hd (Below w.heap.size w (Lw w a.data.toList)):=Lw.below w _;have H:Hd (∀x:UInt8,(Lw w a.data.toList).cell? ⟨w.heap.size+1,x.toNat,none⟩=some (.bool (a.data.toList.contains x))):=Lw.cell w _;have v:=Lw.store w a.data.toList;have f:=Lib.setCells_size a.data.toList;have m:=(zero_of_info Lj).1;have r:=Hv (s:=a) (by omega);have D:((a.size:Int)==1)=false:=beq_eq_false_iff_ne.2 (by omega);have d:decide ((8:Int)<(s.size:Int))=true:=WL (by omega);clear n t;go_enter func170,ntmps170
 go_wp2_with fail
 refine(Tryz.strings_shouldUseASCIISet _ _).mono ?_
 rintro e w'⟨rfl,g⟩;rw[g,d];go_wp2_with fail
 refine G.o.mono ?_
 rintro e w'⟨rfl,g⟩;rw[g];go_wp2
 clear v f m;generalize Lw w a.data.toList=F at*;go_loopw [8] (fun i E=>∃k:Nat,k<=s.size/\i=.int .i64 k/\E=F/\Lib.NoAny s.data.toList a.data.toList k) (fun i _=>s.size-(intOf i).toNat)
 case atStart=>exact⟨0,VN _,rfl,rfl,Lib.NoAny.zero _ _⟩
 case round=>
  obtain⟨k,J,rfl,rfl,p⟩:=hrel;have u:=hId p;clear p;by_cases h:k<s.size
  ·obtain⟨c,n⟩:∃c:UInt8,s[k]'h=c:=⟨_,rfl⟩;have y:=aq s k h;rw[n]at y;have C:Hd (s.data.toList[k]?=some c):=by show _=_;rw[<-n];exact Lib.data_getElem? s k h
   have b:=H.o c;clear n
   cases l:a.data.toList.contains c<;>rw[l]at b
   ·have o:=hId (u.o.succ C.o l);go_wp2_with (go_at_call 187;refine(Tryz.asciiSet_contains _ c _ _ b).mono ?_;rintro e w'⟨rfl,g⟩;rw[g])
    go_roundw
    case rel=>exact⟨k+1,by omega,by go_num,by first|rfl|exact trivial,o.o⟩
    case measure=>simp[intOf];omega
   ·have o:Hd (z=k):=by show _=_;rw[<-A.o];exact Lib.indexAny_hit u.o C.o l
    go_wp2_with (go_at_call 187;refine(Tryz.asciiSet_contains _ c _ _ b).mono ?_;rintro e w'⟨rfl,g⟩;rw[g])
    go_ret
    exact⟨by rw[o.o];rfl,B.o⟩
  ·have q:k=s.data.toList.length:=by rw[<-Lib.size_eq];omega
   have o:Hd (z=-1):=by show _=_;rw[<-A.o];exact Lib.indexAny_none (q▸u.o)
   clear q;go_wp2
   go_ret
   exact⟨by rw[o.o];rfl,B.o⟩
theorem Qk(s a:ByteArray)(w:World)(c:2<=a.size)(g:a.size<=100)(d:s.size<=9223372036854775807)(b:me a):
  Calls prog 170 #[.string s,.string a] w fun e w'=>e=.returned (.int .i64 (Lib.indexAny s.data.toList a.data.toList))/\Below w.heap.size w w':=by
 by_cases f:s.size<=8
 ·exact LX s a w c f b
 ·exact OC s a w c g (by omega) d b
theorem ME(s a:ByteArray)(w:World)(b:Bool)(i:2<=a.size)(h:a.size<=100)(g:s.size<=9223372036854775807)(d:me a)(f:Lib.containsAny s.data.toList a.data.toList=b):
  Calls prog 148 #[.string s,.string a] w fun e w'=>e=.returned (.bool b)/\Below w.heap.size w w':=by
 have k:=hId (Qk s a w i h g d);have l:Hd (decide (0<=Lib.indexAny s.data.toList a.data.toList)=b):=f;clear f d;generalize Lib.indexAny s.data.toList a.data.toList=z at*;go_enter func148,ntmps148
 go_wp2_with fail
 refine k.o.mono ?_
 rintro e n⟨rfl,c⟩;have m:=hId c;clear c;go_wp2
 go_ret
 exact⟨by rw[<-l.o];rfl,m.o⟩
theorem Tt(s:ByteArray)(w:World)(o:s.size<=9223372036854775807):
  Calls prog 169 #[.string s,.string ⟨#[58]⟩] w fun e w'=>(∃t,e=.returned (.tuple #[.string (if s.data.toList.contains 58 then B (Lk.head s.data.toList)else s),.string t,.bool (s.data.toList.contains 58)]))/\∃n,w'=w.drewN n:=by
 rcases Lk.IT s.data.toList with a|⟨i,a⟩
 ·have c:=Lk.Na _ a;rw[VD (by rw[c];exact WB),c];go_enter func169,ntmps169
  go_wp2_with (go_at_call 183;refine(Tryz.stringslite_Index_one _ _ _).mono ?_;rintro e w'⟨rfl,rfl⟩;rw[a])
  go_ret3
  exact⟨⟨_,rfl⟩,0,rfl⟩
 ·obtain⟨k,h,g⟩:=Lk.FL _ i a;rw[iO]at k;rw[VC g,g];have f:=tg s i (by omega);rw[h]at f;clear h;have d:=oz s (i+1) (by omega);have p:(0:Int)<=↑i:=by omega
  have l:(ByteArray.mk #[58]).size=1:=rfl;have b:((i+1:Nat):Int)=(i:Int)+1:=by omega
  rw[b]at d;have m:IntKind.i64.wrap ((i:Int)+1)=(i:Int)+1:=IntWalk.i64_in _ ⟨by omega,by omega⟩;go_enter func169,ntmps169
  go_wp2_with (go_at_call 183;refine(Tryz.stringslite_Index_one _ _ _).mono ?_;rintro e w'⟨rfl,rfl⟩;rw[a])
  go_region
  go_wp2
  go_ret3
  exact⟨⟨_,rfl⟩,1,rfl⟩
theorem T9(s:ByteArray)(w:World)(a:s.size<=9223372036854775807):
  Calls prog 147 #[.string s,.string ⟨#[58]⟩] w fun e w'=>(∃t,e=.returned (.tuple #[.string (if s.data.toList.contains 58 then B (Lk.head s.data.toList)else s),.string t,.bool (s.data.toList.contains 58)]))/\Below w.heap.size w w':=by
 have H:=Tt s w a;generalize (if s.data.toList.contains 58=true then B (Lk.head s.data.toList)else s)=h at*;generalize s.data.toList.contains 58=f at*;go_enter func147,ntmps147
 go_wp2_with fail
 refine H.mono ?_
 rintro e b⟨⟨t,rfl⟩,n,rfl⟩;go_wp2
 go_ret3
 exact⟨⟨_,rfl⟩,⟨rfl,rfl,rfl,UZ _,fun _ _=>rfl⟩⟩
theorem Gz(s:ByteArray)(w:World)(H:s.size<=9223372036854775807):
  Calls prog 149 #[.string s] w fun e w'=>e=.returned (.string (B (Lk.small s.data.toList)))/\Below w.heap.size w w':=by
 obtain⟨u,d⟩:∃u,Lk.small s.data.toList=u:=⟨_,rfl⟩;rw[d];have D:=hId d;clear d;have r:=Lib.run_convert_string_bytes (P:=prog) w 9 33 5 s underlying9 underlying33 underlying5;have C:Hd (kK w.heap.size w (Lib.bytesWorld w 5 s) (sT s.data.toList 0)):=by rw[zX];exact kK.start w s
 generalize Lib.bytesWorld w 5 s=G at*;generalize grownCap w s.size 0 5=t at*;go_enter func149,ntmps149
 go_wp2
 go_loopw [10] (fun i wr=>∃k:Nat,k<=s.size/\i=.int .i64 k/\kK w.heap.size w wr (sT s.data.toList k)) (fun i _=>s.size-(intOf i).toNat)
 case atStart=>exact⟨0,VN _,rfl,C.o⟩
 case round=>
  obtain⟨k,I,rfl,o⟩:=hrel;have m:=hId o;clear o r;by_cases q:k<s.size
  ·have a:k<s.data.toList.length:=by rw[iO];exact q
   have f:k<(sT s.data.toList k).length:=by rw[xx];exact a
   obtain⟨c,p⟩:∃c:UInt8,s.data.toList[k]=c:=⟨_,rfl⟩;have l:=m.o.cell k f;rw[Cg _ _ a,p]at l;have F:=m.o.frozen k f;have z:Hd (Lk.dm c=c->kK w.heap.size w wr (sT s.data.toList (k+1))):=fun h=>by rw[KD _ _ a (by rw[p];exact h)];exact m.o
   have E:Hd (kK w.heap.size w (wr.setCell ⟨w.heap.size,k,none⟩ (.int .u8 (Lk.dm c).toNat)) (sT s.data.toList (k+1))):=by
    rw[tf _ _ a,p];exact m.o.set k _
   clear p f a;by_cases x:65<=c.toNat
   ·by_cases v:c.toNat<=90
    ·have b:(Lk.dm c).toNat=c.toNat+32:=by
      unfold Lk.dm;rw[VC ⟨by rw[XH];exact x,by rw[XH];exact v⟩];rw[UInt8.toNat_add];show(c.toNat+32)%256=_
      omega
     go_wp2
     go_roundw
     case rel=>
      refine⟨k+1,by omega,by go_num,?_⟩
      have:=E.o;rw[b]at this;rw[show((c.toNat:Int)-65+97)=((c.toNat+32:Nat):Int)by omega];exact this
     case measure=>simp[intOf];omega
    ·have b:Lk.dm c=c:=by
      unfold Lk.dm;rw[VD (fun h=>v (by have:=h.2;rw[XH]at this;exact this))]
     go_wp2
     go_roundw
     case rel=>exact⟨k+1,by omega,by go_num,z.o b⟩
     case measure=>simp[intOf];omega
   ·have b:Lk.dm c=c:=by
     unfold Lk.dm;rw[VD (fun h=>x (by have:=h.1;rw[XH]at this;exact this))]
    go_wp2
    go_roundw
    case rel=>exact⟨k+1,by omega,by go_num,z.o b⟩
    case measure=>simp[intOf];omega
  ·have n:(sT s.data.toList k)=Lk.small s.data.toList:=Eo _ _ (by rw[iO];omega);have y:Hd (kK w.heap.size w wr (Lk.small s.data.toList)):=by rw[<-n];exact m.o
   have g:=run_convert_bytes_back (P:=prog) wr 33 9 5 ⟨w.heap.size,0,none⟩ t (Lk.small s.data.toList) underlying33 underlying5 underlying9 (fun j A=>by
    rw[show(⟨w.heap.size,0,none⟩:Addr).add j=⟨w.heap.size,j,none⟩by cases j<;>simp[Addr.add]]
    exact y.o.cell j A)
   rw[Lk.wP,iO]at g;change _=Result.ok (Value.string (B (Lk.small s.data.toList))) _ at g;rw[D.o]at g;clear n;go_wp2
   go_ret
   exact⟨rfl,y.o.below⟩
theorem uA:me ⟨#[47,63,35]⟩:=by
 intro j b h;match j,h with
 |0,h=>cases h;decide
 |1,h=>cases h;decide
 |2,h=>cases h;decide
 |j+3,h=>simp at h
theorem Cr(s:ByteArray)(w:World)(v:s.size<=9223372036854775807):
  Calls prog 122 #[.string s] w fun e w'=>e=.returned (.string (B (Lk.scheme s.data.toList)))/\Below w.heap.size w w':=by
 have l:=T9 s w v;have k:=Lk.Lb s.data.toList;rw[iO]at k;have d:(B (Lk.head s.data.toList)).size<=9223372036854775807:=by rw[cI];omega
 cases g:s.data.toList.contains 58
 ·have a:Lk.scheme s.data.toList=[]:=by unfold Lk.scheme;rw[g];rfl
  rw[a];rw[g,VD WB]at l;have n:=hId l;clear l;clear a;go_enter func122,ntmps122
  go_wp2_with fail
  refine n.o.mono ?_
  rintro e q⟨⟨t,rfl⟩,b⟩;have i:=hId b;clear b;go_wp2
  go_ret
  exact⟨rfl,i.o⟩
 ·rw[g,VC rfl]at l;have n:=hId l;clear l
  cases c:Lib.containsAny (Lk.head s.data.toList) Lk.path
  ·have a:Lk.scheme s.data.toList=Lk.small (Lk.head s.data.toList):=by unfold Lk.scheme;rw[g,c];rfl
   rw[a];have p:=hId (fun w=>ME _ _ w false (by decide) (by decide) d uA c);have x:Hd (∀w,Calls prog 149 #[.string (B (Lk.head s.data.toList))] w fun e w'=>e=.returned (.string (B (Lk.small (Lk.head s.data.toList))))/\Below w.heap.size w w'):=fun w=>Gz _ w d;clear a c g k d;generalize B (Lk.head s.data.toList)=h at*;generalize B (Lk.small (Lk.head s.data.toList))=r at*;go_enter func122,ntmps122
   go_wp2_with fail
   refine n.o.mono ?_
   rintro e q⟨⟨t,rfl⟩,b⟩;have i:=hId b;clear b;go_wp2_with fail
   refine(p.o _).mono ?_
   rintro e u⟨rfl,f⟩;have o:=hId (i.o.trans (f.mono i.o.size));clear f;go_wp2_with fail
   refine(x.o _).mono ?_
   rintro e z⟨rfl,m⟩;have y:=hId (o.o.trans (m.mono o.o.size));clear m;go_wp2
   go_ret
   exact⟨rfl,y.o⟩
  ·have a:Lk.scheme s.data.toList=[]:=by unfold Lk.scheme;rw[g,c];rfl
   rw[a];have p:=hId (fun w=>ME _ _ w true (by decide) (by decide) d uA c);clear a c g k d;generalize B (Lk.head s.data.toList)=h at*;go_enter func122,ntmps122
   go_wp2_with fail
   refine n.o.mono ?_
   rintro e q⟨⟨t,rfl⟩,b⟩;have i:=hId b;clear b;go_wp2_with fail
   refine(p.o _).mono ?_
   rintro e u⟨rfl,f⟩;have o:=hId (i.o.trans (f.mono i.o.size));clear f;go_wp2
   go_ret
   exact⟨rfl,o.o⟩
def lq:Array Value:=#[.string ⟨#[104,116,116,112]⟩,.string ⟨#[104,116,116,112,115]⟩,.string ⟨#[109,97,105,108,116,111]⟩]
def df (w:World):Prop:=∃ t fr,w.heap[0]?=some (.cells lq t fr)
theorem df.pos{w:World}(h:df w):0<w.heap.size:=by
 obtain⟨t,b,a⟩:=h;exact(WE.1 a).1
theorem df.below{w w':World}(h:df w)(c:Below w.heap.size w w'):df w':=by
 have a:=h.pos;obtain⟨t,d,b⟩:=h;exact⟨t,d,(c.block 0 a).trans b⟩
theorem df.cell{w:World}(h:df w)(j:Nat):w.cell? ⟨0,j,none⟩=lq[j]?:=by
 obtain⟨t,b,a⟩:=h;simp[World.cell?,a]
theorem J7{c:UInt8}(h:c.toNat<33):Lk.iI c=false:=by
 unfold Lk.iI;rw[VZ (fun a=>by rw[XH]at a;have:(33:UInt8).toNat=33:=rfl;omega)];rfl
theorem J8{c:UInt8}(h:126<c.toNat):Lk.iI c=false:=by
 unfold Lk.iI;have:decide (c<=126)=false:=VZ (fun a=>by rw[XH]at a;have:(126:UInt8).toNat=126:=rfl;omega);rw[this];simp
theorem Gx{c:UInt8}(h:33<=c.toNat)(b:c.toNat<=126):Lk.iI c=decide (Lib.indexByte Lk.pO c<0):=by
 unfold Lk.iI;rw[WL (show(33:UInt8)<=c by rw[XH];exact h),WL (show c<=126 by rw[XH];exact b),Lib.contains_iff_indexByte];by_cases a:Lib.indexByte Lk.pO c<0
 ·rw[WL a,VZ (by omega)];rfl
 ·rw[VZ a,WL (by omega)];rfl
theorem wM(c:UInt8)(w:World):Calls prog 120 #[.int .u8 c.toNat] w fun e w'=>e=.returned (.bool (Lk.iI c))/\w'=w:=by
 by_cases g:33<=c.toNat
 ·by_cases f:c.toNat<=126
  ·have b:=Gx g f;have a:((c.toNat:Int)).toNat.toUInt8=c:=by simp
   have d:=fun w=>Tryz.strings_IndexByte ⟨#[34,39,60,62,92,96]⟩ (c.toNat:Int) w;rw[a]at d;change ∀w,Calls prog 146 _ w fun e w'=>e=.returned (.int .i64 (Lib.indexByte Lk.pO c))/\w'=w at d;have h:=hId d;clear d a;generalize Lib.indexByte Lk.pO c=z at*;rw[b];clear b;go_enter func120,ntmps120
   go_wp2_with fail
   refine(h.o _).mono ?_
   rintro e w'⟨rfl,rfl⟩;go_wp2
   go_ret
   exact⟨rfl,rfl⟩
  ·rw[J8 (by omega)];go_enter func120,ntmps120
   go_wp2
   go_ret
   exact⟨rfl,rfl⟩
 ·rw[J7 (by omega)];go_enter func120,ntmps120
  go_wp2
  go_ret
  exact⟨rfl,rfl⟩
theorem Ah(k x:List UInt8):(k==(B x).toList)=decide (k=x):=by
 rw[Lib.toList_data,eO];by_cases h:k=x
 ·subst h;simp
 ·rw[VZ h];simpa using h
theorem Te(k x:List UInt8):((B x).toList==k)=decide (k=x):=by
 rw[Lib.toList_data,eO];by_cases h:k=x
 ·subst h;simp
 ·rw[VZ h];simpa using fun e=>h e.symm
theorem SJ(w:World):(Instr.index 199 (.agg lq) (.int .i64 0)).run prog w=.ok (.string ⟨#[104,116,116,112]⟩) w:=by kernel_rfl
theorem SI(w:World):(Instr.index 199 (.agg lq) (.int .i64 1)).run prog w=.ok (.string ⟨#[104,116,116,112,115]⟩) w:=by kernel_rfl
theorem SH(w:World):(Instr.index 199 (.agg lq) (.int .i64 2)).run prog w=.ok (.string ⟨#[109,97,105,108,116,111]⟩) w:=by kernel_rfl
theorem M8:(prog.info? 199).map (·.size)=some lq.size:=by kernel_rfl
theorem LI(x:List UInt8)(w:World)(k:df w):Calls prog 121 #[.string (B x)] w fun e w'=>e=.returned (.bool (Lk.lead x))/\w'=w:=by
 obtain⟨t,g,i⟩:=k;have h:=hId i;clear i;have n:=SJ;have m:=SI;have l:=SH;have q1:=Ah [104,116,116,112] x;have q2:=Ah [104,116,116,112,115] x;have q3:=Ah [109,97,105,108,116,111] x;by_cases c:[104,116,116,112]=x
 ·have a:Lk.lead x=true:=by subst c;rfl
  rw[a];rw[WL c]at q1;clear a q2 q3 c;generalize B x=b at*;go_enter func121,ntmps121
  go_wp2_with (refine wpList_load_row rfl 199 _ rfl 0 rfl t _ g _ h.o underlying199 rfl M8 ?_)
  refine WH 5 ?_
  rw[VJ];go_wp2
  go_ret
  exact⟨rfl,rfl⟩
 ·rw[VZ c]at q1;by_cases d:[104,116,116,112,115]=x
  ·have a:Lk.lead x=true:=by subst d;rfl
   rw[a];rw[WL d]at q2;clear a q3 c d;generalize B x=b at*;go_enter func121,ntmps121
   go_wp2_with (refine wpList_load_row rfl 199 _ rfl 0 rfl t _ g _ h.o underlying199 rfl M8 ?_)
   refine WH 5 ?_
   rw[VJ];go_wp2
   rw[VJ];go_wp2
   go_ret
   exact⟨rfl,rfl⟩
  ·rw[VZ d]at q2;by_cases f:[109,97,105,108,116,111]=x
   ·have a:Lk.lead x=true:=by subst f;rfl
    rw[a];rw[WL f]at q3;clear a c d f;generalize B x=b at*;go_enter func121,ntmps121
    go_wp2_with (refine wpList_load_row rfl 199 _ rfl 0 rfl t _ g _ h.o underlying199 rfl M8 ?_)
    refine WH 5 ?_
    rw[VJ];go_wp2
    rw[VJ];go_wp2
    rw[VJ];go_wp2
    go_ret
    exact⟨rfl,rfl⟩
   ·have a:Lk.lead x=false:=by
     unfold Lk.lead Lk.leads;simp[Ne.symm c,Ne.symm d,Ne.symm f]
    rw[a];rw[VZ f]at q3;clear a c d f;generalize B x=b at*;go_enter func121,ntmps121
    go_wp2_with (refine wpList_load_row rfl 199 _ rfl 0 rfl t _ g _ h.o underlying199 rfl M8 ?_)
    refine WH 5 ?_
    rw[VJ];go_wp2
    rw[VJ];go_wp2
    rw[VJ];go_wp2
    rw[VJ];go_wp2
    go_ret
    exact⟨rfl,rfl⟩
theorem yJ(l:List UInt8)(h:l.length<1\/24<l.length):Lk.may l=false:=by
 unfold Lk.may;rcases h with h|h
 ·rw[VZ (show¬1<=l.length by omega)];simp
 ·rw[VZ (show¬l.length<=24 by omega)];simp
theorem No(l:List UInt8)(k:Nat)(h:k<l.length)(a:Lk.iI l[k]=false):Lk.may l=false:=by
 have:l.all Lk.iI=false:=by
  rw[List.all_eq_false];exact⟨l[k],WT h,by rw[a];exact WB⟩
 unfold Lk.may;rw[this];simp
theorem Np(l:List UInt8)(c:1<=l.length)(b:l.length<=24)(a:l.all Lk.iI=true):Lk.may l=Lk.lead (Lk.scheme l):=by
 unfold Lk.may;rw[a,WL c,WL b];simp
theorem sY(s:ByteArray)(w:World)(A:s.size<=9223372036854775807)(x:df w):
  Calls prog 101 #[.string s] w fun e w'=>e=.returned (.bool (Lk.may s.data.toList))/\Below w.heap.size w w':=by
 have B:=hId x;clear x;have v:=iO s;by_cases J:s.size<1
 ·rw[yJ _ (.inl (by omega))];clear v;go_enter func101,ntmps101
  go_wp2
  go_ret
  exact⟨rfl,VE _ _⟩
 ·by_cases I:24<s.size
  ·rw[yJ _ (.inr (by omega))];clear v;go_enter func101,ntmps101
   go_wp2
   go_ret
   exact⟨rfl,VE _ _⟩
  ·obtain⟨m,r⟩:∃m,Lk.may s.data.toList=m:=⟨_,rfl⟩;rw[r];have y:=hId r;clear r;go_enter func101,ntmps101
   go_wp2
   go_loop [3] (fun i=>∃k:Nat,k<=s.size/\i=.int .i64 k/\(s.data.toList.take k).all Lk.iI=true) (fun i=>s.size-(intOf i).toNat)
   case atStart=>exact⟨0,VN _,rfl,by simp⟩
   case round=>
    obtain⟨k,H,rfl,d⟩:=hrel;have z:=hId d;clear d;by_cases n:k<s.size
    ·have o:k<s.data.toList.length:=by omega
     obtain⟨c,q⟩:∃c:UInt8,s[k]'n=c:=⟨_,rfl⟩;have b:s.data.toList[k]=c:=by rw[<-q];rfl
     have t:=aq s k n;rw[q]at t
     cases a:Lk.iI c
     ·have l:=No s.data.toList k o (by rw[b];exact a);rw[y.o]at l;subst l;clear b q;go_wp2_with (go_at_call 120;refine(wM c _).mono ?_;rintro e w'⟨rfl,h⟩;rw[h,a])
      go_ret
      exact⟨rfl,VE _ _⟩
     ·have D:Hd ((s.data.toList.take (k+1)).all Lk.iI=true):=by
       show _=_
       rw[WY o,List.all_append,z.o,b];simp[a]
      clear b q;go_wp2_with (go_at_call 120;refine(wM c _).mono ?_;rintro e w'⟨rfl,h⟩;rw[h,a])
      go_round
      case rel=>exact⟨k+1,by omega,by go_num,D.o⟩
      case measure=>simp[intOf];omega
    ·have p:s.data.toList.all Lk.iI=true:=by
      have:=z.o;rw[XD (by omega)]at this;exact this
     have f:=Np s.data.toList (by omega) (by omega) p;rw[y.o]at f;clear p;go_wp2_with fail
     refine(Cr s _ A).mono ?_
     rintro e G⟨rfl,g⟩;have E:=hId g;have u:=hId (B.o.below g);clear g;go_wp2_with fail
     refine(LI _ _ u.o).mono ?_
     rintro e F⟨rfl,h⟩;rw[h];have C:=hId f;clear f;go_wp2
     go_ret
     exact⟨by rw[C.o];rfl,E.o⟩
structure It where
 c:UInt8
 m:Int
 l:ByteArray
namespace Dc
def ends (x:It):Bool:=(x.c.toNat:Int) == 10
def gG (x:It):Bool:=decide (32<=(x.c.toNat:Int))&&decide ((x.c.toNat:Int)<=126)
def marks (x:It):Bool:=decide (0<=x.m)&&decide (x.m<=3)
def link (x:It):Bool:=x.l.toList.isEmpty || (!ends x&&Lk.may x.l.data.toList)
def err (x:It):Int:=if !ends x&&!gG x then 1 else if !marks x then 3 else if !link x then 4 else 0
end Dc
theorem fH(x:It)(w:World):Calls prog 29 #[.agg #[.int .u8 x.c.toNat,.int .i64 x.m,.string x.l]] w fun e w'=>e=.returned (.bool (Dc.ends x))/\Below w.heap.size w w':=by
 go_enter func29,ntmps29
 go_wp2
 go_ret
 exact⟨rfl,(VE _ _).alloc (UZ _) _⟩
theorem nK(x:It)(w:World):Calls prog 86 #[.agg #[.int .u8 x.c.toNat,.int .i64 x.m,.string x.l]] w fun e w'=>e=.returned (.bool (Dc.gG x))/\Below w.heap.size w w':=by
 by_cases h:32<=(x.c.toNat:Int)
 ·have a:Dc.gG x=decide ((x.c.toNat:Int)<=126):=by unfold Dc.gG;rw[WL h];rfl
  rw[a];clear a;go_enter func86,ntmps86
  go_wp2
  go_ret
  exact⟨rfl,(VE _ _).alloc (UZ _) _⟩
 ·have a:Dc.gG x=false:=by unfold Dc.gG;rw[VZ h];rfl
  rw[a];clear a;go_enter func86,ntmps86
  go_wp2
  go_ret
  exact⟨rfl,(VE _ _).alloc (UZ _) _⟩
def boxed (x:It) (w:World):World:=w.alloc (.cells #[.int .u8 x.c.toNat,.int .i64 x.m,.string x.l] 67)
theorem iB(x:It)(w:World):Below w.heap.size w (boxed x w):=(VE _ _).alloc (UZ _) _
structure F2 (b:Nat) (x:It) (w:World):Prop where
 c:w.cell? ⟨b,0,none⟩=some (.int .u8 x.c.toNat)
 m:w.cell? ⟨b,1,none⟩=some (.int .i64 x.m)
 l:w.cell? ⟨b,2,none⟩=some (.string x.l)
theorem gW{w:World}{a:Addr}{v:Value}(h:w.cell? a=some v):a.block<w.heap.size:=by
 unfold World.cell? at h;split at h
 ·rename_i b;exact(WE.1 b).1
 ·cases h
theorem aA{w w':World}{a:Addr}{v:Value}(h:w.cell? a=some v)(b:Below w.heap.size w w'):w'.cell? a=some v:=
 (b.cell (gW h)).trans h
theorem F2.below{b:Nat}{x:It}{w w':World}(h:F2 b x w)(a:Below w.heap.size w w'):F2 b x w':=
 ⟨aA h.c a,aA h.m a,aA h.l a⟩
theorem BG(x:It)(w:World):F2 w.heap.size x (boxed x w):=by
 have h:(boxed x w).heap[w.heap.size]?=some (.cells #[.int .u8 x.c.toNat,.int .i64 x.m,.string x.l] 67):=heap_alloc_new w _;refine⟨?_,?_,?_⟩<;>(unfold World.cell?;rw[h];rfl)
theorem qG(x:It)(w:World)(h:df w)(l:x.l.size<=9223372036854775807):Calls prog 87 #[.agg #[.int .u8 x.c.toNat,.int .i64 x.m,.string x.l]] w fun e w'=>e=.returned (.bool (Dc.link x))/\Below w.heap.size w w':=by
 have m:=hId (h.below (iB x w));clear h;have c:=hId (iB x w);have n:=hId (BG x w)
 cases i:x.l.toList.isEmpty
 ·have b:Dc.link x=(!Dc.ends x&&Lk.may x.l.data.toList):=by unfold Dc.link;rw[i];rfl
  rw[b];clear b
  cases g:Dc.ends x
  ·go_enter func87,ntmps87
   go_wp2_with fail
   change Calls prog 29 _ (boxed x w) _;refine(fH x _).mono ?_
   rintro e k⟨rfl,a⟩;rw[g];have q:=(n.o.below a).l;have f:=hId (m.o.below a);have d:=hId (c.o.trans (a.mono c.o.size));clear a;go_wp2_with fail
   refine(sY x.l _ l f.o).mono ?_
   rintro e p⟨rfl,a⟩;have o:=hId (d.o.trans (a.mono d.o.size));clear a;go_wp2
   go_ret
   exact⟨rfl,o.o⟩
  ·go_enter func87,ntmps87
   go_wp2_with fail
   change Calls prog 29 _ (boxed x w) _;refine(fH x _).mono ?_
   rintro e k⟨rfl,a⟩;rw[g];have d:=hId (c.o.trans (a.mono c.o.size));clear a;go_wp2
   go_ret
   exact⟨rfl,d.o⟩
 ·have b:Dc.link x=true:=by unfold Dc.link;rw[i];rfl
  rw[b];clear b;go_enter func87,ntmps87
  go_wp2
  go_ret
  exact⟨rfl,c.o⟩
theorem Lx{x:It}(h:Dc.ends x=false)(a:Dc.gG x=false):Dc.err x=1:=by unfold Dc.err;rw[h,a];rfl
theorem uZ{x:It}(h:Dc.ends x=true\/Dc.gG x=true):Dc.err x=if !Dc.marks x then 3 else if !Dc.link x then 4 else 0:=by
 unfold Dc.err;rcases h with h|h<;>rw[h]<;>simp
theorem nu{x:It}(h:Dc.ends x=true\/Dc.gG x=true)(a:x.m<0\/3<x.m):Dc.err x=3:=by
 rw[uZ h];have:Dc.marks x=false:=by unfold Dc.marks;simp;omega
 rw[this];rfl
theorem Ae{x:It}(h:Dc.ends x=true\/Dc.gG x=true)(b:0<=x.m)(a:x.m<=3):Dc.err x=if Dc.link x then 0 else 4:=by
 rw[uZ h];have:Dc.marks x=true:=by unfold Dc.marks;simp;omega
 rw[this]
 cases Dc.link x<;>rfl
theorem LP(x:It)(w:World)(K:df w)(G:x.l.size<=9223372036854775807):Calls prog 56 #[.agg #[.int .u8 x.c.toNat,.int .i64 x.m,.string x.l]] w fun e w'=>e=.returned (.int .i64 (Dc.err x))/\Below w.heap.size w w':=by
 have t:=hId (K.below (iB x w));clear K;have i:=hId (iB x w);have u:=hId (BG x w);obtain⟨r,I⟩:∃r,Dc.err x=r:=⟨_,rfl⟩;have C:=hId I;rw[I];clear I
 cases p:Dc.ends x
 ·cases B:Dc.gG x
  ·have:r=1:=C.o.symm.trans (Lx p B);subst this;go_enter func56,ntmps56
   go_wp2_with fail
   change Calls prog 29 _ (boxed x w) _;refine(fH x _).mono ?_
   rintro e A⟨rfl,a⟩;rw[p];have b:=u.o.below a;have m:=b.c;have l:=b.m;have k:=b.l;have f:=hId b;clear b;have c:=hId (t.o.below a);have g:=hId (i.o.trans (a.mono i.o.size));clear a;go_wp2_with fail
   refine(nK x _).mono ?_
   rintro e F⟨rfl,a⟩;rw[B];have h:=f.o.below a;have z:=h.c;have y:=h.m;have v:=h.l;clear h;have o:=hId (c.o.below a);have q:=hId (g.o.trans (a.mono g.o.size));clear a;go_wp2
   go_ret
   exact⟨rfl,q.o⟩
  ·have n:Dc.ends x=true\/Dc.gG x=true:=.inr B;by_cases J:x.m<0
   ·have:r=3:=C.o.symm.trans (nu n (.inl J));subst this;clear n;go_enter func56,ntmps56
    go_wp2_with fail
    change Calls prog 29 _ (boxed x w) _;refine(fH x _).mono ?_
    rintro e A⟨rfl,a⟩;rw[p];have b:=u.o.below a;have m:=b.c;have l:=b.m;have k:=b.l;have f:=hId b;clear b;have c:=hId (t.o.below a);have g:=hId (i.o.trans (a.mono i.o.size));clear a;go_wp2_with fail
    refine(nK x _).mono ?_
    rintro e F⟨rfl,a⟩;rw[B];have h:=f.o.below a;have z:=h.c;have y:=h.m;have v:=h.l;clear h;have o:=hId (c.o.below a);have q:=hId (g.o.trans (a.mono g.o.size));clear a;go_wp2
    go_ret
    exact⟨rfl,q.o⟩
   ·by_cases E:3<x.m
    ·have:r=3:=C.o.symm.trans (nu n (.inr E));subst this;clear n;go_enter func56,ntmps56
     go_wp2_with fail
     change Calls prog 29 _ (boxed x w) _;refine(fH x _).mono ?_
     rintro e A⟨rfl,a⟩;rw[p];have b:=u.o.below a;have m:=b.c;have l:=b.m;have k:=b.l;have f:=hId b;clear b;have c:=hId (t.o.below a);have g:=hId (i.o.trans (a.mono i.o.size));clear a;go_wp2_with fail
     refine(nK x _).mono ?_
     rintro e F⟨rfl,a⟩;rw[B];have h:=f.o.below a;have z:=h.c;have y:=h.m;have v:=h.l;clear h;have o:=hId (c.o.below a);have q:=hId (g.o.trans (a.mono g.o.size));clear a;go_wp2
     go_ret
     exact⟨rfl,q.o⟩
    ·have d:=C.o.symm.trans (Ae n (by omega) (by omega));clear n
     cases s:Dc.link x
     ·rw[s]at d;have:r=4:=d;subst this;clear d;go_enter func56,ntmps56
      go_wp2_with fail
      change Calls prog 29 _ (boxed x w) _;refine(fH x _).mono ?_
      rintro e A⟨rfl,a⟩;rw[p];have b:=u.o.below a;have m:=b.c;have l:=b.m;have k:=b.l;have f:=hId b;clear b;have c:=hId (t.o.below a);have g:=hId (i.o.trans (a.mono i.o.size));clear a;go_wp2_with fail
      refine(nK x _).mono ?_
      rintro e F⟨rfl,a⟩;rw[B];have h:=f.o.below a;have z:=h.c;have y:=h.m;have v:=h.l;clear h;have o:=hId (c.o.below a);have q:=hId (g.o.trans (a.mono g.o.size));clear a;go_wp2_with fail
      refine(qG x _ o.o G).mono ?_
      rintro e H⟨rfl,a⟩;rw[s];have D:=hId (q.o.trans (a.mono q.o.size));clear a;go_wp2
      go_ret
      exact⟨rfl,D.o⟩
     ·rw[s]at d;have:r=0:=d;subst this;clear d;go_enter func56,ntmps56
      go_wp2_with fail
      change Calls prog 29 _ (boxed x w) _;refine(fH x _).mono ?_
      rintro e A⟨rfl,a⟩;rw[p];have b:=u.o.below a;have m:=b.c;have l:=b.m;have k:=b.l;have f:=hId b;clear b;have c:=hId (t.o.below a);have g:=hId (i.o.trans (a.mono i.o.size));clear a;go_wp2_with fail
      refine(nK x _).mono ?_
      rintro e F⟨rfl,a⟩;rw[B];have h:=f.o.below a;have z:=h.c;have y:=h.m;have v:=h.l;clear h;have o:=hId (c.o.below a);have q:=hId (g.o.trans (a.mono g.o.size));clear a;go_wp2_with fail
      refine(qG x _ o.o G).mono ?_
      rintro e H⟨rfl,a⟩;rw[s];have D:=hId (q.o.trans (a.mono q.o.size));clear a;go_wp2
      go_ret
      exact⟨rfl,D.o⟩
 ·have n:Dc.ends x=true\/Dc.gG x=true:=.inl p;by_cases J:x.m<0
  ·have:r=3:=C.o.symm.trans (nu n (.inl J));subst this;clear n;go_enter func56,ntmps56
   go_wp2_with fail
   change Calls prog 29 _ (boxed x w) _;refine(fH x _).mono ?_
   rintro e A⟨rfl,a⟩;rw[p];have b:=u.o.below a;have m:=b.c;have l:=b.m;have k:=b.l;have f:=hId b;clear b;have c:=hId (t.o.below a);have g:=hId (i.o.trans (a.mono i.o.size));clear a;go_wp2
   go_ret
   exact⟨rfl,g.o⟩
  ·by_cases E:3<x.m
   ·have:r=3:=C.o.symm.trans (nu n (.inr E));subst this;clear n;go_enter func56,ntmps56
    go_wp2_with fail
    change Calls prog 29 _ (boxed x w) _;refine(fH x _).mono ?_
    rintro e A⟨rfl,a⟩;rw[p];have b:=u.o.below a;have m:=b.c;have l:=b.m;have k:=b.l;have f:=hId b;clear b;have c:=hId (t.o.below a);have g:=hId (i.o.trans (a.mono i.o.size));clear a;go_wp2
    go_ret
    exact⟨rfl,g.o⟩
   ·have d:=C.o.symm.trans (Ae n (by omega) (by omega));clear n
    cases s:Dc.link x
    ·rw[s]at d;have:r=4:=d;subst this;clear d;go_enter func56,ntmps56
     go_wp2_with fail
     change Calls prog 29 _ (boxed x w) _;refine(fH x _).mono ?_
     rintro e A⟨rfl,a⟩;rw[p];have b:=u.o.below a;have m:=b.c;have l:=b.m;have k:=b.l;have f:=hId b;clear b;have c:=hId (t.o.below a);have g:=hId (i.o.trans (a.mono i.o.size));clear a;go_wp2_with fail
     refine(qG x _ c.o G).mono ?_
     rintro e H⟨rfl,a⟩;rw[s];have D:=hId (g.o.trans (a.mono g.o.size));clear a;go_wp2
     go_ret
     exact⟨rfl,D.o⟩
    ·rw[s]at d;have:r=0:=d;subst this;clear d;go_enter func56,ntmps56
     go_wp2_with fail
     change Calls prog 29 _ (boxed x w) _;refine(fH x _).mono ?_
     rintro e A⟨rfl,a⟩;rw[p];have b:=u.o.below a;have m:=b.c;have l:=b.m;have k:=b.l;have f:=hId b;clear b;have c:=hId (t.o.below a);have g:=hId (i.o.trans (a.mono i.o.size));clear a;go_wp2_with fail
     refine(qG x _ c.o G).mono ?_
     rintro e H⟨rfl,a⟩;rw[s];have D:=hId (g.o.trans (a.mono g.o.size));clear a;go_wp2
     go_ret
     exact⟨rfl,D.o⟩
namespace Dc
def jF:List It->Int
 | []=>0
 | x :: t=>if err x=0 then jF t else err x
theorem Ib(l:List It)(k:Nat)(h:k<l.length):jF (l.drop k)=if err l[k]=0 then jF (l.drop (k+1))else err l[k]:=by
 rw[VU h,jF]
end Dc
structure At (w:World) (b off:Nat) (l:List It):Prop where
 c:∀ i (h:i<l.length),w.cell? ⟨b,off+i*3,none⟩=some (.int .u8 l[i].c.toNat)
 m:∀ i (h:i<l.length),w.cell? ⟨b,off+i*3+1,none⟩=some (.int .i64 l[i].m)
 l:∀ i (h:i<l.length),w.cell? ⟨b,off+i*3+2,none⟩=some (.string l[i].l)
theorem At.below{w w':World}{b c:Nat}{l:List It}(h:At w b c l)(d:Below w.heap.size w w'):At w' b c l:=
 ⟨fun i a=>aA (h.c i a) d,fun i a=>aA (h.m i a) d,fun i a=>aA (h.l i a) d⟩
def Fit (l:List It):Prop:=∀ x ∈ l,x.l.size<=9223372036854775807
structure cy (w:World) (ao:Option Addr) (n cap:Nat) (l:List It):Prop where
 fit:Fit l
 len:l.length=n
 room:n<=cap
 fg:cap<=9223372036854775807
 bH:n≠0->∃ b off,ao=some ⟨b,off,none⟩/\At w b off l
theorem cy.below{w w':World}{d:Option Addr}{n a:Nat}{l:List It}(h:cy w d n a l)(g:Below w.heap.size w w'):cy w' d n a l:=
 ⟨h.fit,h.len,h.room,h.fg,fun f=>by obtain⟨b,c,e,i⟩:=h.bH f;exact⟨b,c,e,i.below g⟩⟩
theorem xA(z:Option Addr)(n o:Nat)(l:List It)(w:World)(d:cy w z n o l)(y:df w):
  Calls prog 28 #[.slice z n o] w fun e w'=>e=.returned (.int .i64 (Dc.jF l))/\Below w.heap.size w w':=by
 have B:=hId d;have I:=d.len;subst I;have F:=d.room;have G:=d.fg;clear d;have J:=hId y;clear y;obtain⟨r,q⟩:∃r,Dc.jF l=r:=⟨_,rfl⟩;have K:=hId q;rw[q];clear q;go_enter func28,ntmps28
 go_wp2
 go_loopw [8] (fun i wr=>∃k:Nat,k<=l.length/\i=.int .i64 k/\Below w.heap.size w wr/\Dc.jF (l.drop k)=r) (fun i _=>l.length-(intOf i).toNat)
 case atStart=>exact⟨0,VN _,rfl,VE _ _,K.o⟩
 case round=>
  obtain⟨k,S,rfl,m,h⟩:=hrel;have s:=hId h;have a:=hId m;clear h m;by_cases c:k<l.length
  ·obtain⟨b,M,rfl,E⟩:=B.o.bH (by omega);have p:=E.below a.o;have P:=p.c k c;have O:=p.m k c;have N:=p.l k c;have t:=B.o.fit _ (WT c);have A:=hId (Dc.Ib l k c);clear p E;generalize H:l[k]=x at*;have u:=hId (J.o.below (a.o.trans ((iB x wr).mono a.o.size)));have D:=hId (a.o.trans ((iB x wr).mono a.o.size));clear H;go_wp2_with fail
   change Calls prog 56 _ (boxed x wr) _;refine(LP x _ u.o t).mono ?_
   rintro e Q⟨rfl,v⟩;have C:=hId (D.o.trans (v.mono D.o.size));clear v;by_cases f:Dc.err x=0
   ·have L:Hd (Dc.jF (l.drop (k+1))=r):=by show _=_;rw[<-s.o,A.o,VC f]
    rw[f];clear f;go_wp2
    go_roundw
    case rel=>exact⟨k+1,by omega,by go_num,C.o,L.o⟩
    case measure=>simp[intOf];omega
   ·have g:Dc.err x=r:=by rw[<-s.o,A.o,VD f]
    rw[g]at f⊢;clear g;go_wp2
    go_ret
    exact⟨rfl,C.o⟩
  ·have:r=0:=by rw[<-s.o,WI (by omega)];rfl
   subst this;go_wp2
   go_ret
   exact⟨rfl,a.o⟩
namespace Dc
def check (l:List It):Int:=if 80<l.length then 2 else if jF l≠0 then jF l else if h:l.length - 1<l.length then (if ends l[l.length - 1] then 0 else 4) else 4
theorem pL{l:List It}(h:80<l.length):check l=2:=by unfold check;rw[VC h]
theorem uj{l:List It}(h:¬80<l.length)(a:¬jF l=0):check l=jF l:=by unfold check;rw[VD h,VC a]
theorem ui{l:List It}(a:jF l=0)(b:l.length=0):check l=4:=by
 unfold check;rw[VD (by omega),VD (by simpa using a),dif_neg (by omega)]
theorem pM{l:List It}{k:Nat}(h:¬80<l.length)(a:jF l=0)(c:k<l.length)(b:l.length=k+1):check l=if ends l[k]then 0 else 4:=by
 unfold check;rw[VD h,VD (by simpa using a),dif_pos (by omega)];obtain rfl:k=l.length-1:=by omega
 rfl
end Dc
theorem At.get{w:World}{b a:Nat}{l:List It}(h:At w b a l){k:Nat}{x:It}(d:l[k]?=some x):
  w.cell? ⟨b,a+k*3,none⟩=some (.int .u8 x.c.toNat)/\w.cell? ⟨b,a+k*3+1,none⟩=some (.int .i64 x.m)/\w.cell? ⟨b,a+k*3+2,none⟩=some (.string x.l):=by
 obtain⟨c,rfl⟩:=VO.1 d;exact⟨h.c k c,h.m k c,h.l k c⟩
theorem iq(u:Option Addr)(n h:Nat)(l:List It)(w:World)(o:cy w u n h l)(B:df w):
  Calls prog 10 #[.slice u n h] w fun e w'=>e=.returned (.int .i64 (Dc.check l))/\Below w.heap.size w w':=by
 have G:=hId o;have s:=hId o.len;have D:=o.room;have m:=hId (xA u _ h l w o B);clear o B;obtain⟨r,t⟩:∃r,Dc.check l=r:=⟨_,rfl⟩;have d:=hId t;rw[t];clear t;by_cases q:80<n
 ·have:r=2:=d.o.symm.trans (Dc.pL (by rw[s.o];exact q));subst this;clear d m;go_enter func10,ntmps10
  go_wp2
  go_ret
  exact⟨rfl,VE _ _⟩
 ·by_cases f:Dc.jF l=0
  ·rw[f]at m;by_cases g:n=0
   ·have:r=4:=d.o.symm.trans (Dc.ui f (s.o.trans g));subst this;subst g;clear d f;go_enter func10,ntmps10
    go_wp2_with fail
    refine m.o.mono ?_
    rintro e v⟨rfl,a⟩;have i:=hId a;clear a;go_wp2
    go_ret
    exact⟨rfl,i.o⟩
   ·obtain⟨k,rfl⟩:∃k,n=k+1:=⟨n-1,by omega⟩;obtain⟨b,J,rfl,C⟩:=G.o.bH g;have H:=hId C;obtain⟨x,y,c⟩:∃x,l[k]?=some x/\r=if Dc.ends x then 0 else 4:=by
     have E:=s.o;have z:k<l.length:=by omega
     exact⟨l[k],VM z,d.o.symm.trans (Dc.pM (by omega) f z E)⟩
    have F:=hId y;clear d f C y
    cases A:Dc.ends x
    all_goals
     rw[A]at c;first|(have:r=0:=c;subst this)|(have:r=4:=c;subst this)
     clear c;go_enter func10,ntmps10
     go_wp2_with fail
     refine m.o.mono ?_
     rintro e v⟨rfl,a⟩;have i:=hId a;obtain⟨M,L,K⟩:=(H.o.below a).get F.o;clear a;go_wp2_with fail
     refine(fH x _).mono ?_
     rintro e N⟨rfl,a⟩;rw[A];have I:=hId (i.o.trans (a.mono i.o.size));clear a;go_wp2
     go_ret
     exact⟨rfl,I.o⟩
  ·have p:=(Dc.uj (by rw[s.o];exact q) f).symm.trans d.o;rw[p]at m f;clear d p;go_enter func10,ntmps10
   go_wp2_with fail
   refine m.o.mono ?_
   rintro e v⟨rfl,a⟩;have i:=hId a;clear a;go_wp2
   go_ret
   exact⟨rfl,i.o⟩
structure PP (w0:World) (d:Value) (T E:TypeId) (v:Value) (xs:List Value) (w:World):Prop where
 below:Below w0.heap.size w0 w
 box:w.heap[w0.heap.size]?=some (.cells #[d] 23 (0,0))
 var:w.heap[w0.heap.size+1]?=some (.cells #[v] T (0,0))
 own:w.ownsRow (w0.heap.size+2) E 1 v xs.length xs
theorem zr{w:World}{base:Nat}{e:TypeId}{a:Nat}{v:Value}{n:Nat}{xs:List Value}(h:w.ownsRow base e a v n xs):∀k,v.ownBlock=some k->base<=k:=by
 intro k b;rcases h.2 with⟨rfl,_⟩|⟨g,d,c,rfl,f,_⟩
 ·cases b
 ·simp[Value.ownBlock]at b;omega
theorem PP.size{a:World}{d:Value}{T E:TypeId}{v:Value}{xs:List Value}{w:World}(h:PP a d T E v xs w):a.heap.size+2<=w.heap.size:=lt_of_block h.var
theorem PP.Ob{e:World}{d:Value}{T E:TypeId}{v:Value}{xs:List Value}{w w':World}(h:PP e d T E v xs w)(a:Below w.heap.size w w'):PP e d T E v xs w':=by
 have m:=h.size;refine⟨h.below.trans (a.mono (by omega)),(a.block _ (by omega)).trans h.box,(a.block _ (by omega)).trans h.var,?_⟩
 refine⟨h.own.1,?_⟩
 rcases h.own.2 with l|⟨g,c,b,i,k,f,r⟩
 ·exact .inl l
 ·exact .inr ⟨g,c,b,i,k,(a.block g (lt_of_block f)).trans f,r⟩
theorem PP.push{c:World}{d:Value}{T E:TypeId}{v m:Value}{xs i:List Value}{w n l:World}(h:PP c d T E v xs w)(q:Below w.heap.size w n)
  (f:l.ownsRow (c.heap.size+2) E 1 m i.length i)(a:n.grownBy l v.ownBlock):PP c d T E m i (l.setCell ⟨c.heap.size+1,0,none⟩ m):=by
 have g:=h.Ob q;have r:=g.size;have b:∀k,k<c.heap.size+2->some k≠v.ownBlock:=fun k p e=>by have:=zr h.own k e.symm;omega
 have o:=(a.block _ (by omega) (b _ (by omega))).trans g.var;refine⟨?_,?_,one_setCell o,?_⟩
 ·refine(g.below.trans ⟨a.os,a.tape,a.output,a.size,fun k p=>a.block k (by omega) (b k (by omega))⟩).setCell (by simp) _
 ·rw[XN _ _ _ _ (by simp)];exact(a.block _ (by omega) (b _ (by omega))).trans g.box
 ·exact ownsRow_setCell_below f (by simp) _
def cb (c:UInt8):Value:=.int .u8 c.toNat
namespace Dc
def plain (l:List It):List UInt8:=if check l=0 then l.map It.c else []
end Dc
def begun (w:World) (d:Value) (T:TypeId):World:=(w.alloc (.cells #[d] 23)).alloc (.cells #[.slice none 0 0] T)
def It.zero:It:=⟨0,0,⟨#[]⟩⟩
namespace Dc
def turns (a x:It):Bool:=ends a || ends x || (x.m != a.m) || !(x.l.toList == a.l.toList)
end Dc
