/- A part. -/
import Derived.Test.YthddphjghgdalaaGreatDoorRows
import Derived.WalkKit
import Derived.WalkLawsBesides
import Derived.Deep.Draws
import Derived.Deep.AppendLies
import Derived.Laws.AppendOwnNone
import Derived.Laws.OwnMore
import Derived.Lib.AppendZeros
import Derived.Deep.Upon
import Derived.Deep.AppendSrc
import Derived.Shelf.Small.Utf8
import Derived.Shelf.Small.Strs
import Derived.Shelf.LaysM
import Derived.Shelf.Strconv.Clone
import Derived.Shelf.Strings.Search1
import Derived.Shelf.Strings.Search2
import Derived.Shelf.Strings.Cut
import Derived.Shelf.Strings.Shaped
import Derived.Shelf.Strings.Prefix
import Derived.Shelf.Unicode.Decode
import Derived.Shelf.Strings.Runes
import Derived.Shelf.Strings.IndexAny
import Derived.Shelf.Strings.AsciiSet
import Derived.Shelf.Strings.IndexAnyAll
import Derived.Test.YthddphjghgdalaaGreatDoorProg
import Derived.Lib.OthersKept
import Derived.Lib.IndexAny
import Derived.Deep.QuietTactic
import Derived.BigQuiet
import Derived.Deep.LoopGhost
import Derived.Handy
import Derived.WalkMore
import Derived.Laws.RangeAny
import Derived.Lib.ConvBytes
import Derived.Laws.IdiomStrings
set_option maxRecDepth 100000
set_option maxHeartbeats 1600000
namespace Go.Proofs.YthddphjghgdalaaGreatDoor
open Go.RowKit
def Hd(p:Prop):Prop:=p
theorem Hd.o{p:Prop}(h:Hd p):p:=h
theorem hId{p:Prop}(h:p):Hd p:=h
theorem UX.{u_1}:∀{α:Type u_1}(l:List α)(i:Nat)(a:α),l.toArray.setIfInBounds i a=(l.set i a).toArray:=@List.setIfInBounds_toArray
theorem UY.{u_1}:∀{α:Type u_1}{a b:α},a∈[b]↔a=b:=@List.mem_singleton
theorem UZ:∀(n:Nat),n<=n:=@Nat.le_refl
theorem VA.{u_1}:∀{α:Type u_1}{x:α}{xs:List α}{i:Nat}{a:α},(x::xs).set (i+1) a=x::xs.set i a:=@List.set_cons_succ
theorem VB.{u_1}:∀{α:Type u_1}{x:α}{xs:List α}{a:α},(x::xs).set 0 a=a::xs:=@List.set_cons_zero
theorem VC.{u}:∀{c:Prop}{_:Decidable c},c->∀{α:Sort u}{t e:α},(if c then t else e)=t:=@if_pos
theorem VD.{u}:∀{c:Prop}{_:Decidable c},¬c->∀{α:Sort u}{t e:α},(if c then t else e)=e:=@if_neg
theorem VE:∀(B:Nat)(w:World),Below B w w:=@Below.refl
theorem VF.{u}:∀{α:Type u}{a:α}{l0 bs:List α},a::l0++bs=a::(l0++bs):=@List.cons_append
theorem VG.{u}:∀{α:Type u}{a:α}{l0:List α},(a::l0).length=l0.length+1:=@List.length_cons
theorem VH.{u_1,u_2}:∀{α:Type u_1}{β:Type u_2}{l0:List α}(f:α->β),(List.map f l0).length=l0.length:=@List.length_map
theorem VI.{u}:∀{α:Type u}{l0 bs:List α},(l0++bs).length=l0.length+bs.length:=@List.length_append
theorem VJ:∀{P:Program}{c:Code}{Q:Exit->Act->World->Prop}{n:Nat}{a:Act}{w:World},Code.rounds P c Q (n+1) a w=Code.wp P c (Exit.then (Code.rounds P c Q n) Q) a w:=@rounds_succ
theorem VK.{u_1}:∀{α:Type u_1}{a:α}{l:List α},a∈a::l:=@List.mem_cons_self
theorem VL:∀{P:Program}{fn:Func}{R:Ending->World->Prop}{a:Act}{w:World}{v:Value},Sem.run P (results fn a.tmps) w=Result.ok v w->a.defers=[]->R (Ending.returned v) w->bodyPost P fn R Exit.ret a w:=@bodyPost_ret
theorem VM.{u_1}:∀{α:Type u_1}{l:List α}{i:Nat}(h:i<l.length),l[i]?=some l[i]:=@List.getElem?_eq_getElem
theorem VN:∀(n:Nat),0<=n:=@Nat.zero_le
theorem VO.{u_1}:∀{α:Type u_1}{i:Nat}{a:α}{l:List α},l[i]?=some a↔∃h,l[i]=a:=@List.getElem?_eq_some_iff
theorem VP.{u_1}:∀{α:Type u_1}(y:α){a:α}{l:List α},a∈l->a∈y::l:=@List.mem_cons_of_mem
theorem VQ.{u,v}:∀{α:Sort u}{β:Sort v}{a₁ a₂:α}(f:α->β),a₁=a₂->f a₁=f a₂:=@congrArg
theorem VR:∀(n:Nat),0+n=n:=@Nat.zero_add
theorem VS.{u_1}:∀{α:Type u_1}{l:List α},l.length=0↔l=[]:=@List.length_eq_zero_iff
theorem VT.{u}:∀{α:Type u}(l0 bs cs:List α),l0++bs++cs=l0++(bs++cs):=@List.append_assoc
theorem VU.{u_1}:∀{α:Type u_1}{i:Nat}{l:List α}(h:i<l.length),List.drop i l=l[i]::List.drop (i+1) l:=@List.drop_eq_getElem_cons
theorem VW.{u_1}:∀{α:Type u_1}{a:α}{s t:List α},a∈s++t↔a∈s\/a∈t:=@List.mem_append
theorem VX:∀{n m k:Nat},n<=m->m<=k->n<=k:=@Nat.le_trans
theorem VY.{u}:∀{α:Type u}(l0:List α),l0++[]=l0:=@List.append_nil
theorem VZ:∀{p:Prop} [Decidable p],¬p->decide p=false:=@decide_eq_false
theorem WB:false≠true:=@Bool.false_ne_true
theorem WC:∀{w w':World}{a:Addr},w'.heap[a.block]?=w.heap[a.block]?->w'.cell? a=w.cell? a:=@World.cell?_of_block
theorem WD:∀(a b:Bool),((a&&b)=true)=(a=true/\b=true):=@Bool.and_eq_true
theorem WE.{u_1}:∀{α:Type u_1}{i:Nat}{b:α}{xs:Array α},xs[i]?=some b↔∃h,xs[i]=b:=@Array.getElem?_eq_some_iff
theorem WG.{u_1}:∀{α:Type u_1}{b:α}{l:List α}{a:α},a∈b::l↔a=b\/a∈l:=@List.mem_cons
theorem WH:∀{P:Program}{Q:Exit->Act->World->Prop}{a:Act}{w:World}{c:Code}(n:Nat),Code.rounds P c Q n a w->Code.wp P c.loop Q a w:=@wp_loop_rounds
theorem WI.{u}:∀{α:Type u}{l0:List α}{i:Nat},l0.length<=i->List.drop i l0=[]:=@List.drop_eq_nil_of_le
theorem WJ:∀{n m k:Nat},n<m->m<=k->n<k:=@Nat.lt_of_lt_of_le
theorem WL:∀{p:Prop} [Decidable p],p->decide p=true:=@decide_eq_true
theorem WM.{u_1}:∀{α:Type u_1}{l:List α}{i:Nat}{a:α},l.getD i a=l[i]?.getD a:=@List.getD_eq_getElem?_getD
theorem WN.{u_1,u_2}:∀{α:Type u_1}{β:Type u_2}{f:α->β}{l₁ l₂:List α},List.map f (l₁++l₂)=List.map f l₁++List.map f l₂:=@List.map_append
theorem WO:∀(w:World)(o:Obj),(w.alloc o).heap.size=w.heap.size+1:=@World.size_alloc
theorem WQ.{u_1}:∀{α:Type u_1}{l:List α}{i:Nat}{a:α},l[i]?=some a->a∈l:=@List.mem_of_getElem?
theorem WR.{u}:∀{α:Type u}{a:α}{n:Nat},List.replicate (n+1) a=a::List.replicate n a:=@List.replicate_succ
theorem WS.{u_1}:∀{α:Type u_1}{x:α}{xs:List α}{p:α->Bool},List.dropWhile p (x::xs)=if p x=true then List.dropWhile p xs else x::xs:=@List.dropWhile_cons
theorem WT.{u_1}:∀{α:Type u_1}{l:List α}{n:Nat}(h:n<l.length),l[n]∈l:=@List.getElem_mem
theorem WU.{u}:∀{α:Type u}{val val_1:α},some val=some val_1->val=val_1:=@Option.some.inj
theorem WW:∀(w:World)(a:Addr){u:Value},w.cell? a=some u->a.block<w.heap.size:=@World.block_lt_of_cell?
theorem WX:∀(n m k:Nat),n+m+k=n+(m+k):=@Nat.add_assoc
theorem WY.{u_1}:∀{α:Type u_1}{i:Nat}{l:List α}(h:i<l.length),List.take (i+1) l=List.take i l++[l[i]]:=@List.take_succ_eq_append_getElem
theorem WZ:∀{a:ByteArray}{i:Nat}{h:i<a.size},a[i]=a.data[i]:=@ByteArray.getElem_eq_getElem_data
theorem XA.{u,v}:∀{α:Type u}{β:Type v}{f:α->β}{a:α}{l:List α},List.map f (a::l)=f a::List.map f l:=@List.map_cons
theorem XB.{u_1}:∀{α:Type u_1}{l:List α}{i j:Nat}{a:α},(l.set i a)[j]?=if i=j then if i<l.length then some a else none else l[j]?:=@List.getElem?_set
theorem XC.{u_1,u_2}:∀{α:Type u_1}{β:Type u_2}{f:β->α->β}{b:β}{l l':List α},List.foldl f b (l++l')=List.foldl f (List.foldl f b l) l':=@List.foldl_append
theorem XD.{u_1}:∀{α:Type u_1}{i:Nat}{l:List α},l.length<=i->List.take i l=l:=@List.take_of_length_le
theorem XE:∀(w:World),w.drew.heap.size=w.heap.size:=@World.size_drew
theorem XF:∀{p:Prop} [Decidable p],(decide p=true)=p:=@decide_eq_true_eq
theorem XG.{u_1}:∀{α:Type u_1}{i:Nat}{l:List α},(List.drop i l).length=l.length-i:=@List.length_drop
theorem XH:∀{a b:UInt8},a<=b↔a.toNat<=b.toNat:=@UInt8.le_iff_toNat_le
theorem XI.{u_1,u_2}:∀{α:Type u_1}{β:Type u_2}{b:β}{f:α->β}{l:List α},b∈List.map f l↔∃a,a∈l/\f a=b:=@List.mem_map
theorem XK.{u_1}:∀{α:Type u_1}{p:α->Bool}{a:α}{l:List α},List.takeWhile p (a::l)=if p a=true then a::List.takeWhile p l else[]:=@List.takeWhile_cons
theorem XM:∀(w:World)(base:Nat)(e:TypeId)(size:Nat),w.ownsRow base e size (Value.slice none 0 0) 0 []:=@World.ownsRow_nil
theorem XN:∀(w:World)(a:Addr)(u:Value)(k:Nat),k≠a.block->(w.setCell a u).heap[k]?=w.heap[k]?:=@Below.heap_setCell
theorem XQ:∀(n:Nat),0*n=0:=@Nat.zero_mul
theorem XR.{u_1}:∀{α:Type u_1}{p:α->Bool}{l:List α},l.all p=true↔∀(x:α),x∈l->p x=true:=@List.all_eq_true
theorem XS:∀{p:Prop} [Decidable p],decide p=true->p:=@of_decide_eq_true
theorem XU.{u}:∀{α:Type u}{l0:List α}{a:α},l0.concat a=l0++[a]:=@List.concat_eq_append
theorem XV:∀(a:Int),a<=a:=@Int.le_refl
theorem XW.{u}:∀{α:Type u}{l:List α},List.drop 0 l=l:=@List.drop_zero
theorem XX:∀(n:Nat),n=0\/n>0:=@Nat.eq_zero_or_pos
theorem XY:∀{m n:Nat},m∈List.range n↔m<n:=@List.mem_range
theorem YA:(false=true)=False:=@Bool.false_eq_true
theorem YB:∀{n m:Nat},n<m->n<=m:=@Nat.le_of_lt
end Go.Proofs.YthddphjghgdalaaGreatDoor
namespace Go.Proofs.YthddphjghgdalaaGreatDoor
open Go.RowKit Go.Proofs.Tryz
def Blk (w:World) (b:Nat) (cs:List Value) (t:TypeId):Prop:=w.heap[b]?=some (.cells cs.toArray t (0,0))
theorem Blk.lt{w:World}{b:Nat}{cs:List Value}{t:TypeId}(h:Blk w b cs t):b<w.heap.size:=(WE.1 h).1
theorem Blk.cell{w:World}{b:Nat}{cs:List Value}{t:TypeId}(h:Blk w b cs t)(j:Nat):w.cell? ⟨b,j,none⟩=cs[j]?:=by
 unfold Blk at h;simp[World.cell?,h]
theorem Blk.c0{w:World}{b:Nat}{t:TypeId}{a:Value}{r:List Value}(h:Blk w b (a::r) t):w.cell? ⟨b,0,none⟩=some a:=h.cell 0
theorem Blk.c1{w:World}{b:Nat}{t:TypeId}{c a:Value}{r:List Value}(h:Blk w b (c::a::r) t):w.cell? ⟨b,1,none⟩=some a:=h.cell 1
theorem Blk.c2{w:World}{b:Nat}{t:TypeId}{d c a:Value}{r:List Value}(h:Blk w b (d::c::a::r) t):w.cell? ⟨b,2,none⟩=some a:=h.cell 2
theorem Blk.c3{w:World}{b:Nat}{t:TypeId}{e d c a:Value}{r:List Value}(h:Blk w b (e::d::c::a::r) t):w.cell? ⟨b,3,none⟩=some a:=h.cell 3
theorem Blk.c4{w:World}{b:Nat}{t:TypeId}{f e d c a:Value}{r:List Value}(h:Blk w b (f::e::d::c::a::r) t):w.cell? ⟨b,4,none⟩=some a:=h.cell 4
theorem Blk.c5{w:World}{b:Nat}{t:TypeId}{g f e d c a:Value}{r:List Value}(h:Blk w b (g::f::e::d::c::a::r) t):w.cell? ⟨b,5,none⟩=some a:=h.cell 5
theorem Blk.c6{w:World}{b:Nat}{t:TypeId}{i g f e d c a:Value}{r:List Value}(h:Blk w b (i::g::f::e::d::c::a::r) t):w.cell? ⟨b,6,none⟩=some a:=h.cell 6
theorem Blk.c7{w:World}{b:Nat}{t:TypeId}{k i g f e d c a:Value}{r:List Value}(h:Blk w b (k::i::g::f::e::d::c::a::r) t):w.cell? ⟨b,7,none⟩=some a:=h.cell 7
theorem Blk.c8{w:World}{b:Nat}{t:TypeId}{l k i g f e d c a:Value}{r:List Value}(h:Blk w b (l::k::i::g::f::e::d::c::a::r) t):w.cell? ⟨b,8,none⟩=some a:=h.cell 8
theorem Blk.c9{w:World}{b:Nat}{t:TypeId}{m l k i g f e d c a:Value}{r:List Value}(h:Blk w b (m::l::k::i::g::f::e::d::c::a::r) t):w.cell? ⟨b,9,none⟩=some a:=h.cell 9
theorem Blk.c10{w:World}{b:Nat}{t:TypeId}{n m l k i g f e d c a:Value}{r:List Value}(h:Blk w b (n::m::l::k::i::g::f::e::d::c::a::r) t):w.cell? ⟨b,10,none⟩=some a:=h.cell 10
theorem Blk.c11{w:World}{b:Nat}{t:TypeId}{o n m l k i g f e d c a:Value}{r:List Value}(h:Blk w b (o::n::m::l::k::i::g::f::e::d::c::a::r) t):w.cell? ⟨b,11,none⟩=some a:=h.cell 11
theorem Blk.c12{w:World}{b:Nat}{t:TypeId}{p o n m l k i g f e d c a:Value}{r:List Value}(h:Blk w b (p::o::n::m::l::k::i::g::f::e::d::c::a::r) t):w.cell? ⟨b,12,none⟩=some a:=h.cell 12
theorem Blk.c13{w:World}{b:Nat}{t:TypeId}{q p o n m l k i g f e d c a:Value}{r:List Value}(h:Blk w b (q::p::o::n::m::l::k::i::g::f::e::d::c::a::r) t):w.cell? ⟨b,13,none⟩=some a:=h.cell 13
theorem Blk.frozen{w:World}{b:Nat}{cs:List Value}{t:TypeId}(h:Blk w b cs t)(j:Nat):w.frozen? ⟨b,j,none⟩=false:=by
 unfold Blk at h;simp[World.frozen?,h]
theorem Blk.new(w:World)(cs:List Value)(t:TypeId):Blk (w.alloc (.cells cs.toArray t)) w.heap.size cs t:=heap_alloc_new w _
theorem Blk.newAt(w:World)(b:Nat)(cs:List Value)(t:TypeId)(h:w.heap.size=b):Blk (w.alloc (.cells cs.toArray t)) b cs t:=h▸Blk.new w cs t
theorem Blk.alloc{w:World}{b:Nat}{cs:List Value}{t:TypeId}(h:Blk w b cs t)(o:Obj):Blk (w.alloc o) b cs t:=(Below.heap_alloc w o b h.lt).trans h
theorem Blk.drew{w:World}{b:Nat}{cs:List Value}{t:TypeId}(h:Blk w b cs t):Blk w.drew b cs t:=h
theorem Blk.drewN{w:World}{b:Nat}{cs:List Value}{t:TypeId}(h:Blk w b cs t)(n:Nat):Blk (w.drewN n) b cs t:=h
theorem Blk.other{w:World}{b:Nat}{cs:List Value}{t:TypeId}(h:Blk w b cs t)(a:Addr)(v:Value)(c:b≠a.block):Blk (w.setCell a v) b cs t:=(XN w a v b c).trans h
theorem Blk.set{w:World}{b:Nat}{cs:List Value}{t:TypeId}(h:Blk w b cs t)(j:Nat)(v:Value):Blk (w.setCell ⟨b,j,none⟩ v) b (cs.set j v) t:=by
 unfold Blk at h⊢;obtain⟨a,c⟩:=WE.1 h;simp[World.setCell,a,Array.getElem_modify,c]
structure Kept (w w':World) (S:List Nat):Prop where
 os:w'.os=w.os
 tape:w'.tape=w.tape
 output:w'.output=w.output
 size:w.heap.size<=w'.heap.size
 block:∀ k,k<w.heap.size->k ∉ S->w'.heap[k]?=w.heap[k]?
theorem Kept.refl(w:World)(S:List Nat):Kept w w S:=⟨rfl,rfl,rfl,UZ _,fun _ _ _=>rfl⟩
theorem Kept.trans{a b c:World}{S:List Nat}(h:Kept a b S)(k:Kept b c S):Kept a c S:=
 ⟨k.os.trans h.os,k.tape.trans h.tape,k.output.trans h.output,VX h.size k.size,fun i e d=>(k.block i (WJ e h.size) d).trans (h.block i e d)⟩
theorem Kept.mono{a b:World}{S T:List Nat}(h:Kept a b S)(c:∀x∈S,x∈T):Kept a b T:=⟨h.os,h.tape,h.output,h.size,fun k f d=>h.block k f (fun e=>d (c k e))⟩
theorem Kept.bZ{a b c:World}{S T:List Nat}(h:Kept a b S)(k:Kept b c T)(g:∀x∈T,x∈S\/a.heap.size<=x):Kept a c S:=
 ⟨k.os.trans h.os,k.tape.trans h.tape,k.output.trans h.output,VX h.size k.size,fun i e d=>(k.block i (WJ e h.size) (fun l=>by rcases g i l with f|f;exact d f;omega)).trans (h.block i e d)⟩
theorem Kept.alloc{a w:World}{S:List Nat}(h:Kept a w S)(o:Obj):Kept a (w.alloc o) S:=
 h.trans ⟨rfl,rfl,rfl,by simp,fun k b _=>Below.heap_alloc w o k b⟩
theorem Kept.drew{a w:World}{S:List Nat}(h:Kept a w S):Kept a w.drew S:=⟨h.os,h.tape,h.output,h.size,h.block⟩
theorem Kept.drewN{a w:World}{S:List Nat}(h:Kept a w S)(n:Nat):Kept a (w.drewN n) S:=⟨h.os,h.tape,h.output,h.size,h.block⟩
theorem Kept.setCell{a w:World}{S:List Nat}(h:Kept a w S)(p:Addr)(v:Value)(f:p.block∈S\/a.heap.size<=p.block):Kept a (w.setCell p v) S:=by
 have b:=(VE 0 w).setCell (p:=p) (VN _) v;refine⟨b.os.trans h.os,b.tape.trans h.tape,b.output.trans h.output,VX h.size b.size,fun k g c=>?_⟩
 refine(XN w p v k ?_).trans (h.block k g c)
 intro e;rcases f with d|d
 ·exact c (e▸d)
 ·omega
theorem Kept.aM{w w':World}{S:List Nat}(h:Kept w w' S){b:Nat}{cs:List Value}{t:TypeId}(a:Blk w b cs t)(c:b∉S):Blk w' b cs t:=(h.block b a.lt c).trans a
theorem Kept.below{w w':World}{S:List Nat}(h:Kept w w' S){B:Nat}(d:B<=w.heap.size)(c:∀x∈S,B<=x):Below B w w':=
 ⟨h.os,h.tape,h.output,h.size,fun k b=>h.block k (WJ b d) (fun a=>by have:=c k a;omega)⟩
theorem ja{w:World}{b:Nat}{a:Value}{r:List Value}{t:TypeId}(h:Blk w b (a::r) t):w.cell? ⟨b,0,none⟩=some a:=h.cell 0
theorem IK{w:World}{b:Nat}{c a:Value}{r:List Value}{t:TypeId}(h:Blk w b (c::a::r) t):w.cell? ⟨b,1,none⟩=some a:=h.cell 1
theorem IJ{w:World}{b:Nat}{d c a:Value}{r:List Value}{t:TypeId}(h:Blk w b (d::c::a::r) t):w.cell? ⟨b,2,none⟩=some a:=h.cell 2
theorem Bg{w:World}{b:Nat}{e d c a:Value}{r:List Value}{t:TypeId}(h:Blk w b (e::d::c::a::r) t):w.cell? ⟨b,3,none⟩=some a:=h.cell 3
theorem Tu{w:World}{b:Nat}{f e d c a:Value}{r:List Value}{t:TypeId}(h:Blk w b (f::e::d::c::a::r) t):w.cell? ⟨b,4,none⟩=some a:=h.cell 4
theorem Ta{w:World}{b:Nat}{g f e d c a:Value}{r:List Value}{t:TypeId}(h:Blk w b (g::f::e::d::c::a::r) t):w.cell? ⟨b,5,none⟩=some a:=h.cell 5
theorem QT{w:World}{b:Nat}{i g f e d c a:Value}{r:List Value}{t:TypeId}(h:Blk w b (i::g::f::e::d::c::a::r) t):w.cell? ⟨b,6,none⟩=some a:=h.cell 6
theorem wz{w:World}{b:Nat}{c a:Value}{r:List Value}{t:TypeId}(h:Blk w b (c::a::r) t):w.cell? ⟨b,0,none⟩=some c/\w.cell? ⟨b,1,none⟩=some a:=⟨h.cell 0,h.cell 1⟩
theorem mi{w:World}{b:Nat}{d c a:Value}{r:List Value}{t:TypeId}(h:Blk w b (d::c::a::r) t):w.cell? ⟨b,0,none⟩=some d/\w.cell? ⟨b,1,none⟩=some c/\w.cell? ⟨b,2,none⟩=some a:=⟨h.cell 0,h.cell 1,h.cell 2⟩
theorem AV{w:World}{b:Nat}{e d c a:Value}{r:List Value}{t:TypeId}(h:Blk w b (e::d::c::a::r) t):w.cell? ⟨b,0,none⟩=some e/\w.cell? ⟨b,1,none⟩=some d/\w.cell? ⟨b,2,none⟩=some c/\w.cell? ⟨b,3,none⟩=some a:=⟨h.cell 0,h.cell 1,h.cell 2,h.cell 3⟩
theorem Rf{w:World}{b:Nat}{f e d c a:Value}{r:List Value}{t:TypeId}(h:Blk w b (f::e::d::c::a::r) t):w.cell? ⟨b,0,none⟩=some f/\w.cell? ⟨b,1,none⟩=some e/\w.cell? ⟨b,2,none⟩=some d/\w.cell? ⟨b,3,none⟩=some c/\w.cell? ⟨b,4,none⟩=some a:=⟨h.cell 0,h.cell 1,h.cell 2,h.cell 3,h.cell 4⟩
theorem N5{w:World}{b:Nat}{g f e d c a:Value}{r:List Value}{t:TypeId}(h:Blk w b (g::f::e::d::c::a::r) t):w.cell? ⟨b,0,none⟩=some g/\w.cell? ⟨b,1,none⟩=some f/\w.cell? ⟨b,2,none⟩=some e/\w.cell? ⟨b,3,none⟩=some d/\w.cell? ⟨b,4,none⟩=some c/\w.cell? ⟨b,5,none⟩=some a:=⟨h.cell 0,h.cell 1,h.cell 2,h.cell 3,h.cell 4,h.cell 5⟩
theorem Bh{w:World}{b:Nat}{i g f e d c a:Value}{r:List Value}{t:TypeId}(h:Blk w b (i::g::f::e::d::c::a::r) t):w.cell? ⟨b,0,none⟩=some i/\w.cell? ⟨b,1,none⟩=some g/\w.cell? ⟨b,2,none⟩=some f/\w.cell? ⟨b,3,none⟩=some e/\w.cell? ⟨b,4,none⟩=some d/\w.cell? ⟨b,5,none⟩=some c/\w.cell? ⟨b,6,none⟩=some a:=⟨h.cell 0,h.cell 1,h.cell 2,h.cell 3,h.cell 4,h.cell 5,h.cell 6⟩
theorem O8{w:World}{b:Nat}{l:List Value}{t:TypeId}(h:Blk w b l t):w.frozen? ⟨b,0,none⟩=false/\w.frozen? ⟨b,1,none⟩=false:=⟨h.frozen 0,h.frozen 1⟩
theorem IR{w:World}{b:Nat}{l:List Value}{t:TypeId}(h:Blk w b l t):w.frozen? ⟨b,0,none⟩=false/\w.frozen? ⟨b,1,none⟩=false/\w.frozen? ⟨b,2,none⟩=false:=⟨h.frozen 0,h.frozen 1,h.frozen 2⟩
theorem So{w:World}{b:Nat}{l:List Value}{t:TypeId}(h:Blk w b l t):w.frozen? ⟨b,0,none⟩=false/\w.frozen? ⟨b,1,none⟩=false/\w.frozen? ⟨b,2,none⟩=false/\w.frozen? ⟨b,3,none⟩=false/\w.frozen? ⟨b,4,none⟩=false/\w.frozen? ⟨b,5,none⟩=false:=⟨h.frozen 0,h.frozen 1,h.frozen 2,h.frozen 3,h.frozen 4,h.frozen 5⟩
theorem jf6{w:World}{b:Nat}{l:List Value}{t:TypeId}(h:Blk w b l t):w.frozen? ⟨b,0,none⟩=false/\w.frozen? ⟨b,1,none⟩=false/\w.frozen? ⟨b,2,none⟩=false/\w.frozen? ⟨b,3,none⟩=false/\w.frozen? ⟨b,4,none⟩=false/\w.frozen? ⟨b,5,none⟩=false/\w.frozen? ⟨b,6,none⟩=false:=⟨h.frozen 0,h.frozen 1,h.frozen 2,h.frozen 3,h.frozen 4,h.frozen 5,h.frozen 6⟩
theorem EA{w w':World}{a:Addr}{v:Value}(h:w.cell? a=some v)(b:Below w.heap.size w w'):w'.cell? a=some v:=
 (WC (w:=w) (b.block _ (WW _ _ h))).trans h
theorem aS{w:World}{base:Nat}{e:TypeId}{a:Nat}{v:Value}{n:Nat}{xs:List Value}(h:w.ownsRow base e a v n xs):∀k,v.ownBlock=some k->base<=k:=by
 intro k b;rcases h.2 with⟨rfl,_⟩|⟨g,d,c,rfl,f,_⟩
 ·cases b
 ·simp[Value.ownBlock]at b;omega
theorem uE{w w':World}{base b n sz:Nat}{e:TypeId}{v:Value}{xs:List Value}(h:w.ownsRow base e sz v n xs)(i:Kept w w' [b])(m:b<base):w'.ownsRow base e sz v n xs:=by
 refine⟨h.1,?_⟩
 rcases h.2 with l|⟨g,c,a,f,k,d,r⟩
 ·exact .inl l
 ·exact .inr ⟨g,c,a,f,k,(i.block g (WE.1 d).1 (by simp;omega)).trans d,r⟩
theorem ax{w w':World}{base n sz:Nat}{e:TypeId}{v:Value}{xs:List Value}(h:w.ownsRow base e sz v n xs)(i:Below w.heap.size w w'):w'.ownsRow base e sz v n xs:=by
 refine⟨h.1,?_⟩
 rcases h.2 with k|⟨g,b,a,d,f,c,r⟩
 ·exact .inl k
 ·exact .inr ⟨g,b,a,d,f,(i.block g (WE.1 c).1).trans c,r⟩
structure Row (w:World) (ao:Option Addr) (n cap sz:Nat) (cs:List Value):Prop where
 len:cs.length=n*sz
 room:n<=cap
 fg:cap<=9223372036854775807
 bH:n≠0->∃ b off,ao=some ⟨b,off,none⟩/\∀ j u,cs[j]?=some u->w.cell? ⟨b,off+j,none⟩=some u
theorem Row.below{w w':World}{d:Option Addr}{n a sz:Nat}{cs:List Value}(h:Row w d n a sz cs)(k:Below w.heap.size w w'):Row w' d n a sz cs:=
 ⟨h.len,h.room,h.fg,fun f=>by
  obtain⟨b,c,g,i⟩:=h.bH f;exact⟨b,c,g,fun j u e=>EA (i j u e) k⟩⟩
theorem Row.nil(w:World)(sz:Nat):Row w none 0 0 sz []:=⟨by simp,UZ _,by decide,fun h=>absurd rfl h⟩
theorem bg{w:World}{i n sz:Nat}{e:TypeId}{v:Value}{xs:List Value}(h:w.ownsRow i e sz v n xs):∃c a,v=.slice c n a/\Row w c n a sz xs:=by
 rcases h.2 with⟨rfl,rfl⟩|⟨g,a,k,rfl,m,l,f,b,p,o⟩
 ·have:xs=[]:=by have:=h.1;rw[XQ]at this;exact VS.1 this
  subst this;exact⟨none,0,rfl,Row.nil w sz⟩
 ·refine⟨_,a,rfl,h.1,f,by unfold maxLen at b;exact b,fun _=>⟨g,0,rfl,fun j u d=>?_⟩⟩
  have:=h.cells (g:=g) rfl j u d;have e:(⟨g,0,none⟩:Addr).add j=⟨g,0+j,none⟩:=by unfold Addr.add;split<;>simp_all
  rw[e]at this;exact this
theorem oo{P:Program}{w:World}{ops:Array Oper}{b:List Oper}{o:Oper}{a:Act}{Q:Exit->Act->World->Prop}(c:o.guard=none)(s x:Operand)(d:Array TypeId)
  (i:o.op=.call {callee:=.builtin .append,args:=#[s,x],argTypes:=d})(v u r:Value)(w':World)(f:a.eval s=v)(e:a.eval x=u)
  (g:(Builtin.append_ d o.type #[v,u]).run P w=.ok r w')(h:wpList P ops Q b (a.put o.dst r) w'):wpList P ops Q (o::b) a w:=
 wpList_plain c fun _ k=>by
  unfold Oper.wp execOp;simp only[i,resolve,invoke,builtin,Sem.run_bind,Sem.run_pure,Result.andThen_ok,List.map_toArray,XA,List.map_nil,f,e,g]
  exact k _ _ h
theorem zV{P:Program}{a:Nat}{c e:TypeId}{d:Option Addr}{b:Nat}{w:World}(h:P.underlying c=some (.slice e)):Src P a c (.slice d 0 b) 0 [] w:=by
 refine⟨.inl ⟨e,h⟩,fun w'=>rfl,?_,?_,by simp,fun u f=>by cases f⟩
 all_goals
  cases d
  ·rfl
  ·simp only[Builtin.firstCells,XQ]
   rfl
def ob (v:Value):List Nat:=v.ownBlock.toList
theorem cE{v:Value}{x:Nat}(h:x∈ob v):v.ownBlock=some x:=by
 unfold ob at h;simpa using h
theorem dX(w:World)(b j:Nat)(v:Value)(S:List Nat)(h:b∈S):Kept w (w.setCell ⟨b,j,none⟩ v) S:=(Kept.refl w S).setCell _ _ (.inl h)
theorem yf{P:Program}(t d b e k:TypeId)(i:P.underlying t=some (.slice e))(h:P.underlying d=some (.slice k))(f:Option Addr)(n a:Nat)(g:Option Addr)(m c:Nat)(w:World):
  (Builtin.append_ #[t,d] b #[.slice f n a,.slice g m c]).run P w=(Builtin.append_ #[t,t] b #[.slice f n a,.slice g m c]).run P w:=by
 simp[Builtin.append_,run_underlying i,run_underlying h]
section
variable {P:Program} (w:World)
theorem mV{o:Oper}{a:Act}{K:Act->World->Prop}{Q:Exit->Act->World->Prop}(s x:Operand)(t A L:TypeId)
  (S:o.op=.call {callee:=.builtin .append,args:=#[s,x],argTypes:=#[t,A]})(D:P.underlying A=some (.slice L))
  (base:Nat)(e:TypeId)(i:TypeInfo)(z:Value)(b f:Nat)(I:P.underlying t=some (.slice e))(V:P.info? e=some i)(M:i.zero=some z)
  (q:i.size=b)(F:i.bytes=f)(C:z.cells.size=b)(E:0<b)
  (v:Value)(n:Nat)(xs:List Value)(O:a.eval s=v)(p:w.ownsRow base e b v n xs)
  (B:Addr)(m c:Nat)(d:List Value)(N:a.eval x=.slice (some B) m c)(U:d.length=m*b)(r:∀j u,d[j]?=some u->w.cell? (B.add j)=some u)(h1:∀u∈d,u.oneCell'=true)
  (T:0<m)(G:n+m<=maxLen)(l:(n+m)*f<=140737488355328)(y:base<=w.heap.size)(H:Nat)(W:w.heap.size=H)
  (h:∀g k w',w'.ownsRow base e b (.slice (some ⟨g,0,none⟩) (n+m) k) (n+m) (xs++d)->w.grownBy w' v.ownBlock->(v.ownBlock=some g\/g=H)->g<w'.heap.size->K (a.put o.dst (.slice (some ⟨g,0,none⟩) (n+m) k)) w'):o.wp P a w K Q:=by
 obtain⟨g,k,w',J,h2,Z,Y,X⟩:=run_append_lies (P:=P) w t o.type base e i z b f I V M q F C E v n xs p B m c d U r h1 T G l y H W;obtain⟨ao,cp,rfl,-⟩:=bg p;rw[<-yf t A o.type e L I D]at J;unfold Oper.wp execOp;simp only[S,resolve,invoke,builtin,Sem.run_bind,Sem.run_pure,Result.andThen_ok,List.map_toArray,XA,List.map_nil,O,N,J]
 exact h g k w' h2 Z Y X
theorem jO{ops:Array Oper}{p:List Oper}{o:Oper}{a:Act}{Q:Exit->Act->World->Prop}(G:o.guard=none)(s x:Operand)(t B K:TypeId)
  (S:o.op=.call {callee:=.builtin .append,args:=#[s,x],argTypes:=#[t,B]})(E:P.underlying B=some (.slice K))
  (base:Nat)(e:TypeId)(i:TypeInfo)(z:Value)(b f:Nat)(N:P.underlying t=some (.slice e))(V:P.info? e=some i)(L:i.zero=some z)
  (q:i.size=b)(I:i.bytes=f)(D:z.cells.size=b)(F:0<b)
  (v:Value)(n:Nat)(xs:List Value)(O:a.eval s=v)(A:w.ownsRow base e b v n xs)
  (C:Addr)(m c:Nat)(d:List Value)(M:a.eval x=.slice (some C) m c)(U:d.length=m*b)(r:∀j u,d[j]?=some u->w.cell? (C.add j)=some u)(h1:∀u∈d,u.oneCell'=true)
  (T:0<m)(J:n+m<=maxLen)(l:(n+m)*f<=140737488355328)(y:base<=w.heap.size)(H:Nat)(X:w.heap.size=H)
  (h:∀g k w',w'.ownsRow base e b (.slice (some ⟨g,0,none⟩) (n+m) k) (n+m) (xs++d)->w.grownBy w' v.ownBlock->(v.ownBlock=some g\/g=H)->g<w'.heap.size->wpList P ops Q p (a.put o.dst (.slice (some ⟨g,0,none⟩) (n+m) k)) w'):wpList P ops Q (o::p) a w:=
 wpList_plain G fun _ W=>mV w s x t B K S E base e i z b f N V L q I D F v n xs O A C m c d M U r h1 T J l y H X fun g k w' h2 h3 Z Y=>W _ _ (h g k w' h2 h3 Z Y)
theorem kN{ops:Array Oper}{o:Oper}{a:Act}{K:Act->World->Prop}{Q:Exit->Act->World->Prop}{E:Prop}(G:o.guard=none)(s x:Operand)(t A L:TypeId)
  (U:o.op=.call {callee:=.builtin .append,args:=#[s,x],argTypes:=#[t,A]})(D:P.underlying A=some (.slice L))
  (base:Nat)(e:TypeId)(i:TypeInfo)(z:Value)(b f:Nat)(S:P.underlying t=some (.slice e))(X:P.info? e=some i)(M:i.zero=some z)
  (l:i.size=b)(I:i.bytes=f)(C:z.cells.size=b)(F:0<b)
  (v:Value)(n:Nat)(xs:List Value)(T:a.eval s=v)(y:w.ownsRow base e b v n xs)
  (B:Addr)(m c:Nat)(d:List Value)(N:a.eval x=.slice (some B) m c)(W:d.length=m*b)(p:∀j u,d[j]?=some u->w.cell? (B.add j)=some u)(Z:∀u∈d,u.oneCell'=true)
  (V:0<m)(J:n+m<=maxLen)(k:(n+m)*f<=140737488355328)(q:base<=w.heap.size)(H:Nat)(Y:w.heap.size=H)
  (h:∀g r w',w'.ownsRow base e b (.slice (some ⟨g,0,none⟩) (n+m) r) (n+m) (xs++d)->w.grownBy w' v.ownBlock->(v.ownBlock=some g\/g=H)->g<w'.heap.size->K (a.put o.dst (.slice (some ⟨g,0,none⟩) (n+m) r)) w'):
  if Region.wanted o (yielded ops a.tmps)=true then Oper.wp P o a w K Q else E:=by
 have O:Region.wanted o (yielded ops a.tmps)=true:=by simp[Region.wanted,G]
 rw[VC O];exact mV w s x t A L U D base e i z b f S X M l I C F v n xs T y B m c d N W p Z V J k q H Y h
end
theorem gh{w w':World}{v:Value}(h:w.grownBy w' v.ownBlock):Kept w w' (ob v):=
 ⟨h.os,h.tape,h.output,h.size,fun k b a=>h.block k b (fun e=>a (by unfold ob;rw[<-e];simp))⟩
end Go.Proofs.YthddphjghgdalaaGreatDoor
namespace Go.Proofs
open Go.Shelf
def Tryz.AN:Go.Shelf.Ren:=⟨fun | 119=>200 | n=>n,fun | 21=>21 | 4=>4 | n=>n,fun | n=>n⟩
theorem Tryz.N1:Go.Proofs.Lays.n119 prog Tryz.AN:={
 mixed:=by kernel_rfl
 f119:=func200.trans (congrArg some (by kernel_rfl))
 t4:=underlying4
 a4:=Tryz.isAgg4
 z4:=Tryz.sizeOf4
 v4:=Tryz.zeroValue4
 t21:=underlying21
 a21:=Tryz.isAgg21
 z21:=Tryz.sizeOf21
 v21:=Tryz.zeroValue21 }
theorem Tryz.utf8_ValidRune(r:Int)(w:World):
  Calls prog 200 #[.int .i32 r] w fun e w'=>e=.returned (.bool (Lib.validRune r))/\w'=w:=Any.utf8_ValidRune Tryz.N1 r w
def Tryz.AM:Go.Shelf.Ren:=⟨fun | 137=>146 | 217=>168 | 266=>182 | n=>n,fun | 9=>9 | 5=>5 | 3=>3 | n=>n,fun | n=>n⟩
theorem Tryz.N0:Go.Proofs.Lays.n137 prog Tryz.AM:={
 mixed:=by kernel_rfl
 f137:=func146.trans (congrArg some (by kernel_rfl))
 f217:=func168.trans (congrArg some (by kernel_rfl))
 f266:=func182.trans (congrArg some (by kernel_rfl))
 t3:=underlying3
 a3:=Tryz.isAgg3
 z3:=Tryz.sizeOf3
 v3:=Tryz.zeroValue3
 t5:=underlying5
 a5:=Tryz.isAgg5
 z5:=Tryz.sizeOf5
 v5:=Tryz.zeroValue5
 t9:=underlying9
 a9:=Tryz.isAgg9
 z9:=Tryz.sizeOf9
 v9:=Tryz.zeroValue9 }
open Go.RowKit in
theorem Tryz.strings_IndexByte(s:ByteArray)(c:Int)(w:World):
  Calls prog 146 #[.string s,.int .u8 c] w fun e w'=>e=.returned (.int .i64 (Lib.indexByte s.data.toList c.toNat.toUInt8))/\w'=w:=Any.strings_IndexByte Tryz.N0 s c w
def Tryz.yM:Go.Shelf.Ren:=⟨fun | 316=>196 | n=>n,fun | 9=>9 | 3=>3 | 4=>4 | 37=>33 | 0=>0 | 127=>247 | 5=>5 | n=>n,fun | n=>n⟩
theorem Tryz.LJ:Go.Proofs.LaysM.n316 prog Tryz.yM:={
 mixed:=by kernel_rfl
 f316:=func196.trans (congrArg some (by kernel_rfl))
 t0:=underlying0
 a0:=Tryz.isAgg0
 z0:=Tryz.sizeOf0
 v0:=Tryz.zeroValue0
 t3:=underlying3
 a3:=Tryz.isAgg3
 z3:=Tryz.sizeOf3
 v3:=Tryz.zeroValue3
 t4:=underlying4
 a4:=Tryz.isAgg4
 z4:=Tryz.sizeOf4
 v4:=Tryz.zeroValue4
 t9:=underlying9
 a9:=Tryz.isAgg9
 z9:=Tryz.sizeOf9
 v9:=Tryz.zeroValue9
 t37:=underlying33
 a37:=Tryz.isAgg33
 z37:=Tryz.sizeOf33
 v37:=Tryz.zeroValue33
 t127:=underlying247
 a127:=Tryz.isAgg247
 z127:=Tryz.sizeOf247
 v127:=Tryz.zeroValue247
 t5:=underlying5
 a5:=Tryz.isAgg5
 z5:=Tryz.sizeOf5
 v5:=Tryz.zeroValue5
 i0:=by kernel_rfl
 i3:=by kernel_rfl
 i4:=by kernel_rfl
 i5:=by kernel_rfl
 i9:=by kernel_rfl
 i37:=by kernel_rfl
 i127:=by kernel_rfl }
open Go.RowKit in
theorem Tryz.stringslite_Clone(s:ByteArray)(w:World)(a:s.size<=281474976710656):
  Calls prog 196 #[.string s] w fun e w'=>e=.returned (.string s)/\Below w.heap.size w w':=Any.stringslite_Clone Tryz.LJ s w a
def Tryz.AJ:Go.Shelf.Ren:=⟨fun | 219=>183 | 217=>168 | 225=>197 | 224=>198 | 267=>199 | 266=>182 | 314=>204 | n=>n,fun | 9=>9 | 3=>3 | 4=>4 | 5=>5 | 46=>239 | 146=>249 | 51=>248 | n=>n,fun | 1=>3 | n=>n⟩
theorem Tryz.Nx:Go.Proofs.Lays.n219 prog Tryz.AJ:={
 mixed:=by kernel_rfl
 f217:=func168.trans (congrArg some (by kernel_rfl))
 f219:=func183.trans (congrArg some (by kernel_rfl))
 f224:=func198.trans (congrArg some (by kernel_rfl))
 f225:=func197.trans (congrArg some (by kernel_rfl))
 f266:=func182.trans (congrArg some (by kernel_rfl))
 f267:=func199.trans (congrArg some (by kernel_rfl))
 f314:=func204.trans (congrArg some (by kernel_rfl))
 t3:=underlying3
 a3:=Tryz.isAgg3
 z3:=Tryz.sizeOf3
 v3:=Tryz.zeroValue3
 t4:=underlying4
 a4:=Tryz.isAgg4
 z4:=Tryz.sizeOf4
 v4:=Tryz.zeroValue4
 t5:=underlying5
 a5:=Tryz.isAgg5
 z5:=Tryz.sizeOf5
 v5:=Tryz.zeroValue5
 t9:=underlying9
 a9:=Tryz.isAgg9
 z9:=Tryz.sizeOf9
 v9:=Tryz.zeroValue9
 t46:=underlying239
 a46:=Tryz.isAgg239
 z46:=Tryz.sizeOf239
 v46:=Tryz.zeroValue239
 t51:=underlying248
 a51:=Tryz.isAgg248
 z51:=Tryz.sizeOf248
 v51:=Tryz.zeroValue248
 t146:=underlying249
 a146:=Tryz.isAgg249
 z146:=Tryz.sizeOf249
 v146:=Tryz.zeroValue249
 g1:=by kernel_rfl }
open Go.RowKit Go.Lib in
theorem Tryz.stringslite_Index_one(s:ByteArray)(c:UInt8)(w:World):
  Calls prog 183 #[.string s,.string ⟨#[c]⟩] w fun e w'=>e=.returned (.int .i64 (Lib.indexByte s.data.toList c))/\w'=w:=Any.stringslite_Index_one Tryz.Nx s c w
def Tryz.AL:Go.Shelf.Ren:=⟨fun | 145=>147 | 220=>169 | 219=>183 | 217=>168 | 225=>197 | 224=>198 | 267=>199 | 266=>182 | 314=>204 | n=>n,fun | 9=>9 | 4=>4 | 59=>200 | 3=>3 | 5=>5 | 46=>239 | 146=>249 | 51=>248 | n=>n,fun | 1=>3 | n=>n⟩
theorem Tryz.Nz:Go.Proofs.Lays.n145 prog Tryz.AL:={
 mixed:=by kernel_rfl
 f145:=func147.trans (congrArg some (by kernel_rfl))
 f217:=func168.trans (congrArg some (by kernel_rfl))
 f219:=func183.trans (congrArg some (by kernel_rfl))
 f220:=func169.trans (congrArg some (by kernel_rfl))
 f224:=func198.trans (congrArg some (by kernel_rfl))
 f225:=func197.trans (congrArg some (by kernel_rfl))
 f266:=func182.trans (congrArg some (by kernel_rfl))
 f267:=func199.trans (congrArg some (by kernel_rfl))
 f314:=func204.trans (congrArg some (by kernel_rfl))
 t3:=underlying3
 a3:=Tryz.isAgg3
 z3:=Tryz.sizeOf3
 v3:=Tryz.zeroValue3
 t4:=underlying4
 a4:=Tryz.isAgg4
 z4:=Tryz.sizeOf4
 v4:=Tryz.zeroValue4
 t5:=underlying5
 a5:=Tryz.isAgg5
 z5:=Tryz.sizeOf5
 v5:=Tryz.zeroValue5
 t9:=underlying9
 a9:=Tryz.isAgg9
 z9:=Tryz.sizeOf9
 v9:=Tryz.zeroValue9
 t46:=underlying239
 a46:=Tryz.isAgg239
 z46:=Tryz.sizeOf239
 v46:=Tryz.zeroValue239
 t51:=underlying248
 a51:=Tryz.isAgg248
 z51:=Tryz.sizeOf248
 v51:=Tryz.zeroValue248
 t59:=underlying200
 a59:=Tryz.isAgg200
 z59:=Tryz.sizeOf200
 v59:=Tryz.zeroValue200
 t146:=underlying249
 a146:=Tryz.isAgg249
 z146:=Tryz.sizeOf249
 v146:=Tryz.zeroValue249
 g1:=by kernel_rfl }
open Go.RowKit Go.Lib in
theorem Tryz.strings_Cut(s a:ByteArray)(m:Int)(w:World)(b:s.size<4294967281)(c:w.cell? ⟨3,0,none⟩=some (.int .i64 m)):
  Calls prog 147 #[.string s,.string a] w fun e w'=>e=.returned (.tuple #[.string ⟨(Lib.cut s.data.toList a.data.toList).1.toArray⟩,.string ⟨(Lib.cut s.data.toList a.data.toList).2.1.toArray⟩,.bool (Lib.cut s.data.toList a.data.toList).2.2])/\∃n,w'=w.drewN n:=Any.strings_Cut Tryz.Nz s a m w b c
def Tryz.DJ:Go.Shelf.Ren:=⟨fun | 99=>159 | 206=>175 | n=>n,fun | 9=>9 | 4=>4 | 3=>3 | n=>n,fun | n=>n⟩
theorem Tryz.QM:Go.Proofs.Lays.n99 prog Tryz.DJ:={
 mixed:=by kernel_rfl
 f99:=func159.trans (congrArg some (by kernel_rfl))
 f206:=func175.trans (congrArg some (by kernel_rfl))
 t3:=underlying3
 a3:=Tryz.isAgg3
 z3:=Tryz.sizeOf3
 v3:=Tryz.zeroValue3
 t4:=underlying4
 a4:=Tryz.isAgg4
 z4:=Tryz.sizeOf4
 v4:=Tryz.zeroValue4
 t9:=underlying9
 a9:=Tryz.isAgg9
 z9:=Tryz.sizeOf9
 v9:=Tryz.zeroValue9 }
open Go.RowKit Go.Lib in
theorem Tryz.strings_HasPrefix(s p:ByteArray)(w:World):
  Calls prog 159 #[.string s,.string p] w fun e w'=>e=.returned (.bool (Lib.hasPrefix s.data.toList p.data.toList))/\w'=w:=Any.strings_HasPrefix Tryz.QM s p w
def Tryz.AK:Go.Shelf.Ren:=⟨fun | 152=>184 | 137=>146 | 119=>200 | 224=>198 | 225=>197 | 217=>168 | 266=>182 | n=>n,fun | 9=>9 | 21=>21 | 3=>3 | 4=>4 | 5=>5 | 0=>0 | 46=>239 | n=>n,fun | n=>n⟩
theorem Tryz.Ny:Go.Proofs.Lays.n152 prog Tryz.AK:={
 mixed:=by kernel_rfl
 f119:=func200.trans (congrArg some (by kernel_rfl))
 f137:=func146.trans (congrArg some (by kernel_rfl))
 f152:=func184.trans (congrArg some (by kernel_rfl))
 f217:=func168.trans (congrArg some (by kernel_rfl))
 f224:=func198.trans (congrArg some (by kernel_rfl))
 f225:=func197.trans (congrArg some (by kernel_rfl))
 f266:=func182.trans (congrArg some (by kernel_rfl))
 t0:=underlying0
 a0:=Tryz.isAgg0
 z0:=Tryz.sizeOf0
 v0:=Tryz.zeroValue0
 t3:=underlying3
 a3:=Tryz.isAgg3
 z3:=Tryz.sizeOf3
 v3:=Tryz.zeroValue3
 t4:=underlying4
 a4:=Tryz.isAgg4
 z4:=Tryz.sizeOf4
 v4:=Tryz.zeroValue4
 t5:=underlying5
 a5:=Tryz.isAgg5
 z5:=Tryz.sizeOf5
 v5:=Tryz.zeroValue5
 t9:=underlying9
 a9:=Tryz.isAgg9
 z9:=Tryz.sizeOf9
 v9:=Tryz.zeroValue9
 t21:=underlying21
 a21:=Tryz.isAgg21
 z21:=Tryz.sizeOf21
 v21:=Tryz.zeroValue21
 t46:=underlying239
 a46:=Tryz.isAgg239
 z46:=Tryz.sizeOf239
 v46:=Tryz.zeroValue239 }
open Go.RowKit Go.Lib in
theorem Tryz.strings_IndexRune_ascii(s:ByteArray)(r:Int)(w:World)(b:0<=r)(a:r<128):
  Calls prog 184 #[.string s,.int .i32 r] w fun e w'=>e=.returned (.int .i64 (Lib.indexByte s.data.toList r.toNat.toUInt8))/\w'=w:=Any.strings_IndexRune_ascii Tryz.Ny s r w b a
def Tryz.AI:Go.Shelf.Ren:=⟨fun | 226=>185 | n=>n,fun | 3=>3 | 4=>4 | n=>n,fun | n=>n⟩
theorem Tryz.Nw:Go.Proofs.Lays.n226 prog Tryz.AI:={
 mixed:=by kernel_rfl
 f226:=func185.trans (congrArg some (by kernel_rfl))
 t3:=underlying3
 a3:=Tryz.isAgg3
 z3:=Tryz.sizeOf3
 v3:=Tryz.zeroValue3
 t4:=underlying4
 a4:=Tryz.isAgg4
 z4:=Tryz.sizeOf4
 v4:=Tryz.zeroValue4 }
open Go.RowKit Go.Lib in
theorem Tryz.strings_shouldUseASCIISet(n:Int)(w:World):
  Calls prog 185 #[.int .i64 n] w fun e w'=>e=.returned (.bool (decide (8<n)))/\w'=w:=Any.strings_shouldUseASCIISet Tryz.Nw n w
def Tryz.AH:Go.Shelf.Ren:=⟨fun | 227=>186 | n=>n,fun | 9=>9 | 116=>228 | 4=>4 | 0=>0 | 3=>3 | 5=>5 | n=>n,fun | n=>n⟩
theorem Tryz.Nv:Go.Proofs.Lays.n227 prog Tryz.AH:={
 mixed:=by kernel_rfl
 f227:=func186.trans (congrArg some (by kernel_rfl))
 t0:=underlying0
 a0:=Tryz.isAgg0
 z0:=Tryz.sizeOf0
 v0:=Tryz.zeroValue0
 t3:=underlying3
 a3:=Tryz.isAgg3
 z3:=Tryz.sizeOf3
 v3:=Tryz.zeroValue3
 t4:=underlying4
 a4:=Tryz.isAgg4
 z4:=Tryz.sizeOf4
 v4:=Tryz.zeroValue4
 t5:=underlying5
 a5:=Tryz.isAgg5
 z5:=Tryz.sizeOf5
 v5:=Tryz.zeroValue5
 t9:=underlying9
 a9:=Tryz.isAgg9
 z9:=Tryz.sizeOf9
 v9:=Tryz.zeroValue9
 t116:=underlying228
 a116:=Tryz.isAgg228
 z116:=Tryz.sizeOf228 }
open Go.RowKit Go.Lib in
theorem Tryz.strings_makeASCIISet(d:∀w,(zeroValue 228).run prog w=.ok (.agg (Array.replicate 256 (.bool false))) w)(a:ByteArray)(w:World)(f:a.size<4294967281)(c:∀(j:Nat) b,a.data.toList[j]?=some b->b.toNat<128):
  Calls prog 186 #[.string a] w fun e w'=>e=.returned (.tuple #[.agg (Lib.setCells a.data.toList),.bool true])/\w'=w.alloc (.cells (Lib.setCells a.data.toList) 228):=Any.strings_makeASCIISet Tryz.Nv d (by kernel_rfl) a w f c
def Tryz.AG:Go.Shelf.Ren:=⟨fun | 228=>187 | n=>n,fun | 124=>237 | 5=>5 | 4=>4 | 0=>0 | 116=>228 | n=>n,fun | n=>n⟩
theorem Tryz.Nu:Go.Proofs.Lays.n228 prog Tryz.AG:={
 mixed:=by kernel_rfl
 f228:=func187.trans (congrArg some (by kernel_rfl))
 t0:=underlying0
 a0:=Tryz.isAgg0
 z0:=Tryz.sizeOf0
 v0:=Tryz.zeroValue0
 t4:=underlying4
 a4:=Tryz.isAgg4
 z4:=Tryz.sizeOf4
 v4:=Tryz.zeroValue4
 t5:=underlying5
 a5:=Tryz.isAgg5
 z5:=Tryz.sizeOf5
 v5:=Tryz.zeroValue5
 t116:=underlying228
 a116:=Tryz.isAgg228
 z116:=Tryz.sizeOf228
 t124:=underlying237
 a124:=Tryz.isAgg237
 z124:=Tryz.sizeOf237
 v124:=Tryz.zeroValue237 }
open Go.RowKit Go.Lib in
theorem Tryz.asciiSet_contains(b:Nat)(x:UInt8)(v:Bool)(w:World)(a:w.cell? ⟨b,x.toNat,none⟩=some (.bool v)):
  Calls prog 187 #[.pointer (some ⟨b,0,none⟩),.int .u8 x.toNat] w fun e w'=>e=.returned (.bool v)/\w'=w:=Any.asciiSet_contains Tryz.Nu b x v w a
end Go.Proofs
namespace Go.Proofs.YthddphjghgdalaaGreatDoor
open Go.RowKit Go.Proofs.Tryz
namespace Lk
def dm (c:UInt8):UInt8:=if 65<=c/\c<=90 then c+32 else c
def small (l:List UInt8):List UInt8:=l.map dm
def path:List UInt8:=[47,63,35]
def head (l:List UInt8):List UInt8:=l.takeWhile (fun c=>c != 58)
def scheme (l:List UInt8):List UInt8:=if l.contains 58&&!(Lib.containsAny (head l) path) then small (head l) else []
def pO:List UInt8:=[34,39,60,62,92,96]
def iI (c:UInt8):Bool:=decide (33<=c)&&decide (c<=126)&&!(pO.contains c)
def leads:List (List UInt8):=[[104,116,116,112],[104,116,116,112,115],[109,97,105,108,116,111]]
def lead (x:List UInt8):Bool:=leads.contains x
def may (l:List UInt8):Bool:=decide (1<=l.length)&&decide (l.length<=24)&&l.all iI&&lead (scheme l)
def ff:List UInt8:=[32,9,10,13,12]
def tl (p:UInt8->Bool):List UInt8->List UInt8
 | []=>[]
 | x :: t=>if p x then tl p t else x :: t
def tr (p:UInt8->Bool):List UInt8->List UInt8
 | []=>[]
 | x :: t=>match tr p t with
  | []=>if p x then [] else [x]
  | y :: u=>x :: y :: u
def bl (c:UInt8):Bool:=ff.contains c
def trim (l:List UInt8):List UInt8:=tl bl (tr bl l)
def clean (l:List UInt8):List UInt8:=if may (trim l) then trim l else []
theorem Ee(p:UInt8->Bool)(x:UInt8):∀l,tr p (l++[x])=if p x then tr p l else l++[x]
 |[]=>by simp[tr]
 |y::t=>by
  have a:=Ee p x t;rw[VF,tr,a]
  cases b:p x
  ·simp only[YA,if_false]
   cases t with
   |nil=>rfl
   |cons z u=>rfl
  ·simp only[if_true]
   rw[tr]
theorem Jz(p:UInt8->Bool):∀l,(tl p l).length<=l.length
 |[]=>UZ _
 |x::t=>by
  rw[tl];split
  ·exact VX (Jz p t) (by simp)
  ·exact UZ _
theorem B8(p:UInt8->Bool):∀l,(tr p l).length<=l.length
 |[]=>UZ _
 |x::t=>by
  have a:=B8 p t;rw[tr]
  cases h:tr p t with
  |nil=>simp only;split<;>simp
  |cons y u=>rw[h]at a;simp at a⊢;omega
theorem Ju(l:List UInt8):(trim l).length<=l.length:=VX (Jz _ _) (B8 _ _)
theorem FL:∀(l:List UInt8)(k:Nat),Lib.indexByte l 58=k->k<l.length/\l.take k=head l/\l.contains 58=true
 |[],k,h=>by simp[Lib.indexByte]at h
 |b::l,k,h=>by
  rw[Lib.indexByte]at h;by_cases a:b=58
  ·subst a;simp at h
   obtain rfl:k=0:=by omega
   exact⟨by simp,by simp[head],by simp⟩
  ·have d:(b==58)=false:=by simpa using a
   rw[d]at h;by_cases e:Lib.indexByte l 58=-1
   ·rw[e]at h;simp at h
   ·have c:(Lib.indexByte l 58==-1)=false:=by simpa using e
    have i:=Lib.indexByte_ge l 58;rw[c]at h;simp at h
    match k,h with
    |0,h=>omega
    |k+1,h=>
     obtain⟨m,g,f⟩:=FL l k (by omega);refine⟨by simp;omega,?_,by simp;right;simpa using f⟩
     simp[head,a]
     rw[g];rfl
theorem Na(l:List UInt8)(h:Lib.indexByte l 58=-1):l.contains 58=false:=by
 rw[Lib.contains_iff_indexByte,h];rfl
theorem IT(l:List UInt8):Lib.indexByte l 58=-1\/∃k:Nat,Lib.indexByte l 58=k:=by
 have a:=Lib.indexByte_ge l 58;by_cases h:Lib.indexByte l 58=-1
 ·exact .inl h
 ·exact .inr ⟨(Lib.indexByte l 58).toNat,by omega⟩
theorem Lb(l:List UInt8):(head l).length<=l.length:=(List.takeWhile_sublist _).length_le
theorem wP(l:List UInt8):(small l).length=l.length:=by simp[small]
end Lk
def B (l:List UInt8):ByteArray:=⟨l.toArray⟩
theorem eO(l:List UInt8):(B l).data.toList=l:=rfl
theorem cI(l:List UInt8):(B l).size=l.length:=by simp[B,ByteArray.size]
theorem RY(s:ByteArray):B s.data.toList=s:=rfl
theorem iO(s:ByteArray):s.data.toList.length=s.size:=by simp
theorem iP{a b:ByteArray}(h:a.data.toList=b.data.toList):a=b:=by
 apply ByteArray.ext
 apply Array.ext'
 exact h
theorem xH(s:ByteArray)(a b:Nat):s.extract a b=B ((s.data.toList.drop a).take (b-a)):=by
 apply iP
 rw[Lib.extract_data];rfl
theorem aq(s:ByteArray)(k:Nat)(h:k<s.size)(w:World):(Instr.index 9 (.string s) (.int .i64 k)).run prog w=.ok (.int .u8 (s[k]'h).toNat) w:=by
 have a:=underlying9;simp[go_sem,a,h]
theorem tg(s:ByteArray)(k:Nat)(h:k<=s.size)(w:World):(Instr.slice 9 (.string s) none (some (.int .i64 k)) none).run prog w=.ok (.string (B (s.data.toList.take k))) w:=by
 have:=run_slice_string_h (P:=prog) w 9 s underlying9 .i64 (k:Int) (by omega) (by omega);rw[this,xH];simp
theorem oz(s:ByteArray)(k:Nat)(h:k<=s.size)(w:World):(Instr.slice 9 (.string s) (some (.int .i64 k)) none none).run prog w=.ok (.string (B (s.data.toList.drop k))) w:=by
 have:=run_slice_string_l (P:=prog) w 9 s underlying9 .i64 (k:Int) (by omega) (by omega);rw[this,xH,XD (by simp)];simp
structure kK (b:Nat) (w wr:World) (l:List UInt8):Prop where
 aM:∃ cs f,wr.heap[b]?=some (.cells cs 5 (f,f+1))/\l.length<=f/\∀ j (hj:j<l.length),cs[j]?=some (.int .u8 l[j].toNat)
 below:Below b w wr
theorem kK.start(w:World)(s:ByteArray):kK w.heap.size w (Lib.bytesWorld w 5 s) s.data.toList:=by
 refine⟨⟨_,_,Lib.bytesWorld_at_new w 5 s,?_,?_⟩,⟨rfl,rfl,rfl,by rw[Lib.bytesWorld_size];omega,fun k b=>Lib.bytesWorld_at_old w 5 s k b⟩⟩
 ·simp[Lib.bytesCells]
 ·intro j a;simp[Lib.bytesCells,Array.getElem?_append]at a⊢
  rw[VC (by simpa using a),Array.getElem?_eq_getElem (by simpa using a)];simp
theorem kK.cell{b:Nat}{w wr:World}{l:List UInt8}(h:kK b w wr l)(j:Nat)(a:j<l.length):wr.cell? ⟨b,j,none⟩=some (.int .u8 l[j].toNat):=by
 obtain⟨cs,f,c,_,d⟩:=h.aM;simp[World.cell?,c,d j a]
theorem kK.frozen{b:Nat}{w wr:World}{l:List UInt8}(h:kK b w wr l)(j:Nat)(c:j<l.length):wr.frozen? ⟨b,j,none⟩=false:=by
 obtain⟨cs,f,a,d,e⟩:=h.aM;simp[World.frozen?,a]
 omega
theorem kK.set{b:Nat}{w wr:World}{l:List UInt8}(h:kK b w wr l)(j:Nat)(c:UInt8):kK b w (wr.setCell ⟨b,j,none⟩ (.int .u8 c.toNat)) (l.set j c):=by
 obtain⟨cs,f,n,o,k⟩:=h.aM;obtain⟨g,p⟩:=WE.1 n;refine⟨⟨cs.set! j (.int .u8 c.toNat),f,?_,by simpa using o,?_⟩,h.below.setCell (UZ _) _⟩
 ·simp[World.setCell,g,Array.getElem_modify,p]
 ·intro i m;have d:i<l.length:=by simpa using m
  by_cases a:j=i
  ·subst a;have:=k j d;have e:j<cs.size:=(WE.1 this).1;simp[e]
  ·rw[List.getElem_set_ne a];have:=k i d;simp[Array.getElem?_setIfInBounds_ne a,this]
def sT (l:List UInt8) (k:Nat):List UInt8:=Lk.small (l.take k)++l.drop k
theorem zX(l:List UInt8):sT l 0=l:=by simp[sT,Lk.small]
theorem Eo(l:List UInt8)(k:Nat)(h:l.length<=k):sT l k=Lk.small l:=by
 unfold sT;rw[XD h,List.drop_of_length_le h];simp
theorem xx(l:List UInt8)(k:Nat):(sT l k).length=l.length:=by
 simp[sT,Lk.small]
 omega
theorem Cg(l:List UInt8)(k:Nat)(h:k<l.length):(sT l k)[k]'(by rw[xx];exact h)=l[k]:=by
 unfold sT;rw[List.getElem_append_right (by simp[Lk.small];omega)];simp[Lk.small,Nat.min_eq_left (YB h)]
theorem tf(l:List UInt8)(k:Nat)(h:k<l.length):sT l (k+1)=(sT l k).set k (Lk.dm l[k]):=by
 unfold sT;rw[WY h,Lk.small,WN,List.set_append_right _ _ (by simp[Lk.small];omega)];have a:=VU h;simp[Lk.small,Nat.min_eq_left (YB h)]
 rw[a];rfl
theorem KD(l:List UInt8)(k:Nat)(h:k<l.length)(a:Lk.dm l[k]=l[k]):sT l (k+1)=sT l k:=by
 rw[tf l k h,a,<-Cg l k h,List.set_getElem_self]
theorem zW(c:UInt8)(b:65<=c.toNat)(a:c.toNat<=90):(Lk.dm c).toNat=c.toNat+32:=by
 unfold Lk.dm;rw[VC ⟨by rw[XH];exact b,by rw[XH];exact a⟩];rw[UInt8.toNat_add];show(c.toNat+32)%256=_
 omega
theorem wO(c:UInt8)(h:¬(65<=c.toNat/\c.toNat<=90)):Lk.dm c=c:=by
 unfold Lk.dm;rw[VD (fun a=>h ⟨by have:=a.1;rw[XH]at this;exact this,by have:=a.2;rw[XH]at this;exact this⟩)]
def me (s:ByteArray):Prop:=∀ (j:Nat) b,s.data.toList[j]?=some b->b.toNat<128
theorem QY(s:ByteArray)(r:Int)(w:World)(f:128<=r)(d:(r==65533)=false)(a:Lib.validRune r=false):
  Calls prog 184 #[.string s,.int .i32 r] w fun e w'=>e=.returned (.int .i64 (-1))/\w'=w:=by
 have c:decide (r<128)=false:=VZ (by omega);have b:=hId a;clear a;go_enter func184,ntmps184
 go_wp2_with (go_at_call 200;refine(Tryz.utf8_ValidRune _ _).mono ?_;rintro e w'⟨rfl,rfl⟩;rw[b.o])
 go_ret
 exact⟨rfl,rfl⟩
theorem QW(s:ByteArray)(w:World)(k:me s):
  Calls prog 184 #[.string s,.int .i32 65533] w fun e w'=>e=.returned (.int .i64 (-1))/\∃h,w'=w.iter s h:=by
 have n:=hId k;clear k;go_enter func184,ntmps184
 go_wp2_with fail
 go_loopg [5,6] s.size (fun g _ _ l=>∃i:Nat,i+g=s.size/\l=w.iter s i)
 case atStart=>exact⟨0,by omega,rfl⟩
 case round=>
  obtain⟨i,p,rfl⟩:=hrel
  cases gk with
  |zero=>
   obtain rfl:i=s.size:=by omega
   have c:=run_next_end (P:=prog) w s s.size;go_wp2
   go_ret
   exact⟨rfl,_,rfl⟩
  |succ g=>
   have f:i<s.size:=by omega
   obtain⟨x,d⟩:∃x:UInt8,s[i]'f=x:=⟨_,rfl⟩;have b:s.data.toList[i]?=some x:=by rw[<-d];exact Lib.data_getElem? s i f
   have a:=n.o i x b;have c:=fun m=>run_next_ascii (P:=prog) w s i m f (by rw[d];exact a);rw[d]at c;have o:((x.toNat:Int)==65533)=false:=beq_eq_false_iff_ne.2 (by omega);clear b d;go_wp2
   go_roundg g
   case measure=>omega
   case rel=>exact⟨i+1,by omega,rfl⟩
theorem Qb(s E T:ByteArray)(r:Int)(w:World)(m:E.size=2)(q:(1:Int)<s.size)
  (k:∀w,(convert 21 9 (.int .i32 r)).run prog w=.ok (.string E) w)(x y:UInt8)
  (p:∀w,(Instr.index 9 (.string s) (.int .i64 1)).run prog w=.ok (.int .u8 x.toNat) w)
  (o:∀w,(Instr.index 9 (.string E) (.int .i64 1)).run prog w=.ok (.int .u8 y.toNat) w)
  (h:∀w,(Instr.slice 9 (.string s) (some (.int .i64 2)) none none).run prog w=.ok (.string T) w)
  (f:((x.toNat:Int)!=(y.toNat:Int))=true)
  (a:Hd (∀w,Calls prog 146 #[.string T,.int .u8 y.toNat] w fun e w'=>e=.returned (.int .i64 (-1))/\w'=w))
  (u:128<=r)(t:(r==65533)=false)(c:Hd (Lib.validRune r=true))(i:decide (r<128)=false):
  Calls prog 184 #[.string s,.int .i32 r] w fun e w'=>e=.returned (.int .i64 (-1))/\∃n,w'=w.drewN n:=by
 have g:IntKind.i64.wrap 2=2:=by decide
 go_enter func184,ntmps184
 go_wp2_with (go_at_call 200;refine(Tryz.utf8_ValidRune _ _).mono ?_;rintro e w'⟨rfl,rfl⟩;rw[c.o])
 go_step3
 go_wp2_with fail
 refine WH 1 ?_
 rw[VJ];go_wp2_with fail
 go_step3
 go_wp2_with fail
 go_quiet (fail)
 go_wp2_with fail
 go_quiet ((go_at_call 146;exact(a.o _).mono fun e l⟨d,b⟩=>⟨d,_,b⟩))
 go_wp2_with fail
 simp only[Exit.noGoto_ret,Exit.inBlock,Exit.then]
 go_ret
 exact⟨rfl,_,rfl⟩
theorem OA(s E:ByteArray)(r:Int)(w:World)(d:E.size=2)(f:¬(1:Int)<s.size)
  (c:∀w,(convert 21 9 (.int .i32 r)).run prog w=.ok (.string E) w)
  (h:128<=r)(g:(r==65533)=false)(a:Hd (Lib.validRune r=true))(b:decide (r<128)=false):
  Calls prog 184 #[.string s,.int .i32 r] w fun e w'=>e=.returned (.int .i64 (-1))/\∃n,w'=w.drewN n:=by
 go_enter func184,ntmps184
 go_wp2_with (go_at_call 200;refine(Tryz.utf8_ValidRune _ _).mono ?_;rintro e w'⟨rfl,rfl⟩;rw[a.o])
 go_step3
 go_wp2_with fail
 refine WH 1 ?_
 rw[VJ];go_wp2_with fail
 rw[Exit.noGoto_ret];go_ret
 exact⟨rfl,0,rfl⟩
theorem Qa(s E T:ByteArray)(r:Int)(w:World)(m:E.size=3)(q:(2:Int)<s.size)
  (k:∀w,(convert 21 9 (.int .i32 r)).run prog w=.ok (.string E) w)(x y:UInt8)
  (p:∀w,(Instr.index 9 (.string s) (.int .i64 2)).run prog w=.ok (.int .u8 x.toNat) w)
  (o:∀w,(Instr.index 9 (.string E) (.int .i64 2)).run prog w=.ok (.int .u8 y.toNat) w)
  (h:∀w,(Instr.slice 9 (.string s) (some (.int .i64 3)) none none).run prog w=.ok (.string T) w)
  (f:((x.toNat:Int)!=(y.toNat:Int))=true)
  (a:Hd (∀w,Calls prog 146 #[.string T,.int .u8 y.toNat] w fun e w'=>e=.returned (.int .i64 (-1))/\w'=w))
  (u:128<=r)(t:(r==65533)=false)(c:Hd (Lib.validRune r=true))(i:decide (r<128)=false):
  Calls prog 184 #[.string s,.int .i32 r] w fun e w'=>e=.returned (.int .i64 (-1))/\∃n,w'=w.drewN n:=by
 have g:IntKind.i64.wrap 3=3:=by decide
 go_enter func184,ntmps184
 go_wp2_with (go_at_call 200;refine(Tryz.utf8_ValidRune _ _).mono ?_;rintro e w'⟨rfl,rfl⟩;rw[c.o])
 go_step3
 go_wp2_with fail
 refine WH 1 ?_
 rw[VJ];go_wp2_with fail
 go_step3
 go_wp2_with fail
 go_quiet (fail)
 go_wp2_with fail
 go_quiet ((go_at_call 146;exact(a.o _).mono fun e l⟨d,b⟩=>⟨d,_,b⟩))
 go_wp2_with fail
 simp only[Exit.noGoto_ret,Exit.inBlock,Exit.then]
 go_ret
 exact⟨rfl,_,rfl⟩
theorem N9(s E:ByteArray)(r:Int)(w:World)(d:E.size=3)(f:¬(2:Int)<s.size)
  (c:∀w,(convert 21 9 (.int .i32 r)).run prog w=.ok (.string E) w)
  (h:128<=r)(g:(r==65533)=false)(a:Hd (Lib.validRune r=true))(b:decide (r<128)=false):
  Calls prog 184 #[.string s,.int .i32 r] w fun e w'=>e=.returned (.int .i64 (-1))/\∃n,w'=w.drewN n:=by
 go_enter func184,ntmps184
 go_wp2_with (go_at_call 200;refine(Tryz.utf8_ValidRune _ _).mono ?_;rintro e w'⟨rfl,rfl⟩;rw[a.o])
 go_step3
 go_wp2_with fail
 refine WH 1 ?_
 rw[VJ];go_wp2_with fail
 rw[Exit.noGoto_ret];go_ret
 exact⟨rfl,0,rfl⟩
theorem QZ(s E T:ByteArray)(r:Int)(w:World)(m:E.size=4)(q:(3:Int)<s.size)
  (k:∀w,(convert 21 9 (.int .i32 r)).run prog w=.ok (.string E) w)(x y:UInt8)
  (p:∀w,(Instr.index 9 (.string s) (.int .i64 3)).run prog w=.ok (.int .u8 x.toNat) w)
  (o:∀w,(Instr.index 9 (.string E) (.int .i64 3)).run prog w=.ok (.int .u8 y.toNat) w)
  (h:∀w,(Instr.slice 9 (.string s) (some (.int .i64 4)) none none).run prog w=.ok (.string T) w)
  (f:((x.toNat:Int)!=(y.toNat:Int))=true)
  (a:Hd (∀w,Calls prog 146 #[.string T,.int .u8 y.toNat] w fun e w'=>e=.returned (.int .i64 (-1))/\w'=w))
  (u:128<=r)(t:(r==65533)=false)(c:Hd (Lib.validRune r=true))(i:decide (r<128)=false):
  Calls prog 184 #[.string s,.int .i32 r] w fun e w'=>e=.returned (.int .i64 (-1))/\∃n,w'=w.drewN n:=by
 have g:IntKind.i64.wrap 4=4:=by decide
 go_enter func184,ntmps184
 go_wp2_with (go_at_call 200;refine(Tryz.utf8_ValidRune _ _).mono ?_;rintro e w'⟨rfl,rfl⟩;rw[c.o])
 go_step3
 go_wp2_with fail
 refine WH 1 ?_
 rw[VJ];go_wp2_with fail
 go_step3
 go_wp2_with fail
 go_quiet (fail)
 go_wp2_with fail
 go_quiet ((go_at_call 146;exact(a.o _).mono fun e l⟨d,b⟩=>⟨d,_,b⟩))
 go_wp2_with fail
 simp only[Exit.noGoto_ret,Exit.inBlock,Exit.then]
 go_ret
 exact⟨rfl,_,rfl⟩
theorem N8(s E:ByteArray)(r:Int)(w:World)(d:E.size=4)(f:¬(3:Int)<s.size)
  (c:∀w,(convert 21 9 (.int .i32 r)).run prog w=.ok (.string E) w)
  (h:128<=r)(g:(r==65533)=false)(a:Hd (Lib.validRune r=true))(b:decide (r<128)=false):
  Calls prog 184 #[.string s,.int .i32 r] w fun e w'=>e=.returned (.int .i64 (-1))/\∃n,w'=w.drewN n:=by
 go_enter func184,ntmps184
 go_wp2_with (go_at_call 200;refine(Tryz.utf8_ValidRune _ _).mono ?_;rintro e w'⟨rfl,rfl⟩;rw[a.o])
 go_step3
 go_wp2_with fail
 refine WH 1 ?_
 rw[VJ];go_wp2_with fail
 rw[Exit.noGoto_ret];go_ret
 exact⟨rfl,0,rfl⟩
theorem vk(l:List UInt8)(c:UInt8)(h:l.contains c=false):Lib.indexByte l c=-1:=by
 rw[Lib.contains_iff_indexByte]at h;have b:=Lib.indexByte_ge l c;have a:=of_decide_eq_false h;omega
theorem xV{s:ByteArray}(d:me s)(c:UInt8)(e:128<=c.toNat)(k:Nat):(s.data.toList.drop k).contains c=false:=by
 rw[Bool.eq_false_iff];intro h;have a:=List.mem_of_mem_drop (by simpa using h);obtain⟨j,b⟩:=List.mem_iff_getElem?.1 a;have:=d j c b;omega
theorem DT(s:ByteArray)(b:me s)(k:Nat)(y:UInt8)(a:128<=y.toNat)(w:World):
  Calls prog 146 #[.string (s.extract k s.size),.int .u8 y.toNat] w fun e w'=>e=.returned (.int .i64 (-1))/\w'=w:=by
 have:=Tryz.strings_IndexByte (s.extract k s.size) y.toNat w;rw[Lib.extract_to_end,show((y.toNat:Int)).toNat.toUInt8=y by simp,vk _ _ (xV b y a k)]at this;exact this
theorem vB{s:ByteArray}(a:me s)(k:Nat)(h:k<s.size):(s[k]'h).toNat<128:=a k _ (Lib.data_getElem? s k h)
theorem nD{x y:UInt8}(b:x.toNat<128)(a:128<=y.toNat):((x.toNat:Int)!=(y.toNat:Int))=true:=by
 rw[bne_iff_ne];omega
theorem QX(s:ByteArray)(r:Int)(w:World)(q:me s)(p:128<=r):
  Calls prog 184 #[.string s,.int .i32 r] w fun e w'=>e=.returned (.int .i64 (-1))/\Below w.heap.size w w':=by
 by_cases z:r=65533
 ·subst z;refine(QW s w q).mono ?_
  rintro e w'⟨u,B,rfl⟩;exact⟨u,(VE _ _).alloc (UZ _) _⟩
 have b:=beq_eq_false_iff_ne.2 z;have c:decide (r<128)=false:=VZ (by omega)
 cases m:Lib.validRune r
 ·exact(QY s r w p b m).mono fun e w'⟨u,A⟩=>⟨u,A▸VE _ _⟩
 ·have g:∀{f:Ending->World->Prop},Calls prog 184 #[.string s,.int .i32 r] w (fun e w'=>e=.returned (.int .i64 (-1))/\∃n,w'=w.drewN n)->Calls prog 184 #[.string s,.int .i32 r] w fun e w'=>e=.returned (.int .i64 (-1))/\Below w.heap.size w w':=by
   intro _ h;refine h.mono ?_
   rintro e w'⟨u,n,rfl⟩;exact⟨u,Go.below_drewN (VE _ _) n⟩
  have x:=encode_facts r (by rw[validRune_eq];exact m) p;obtain⟨E,y⟩:∃E,Utf8.encode r=E:=⟨_,rfl⟩;rw[y]at x;obtain⟨D,C,t⟩:=x;have d:∀w,(convert 21 9 (.int .i32 r)).run prog w=.ok (.string E) w:=fun w=>by
   rw[run_convert_int_string w 21 9 .i32 r (by kernel_rfl) underlying9,y]
  have a:∀k:Nat,k<=s.size->∀w,(Instr.slice 9 (.string s) (some (.int .i64 k)) none none).run prog w=.ok (.string (s.extract k s.size)) w:=fun k F w=>by
   have:=run_slice_string_l w 9 s underlying9 .i64 (k:Int) (by omega) (by omega);simpa using this
  have v:E.size=2\/E.size=3\/E.size=4:=by omega
  rcases v with i|i|i
  ·have l:128<=(E[1]'(by omega)).toNat:=by have:=t (by omega);simpa[i]using this
   by_cases o:(1:Int)<s.size
   ·exact g (f:=fun _ _=>True) (Qb s E _ r w i o d (s[1]'(by omega)) (E[1]'(by omega)) (aq s 1 (by omega)) (aq E 1 (by omega)) (a 2 (by omega)) (nD (vB q 1 (by omega)) l) (DT s q 2 _ l) p b m c)
   ·exact g (f:=fun _ _=>True) (OA s E r w i o d p b m c)
  ·have l:128<=(E[2]'(by omega)).toNat:=by have:=t (by omega);simpa[i]using this
   by_cases o:(2:Int)<s.size
   ·exact g (f:=fun _ _=>True) (Qa s E _ r w i o d (s[2]'(by omega)) (E[2]'(by omega)) (aq s 2 (by omega)) (aq E 2 (by omega)) (a 3 (by omega)) (nD (vB q 2 (by omega)) l) (DT s q 3 _ l) p b m c)
   ·exact g (f:=fun _ _=>True) (N9 s E r w i o d p b m c)
  ·have l:128<=(E[3]'(by omega)).toNat:=by have:=t (by omega);simpa[i]using this
   by_cases o:(3:Int)<s.size
   ·exact g (f:=fun _ _=>True) (QZ s E _ r w i o d (s[3]'(by omega)) (E[3]'(by omega)) (aq s 3 (by omega)) (aq E 3 (by omega)) (a 4 (by omega)) (nD (vB q 3 (by omega)) l) (DT s q 4 _ l) p b m c)
   ·exact g (f:=fun _ _=>True) (N8 s E r w i o d p b m c)
theorem Qy(s:ByteArray)(k:Nat)(h:k<s.size):s.get! k=s[k]'h:=by
 simp[ByteArray.get!,getElem!_pos,h]
 rfl
theorem Au(s:ByteArray)(a:Nat)(h:a<s.size)(n:128<=(s[a]'h).toNat):
  ∀j,a<=j->j<a+(Utf8.decode s a).2->∃e:j<s.size,128<=(s[j]'e).toNat:=by
 have c:∀k,(decide (a+k<s.size)&&(s.get! (a+k)).toNat/64==2)=true->∃e:a+k<s.size,128<=(s[a+k]'e).toNat:=by
  intro k i;simp only[WD,XF,beq_iff_eq]at i
  refine⟨i.1,?_⟩
  rw[<-Qy s (a+k) i.1];omega
 have zero:∃e:a+0<s.size,128<=(s[a+0]'e).toNat:=⟨h,n⟩;have g:¬(s[a]'h).toNat<128:=by omega
 intro j o m;obtain⟨k,rfl⟩:=Nat.exists_eq_add_of_le o;simp only[Utf8.decode,get_at s a h,g,if_false]at m
 have b:k<(Utf8.decode s a).2:=by
  simp only[Utf8.decode,get_at s a h,g,if_false];omega
 clear m;simp only[Utf8.decode,get_at s a h,g,if_false]at b
 split at b
 ·rename_i d;simp only[WD]at d
  have f:=c 1 (by simpa using d.2);split at b<;>simp at b
  ·have:k=0\/k=1:=by omega
   rcases this with rfl|rfl
   ·exact zero
   ·exact f
  ·subst b;exact zero
 split at b
 ·rename_i d;simp only[WD]at d
  have f:=c 1 (by simpa using d.1.2);have l:=c 2 (by simpa using d.2);split at b<;>simp at b
  ·have:k=0\/k=1\/k=2:=by omega
   rcases this with rfl|rfl|rfl
   ·exact zero
   ·exact f
   ·exact l
  ·subst b;exact zero
 split at b
 ·rename_i d;simp only[WD]at d
  have f:=c 1 (by simpa using d.1.1.2);have l:=c 2 (by simpa using d.1.2);have p:=c 3 (by simpa using d.2);split at b<;>simp at b
  ·have:k=0\/k=1\/k=2\/k=3:=by omega
   rcases this with rfl|rfl|rfl|rfl
   ·exact zero
   ·exact f
   ·exact l
   ·exact p
  ·subst b;exact zero
 ·simp at b;subst b;exact zero
