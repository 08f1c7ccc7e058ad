/- A part. -/
import Derived.Test.YthddphjghgdalaaGreatDoorP38
import Derived.LaidMore
import Derived.Lay
import Derived.OpenShut
import Derived.Stop.Joined
import Derived.HandedShaped
import Derived.Shelf.Vars
import Derived.SizedLaws
set_option maxRecDepth 100000
set_option maxHeartbeats 6400000
namespace Go.Proofs.YthddphjghgdalaaGreatDoor
open Go.Proofs.Tryz
open Go.ChangeShapes Go.WideShapes Go.ChangeAt Go.WideMaps Go.WideElems Go.RowKit
theorem P8:ownKnob prog.godebug=none:=by kernel_rfl
theorem cU8:prog.cellsOf 5=1:=by kernel_rfl
theorem jD:laidOutB prog=true:=by kernel_rfl
theorem vg{W:World}(h:W.ShapedOpen prog):UR W:=
 cell_of_shapedOpen_int (g:=3) (t:=3) (zero:=#[.int .i64 0]) h (XS (by kernel_rfl)) (by kernel_rfl) rfl (by kernel_rfl) (by kernel_rfl) underlying3
theorem Q1{W:World}(a:gS W)(b:UR W):Env W W.heap.size:=by
 obtain⟨m,h⟩:=b;exact⟨a,⟨m,h⟩,⟨a.pos,WW _ _ h⟩,UZ _⟩
theorem qw{H:Type}{enc:TypeId×Value->H}{C:Checked}{os:Os}{f:FuncId}{k:Func}{s:ChangeSpec}{X:World->Array Value->Prop}
  (J:∀(w w':World)(a:Array Value),w.heap=w'.heap->X w a->X w' a)
  (u:ownKnob C.prog.godebug=none)(h:os.Started)(l:C.prog.inits.idxOf? f=none)(A:C.prog.funcs[f]?=some k)
  (g:∃(w:World)(b:Tape)(i:Input),w.os=os/\(w.forCall b i).Shaped C.prog/\i.vars=[]/\Input.okWide C.prog (w.forCall b i) .any w.heap.size f i/\
   ((s.pre enc C.prog k [] false (w.forCall b i).memory i.args/\X (w.forCall b i).memory i.args)/\sizedMet enc C.prog k (OpenSpec.ofChange s) false (w.forCall b i).memory i.args)/\Assume.holds {} C.prog (lone (Frame.enter C.prog f i.args .normal) [] (w.forCall b i)))
  (d:∀(W:World)(base:Nat)(a:Array Value)(q p:List (DataW H))(c:List MemPlace),
   (∀(j:Nat) t v,k.params[j]?=some t->a[j]?=some v->Value.okWide C.prog W .any base t v)->
   DataW.Whole enc C.prog k.params.toList s.vars false W a.toList q p c->(DataW.weightsEach C.prog (k.params.toList++s.plain.varTypes C.prog) (q++p)).all (·<=reachBytes)=true->W.ShapedOpen C.prog->X W a->
   Calls C.prog f a W fun e D=>∃v,e=.returned v/\s.post enc C.prog k false true false false W a v D):
  ReturnsInHanded {} C os f .any (fun w a=>(s.pre enc C.prog k [] false w a/\X w a)/\sizedMet enc C.prog k (OpenSpec.ofChange s) false w a) (s.post enc C.prog k false true false false):=by
 refine returnsInHanded_of_calls u h l g ?_
 intro w b i _ y _ z n r;obtain⟨_,_,_,K,o,_,_,_,_,m⟩:=z;have e:=WU (o.symm.trans A);subst e;obtain⟨⟨⟨q,p,c,B,L⟩,F⟩,E⟩:=n;have x:=DataW.Whole.of_heap (w':=w.forCall b i) (by rfl) B;refine(d (w.forCall b i) w.heap.size i.args q p c m x (E.weights B) y (J _ _ _ (by rfl) F)).mono fun e D⟨v,I,G⟩=>?_
 subst I;exact ChangeSpec.post_blind G
theorem MF{n:Int}(h:(Lit.int .u8 n).wf=true):∃c:UInt8,n=(c.toNat:Int):=by
 obtain⟨b,a⟩:=bounds_u8 h;exact⟨UInt8.ofNat n.toNat,by rw[UInt8.toNat_ofNat'];omega⟩
section
variable {H:Type} {enc:TypeId × Value->H} {w:World} {base:Nat} {spare:Nat->Bool} {held:Bool}
theorem DA{r:Nat}{t:TypeId}(L:prog.underlying t=some (.slice 5)){G:Option Addr}{n o:Nat}{x:DataW H×List MemPlace}(h:DataW.trod enc prog w base spare held r t [.slice G n o]=some x):
  (∃l,Mc w G n o l)/\(n=0\/∃E sp,x.1=.slice E sp/\n<=E.length+sp.length):=by
 rcases Deep.open_slice1 L cU8 h with⟨g,_⟩|⟨a,Q,I,m,k,V,D,X,g,_,M,A,v,s,K⟩
 ·simp at g
  obtain⟨rfl,rfl,rfl⟩:=g;exact⟨⟨[],Row.nil w 1⟩,.inl rfl⟩
 ·simp at g
  obtain⟨rfl,rfl,rfl⟩:=g;have S:n<=m:=by rw[v];split<;>omega
  refine⟨?_,.inr ⟨_,_,by rw[s],by simp⟩⟩
  have P:∀i,i<n->∃c:UInt8,w.cell? (a.add i)=some (.int .u8 c.toNat):=by
   intro i W;obtain⟨O,N⟩:=K i (by omega);obtain⟨T,F,_,J⟩:=DataW.trod_int underlying5 N;obtain⟨c,y⟩:=MF J;simp at F
   exact⟨c,by rw[O,F,y]⟩
  obtain⟨f,C⟩:=Deep.choose_lt P;refine⟨(List.range n).map f,by simp,M,by unfold maxLen at A;exact A,fun U=>?_⟩
  obtain⟨b,d,p⟩:=a;have e:p=none:=by
   have:=World.cell?_spot (C 0 (by omega));simpa[Addr.add]using this
  subst e;refine⟨b,d,rfl,fun j u z=>?_⟩
  have B:j<n:=by
   have:=(VO.1 z).1;simpa using this
  have q:(⟨b,d,none⟩:Addr).add j=⟨b,d+j,none⟩:=Go.WideShapes.add_plain ..;have:=C j B;rw[q]at this;rw[this,<-z];simp[b8,B]
end
theorem Ln:prog.globalNamed "manyhands/escape.pairs"=some 4:=by kernel_rfl
theorem Pf:(prog.globals[4]?).map (·.type)=some 243:=by kernel_rfl
theorem S9:prog.globalNamed "manyhands/link.schemes"=some 0:=by kernel_rfl
theorem Tg:(prog.globals[0]?).map (·.type)=some 199:=by kernel_rfl
theorem c3:prog.cellsOf 3=1:=by kernel_rfl
theorem c5:prog.cellsOf 5=1:=by kernel_rfl
theorem c9:prog.cellsOf 9=1:=by kernel_rfl
theorem c80:prog.cellsOf 242=2:=by kernel_rfl
theorem c81:prog.cellsOf 243=8:=by kernel_rfl
theorem UC:prog.cellsOf 199=3:=by kernel_rfl
def vI (W:World) (n:String) (d:DataW Unit):Prop :=
 ∃ g t cs fuel p,prog.globalNamed n=some g/\(prog.globals[g]?).map (·.type)=some t/\W.var? prog n=some cs/\DataW.trod (fun _=>()) prog W 0 (fun _=>true) false fuel t cs.toList=some (d,p)
theorem jm{W:World}{n:String}{d:DataW Unit}{r:List (String×DataW Unit)}{g:List MemPlace}(h:DataW.LaidVars prog W ((n,d)::r) g):vI W n d/\∃q,DataW.LaidVars prog W r q:=by
 obtain⟨l,f,e,m,i,q0,b,a,o,c,k,_⟩:=h;exact⟨⟨l,f,e,m,i,b,a,o,c⟩,q0,k⟩
theorem kg{W:World}{n:String}{g:Nat}{cs:Array Value}(c:prog.globalNamed n=some g)(h:W.var? prog n=some cs):∃t a,W.heap[g]?=some (.cells cs t a):=by
 simp only[World.var?,c,Option.bind_some]at h
 split at h
 ·rename_i d t a b;simp at h
  subst h;exact⟨t,a,b⟩
 ·cases h
theorem fA{W:World}{a:Nat}{cs:List Value}{l:List UInt8}{b:List MemPlace}
  (h:DataW.trod (fun _=>()) prog W 0 (fun _=>true) false a 9 cs=some (.lit (.string l),b)):cs=[.string ⟨l.toArray⟩]:=by
 obtain⟨s,e,j,_⟩:=DataW.trod_string underlying9 h;simp at j
 rw[e,j.1]
theorem l8{W:World}{c:Nat}{cs:List Value}{k:Int}{l:List UInt8}{r:List MemPlace}
  (h:DataW.trod (fun _=>()) prog W 0 (fun _=>true) false c 242 cs=some (.agg [.lit (.int .u8 k),.lit (.string l)],r)):cs=[.int .u8 k,.string ⟨l.toArray⟩]:=by
 obtain⟨v,u,n,d,e,g,f⟩:=trod_struct2 underlying242 h;simp only[Prod.mk.injEq,DataW.agg.injEq,List.cons.injEq,and_true]at d
 simp only[c5,c9]at g f
 rw[c80]at e;match cs,e with
 |[a,b],_=>
  obtain⟨w,m,q,_⟩:=DataW.trod_int underlying5 g;obtain⟨o,i,p,_⟩:=DataW.trod_string underlying9 f;simp at m i
  subst m i;rw[q,p]at d;simp at d
  obtain⟨⟨t,s⟩,_⟩:=d;subst t;have:o=⟨l.toArray⟩:=by rw[s]
  rw[this]
theorem Sg{α:Type}(l:List α)(h:l.length=3)(a b c:α)(f:(l.drop (0*1)).take 1=[a])(e:(l.drop (1*1)).take 1=[b])(d:(l.drop (2*1)).take 1=[c]):l=[a,b,c]:=by
 match l,h with
 |[x0,x1,x2],_=>simp at f e d;simp[f,e,d]
theorem Sf{α:Type}(l:List α)(h:l.length=8)(a b c d e f g i:α)(o:(l.drop (0*2)).take 2=[a,b])(n:(l.drop (1*2)).take 2=[c,d])(m:(l.drop (2*2)).take 2=[e,f])(k:(l.drop (3*2)).take 2=[g,i]):l=[a,b,c,d,e,f,g,i]:=by
 match l,h with
 |[x0,x1,x2,x3,x4,x5,x6,x7],_=>simp at o n m k;simp[o,n,m,k]
theorem Ke{W:World}(h:vI W "manyhands/escape.pairs" Rows.laid_manyhands_escape_pairs):gS W:=by
 obtain⟨w,t,d,x,u,l,i,s,m⟩:=h;obtain rfl:=WU (Ln.symm.trans l);obtain rfl:=WU (Pf.symm.trans i);obtain⟨xs,v,rfl,a,c,k,b⟩:=DataW.trod_array underlying243 m;simp only[Prod.mk.injEq,DataW.agg.injEq,Rows.laid_manyhands_escape_pairs]at a
 rw[c81]at c;have g:=b 0 (by decide);have f:=b 1 (by decide);have e:=b 2 (by decide);have e3:=b 3 (by decide);rw[c80]at g f e e3;match xs,k,a,g,f,e,e3 with
 |[(x0,q0),(x1,q1),(x2,q2),(x3,q3)],_,a,g,f,e,e3=>
  simp only[XA,List.map_nil,List.cons.injEq,and_true]at a
  obtain⟨⟨r,q,p,o⟩,_⟩:=a;subst r q p o;have n:d=jM:=by
   apply Array.ext'
   rw[Sf d.toList c _ _ _ _ _ _ _ _ (l8 g) (l8 f) (l8 e) (l8 e3)];rfl
  subst n;exact kg Ln s
theorem Pq{W:World}(h:vI W "manyhands/link.schemes" Rows.laid_manyhands_link_schemes):df W:=by
 obtain⟨v,s,d,w,t,l,i,r,m⟩:=h;obtain rfl:=WU (S9.symm.trans l);obtain rfl:=WU (Tg.symm.trans i);obtain⟨xs,u,rfl,a,b,k,c⟩:=DataW.trod_array underlying199 m;simp only[Prod.mk.injEq,DataW.agg.injEq,Rows.laid_manyhands_link_schemes]at a
 rw[UC]at b;have g:=c 0 (by decide);have f:=c 1 (by decide);have e:=c 2 (by decide);rw[c9]at g f e;match xs,k,a,g,f,e with
 |[(x0,q0),(x1,q1),(x2,q2)],_,a,g,f,e=>
  simp only[XA,List.map_nil,List.cons.injEq,and_true]at a
  obtain⟨⟨q,p,o⟩,_⟩:=a;subst q p o;have n:d=lq:=by
   apply Array.ext'
   rw[Sg d.toList b _ _ _ (fA g) (fA f) (fA e)];rfl
  subst n;exact kg S9 r
theorem gBn:prog.globalNamed "manyhands/sanitize.blockNames"=some 1:=by kernel_rfl
theorem tBn:(prog.globals[1]?).map (·.type)=some 212:=by kernel_rfl
theorem gHn:prog.globalNamed "manyhands/sanitize.hidingNames"=some 2:=by kernel_rfl
theorem tHn:(prog.globals[2]?).map (·.type)=some 215:=by kernel_rfl
theorem cBn:prog.cellsOf 211=2:=by kernel_rfl
theorem UB:prog.cellsOf 212=10:=by kernel_rfl
theorem UA:prog.cellsOf 215=9:=by kernel_rfl
theorem nS{W:World}{c:Nat}{cs:List Value}{k:Int}{l:List UInt8}{r:List MemPlace}
  (h:DataW.trod (fun _=>()) prog W 0 (fun _=>true) false c 211 cs=some (.agg [.lit (.string l),.lit (.int .i64 k)],r)):cs=[.string ⟨l.toArray⟩,.int .i64 k]:=by
 obtain⟨v,u,n,d,e,g,f⟩:=trod_struct2 underlying211 h;simp only[Prod.mk.injEq,DataW.agg.injEq,List.cons.injEq,and_true]at d
 simp only[c3,c9]at g f
 rw[cBn]at e;match cs,e with
 |[a,b],_=>
  obtain⟨o,m,q,_⟩:=DataW.trod_string underlying9 g;obtain⟨w,i,p,_⟩:=DataW.trod_int underlying3 f;simp at m i
  subst m i;rw[q,p]at d;simp at d
  obtain⟨⟨s,t⟩,_⟩:=d;subst t;have:o=⟨l.toArray⟩:=by rw[s]
  rw[this]
theorem QK{α:Type}(l:List α)(h:l.length=10)(r q p o n m k i g f:α)(e:(l.drop (0*2)).take 2=[r,q])(d:(l.drop (1*2)).take 2=[p,o])(c:(l.drop (2*2)).take 2=[n,m])(b:(l.drop (3*2)).take 2=[k,i])(a:(l.drop (4*2)).take 2=[g,f]):l=[r,q,p,o,n,m,k,i,g,f]:=by
 match l,h with
 |[x0,x1,x2,x3,x4,x5,x6,x7,x8,s],_=>simp at e d c b a;simp[e,d,c,b,a]
theorem Sd{α:Type}(l:List α)(h:l.length=9)(u t s r q p o n m:α)(k:(l.drop (0*1)).take 1=[u])(i:(l.drop (1*1)).take 1=[t])(g:(l.drop (2*1)).take 1=[s])(f:(l.drop (3*1)).take 1=[r])(e:(l.drop (4*1)).take 1=[q])(d:(l.drop (5*1)).take 1=[p])(c:(l.drop (6*1)).take 1=[o])(b:(l.drop (7*1)).take 1=[n])(a:(l.drop (8*1)).take 1=[m]):l=[u,t,s,r,q,p,o,n,m]:=by
 match l,h with
 |[x0,x1,x2,x3,x4,x5,x6,x7,x8],_=>simp at k i g f e d c b a;simp[k,i,g,f,e,d,c,b,a]
theorem TL{W:World}(h:vI W "manyhands/sanitize.blockNames" Rows.laid_manyhands_sanitize_blockNames):Bn W:=by
 obtain⟨x,u,d,y,v,l,i,t,m⟩:=h;obtain rfl:=WU (gBn.symm.trans l);obtain rfl:=WU (tBn.symm.trans i);obtain⟨xs,w,rfl,a,c,k,b⟩:=DataW.trod_array underlying212 m;simp only[Prod.mk.injEq,DataW.agg.injEq,Rows.laid_manyhands_sanitize_blockNames]at a
 rw[UB]at c;have g:=b 0 (by decide);have f:=b 1 (by decide);have e:=b 2 (by decide);have e3:=b 3 (by decide);have e4:=b 4 (by decide);rw[cBn]at g f e e3 e4;match xs,k,a,g,f,e,e3,e4 with
 |[(x0,q0),(x1,q1),(x2,q2),(x3,q3),(x4,q4)],_,a,g,f,e,e3,e4=>
  simp only[XA,List.map_nil,List.cons.injEq,and_true]at a
  obtain⟨⟨s,r,q,p,o⟩,_⟩:=a;subst s r q p o;have n:d=ko:=by
   apply Array.ext'
   rw[QK d.toList c _ _ _ _ _ _ _ _ _ _ (nS g) (nS f) (nS e) (nS e3) (nS e4)];rfl
  subst n;exact kg gBn t
theorem Sz{W:World}(h:vI W "manyhands/sanitize.hidingNames" Rows.laid_manyhands_sanitize_hidingNames):Hn W:=by
 obtain⟨C,z,d,D,A,m,k,y,n⟩:=h;obtain rfl:=WU (gHn.symm.trans m);obtain rfl:=WU (tHn.symm.trans k);obtain⟨xs,B,rfl,b,c,l,a⟩:=DataW.trod_array underlying215 n;simp only[Prod.mk.injEq,DataW.agg.injEq,Rows.laid_manyhands_sanitize_hidingNames]at b
 rw[UA]at c;have i:=a 0 (by decide);have g:=a 1 (by decide);have f:=a 2 (by decide);have e3:=a 3 (by decide);have e4:=a 4 (by decide);have e5:=a 5 (by decide);have e6:=a 6 (by decide);have e7:=a 7 (by decide);have e:=a 8 (by decide);rw[c9]at i g f e3 e4 e5 e6 e7 e;match xs,l,b,i,g,f,e3,e4,e5,e6,e7,e with
 |[(x0,q0),(x1,q1),(x2,q2),(x3,q3),(x4,q4),(x5,q5),(x6,q6),(x7,q7),(x8,q8)],_,b,i,g,f,e3,e4,e5,e6,e7,e=>
  simp only[XA,List.map_nil,List.cons.injEq,and_true]at b
  obtain⟨⟨x,w,v,u,t,s,r,q,p⟩,_⟩:=b;subst x w v u t s r q p;have o:d=gV:=by
   apply Array.ext'
   rw[Sd d.toList c _ _ _ _ _ _ _ _ _ (fA i) (fA g) (fA f) (fA e3) (fA e4) (fA e5) (fA e6) (fA e7) (fA e)];rfl
  subst o;exact kg gHn y
def jv:List (String × DataW Unit):=[("unicode/utf8.acceptRanges",Rows.laid_unicode_utf8_acceptRanges),("manyhands/escape.pairs",Rows.laid_manyhands_escape_pairs),("manyhands/link.schemes",Rows.laid_manyhands_link_schemes),("manyhands/sanitize.blockNames",Rows.laid_manyhands_sanitize_blockNames),("manyhands/sanitize.hidingNames",Rows.laid_manyhands_sanitize_hidingNames),("unicode/utf8.first",Rows.laid_unicode_utf8_first)]
theorem EE{w:World}{g:Nat}{o:Obj}(h:w.heap[g]?=some o):g<w.heap.size:=(WE.1 h).1
theorem uG{W:World}(h:laidMetH prog jv W)(b:W.ShapedOpen prog):Gl W W.heap.size:=by
 rw[MakeChecks.laidMetH_plain _ _ _ (by kernel_rfl)]at h;obtain⟨r,m,_⟩:=h;obtain⟨_,q1,l⟩:=jm m;obtain⟨q,q2,k⟩:=jm l;obtain⟨p,q3,i⟩:=jm k;obtain⟨o,q4,g⟩:=jm i;obtain⟨n,q5,_⟩:=jm g;have f:=TL o;have e:=Sz n;have d:=Pq p;refine⟨Q1 (Ke q) (vg b),f,e,d,?_,?_,?_⟩
 ·obtain⟨t,c,a⟩:=f;exact EE a
 ·obtain⟨t,c,a⟩:=e;exact EE a
 ·obtain⟨t,c,a⟩:=d;exact EE a
theorem QJ(os:Os)(a:Array Value):laidMetH prog jv ((World.laidAll prog os jv).forCall (fun _ _=>0) ⟨#[],a,[]⟩).memory:=by
 rw[MakeChecks.laidMetH_plain _ _ _ (by kernel_rfl)];exact laidMet_laidAll _ (by kernel_rfl) (by kernel_rfl)
theorem O5{α:Type}(l:List α)(h:l.length=5):∃a b c d e,l=[a,b,c,d,e]:=by
 match l,h with
 |[a,b,c,d,e],_=>exact⟨a,b,c,d,e,rfl⟩
theorem Si{α:Type}(l:List α)(h:l.length=6):∃a b c d e f,l=[a,b,c,d,e,f]:=by
 match l,h with
 |[a,b,c,d,e,f],_=>exact⟨a,b,c,d,e,f,rfl⟩
section
variable {H:Type} {enc:TypeId × Value->H} {w:World} {base:Nat} {spare:Nat->Bool} {held:Bool}
theorem open_row{α:Type}(f:α->List Value)(sz:Nat)(q:0<sz)(F:∀x,(f x).length=sz)(P:α->Prop)(z:α){e:TypeId}(M:prog.cellsOf e=sz)(E:∀(c:Nat)(cs:List Value)(x:DataW H×List MemPlace),DataW.trod enc prog w base spare held c e cs=some x->∃a,cs=f a/\P a)
  {c:Nat}{t:TypeId}(V:prog.underlying t=some (.slice e)){S:Option Addr}{n y:Nat}{x:DataW H×List MemPlace}(h:DataW.trod enc prog w base spare held c t [.slice S n y]=some x):∃l:List α,Row w S n y sz (l.flatMap f)/\∀a∈l,P a:=by
 rcases Deep.open_slice V h with⟨d,_⟩|⟨a,a0,T,m,k,D,Pl,d,_,X,W,K,_,U⟩
 ·simp at d
  obtain⟨rfl,rfl,rfl⟩:=d;exact⟨[],Row.nil w sz,fun a ha=>by cases ha⟩
 ·simp at d
  obtain⟨rfl,rfl,rfl⟩:=d;have a2:n<=m:=by rw[K];split<;>omega
  have ex:∀i,i<n->∃v:α,(∀j,j<sz->w.cell? (a.add (i*sz+j))=(f v)[j]?)/\P v:=by
   intro i r;obtain⟨cs,s,Z⟩:=U i (by omega);rw[M]at s;obtain⟨v,rfl,G⟩:=E _ _ _ Z;have Y:=World.cells?_some s;refine⟨v,fun j I=>?_,G⟩
   rw[<-Deep.add_add];exact Y.2.2 j I
  have a1:Inhabited α:=⟨z⟩;obtain⟨g,J⟩:=Deep.choose_lt ex;refine⟨(List.range n).map g,⟨by rw[il f sz F];simp,X,W,?_⟩,?_⟩
  ·intro hn;obtain⟨b,o,A⟩:=a;have p:A=none:=by
    have h0:0<(f (g 0)).length:=by rw[F];exact q
    have:=World.cell?_spot ((J 0 (by omega)).1 0 q|>.trans (VM h0));simpa[Addr.add]using this
   subst p;have C:∀j,(⟨b,o,none⟩:Addr).add j=⟨b,o+j,none⟩:=fun j=>Go.WideShapes.add_plain ..;refine⟨b,o,rfl,fun j u N=>?_⟩
   have I:j<n*sz:=by
    have:=(VO.1 N).1;rw[il f sz F]at this;simpa using this
   have r:=(Nat.div_lt_iff_lt_mul q).2 I;have O:=(Nat.div_add_mod' j sz).symm;have d:=(J (j/sz) r).1 (j%sz) (Nat.mod_lt _ q);rw[C,<-O]at d;rw[d];have B:j/sz<((List.range n).map g).length:=by simpa using r
   have L:((List.range n).map g)[j/sz]=g (j/sz):=by simp
   have Q:=Lp f sz F ((List.range n).map g) (j/sz) B (j%sz) (Nat.mod_lt _ q);rw[L,<-O]at Q;rw[<-Q];exact N
  ·intro v G;obtain⟨i,r,rfl⟩:=XI.1 G;exact(J i (XY.1 r)).2
theorem zl {fuel:Nat} {cs:List Value} {x:DataW H × List MemPlace} (h:DataW.trod enc prog w base spare held fuel 53 cs=some x):∃ q:QV,cs=tt q/\qp w q:=by
 obtain ⟨a,n,c,e⟩:=slice_form underlying53 h;rw[e] at h;obtain ⟨ms,hr,hm⟩:=open_row jX 4 (by decide) (fun _=>rfl) (fun m:MV=>ae w m.e.ao m.e.n m.e.cap m.e.vs) ⟨0,⟨0,0,none,0,0,[]⟩⟩ Fc (fun _ _ _ g=>DG g) underlying53 h;exact ⟨⟨a,n,c,ms⟩,e,hr,hm⟩
theorem qT{m:Nat}{cs:List Value}{x:DataW H×List MemPlace}(h:DataW.trod enc prog w base spare held m 35 cs=some x):∃v:HV,cs=uO v/\qq w v:=by
 obtain⟨xs,n,_,_,z,k,i⟩:=DataW.trod_struct underlying35 h;rw[show prog.cellsOf 35=5 by kernel_rfl]at z;obtain⟨y,u,t,s,r,rfl⟩:=O5 xs k;obtain⟨g,f,e,d,c,rfl⟩:=O5 cs z;have E:DataW.trod enc prog w base spare held n 3 (([g,f,e,d,c].drop 0).take (prog.cellsOf 3))=some y:=i 0 _ rfl;rw[show prog.cellsOf 3=1 by kernel_rfl]at E;have q:DataW.trod enc prog w base spare held n 3 [g]=some y:=E;have D:DataW.trod enc prog w base spare held n 3 (([g,f,e,d,c].drop 1).take (prog.cellsOf 3))=some u:=i 1 _ rfl;rw[show prog.cellsOf 3=1 by kernel_rfl]at D;have p:DataW.trod enc prog w base spare held n 3 [f]=some u:=D;have C:DataW.trod enc prog w base spare held n 3 (([g,f,e,d,c].drop 2).take (prog.cellsOf 3))=some t:=i 2 _ rfl;rw[show prog.cellsOf 3=1 by kernel_rfl]at C;have o:DataW.trod enc prog w base spare held n 3 [e]=some t:=C;have B:DataW.trod enc prog w base spare held n 32 (([g,f,e,d,c].drop 3).take (prog.cellsOf 32))=some s:=i 3 _ rfl;rw[show prog.cellsOf 32=1 by kernel_rfl]at B;have b:DataW.trod enc prog w base spare held n 32 [d]=some s:=B;have A:DataW.trod enc prog w base spare held n 33 (([g,f,e,d,c].drop 4).take (prog.cellsOf 33))=some r:=i 4 _ rfl;rw[show prog.cellsOf 33=1 by kernel_rfl]at A;have a:DataW.trod enc prog w base spare held n 33 [c]=some r:=A;obtain⟨O,I,_,_⟩:=DataW.trod_int underlying3 q;obtain⟨N,G,_,_⟩:=DataW.trod_int underlying3 p;obtain⟨M,F,_,_⟩:=DataW.trod_int underlying3 o;obtain⟨L,Q,V,e3⟩:=slice_form underlying32 b;rw[e3]at b;obtain⟨J,S⟩:=p9 underlying32 b;obtain⟨K,P,U,e4⟩:=slice_form underlying33 a;rw[e4]at a;obtain⟨⟨l,T⟩,_⟩:=DA underlying33 a;simp at I G F e3 e4
 exact⟨⟨O,N,M,L,Q,V,J,K,P,U,l⟩,by rw[I,G,F,e3,e4];rfl,S,T⟩
theorem JZ{r:Nat}{cs:List Value}{x:DataW H×List MemPlace}(h:DataW.trod enc prog w base spare held r 30 cs=some x):∃v:WV,cs=eo v/\gD w v:=by
 obtain⟨xs,n,_,_,L,p,t⟩:=DataW.trod_struct underlying30 h;rw[show prog.cellsOf 30=6 by kernel_rfl]at L;obtain⟨K,J,I,G,rfl⟩:=O6 xs p;obtain⟨o,m,l,k,i,f,rfl⟩:=Si cs L;have P:DataW.trod enc prog w base spare held n 26 (([o,m,l,k,i,f].drop 0).take (prog.cellsOf 26))=some K:=t 0 _ rfl;rw[show prog.cellsOf 26=3 by kernel_rfl]at P;have F:DataW.trod enc prog w base spare held n 26 [o,m,l]=some K:=P;have O:DataW.trod enc prog w base spare held n 27 (([o,m,l,k,i,f].drop 3).take (prog.cellsOf 27))=some J:=t 1 _ rfl;rw[show prog.cellsOf 27=1 by kernel_rfl]at O;have d:DataW.trod enc prog w base spare held n 27 [k]=some J:=O;have N:DataW.trod enc prog w base spare held n 28 (([o,m,l,k,i,f].drop 4).take (prog.cellsOf 28))=some I:=t 2 _ rfl;rw[show prog.cellsOf 28=1 by kernel_rfl]at N;have b:DataW.trod enc prog w base spare held n 28 [i]=some I:=N;have M:DataW.trod enc prog w base spare held n 28 (([o,m,l,k,i,f].drop 5).take (prog.cellsOf 28))=some G:=t 3 _ rfl;rw[show prog.cellsOf 28=1 by kernel_rfl]at M;have a:DataW.trod enc prog w base spare held n 28 [f]=some G:=M;obtain⟨s,e,Z⟩:=G3 F;obtain⟨T,Y,c1,y⟩:=slice_form underlying27 d;rw[y]at d;obtain⟨cl,B,E⟩:=open_row fS 7 (by decide) (fun _=>rfl) (fun c:CV=>kE w c) ⟨0,none,0,0,[],none,0,0,[],0,none,0,0,[],none,0,0,[],false⟩ Fe (fun _ _ _ g=>Is g) underlying27 d;obtain⟨S,X,c2,u⟩:=slice_form underlying28 b;rw[u]at b;obtain⟨U,A,D⟩:=open_row tt 1 (by decide) (fun _=>rfl) (fun q:QV=>qp w q) Mi (show prog.cellsOf 53=1 by kernel_rfl) (fun _ _ _ g=>zl g) underlying28 b;obtain⟨Q,W,c3,e3⟩:=slice_form underlying28 a;rw[e3]at a;obtain⟨V,z,C⟩:=open_row tt 1 (by decide) (fun _=>rfl) (fun q:QV=>qp w q) Mi (show prog.cellsOf 53=1 by kernel_rfl) (fun _ _ _ g=>zl g) underlying28 a;unfold lA at e;simp at e y u e3
 refine⟨⟨s,T,Y,c1,cl,S,X,c2,U,Q,W,c3,V⟩,?_,Z,B,E,A,D,z,C⟩
 rw[e.1,e.2.1,e.2.2,y,u,e3];rfl
theorem wQ {fuel:Nat} {ao:Option Addr} {n cap:Nat} {x:DataW H × List MemPlace} (h:DataW.trod enc prog w base spare held fuel 45 [.slice ao n cap]=some x):∃ xs:List HV,Row w ao n cap 5 (eI xs)/\∀ x ∈ xs,qq w x :=
 open_row uO 5 (by decide) (fun _=>rfl) (fun x:HV=>qq w x) (Mk 0 0) (show prog.cellsOf 35=5 by kernel_rfl) (fun _ _ _ g=>qT g) underlying45 h
end
end Go.Proofs.YthddphjghgdalaaGreatDoor
namespace Go.Proofs.YthddphjghgdalaaGreatDoor
open Go.RowKit Go.Proofs.Tryz
theorem EO(k:Int)(n:Nat)(w:World)(m:1<=n)(h:n<=80):
  Calls prog 12 #[.int .i64 k,.int .i64 n] w fun e w'=>(∃r:Nat,e=.returned (.int .i64 r)/\r<n)/\w'=w:=by
 have o:((n:Int)==0)=false:=by simp;omega
 have a:∀k:Int,-(n:Int)<k.tmod n/\k.tmod n<n:=fun k=>⟨by have:=Int.lt_tmod_of_pos k (b:=n) (by omega);omega,Int.tmod_lt_of_pos k (by omega)⟩;obtain⟨d,c⟩:=a k;clear a;go_enter func12,ntmps12
 by_cases g:k.tmod n<0
 ·go_wp2
  go_ret
  exact⟨⟨(k.tmod n+n).toNat,VQ (fun z=>Ending.returned (.int .i64 z)) (by omega),by omega⟩,rfl⟩
 ·obtain⟨r,l⟩:∃r:Nat,k.tmod n=r:=⟨(k.tmod n).toNat,by omega⟩;have f:Hd (r<n):=by show r<n;omega
  have i:decide ((r:Int)<0)=false:=by simp
  clear d c g;go_wp2
  go_ret
  exact⟨⟨r,rfl,f.o⟩,rfl⟩
def Bj:HV:=⟨0,0,0,none,0,0,[],none,0,0,[]⟩
def C8 (w:World) (g:Nat) (x:HV):World:=((((w.setCell ⟨g,0,none⟩ (.int .i64 x.kind)).setCell ⟨g,1,none⟩ (.int .i64 x.aR)).setCell ⟨g,2,none⟩ (.int .i64 x.n)).setCell ⟨g,3,none⟩ (.slice x.oa x.on x.oc)).setCell ⟨g,4,none⟩ (.slice x.ya x.yn x.yc)
theorem KZ{w:World}{g:Nat}{x y:HV}(h:Blk w g (uO x) 35):Blk (C8 w g y) g (uO y) 35:=((((h.set 0 (.int .i64 y.kind)).set 1 (.int .i64 y.aR)).set 2 (.int .i64 y.n)).set 3 (.slice y.oa y.on y.oc)).set 4 (.slice y.ya y.yn y.yc)
theorem Hh(w:World)(g:Nat)(t:HV):Kept w (C8 w g t) [g]:=(((((Kept.refl w [g]).setCell _ _ (.inl (by simp))).setCell _ _ (.inl (by simp))).setCell _ _ (.inl (by simp))).setCell _ _ (.inl (by simp))).setCell _ _ (.inl (by simp))
theorem Tryz.Rz(t:HV):(prog.info? 35).map (·.size)=some (uO t).toArray.size:=by
 show _=some 5
 kernel_rfl
structure Bp (w:World) (v:WV) (x y:HV) (wr:World):Prop where
 wb:Blk wr w.heap.size (eo v) 30
 xb:Blk wr (w.heap.size+1) [.int .i64 y.kind,.int .i64 y.aR,.int .i64 y.n,.slice y.oa y.on y.oc,.slice y.ya y.yn y.yc] 35
 rb:Blk wr (w.heap.size+1+1) (uO Bj) 35
 ops:ae wr y.oa y.on y.oc y.us
 same:y.n=x.n/\y.ya=x.ya/\y.yn=x.yn/\y.yc=x.yc/\y.l=x.l
 below:Below w.heap.size w wr
theorem Bp.mono{w:World}{v:WV}{x y:HV}{wr w':World}(h:Bp w v x y wr)(a:Below wr.heap.size wr w'):Bp w v x y w':=
 ⟨(a.block _ h.wb.lt).trans h.wb,(a.block _ h.xb.lt).trans h.xb,(a.block _ h.rb.lt).trans h.rb,h.ops.below a,h.same,h.below.trans (a.mono h.below.size)⟩
def hvO (y:HV) (a:Option Addr) (n c:Nat) (us:List PV):HV:=⟨y.kind,y.aR,y.n,a,n,c,us,y.ya,y.yn,y.yc,y.l⟩
theorem Bp.op{w:World}{v:WV}{x y:HV}{wr:World}(h:Bp w v x y wr){a:Option Addr}{n c:Nat}{us:List PV}(e:ae wr a n c us):Bp w v x (hvO y a n c us) (wr.setCell ⟨w.heap.size+1,3,none⟩ (.slice a n c)):=by
 have b:Kept wr (wr.setCell ⟨w.heap.size+1,3,none⟩ (.slice a n c)) [w.heap.size+1]:=(Kept.refl wr _).setCell _ _ (.inl (by simp));have f:∀g∈[w.heap.size+1],NT wr g:=fun g d=>by rw[UY.1 d];exact NT.of h.xb rfl
 have i:=h.below.size;exact⟨b.aM h.wb (by simp),h.xb.set 3 _,b.aM h.rb (by simp),e.aw b f,h.same,h.below.trans (b.below (by omega) (fun g d=>by rw[UY.1 d];omega))⟩
theorem Bp.ret{w:World}{v:WV}{x y:HV}{wr:World}(h:Bp w v x y wr)(d:qq w x):Blk (C8 wr (w.heap.size+1+1) y) (w.heap.size+1+1) (uO y) 35/\qq (C8 wr (w.heap.size+1+1) y) y/\Below w.heap.size w (C8 wr (w.heap.size+1+1) y):=by
 have b:=Hh wr (w.heap.size+1+1) y;have e:∀g∈[w.heap.size+1+1],NT wr g:=fun g a=>by rw[UY.1 a];exact NT.of h.rb rfl
 have k:=h.below.size;have c:=h.below.trans (b.below (by omega) (fun g a=>by rw[UY.1 a];omega));obtain⟨_,i,f,e3,e4⟩:=h.same;exact⟨KZ h.rb,⟨h.ops.aw b e,by rw[i,f,e3,e4];exact d.UD.below c⟩,c⟩
theorem Ki{w:World}{a:Option Addr}{n c:Nat}{us:List PV}(r:Int)(d:Row w a n c 7 (aG us++aG [bW r]))(e:∀u∈us,dV w u):ae w a n c (us++[bW r]):=by
 refine⟨by rw[jB];exact d,fun u b=>?_⟩
 rcases VW.1 b with b|b
 ·exact e u b
 ·rw[UY.1 b];exact pu _ _
theorem Mo{n r:Nat}(h:r<=n)(a:n<=80):IntKind.i64.wrap ((n:Int)-(r:Int))=(n:Int)-r:=by
 have:((n:Int)-(r:Int))=((n-r:Nat):Int):=by omega
 rw[this];exact(wrap_add (g:=n-r) (q:=0) (gq:=n-r) (by omega) (by omega)).2
theorem Pr{w:World}{b a n c sz:Nat}{cs:List Value}(h:Row w (some ⟨b,a,none⟩) (n+1) c sz cs):∀j u,cs[j]?=some u->w.cell? ⟨b,a+j,none⟩=some u:=by
 obtain⟨g,d,e,f⟩:=h.bH (by omega)
 cases e
 exact f
theorem G0(g:Nat)(w:World):(Instr.slice 32 (.slice (some ⟨g,0,none⟩) 3 3) (some (.int .i64 1)) none none).run prog w=.ok (.slice (some ⟨g,7,none⟩) 2 2) w:=by kernel_rfl
theorem RG{o:List Ac.Pt}(h:Ac.gC o=0):o.length<=40:=by
 unfold Ac.gC at h;by_cases g:o.length<1\/40<o.length
 ·rw[VC g]at h;cases h
 ·omega
theorem Dh(v:WV)(x:HV)(w:World)(hW:gD w v)(hX:qq w x)(hS:df w)(hN:∀c∈v.cs,1<=c.nn/\c.nn<=80):
  Calls prog 30 #[.agg #[.slice v.s.fa v.s.fn v.s.fc,.slice v.s.la v.s.ln v.s.lc,.slice v.s.na v.s.nn v.s.nc,.slice v.ca v.cn v.cc,.slice v.ua v.un v.uc,.slice v.da v.dn v.dc],.agg #[.int .i64 x.kind,.int .i64 x.aR,.int .i64 x.n,.slice x.oa x.on x.oc,.slice x.ya x.yn x.yc]] w fun e w'=>(∃y:HV,e=.returned (.agg #[.int .i64 y.kind,.int .i64 y.aR,.int .i64 y.n,.slice y.oa y.on y.oc,.slice y.ya y.yn y.yc])/\qq w' y)/\Below w.heap.size w w':=by
 obtain⟨i0,hi,ag,af,ad⟩:=info_parts Tryz.vj;have P:=aV v w;have O:=P.trans ((cq x (aQ v w)).mono P.size);have C:=O.trans ((cq Bj (bQ x (aQ v w))).mono O.size);have al:Hd (∀w',Below w.heap.size w w'->df w'):=fun w' b=>hS.below b;have HX:=hId hX;have f:Hd (Bp w v x x (bQ Bj (bQ x (aQ v w)))):=⟨((bU v w).alloc _).alloc _,by have:=rV x (aQ v w);rw[cA]at this;exact this.alloc _,by have:=gR Bj (bQ x (aQ v w));rw[xS,cA]at this;exact this,hX.ops.below C,⟨rfl,rfl,rfl,rfl,rfl⟩,C⟩;have HW:=hId (hW.below C);have HN:=hId hN;have HL:=hId hW.lens.1;clear hW hX hS hN P O C;go_enter func30,ntmps30
 go_upto_region 1 with fail
 change Code.wp prog _ _ _ (bQ Bj (bQ x (aQ v w)));generalize bQ Bj (bQ x (aQ v w))=W at*;obtain⟨x0,x1,x2,x3,x4⟩:=Rf f.o.xb;have v3:=Bg f.o.wb;have ap:=f.o.below.size;by_cases Y:¬x.kind=1\/x.aR<0\/(v.cn:Int)<=x.aR
 ·obtain⟨h1,h2,Z⟩:=f.o.ret HX.o;have HR:=hId h1;have HH:=hId h2;have HB:=hId Z;have z0:W.cell? ⟨w.heap.size+1+1,0,none⟩=some (.int .i64 0):=f.o.rb.cell 0;have g0:=f.o.rb.frozen 0;have z1:W.cell? ⟨w.heap.size+1+1,1,none⟩=some (.int .i64 0):=f.o.rb.cell 1;have g1:=f.o.rb.frozen 1;have z2:W.cell? ⟨w.heap.size+1+1,2,none⟩=some (.int .i64 0):=f.o.rb.cell 2;have g2:=f.o.rb.frozen 2;have V:W.cell? ⟨w.heap.size+1+1,3,none⟩=some (.slice none 0 0):=f.o.rb.cell 3;have g3:=f.o.rb.frozen 3;have U:W.cell? ⟨w.heap.size+1+1,4,none⟩=some (.slice none 0 0):=f.o.rb.cell 4;have g4:=f.o.rb.frozen 4;clear h1 h2 Z;go_cut [25]from 10 to 25 (fun r z=>r=.bool true/\z=W)
  case first=>
   by_cases k1:x.kind=1
   ·have b1:(x.kind !=1)=false:=by simpa using k1
    have aj:=Y.resolve_left (fun h=>h k1);clear k1 Y;by_cases k2:x.aR<0
    ·go_wp2
     go_meet
     case rel=>exact⟨rfl,rfl⟩
    ·have b3:decide ((v.cn:Int)<=x.aR)=true:=by rcases aj with h|h;exact absurd h k2;simpa using h
     go_wp2
     go_meet
     case rel=>exact⟨rfl,rfl⟩
   ·have b1:(x.kind !=1)=true:=by simpa using k1
    go_wp2
    go_meet
    case rel=>exact⟨rfl,rfl⟩
  case rest=>
   obtain⟨rfl,rfl⟩:=hcut;go_wp2
   change bodyPost prog _ _ Exit.ret _ (C8 wc (w.heap.size+1+1) x);exact VL (results_cell_row rfl _ _ (w.heap.size+1+1) 35 (uO x).toArray (0,0) _ rfl HR.o underlying35 rfl (Tryz.Rz x)) rfl ⟨⟨x,rfl,HH.o⟩,HB.o⟩
 ·have b1:(x.kind !=1)=false:=by simp;omega
  have b2:decide (x.aR<0)=false:=by simp;omega
  have b3:decide ((v.cn:Int)<=x.aR)=false:=by simp;omega
  obtain⟨k,a2⟩:∃k:Nat,x.aR=k:=⟨x.aR.toNat,by omega⟩;have ai:k<v.cn:=by omega
  obtain⟨c,L⟩:∃c,v.cs[k]?=some c:=⟨_,VM (by rw[HL.o];exact ai)⟩;obtain⟨cb,co,N,-⟩:=HW.o.cr.bH (by omega);obtain⟨-,-,m2,-,-,-,-⟩:=TK HW.o.cr L N;have ac:W.cell? ⟨w.heap.size,3,none⟩=some (.slice (some ⟨cb,co,none⟩) v.cn v.cc):=by rw[<-N];exact v3
  have ab:W.cell? ⟨w.heap.size+1,1,none⟩=some (.int .i64 k):=by rw[<-a2];exact x1
  obtain⟨n,hn⟩:∃n,c.nn=n:=⟨_,rfl⟩;rw[hn]at m2;have T:Hd (1<=n/\n<=80):=by have:=HN.o c (WQ L);rw[hn]at this;exact this
  have au:decide ((v.cn:Int)<=(k:Int))=false:=by simp;omega
  have av:decide ((k:Int)<0)=false:=by simp
  clear L N v3 x1 Y a2 b2 b3 hn HN HL HW;have CL:Hd (∀(y:HV)(w':World),Bp w v x y w'->Calls prog 57 #[.slice y.oa y.on y.oc] w' fun e o=>(∃p q:Int,e=.returned (.tuple #[.int .i64 p,.int .i64 q]))/\Below w'.heap.size w' o):=fun y w' h=>(gO y.oa y.on y.oc y.us w' h.ops).mono fun e o g=>⟨⟨_,_,g.1⟩,g.2⟩;have CC:Hd (∀(y:HV)(w':World),Bp w v x y w'->Calls prog 58 #[.slice y.oa y.on y.oc] w' fun e o=>(∃E:Int,e=.returned (.int .i64 E)/\(E=0->y.on<=40))/\Below w'.heap.size w' o):=fun y w' h=>(kl y.oa y.on y.oc y.us w' h.ops (al.o w' h.below)).mono fun e o g=>⟨⟨_,g.1,fun hz=>by have:=RG hz;rw[VH,h.ops.len]at this;exact this⟩,g.2⟩;go_upto_region 4 with fail
  have a7:=CL.o x W f.o;go_wp2_with fail
  refine a7.mono ?_
  rintro e w1⟨⟨p,q,rfl⟩,b⟩;have I:=hId (f.o.mono b);have y3:=Bg I.o.xb;clear b a7 x0 ab x2 x3 x4 ac m2 f;go_upto_region 5 with fail
  go_cut [49]from 41 to 49 (fun r z=>∃t:Bool,r=.bool t/\(t=true->x.on<=40)/\Bp w v x x z)
  case first=>
   have a9:=CC.o x w1 I.o;go_wp2_with fail
   refine a9.mono ?_
   rintro e w2⟨⟨E,rfl,hE⟩,b⟩;have d:=hId (I.o.mono b);have HE:=hId hE;clear b hE a9;by_cases K:E=0
   ·have ao:=hId (HE.o K);have sE:(E==0)=true:=by simpa using K
    clear K;go_wp2
    go_meet
    case rel=>exact⟨decide (p<n),rfl,fun _=>ao.o,d.o⟩
   ·have sE:(E==0)=false:=by simpa using K
    go_wp2
    go_meet
    case rel=>exact⟨false,rfl,(fun h=>by cases h),d.o⟩
  case rest=>
   obtain⟨t,rfl,ht,a⟩:=hcut;have d:=hId a;have HT:=hId ht;clear a ht I y3;generalize wc=W2 at*;go_upto_if 49 with fail
   go_cut []from 50 to 59 (fun z=>∃y,Bp w v x y z)
   case first=>
    cases t with
    |false=>
     go_wp2
     go_meet
     case rel=>exact⟨x,d.o⟩
    |true=>
     have ar:=HT.o rfl;have CO:=hId (pK x.oa x.on x.oc (aG x.us) W2 d.o.ops.row (aY _) (by omega));have y3:=Bg d.o.xb;obtain⟨r,hr⟩:∃r,wrap64 ((n:Int)-p)=r:=⟨_,rfl⟩;go_wp2_with fail
     refine CO.o.mono ?_
     rintro e B⟨⟨u,rfl,l⟩,b⟩;have a3:Below B.heap.size B (B.alloc (.cells (aG [bW r]).toArray 100)):=(VE _ _).alloc (UZ _) _;have J:=hId (b.trans (a3.mono b.size));have S:Hd ((B.alloc (.cells (aG [bW r]).toArray 100)).ownsRow W2.heap.size 100 7 u x.on (aG x.us)):=World.ownsRow.alloc l _;have a5:Hd (Row (B.alloc (.cells (aG [bW r]).toArray 100)) (some ⟨B.heap.size,0,none⟩) 1 1 7 (aG [bW r])):=⟨rfl,UZ _,by decide,fun _=>⟨_,0,rfl,fun j y hy=>by rw[VR];exact((Blk.new B (aG [bW r]) _).cell j).trans hy⟩⟩;clear a3 l b CO;go_wp2_with (at_builtin;refine az (B.alloc (.cells (aG [bW r]).toArray 100)) rfl (.tmp 52) (.tmp 57) 32 rfl W2.heap.size 100 i0 (.agg #[.int .i64 0,.int .i64 0,.slice none 0 0,.int .i64 0,.int .i64 0,.bool false,.string ⟨#[]⟩]) 7 80 underlying32 hi ag af ad rfl (by decide) u x.on (aG x.us) rfl S.o (some ⟨B.heap.size,0,none⟩) 1 1 (aG [bW r]) rfl a5.o (aY _) (by unfold maxLen;omega) (by omega) J.o.size ?_)
     intro v4 w4 l s ak;have Q:=J.o.grown s J.o.size (fun k Y=>(S.o.lt _ Y).1);obtain⟨a4,c4,rfl,a1,-,-⟩:=cR l;have F:=d.o.mono Q;have an:=hId (F.op (Ki r a1 (fun u X=>(d.o.ops.iE u X).below Q)));have V:=Bg F.xb;have U:=F.xb.frozen 3;clear l s ak a1 Q F S a5 J;go_wp2
     go_meet
     case rel=>exact⟨_,an.o⟩
   case rest=>
    obtain⟨y,a⟩:=hcut;have H:=hId a;clear a d HT;generalize wc=W5 at*;have a6:=CL.o y W5 H.o;have y3:=Bg H.o.xb;go_upto_region 7 with fail
    go_wp2_with fail
    refine a6.mono ?_
    rintro e w6⟨⟨p',q',rfl⟩,b⟩;have G:=hId (H.o.mono b);have aa:=Bg G.o.xb;clear b a6 H y3 CL;go_upto_region 8 with fail
    go_cut [74]from 66 to 74 (fun r z=>∃t:Bool,r=.bool t/\Bp w v x y z)
    case first=>
     have a8:=CC.o y w6 G.o;go_wp2_with fail
     refine a8.mono ?_
     rintro e w7⟨⟨E,rfl,-⟩,b⟩;have i:=hId (G.o.mono b);clear b a8;by_cases K:E=0
     ·have sE:(E==0)=true:=by simpa using K
      clear K;go_wp2
      go_meet
      case rel=>exact⟨decide ((n:Int)<p'),rfl,i.o⟩
     ·have sE:(E==0)=false:=by simpa using K
      go_wp2
      go_meet
      case rel=>exact⟨false,rfl,i.o⟩
    case rest=>
     obtain⟨t,rfl,a⟩:=hcut;have i:=hId a;clear a G aa CC;generalize wc=W7 at*;go_upto_if 74 with fail
     go_cut []from 75 to 91 (fun z=>∃y,Bp w v x y z)
     case first=>
      cases t with
      |false=>
       go_wp2
       go_meet
       case rel=>exact⟨y,i.o⟩
      |true=>
       have CA:=hId (EO y.n n W7 T.o.1 T.o.2);have y2:=IJ i.o.xb;have ah:=i.o.xb.lt;go_wp2_with fail
       refine CA.o.mono ?_
       rintro e A⟨⟨r,rfl,hr⟩,rfl⟩;have a0:IntKind.i64.wrap ((n:Int)-(r:Int))=(n:Int)-r:=Mo (by omega) T.o.2;have CP:Hd (Calls prog 24 #[.int .u8 33,.int .i64 r,.int .i64 n] A fun e w'=>e=.returned (.slice (some ⟨A.heap.size+1,0,none⟩) 3 3)/\ae w' (some ⟨A.heap.size+1,0,none⟩) 3 3 (Mj A.heap.size 33 r ((n:Int)-r))/\Below A.heap.size A w'):=rG 33 r n _ a0 A;clear a0 hr CA;go_wp2_with fail
       refine CP.o.mono ?_
       rintro e w9⟨rfl,M,b⟩;have D:=i.o.mono b;obtain⟨g,hg⟩:∃g,A.heap.size+1=g:=⟨_,rfl⟩;rw[hg]at M;have m:=hId (D.op M);have V:=Bg D.xb;have U:=D.xb.frozen 3;clear b M D CP i y2 ah;go_upto_region 10 with fail
       change Code.wp prog _ _ _ (w9.setCell ⟨w.heap.size+1,3,none⟩ (.slice (some ⟨g,0,none⟩) 3 3));generalize w9.setCell ⟨w.heap.size+1,3,none⟩ (.slice (some ⟨g,0,none⟩) 3 3)=WA at*;clear V U;have V:WA.cell? ⟨w.heap.size+1,3,none⟩=some (.slice (some ⟨g,0,none⟩) 3 3):=m.o.xb.cell 3;have U:=m.o.xb.frozen 3;have L:=Pr m.o.ops.row;have c1:WA.cell? ⟨g,1,none⟩=some (.int .i64 r):=by have:=L 1 _ rfl;rw[VR]at this;exact this
       have am:Hd (Bp w v x (hvO y (some ⟨g,7,none⟩) 2 2 (Mj A.heap.size 33 r ((n:Int)-r)).tail) (WA.setCell ⟨w.heap.size+1,3,none⟩ (.slice (some ⟨g,7,none⟩) 2 2))):=m.o.op (n:=2) (c:=2) ⟨⟨rfl,UZ _,by decide,fun _=>⟨g,7,rfl,fun j u X=>by
        have:=L (7+j) u (by rw[Nat.add_comm];exact X);rw[VR]at this;exact this⟩⟩,fun u X=>m.o.ops.iE u (List.mem_of_mem_tail X)⟩
       have aq:=G0 g;clear L;by_cases gr:r=0
       ·have sr:((r:Int)==0)=true:=by simpa using gr
        clear gr;go_wp2
        go_meet
        case rel=>exact⟨_,am.o⟩
       ·have sr:((r:Int)==0)=false:=by simpa using gr
        clear gr;go_wp2
        go_meet
        case rel=>exact⟨_,m.o⟩
     case rest=>
      obtain⟨y',a⟩:=hcut;obtain⟨h1,h2,Z⟩:=a.ret HX.o;have HR:=hId h1;have HH:=hId h2;have HB:=hId Z;obtain⟨q0,q1,q2,q3,q4⟩:=Rf a.xb;have z0:wc.cell? ⟨w.heap.size+1+1,0,none⟩=some (.int .i64 0):=a.rb.cell 0;have g0:=a.rb.frozen 0;have z1:wc.cell? ⟨w.heap.size+1+1,1,none⟩=some (.int .i64 0):=a.rb.cell 1;have g1:=a.rb.frozen 1;have z2:wc.cell? ⟨w.heap.size+1+1,2,none⟩=some (.int .i64 0):=a.rb.cell 2;have g2:=a.rb.frozen 2;have V:wc.cell? ⟨w.heap.size+1+1,3,none⟩=some (.slice none 0 0):=a.rb.cell 3;have g3:=a.rb.frozen 3;have U:wc.cell? ⟨w.heap.size+1+1,4,none⟩=some (.slice none 0 0):=a.rb.cell 4;have g4:=a.rb.frozen 4;clear h1 h2 Z a;go_wp2
      change bodyPost prog _ _ Exit.ret _ (C8 wc (w.heap.size+1+1) y');exact VL (results_cell_row rfl _ _ (w.heap.size+1+1) 35 (uO y').toArray (0,0) _ rfl HR.o underlying35 rfl (Tryz.Rz y')) rfl ⟨⟨y',rfl,HH.o⟩,HB.o⟩
theorem zY(a:Option Addr)(n b r:Nat)(c:r<=n)(d:n<=b)(w:World):(Instr.slice 24 (.slice a n b) none (some (.int .i64 r)) none).run prog w=.ok (.slice (vd a 0 b) r b) w:=by
 rw[run_slice_h (P:=prog) (w:=w) 24 a n b yx .i64 (r:Int) (by omega) (by omega),Ly,Tryz.sizeOf71 w];rfl
theorem fQ.take{w:World}{a:Option Addr}{n c:Nat}{d:List EV}(h:fQ w a n c d)(r:Nat)(l:r<=n):fQ w (vd a 0 c) r c (d.take r):=by
 have m:=h.len;have t:=h.row.room;have s:=h.row.fg;refine⟨⟨by rw[fe,List.length_take,m,Nat.min_eq_left l],by omega,by omega,fun q=>?_⟩,fun v k=>h.ops v (List.mem_of_mem_take k)⟩
 obtain⟨b,g,e,o⟩:=h.row.bH (by omega);refine⟨b,g,?_,fun j u f=>o j u ?_⟩
 ·unfold vd;rw[VD (by omega),e,Option.map_some,iU,XQ,Nat.add_zero]
 ·have p:bD d=bD (d.take r)++bD (d.drop r):=by rw[<-sD,List.take_append_drop]
  have i:j<(bD (d.take r)).length:=by
   rcases Nat.lt_or_ge j (bD (d.take r)).length with h|h
   ·exact h
   ·rw[List.getElem?_eq_none h]at f;cases f
  rw[p,List.getElem?_append_left i];exact f
