/- A part. -/
import Derived.Test.YthddphjghgdalaaGreatDoorP9
import Derived.ChangeKeysEq
set_option maxRecDepth 100000
set_option maxHeartbeats 3200000
namespace Go.Proofs.YthddphjghgdalaaGreatDoor
open Go.RowKit Go.Proofs.Tryz
theorem nN:prog.eqGuardType prog.depth 222=false:=by kernel_rfl
theorem Sr:∃i,prog.info? 3=some i:=by
 have h:(prog.info? 3).isSome=true:=by kernel_rfl
 exact Option.isSome_iff_exists.1 h
theorem RI:prog.cellsOf 3=1:=by kernel_rfl
theorem bz(a b c d:Int)(w:World):(binOp .eql 222 (.agg #[.int .i64 a,.int .i64 b]) (.agg #[.int .i64 c,.int .i64 d])).run prog w=.ok (.bool ((a==c)&&(b==d))) w:=by
 obtain⟨i,g⟩:=Sr;have f:=underlying222;have e:=underlying3;rw[run_eql_struct,run_equalIn_array w 9999 _ _ f g,RI];simp[Op.eqItems,List.range,List.range.loop,go_sem,e,part]
 by_cases k:a=c<;>by_cases h:b=d<;>simp[k,h]
def MI (w:World):World:=w.alloc (.cells #[] 100)
theorem uw(w:World):Below w.heap.size w (MI w):=(VE _ _).alloc (UZ _) _
theorem I6(w:World):(MI w).heap.size=w.heap.size+1:=WO ..
def vJ (w:World) (ao:Option Addr) (n:Nat):Prop:=∀ a,n≠0->ao=some a->w.heap.size<=a.block
theorem mF(w:World)(a:Option Addr):vJ w a 0:=fun _ h _=>absurd rfl h
theorem mG{w:World}{g n:Nat}(h:w.heap.size<=g):vJ w (some ⟨g,0,none⟩) n:=fun a _ e=>by cases e;exact h
theorem Row.kept{w w':World}{f:Option Addr}{n c sz:Nat}{cs:List Value}{S:List Nat}(h:Row w f n c sz cs)(l:0<sz)(p:Kept w w' S)(m:∀a,n≠0->f=some a->a.block∉S):Row w' f n c sz cs:=
 ⟨h.len,h.room,h.fg,fun d=>by
  obtain⟨b,g,e,i⟩:=h.bH d;have o:0<cs.length:=by rw[h.len];exact Nat.mul_pos (Nat.pos_of_ne_zero d) l
  have r:=i 0 cs[0] (VM o);have q:=p.block b (gW r) (m _ d e);exact⟨b,g,e,fun j u k=>(WC (w:=w) q).trans (i j u k)⟩⟩
def k9 (w:World):World:=w.alloc (.cells #[.slice none 0 0,.slice none 0 0] 110)
def mc (p q:PV):List PV:=if q.kind=1 then [p] else []
def ma (p q:PV):List PV:=if p.kind=1 then (if q.kind=1 then [dK q p] else [q]) else []
theorem kU{w:World}{v:PV}(h:dV w v):ae (aH v w) (some ⟨w.heap.size,0,none⟩) 1 1 [v]:=by
 have b:=dC v w;refine⟨⟨rfl,UZ _,by decide,fun _=>⟨_,0,rfl,fun j u a=>?_⟩⟩,fun u a=>?_⟩
 ·rw[VR];rw[bq]at a;exact(b.cell j).trans a
 ·rw[UY.1 a];exact h.below (aK v w)
theorem uu(w:World):Blk (k9 w) w.heap.size [.slice none 0 0,.slice none 0 0] 110:=Blk.new w _ _
theorem EC(w:World):Below w.heap.size w (k9 w):=(VE _ _).alloc (UZ _) _
theorem nB{w:World}{b:Nat}{p q:PV}(h:Blk w b (Bf p q) 206):w.cell? ⟨b,0,none⟩=some (.int .i64 p.kind)/\w.cell? ⟨b,1,none⟩=some (.int .i64 p.n)/\w.cell? ⟨b,2,none⟩=some (.slice p.ao p.m p.cap)/\w.cell? ⟨b,3,none⟩=some (.int .i64 p.set)/\w.cell? ⟨b,4,none⟩=some (.int .i64 p.bm)/\w.cell? ⟨b,5,none⟩=some (.bool p.goes)/\w.cell? ⟨b,6,none⟩=some (.string p.link)/\w.cell? ⟨b,7,none⟩=some (.int .i64 q.kind)/\w.cell? ⟨b,8,none⟩=some (.int .i64 q.n)/\w.cell? ⟨b,9,none⟩=some (.slice q.ao q.m q.cap)/\w.cell? ⟨b,10,none⟩=some (.int .i64 q.set)/\w.cell? ⟨b,11,none⟩=some (.int .i64 q.bm)/\w.cell? ⟨b,12,none⟩=some (.bool q.goes)/\w.cell? ⟨b,13,none⟩=some (.string q.link):=
 ⟨h.cell 0,h.cell 1,h.cell 2,h.cell 3,h.cell 4,h.cell 5,h.cell 6,h.cell 7,h.cell 8,h.cell 9,h.cell 10,h.cell 11,h.cell 12,h.cell 13⟩
structure Bq (w0 w:World) (p q:PV) (x y:Value):Prop where
 pb:Blk w w0.heap.size (Bf p q) 206
 rb:Blk w (w0.heap.size+1) [x,y] 110
 bf:Below w0.heap.size w0 w
theorem Bq.start(p q:PV)(w:World):Bq w (k9 (fT p q w)) p q (.slice none 0 0) (.slice none 0 0):=by
 refine⟨(lU p q w).alloc _,?_,(ir p q w).trans ((EC _).mono (by rw[xO];omega))⟩
 have:=uu (fT p q w);rw[xO]at this;exact this
theorem Bq.under{b w w':World}{p q:PV}{x y:Value}(h:Bq b w p q x y)(a:Below w.heap.size w w'):Bq b w' p q x y:=
 ⟨(a.block _ h.pb.lt).trans h.pb,(a.block _ h.rb.lt).trans h.rb,h.bf.trans (a.mono h.bf.size)⟩
def gI (w:World) (R:Nat) (x y:Value):World:=(w.setCell ⟨R,0,none⟩ x).setCell ⟨R,1,none⟩ y
theorem nj(w:World)(R:Nat)(x y:Value):(gI w R x y).heap.size=w.heap.size:=by simp[gI]
theorem Bq.gI{c w:World}{p q:PV}{x y:Value}(h:Bq c w p q x y)(b a:Value):Bq c (gI w (c.heap.size+1) b a) p q b a:=
 ⟨(h.pb.other _ _ (by simp)).other _ _ (by simp),(h.rb.set 0 b).set 1 a,(h.bf.setCell (by simp) _).setCell (by simp) _⟩
theorem Tl(x y:Value):(prog.info? 110).map (·.size)=some [x,y].toArray.size:=by
 have h:(prog.info? 110).map (·.size)=some 2:=by kernel_rfl
 exact h
theorem pA{b:Func}{p:Tmp}{x y:Value}{w:World}{g:Nat}(h:b.results=#[.cell p 110])(a:Array Value)(c:a.getD p undef=.pointer (some ⟨g,0,none⟩))(d:Blk w g [x,y] 110):(results b a).run prog w=.ok (.agg #[x,y]) w:=
 results_cell_row h a w g 110 [x,y].toArray (0,0) _ c d underlying110 rfl (Tl x y)
theorem nC(w:World)(b:Option Addr):ae w b 0 0 []:=⟨⟨rfl,UZ _,by decide,fun h=>absurd rfl h⟩,fun v a=>absurd a (by simp)⟩
theorem tH{w:World}{q:PV}(h:dV w q)(p:PV):dV w (dK q p):=⟨h.jd,by show(if p.goes then(⟨#[]⟩:ByteArray)else q.link).size<=_;split;exact VN _;exact h.fit⟩
theorem yC{w:World}{g:Nat}{v:PV}(b:Blk w g (iD v) 100)(h:dV w v):ae w (some ⟨g,0,none⟩) 1 1 [v]:=by
 refine⟨⟨rfl,UZ _,by decide,fun _=>⟨_,0,rfl,fun j u a=>?_⟩⟩,fun u a=>?_⟩
 ·rw[VR];rw[bq]at a;exact(b.cell j).trans a
 ·rw[UY.1 a];exact h
theorem Bq.two{a w:World}{p q:PV}{x y:Value}(h:Bq a w p q x y)(u v:PV)(c b:Value)(l:dV a u)(k:dV a v):
  Bq a (aH v (aH u (Go.Proofs.YthddphjghgdalaaGreatDoor.gI w (a.heap.size+1) c b))) p q c b/\ae (aH v (aH u (Go.Proofs.YthddphjghgdalaaGreatDoor.gI w (a.heap.size+1) c b))) (some ⟨w.heap.size,0,none⟩) 1 1 [u]/\ae (aH v (aH u (Go.Proofs.YthddphjghgdalaaGreatDoor.gI w (a.heap.size+1) c b))) (some ⟨w.heap.size+1,0,none⟩) 1 1 [v]:=by
 have i:=h.gI c b;have f:=nj w (a.heap.size+1) c b;have g:=i.under (aK u _);have m:=g.under (aK v _);have e:=(kU (l.below i.bf)).below (aK v (aH u (Go.Proofs.YthddphjghgdalaaGreatDoor.gI w (a.heap.size+1) c b)));have d:=kU (k.below g.bf);rw[f]at e;rw[cV,f]at d;exact⟨m,e,d⟩
theorem Bq.one{a w:World}{p q:PV}{x y:Value}(h:Bq a w p q x y)(v:PV)(c b:Value)(f:dV a v):
  Bq a (aH v (Go.Proofs.YthddphjghgdalaaGreatDoor.gI w (a.heap.size+1) c b)) p q c b/\ae (aH v (Go.Proofs.YthddphjghgdalaaGreatDoor.gI w (a.heap.size+1) c b)) (some ⟨w.heap.size,0,none⟩) 1 1 [v]:=by
 have e:=h.gI c b;have d:=kU (f.below e.bf);rw[nj]at d;exact⟨e.under (aK v _),d⟩
theorem RL(r:Int)(h:Option Addr)(s a:Nat)(k:List It)(c d:Int)(g:Bool)(f:ByteArray)(t:Int)(p:Option Addr)(u b:Nat)(q:List It)(l m:Int)(o:Bool)(n:ByteArray)(w:World)
  (U:dV w ⟨1,r,h,s,a,k,c,d,g,f⟩)(T:dV w ⟨1,t,p,u,b,q,l,m,o,n⟩)(Z:Ac.m4 c)(Y:Ac.m4 d)(X:Ac.m4 l)(V:Ac.m4 m):
  Calls prog 167 #[.agg #[.int .i64 1,.int .i64 r,.slice h s a,.int .i64 c,.int .i64 d,.bool g,.string f,.int .i64 1,.int .i64 t,.slice p u b,.int .i64 l,.int .i64 m,.bool o,.string n]] w fun e w'=>(∃G F,e=.returned (.agg #[.slice (some ⟨G,0,none⟩) 1 1,.slice (some ⟨F,0,none⟩) 1 1])/\ae w' (some ⟨G,0,none⟩) 1 1 [⟨1,r,h,s,a,k,c,d,g,f⟩]/\ae w' (some ⟨F,0,none⟩) 1 1 [dK ⟨1,t,p,u,b,q,l,m,o,n⟩ ⟨1,r,h,s,a,k,c,d,g,f⟩]/\w.heap.size<=G/\w.heap.size<=F)/\Below w.heap.size w w':=by
 have x:Hd (Bq w (k9 (fT ⟨1,r,h,s,a,k,c,d,g,f⟩ ⟨1,t,p,u,b,q,l,m,o,n⟩ w)) ⟨1,r,h,s,a,k,c,d,g,f⟩ ⟨1,t,p,u,b,q,l,m,o,n⟩ (.slice none 0 0) (.slice none 0 0)):=Bq.start _ _ w;have CY:Hd (∀w',Calls prog 181 #[.agg #[.int .i64 1,.int .i64 t,.slice p u b,.int .i64 l,.int .i64 m,.bool o,.string n],.agg #[.int .i64 1,.int .i64 r,.slice h s a,.int .i64 c,.int .i64 d,.bool g,.string f]] w' fun e J=>e=.returned (.agg #[.int .i64 (dK ⟨1,t,p,u,b,q,l,m,o,n⟩ ⟨1,r,h,s,a,k,c,d,g,f⟩).kind,.int .i64 (dK ⟨1,t,p,u,b,q,l,m,o,n⟩ ⟨1,r,h,s,a,k,c,d,g,f⟩).n,.slice (dK ⟨1,t,p,u,b,q,l,m,o,n⟩ ⟨1,r,h,s,a,k,c,d,g,f⟩).ao (dK ⟨1,t,p,u,b,q,l,m,o,n⟩ ⟨1,r,h,s,a,k,c,d,g,f⟩).m (dK ⟨1,t,p,u,b,q,l,m,o,n⟩ ⟨1,r,h,s,a,k,c,d,g,f⟩).cap,.int .i64 (dK ⟨1,t,p,u,b,q,l,m,o,n⟩ ⟨1,r,h,s,a,k,c,d,g,f⟩).set,.int .i64 (dK ⟨1,t,p,u,b,q,l,m,o,n⟩ ⟨1,r,h,s,a,k,c,d,g,f⟩).bm,.bool (dK ⟨1,t,p,u,b,q,l,m,o,n⟩ ⟨1,r,h,s,a,k,c,d,g,f⟩).goes,.string (dK ⟨1,t,p,u,b,q,l,m,o,n⟩ ⟨1,r,h,s,a,k,c,d,g,f⟩).link])/\Below w'.heap.size w' J):=fun w'=>F5 ⟨1,t,p,u,b,q,l,m,o,n⟩ ⟨1,r,h,s,a,k,c,d,g,f⟩ w' X V Z Y;have H:Hd (dV w (dK ⟨1,t,p,u,b,q,l,m,o,n⟩ ⟨1,r,h,s,a,k,c,d,g,f⟩)):=tH T _;have I:=hId U;have a3:=bz 1 1 1 1;have a2:=nN;clear U T Z Y X V;generalize dK ⟨1,t,p,u,b,q,l,m,o,n⟩ ⟨1,r,h,s,a,k,c,d,g,f⟩=y at*;go_enter func167,ntmps167
 go_upto_region 1 with fail
 change Code.wp prog _ _ _ (k9 (fT ⟨1,r,h,s,a,k,c,d,g,f⟩ ⟨1,t,p,u,b,q,l,m,o,n⟩ w));generalize k9 (fT ⟨1,r,h,s,a,k,c,d,g,f⟩ ⟨1,t,p,u,b,q,l,m,o,n⟩ w)=W at*;have c0:=x.o.pb.c0;have c1:=x.o.pb.c1;have c2:=x.o.pb.c2;have c3:=x.o.pb.c3;have c4:=x.o.pb.c4;have c5:=x.o.pb.c5;have c6:=x.o.pb.c6;have c7:=x.o.pb.c7;have c8:=x.o.pb.c8;have c9:=x.o.pb.c9;have S:=x.o.pb.c10;have Q:=x.o.pb.c11;have P:=x.o.pb.c12;have O:=x.o.pb.c13;have hz:=x.o.rb.lt;go_upto_region 3 with fail
 go_region_held3 (fun w'=>w'.cell? ⟨w.heap.size,0,none⟩=some (.int .i64 1)/\w'.cell? ⟨w.heap.size,1,none⟩=some (.int .i64 r)/\w'.cell? ⟨w.heap.size,2,none⟩=some (.slice h s a)/\w'.cell? ⟨w.heap.size,3,none⟩=some (.int .i64 c)/\w'.cell? ⟨w.heap.size,4,none⟩=some (.int .i64 d)/\w'.cell? ⟨w.heap.size,5,none⟩=some (.bool g)/\w'.cell? ⟨w.heap.size,6,none⟩=some (.string f)/\w'.cell? ⟨w.heap.size,7,none⟩=some (.int .i64 1)/\w'.cell? ⟨w.heap.size,8,none⟩=some (.int .i64 t)/\w'.cell? ⟨w.heap.size,9,none⟩=some (.slice p u b)/\w'.cell? ⟨w.heap.size,10,none⟩=some (.int .i64 l)/\w'.cell? ⟨w.heap.size,11,none⟩=some (.int .i64 m)/\w'.cell? ⟨w.heap.size,12,none⟩=some (.bool o)/\w'.cell? ⟨w.heap.size,13,none⟩=some (.string n)) (first|go_keep|exact nB ((((i.pb.other _ _ (by simp)).other _ _ (by simp)).alloc _).alloc _)|exact nB (((i.pb.other _ _ (by simp)).other _ _ (by simp)).alloc _)|exact nB ((i.pb.other _ _ (by simp)).other _ _ (by simp))|exact nB (i.pb.alloc _)|exact nB ((i.pb.alloc _).alloc _)|exact⟨d0,d1,d2,d3,d4,d5,d6,d7,d8,d9,N,M,L,K⟩|exact⟨c0,c1,c2,c3,c4,c5,c6,c7,c8,c9,S,Q,P,O⟩) ((go_at_call 181;refine(CY.o _).mono ?_;rintro e v⟨rfl,B⟩;have A:Below W.heap.size W v:=(by first|exact(VE W.heap.size W).drew.trans B|exact((VE W.heap.size W).drew.alloc (UZ _) _).trans (B.mono (by simp)));have i:=x.o.under A;have d0:=i.pb.c0;have d1:=i.pb.c1;have d2:=i.pb.c2;have d3:=i.pb.c3;have d4:=i.pb.c4;have d5:=i.pb.c5;have d6:=i.pb.c6;have d7:=i.pb.c7;have d8:=i.pb.c8;have d9:=i.pb.c9;have N:=i.pb.c10;have M:=i.pb.c11;have L:=i.pb.c12;have K:=i.pb.c13;have s0:=i.rb.c0;have s1:=i.rb.c1;have t0:=i.rb.frozen 0;have t1:=i.rb.frozen 1;have a1:w.heap.size+1<v.heap.size:=i.rb.lt;have a0:w.heap.size<v.heap.size:=by omega))
 ·obtain⟨z,D⟩:=i.one y (.slice (some ⟨W.heap.size,0,none⟩) 1 1) (.slice (some ⟨v.heap.size,0,none⟩) 1 1) H.o;have E:Blk v W.heap.size (iD ⟨1,r,h,s,a,k,c,d,g,f⟩) 100:=(B.block _ (dC ⟨1,r,h,s,a,k,c,d,g,f⟩ W.drew).lt).trans (dC ⟨1,r,h,s,a,k,c,d,g,f⟩ W.drew);have C:Blk (aH y (gI v (w.heap.size+1) (.slice (some ⟨W.heap.size,0,none⟩) 1 1) (.slice (some ⟨v.heap.size,0,none⟩) 1 1))) W.heap.size (iD ⟨1,r,h,s,a,k,c,d,g,f⟩) 100:=((E.other ⟨w.heap.size+1,0,none⟩ (.slice (some ⟨W.heap.size,0,none⟩) 1 1) (by simp;omega)).other ⟨w.heap.size+1,1,none⟩ (.slice (some ⟨v.heap.size,0,none⟩) 1 1) (by simp;omega)).alloc _;clear B A i E;go_wp2
  change bodyPost prog _ _ Exit.ret _ (aH y (gI v (w.heap.size+1) (.slice (some ⟨W.heap.size,0,none⟩) 1 1) (.slice (some ⟨v.heap.size,0,none⟩) 1 1)));exact VL (pA rfl _ rfl z.rb) rfl ⟨⟨_,_,rfl,yC C (I.o.below z.bf),D,by omega,by omega⟩,z.bf⟩
 ·obtain⟨z,D,C⟩:=i.two ⟨1,r,h,s,a,k,c,d,g,f⟩ y (.slice (some ⟨v.heap.size,0,none⟩) 1 1) (.slice (some ⟨v.heap.size+1,0,none⟩) 1 1) I.o H.o;clear B A i;go_wp2
  change bodyPost prog _ _ Exit.ret _ (aH y (aH ⟨1,r,h,s,a,k,c,d,g,f⟩ (gI v (w.heap.size+1) (.slice (some ⟨v.heap.size,0,none⟩) 1 1) (.slice (some ⟨v.heap.size+1,0,none⟩) 1 1))));exact VL (pA rfl _ rfl z.rb) rfl ⟨⟨_,_,rfl,D,C,by omega,by omega⟩,z.bf⟩
 ·obtain⟨z,D,C⟩:=i.two y ⟨1,r,h,s,a,k,c,d,g,f⟩ (.slice (some ⟨v.heap.size+1,0,none⟩) 1 1) (.slice (some ⟨v.heap.size,0,none⟩) 1 1) H.o I.o;clear B A i;go_wp2
  change bodyPost prog _ _ Exit.ret _ (aH ⟨1,r,h,s,a,k,c,d,g,f⟩ (aH y (gI v (w.heap.size+1) (.slice (some ⟨v.heap.size+1,0,none⟩) 1 1) (.slice (some ⟨v.heap.size,0,none⟩) 1 1))));exact VL (pA rfl _ rfl z.rb) rfl ⟨⟨_,_,rfl,C,D,by omega,by omega⟩,z.bf⟩
theorem RM(t:Int)(p:Option Addr)(u i:Nat)(s:List It)(l o:Int)(n:Bool)(m:ByteArray)(q:Int)(g:Option Addr)(r a:Nat)(h:List It)(b f:Int)(d:Bool)(c:ByteArray)(w:World)
  (z:dV w ⟨3,q,g,r,a,h,b,f,d,c⟩):
  Calls prog 167 #[.agg #[.int .i64 1,.int .i64 t,.slice p u i,.int .i64 l,.int .i64 o,.bool n,.string m,.int .i64 3,.int .i64 q,.slice g r a,.int .i64 b,.int .i64 f,.bool d,.string c]] w fun e w'=>(∃A x,e=.returned (.agg #[.slice A 0 0,.slice (some ⟨x,0,none⟩) 1 1])/\ae w' (some ⟨x,0,none⟩) 1 1 [⟨3,q,g,r,a,h,b,f,d,c⟩]/\w.heap.size<=x)/\Below w.heap.size w w':=by
 have k:Hd (Bq w (k9 (fT ⟨1,t,p,u,i,s,l,o,n,m⟩ ⟨3,q,g,r,a,h,b,f,d,c⟩ w)) ⟨1,t,p,u,i,s,l,o,n,m⟩ ⟨3,q,g,r,a,h,b,f,d,c⟩ (.slice none 0 0) (.slice none 0 0)):=Bq.start _ _ w;have F:=bz 1 3 1 1;have E:=bz 1 3 3 1;have D:=bz 1 3 1 3;have C:=nN;go_enter func167,ntmps167
 go_upto_region 1 with fail
 change Code.wp prog _ _ _ (k9 (fT ⟨1,t,p,u,i,s,l,o,n,m⟩ ⟨3,q,g,r,a,h,b,f,d,c⟩ w));generalize k9 (fT ⟨1,t,p,u,i,s,l,o,n,m⟩ ⟨3,q,g,r,a,h,b,f,d,c⟩ w)=W at*;have S:=k.o.pb.c0;have c7:=k.o.pb.c7;have Q:=k.o.pb.c8;have P:=k.o.pb.c9;have J:=k.o.pb.c10;have I:=k.o.pb.c11;have H:=k.o.pb.c12;have G:=k.o.pb.c13;obtain⟨L,K⟩:=wz k.o.rb;obtain⟨O,N⟩:=O8 k.o.rb;have M:=k.o.rb.lt;have B:w.heap.size<W.heap.size:=by omega
 go_wp2
 change bodyPost prog _ _ Exit.ret _ (aH ⟨3,q,g,r,a,h,b,f,d,c⟩ (MI (gI W (w.heap.size+1) (.slice (some ⟨W.heap.size,0,none⟩) 0 0) (.slice (some ⟨W.heap.size+1,0,none⟩) 1 1))));have v:=((k.o.gI (.slice (some ⟨W.heap.size,0,none⟩) 0 0) (.slice (some ⟨W.heap.size+1,0,none⟩) 1 1)).under (uw _)).under (aK ⟨3,q,g,r,a,h,b,f,d,c⟩ _);have y:=dC ⟨3,q,g,r,a,h,b,f,d,c⟩ (MI (gI W (w.heap.size+1) (.slice (some ⟨W.heap.size,0,none⟩) 0 0) (.slice (some ⟨W.heap.size+1,0,none⟩) 1 1)));rw[I6,nj]at y;exact VL (pA rfl _ rfl v.rb) rfl ⟨⟨_,_,rfl,yC y (z.below v.bf),by omega⟩,v.bf⟩
theorem RN(l:Int)(g:Option Addr)(m a:Nat)(h:List It)(b f:Int)(d:Bool)(c:ByteArray)(t:Int)(r:Option Addr)(u i:Nat)(s:List It)(n q:Int)(p:Bool)(o:ByteArray)(w:World)
  (z:dV w ⟨3,l,g,m,a,h,b,f,d,c⟩):
  Calls prog 167 #[.agg #[.int .i64 3,.int .i64 l,.slice g m a,.int .i64 b,.int .i64 f,.bool d,.string c,.int .i64 1,.int .i64 t,.slice r u i,.int .i64 n,.int .i64 q,.bool p,.string o]] w fun e w'=>(∃x A,e=.returned (.agg #[.slice (some ⟨x,0,none⟩) 1 1,.slice A 0 0])/\ae w' (some ⟨x,0,none⟩) 1 1 [⟨3,l,g,m,a,h,b,f,d,c⟩]/\w.heap.size<=x)/\Below w.heap.size w w':=by
 have k:Hd (Bq w (k9 (fT ⟨3,l,g,m,a,h,b,f,d,c⟩ ⟨1,t,r,u,i,s,n,q,p,o⟩ w)) ⟨3,l,g,m,a,h,b,f,d,c⟩ ⟨1,t,r,u,i,s,n,q,p,o⟩ (.slice none 0 0) (.slice none 0 0)):=Bq.start _ _ w;have E:=bz 3 1 1 1;have D:=bz 3 1 3 1;have C:=nN;go_enter func167,ntmps167
 go_upto_region 1 with fail
 change Code.wp prog _ _ _ (k9 (fT ⟨3,l,g,m,a,h,b,f,d,c⟩ ⟨1,t,r,u,i,s,n,q,p,o⟩ w));generalize k9 (fT ⟨3,l,g,m,a,h,b,f,d,c⟩ ⟨1,t,r,u,i,s,n,q,p,o⟩ w)=W at*;have Q:W.cell? ⟨w.heap.size,0,none⟩=some (.int .i64 3):=k.o.pb.cell 0;have P:W.cell? ⟨w.heap.size,1,none⟩=some (.int .i64 l):=k.o.pb.cell 1;have O:W.cell? ⟨w.heap.size,2,none⟩=some (.slice g m a):=k.o.pb.cell 2;have N:W.cell? ⟨w.heap.size,3,none⟩=some (.int .i64 b):=k.o.pb.cell 3;have M:W.cell? ⟨w.heap.size,4,none⟩=some (.int .i64 f):=k.o.pb.cell 4;have L:W.cell? ⟨w.heap.size,5,none⟩=some (.bool d):=k.o.pb.cell 5;have K:W.cell? ⟨w.heap.size,6,none⟩=some (.string c):=k.o.pb.cell 6;have c7:W.cell? ⟨w.heap.size,7,none⟩=some (.int .i64 1):=k.o.pb.cell 7;obtain⟨G,F⟩:=wz k.o.rb;obtain⟨J,I⟩:=O8 k.o.rb;have H:=k.o.rb.lt;have B:w.heap.size<W.heap.size:=by omega
 go_wp2
 change bodyPost prog _ _ Exit.ret _ (MI (aH ⟨3,l,g,m,a,h,b,f,d,c⟩ (gI W (w.heap.size+1) (.slice (some ⟨W.heap.size,0,none⟩) 1 1) (.slice (some ⟨W.heap.size+1,0,none⟩) 0 0))));have v:=((k.o.gI (.slice (some ⟨W.heap.size,0,none⟩) 1 1) (.slice (some ⟨W.heap.size+1,0,none⟩) 0 0)).under (aK ⟨3,l,g,m,a,h,b,f,d,c⟩ _)).under (uw _);have y:=(dC ⟨3,l,g,m,a,h,b,f,d,c⟩ (gI W (w.heap.size+1) (.slice (some ⟨W.heap.size,0,none⟩) 1 1) (.slice (some ⟨W.heap.size+1,0,none⟩) 0 0))).alloc (.cells #[] 100);rw[nj]at y;exact VL (pA rfl _ rfl v.rb) rfl ⟨⟨_,_,rfl,yC y (z.below v.bf),by omega⟩,v.bf⟩
theorem RO (pn:Int) (pao:Option Addr) (pm pcap:Nat) (pit:List It) (pst pcl:Int) (pgs:Bool) (plk:ByteArray) (qn:Int) (qao:Option Addr) (qm qcap:Nat) (qit:List It) (qst qcl:Int) (qgs:Bool) (qlk:ByteArray) (w:World)
   :
  Calls prog 167 #[.agg #[.int .i64 3,.int .i64 pn,.slice pao pm pcap,.int .i64 pst,.int .i64 pcl,.bool pgs,.string plk,.int .i64 3,.int .i64 qn,.slice qao qm qcap,.int .i64 qst,.int .i64 qcl,.bool qgs,.string qlk]] w fun e w'=>(e=.returned (.agg #[.slice none 0 0,.slice none 0 0]))/\Below w.heap.size w w':=by
 have HT:Hd (Bq w (k9 (fT ⟨3,pn,pao,pm,pcap,pit,pst,pcl,pgs,plk⟩ ⟨3,qn,qao,qm,qcap,qit,qst,qcl,qgs,qlk⟩ w)) ⟨3,pn,pao,pm,pcap,pit,pst,pcl,pgs,plk⟩ ⟨3,qn,qao,qm,qcap,qit,qst,qcl,qgs,qlk⟩ (.slice none 0 0) (.slice none 0 0)):=Bq.start _ _ w;have he1:=bz 3 3 1 1;have he2:=bz 3 3 3 1;have he3:=bz 3 3 1 3;have hgk:=nN;go_enter func167,ntmps167
 go_upto_region 1 with fail
 change Code.wp prog _ _ _ (k9 (fT ⟨3,pn,pao,pm,pcap,pit,pst,pcl,pgs,plk⟩ ⟨3,qn,qao,qm,qcap,qit,qst,qcl,qgs,qlk⟩ w));generalize k9 (fT ⟨3,pn,pao,pm,pcap,pit,pst,pcl,pgs,plk⟩ ⟨3,qn,qao,qm,qcap,qit,qst,qcl,qgs,qlk⟩ w)=W at *;have c0:=HT.o.pb.c0;have c7:=HT.o.pb.c7;obtain ⟨r0,r1⟩:=wz HT.o.rb;obtain ⟨f0,f1⟩:=O8 HT.o.rb;go_wp2
 change bodyPost prog _ _ Exit.ret _ (gI W (w.heap.size+1) (.slice none 0 0) (.slice none 0 0));have k1:=HT.o.gI (.slice none 0 0) (.slice none 0 0);exact VL (pA rfl _ rfl k1.rb) rfl ⟨rfl,k1.bf⟩
theorem Oc(p q:PV)(w:World)(J:dV w p)(I:dV w q)(M:p.kind=1\/p.kind=3)(H:q.kind=1\/q.kind=3)(Q:Ac.m4 p.set)(P:Ac.m4 p.bm)(O:Ac.m4 q.set)(N:Ac.m4 q.bm):
  Calls prog 167 #[.agg #[.int .i64 p.kind,.int .i64 p.n,.slice p.ao p.m p.cap,.int .i64 p.set,.int .i64 p.bm,.bool p.goes,.string p.link,.int .i64 q.kind,.int .i64 q.n,.slice q.ao q.m q.cap,.int .i64 q.set,.int .i64 q.bm,.bool q.goes,.string q.link]] w fun e w'=>(∃v E L u D K,e=.returned (.agg #[.slice v E L,.slice u D K])/\ae w' v E L (mc p q)/\ae w' u D K (ma p q)/\vJ w v E/\vJ w u D)/\Below w.heap.size w w':=by
 obtain⟨V,z,r,A,b,m,k,o,n,l⟩:=p;obtain⟨U,x,i,y,a,f,c,h,g,d⟩:=q;simp only at*
 rcases M with rfl|rfl
 ·rcases H with rfl|rfl
  ·refine(RL z r A b m k o n l x i y a f c h g d w J I Q P O N).mono ?_
   rintro e w'⟨⟨T,S,s,C,B,G,F⟩,t⟩;exact⟨⟨_,_,_,_,_,_,s,C,B,mG G,mG F⟩,t⟩
  ·refine(RM z r A b m k o n l x i y a f c h g d w I).mono ?_
   rintro e w'⟨⟨v,S,s,B,F⟩,t⟩;exact⟨⟨_,_,_,_,_,_,s,nC w' v,B,mF w _,mG F⟩,t⟩
 ·rcases H with rfl|rfl
  ·refine(RN z r A b m k o n l x i y a f c h g d w J).mono ?_
   rintro e w'⟨⟨T,u,s,C,G⟩,t⟩;exact⟨⟨_,_,_,_,_,_,s,C,nC w' u,mG G,mF w _⟩,t⟩
  ·refine(RO z r A b m k o n l x i y a f c h g d w).mono ?_
   rintro e w'⟨s,t⟩;exact⟨⟨_,_,_,_,_,_,s,nC w' none,nC w' none,mF w _,mF w _⟩,t⟩
theorem DZ(w:World)(r:Option Nat):w.grownBy w r:=⟨rfl,rfl,rfl,UZ _,fun _ _ _=>rfl⟩
theorem az{P:Program}(w:World){ops:Array Oper}{y:List Oper}{o:Oper}{a:Act}{Q:Exit->Act->World->Prop}(C:o.guard=none)(s x:Operand)(t:TypeId)
  (S:o.op=.call {callee:=.builtin .append,args:=#[s,x],argTypes:=#[t,t]})
  (base:Nat)(e:TypeId)(i:TypeInfo)(z:Value)(d l:Nat)(G:P.underlying t=some (.slice e))(U:P.info? e=some i)(V:i.zero=some z)
  (A:i.size=d)(K:i.bytes=l)(I:z.cells.size=d)(J:0<d)
  (v:Value)(n:Nat)(xs:List Value)(O:a.eval s=v)(q:w.ownsRow base e d v n xs)
  (E:Option Addr)(m c:Nat)(f:List Value)(N:a.eval x=.slice E m c)(p:Row w E m c d f)(h1:∀u∈f,u.oneCell'=true)
  (L:n+m<=maxLen)(r:(n+m)*l<=140737488355328)(B:base<=w.heap.size)
  (h:∀F w',w'.ownsRow base e d F (n+m) (xs++f)->w.grownBy w' v.ownBlock->(∀k,F.ownBlock=some k->v.ownBlock=some k\/k=w.heap.size)->wpList P ops Q y (a.put o.dst F) w'):wpList P ops Q (o::y) a w:=by
 by_cases T:m=0
 ·subst T;have Z:f=[]:=by have:=p.len;rw[XQ]at this;exact VS.1 this
  subst Z;obtain⟨M,D,W,Y⟩:=bg q;refine oo C s x #[t,t] S v (.slice E 0 c) v w O N ?_ ?_
  ·rw[W];exact run_append_nothing w t t o.type e i G U M n D Y.room (.slice E 0 c) (zV G)
  ·exact h v w (by rw[VY];exact q) (DZ w _) (fun k e=>.inl e)
 ·obtain⟨b,H,rfl,hc⟩:=p.bH T;refine wpList_append_lies w C s x t S base e i z d l G U V A K I J v n xs O q ⟨b,H,none⟩ m c f N p.len (fun j u X=>by rw[iU];exact hc j u X) h1 (by omega) L r B _ rfl ?_
  intro g a0 w' h2 h3 h4 h5;exact h _ w' h2 h3 (fun k e=>by
   have:g=k:=by simpa[Value.ownBlock]using e
   subst this;exact h4)
structure cY (w wr:World) (r s:RV) (x y:Value) (ux uy:List PV):Prop where
 pb:Blk wr w.heap.size (oK r s) 180
 rb:Blk wr (w.heap.size+1) [.slice none 0 0,.slice none 0 0] 110
 mb:Blk wr (w.heap.size+2) [x,y] 110
 hr:ae w r.ao r.n r.cap r.vs
 hs:ae w s.ao s.n s.cap s.vs
 mx:wr.ownsRow (w.heap.size+3) 100 7 x ux.length (aG ux)
 my:wr.ownsRow (w.heap.size+3) 100 7 y uy.length (aG uy)
 px:∀ u ∈ ux,dV w u
 py:∀ u ∈ uy,dV w u
 apart:∀ k,x.ownBlock=some k->y.ownBlock≠some k
 bf:Below w.heap.size w wr
theorem cY.under{w wr b:World}{r s:RV}{x y:Value}{d c:List PV}(h:cY w wr r s x y d c)(a:Below wr.heap.size wr b):cY w b r s x y d c:=
 ⟨(a.block _ h.pb.lt).trans h.pb,(a.block _ h.rb.lt).trans h.rb,(a.block _ h.mb.lt).trans h.mb,h.hr,h.hs,ax h.mx a,ax h.my a,h.px,h.py,h.apart,h.bf.trans (a.mono h.bf.size)⟩
theorem cY.pair{w wr b:World}{r s d c:RV}{x y:Value}{g f:List PV}(h:cY w wr r s x y g f)(a:Kept wr b [w.heap.size])(m:Blk b w.heap.size (oK d c) 180)(l:ae w d.ao d.n d.cap d.vs)(i:ae w c.ao c.n c.cap c.vs):cY w b d c x y g f:=
 ⟨m,a.aM h.rb (by simp),a.aM h.mb (by simp),l,i,fu h.mx a (fun k a e=>by have:=aS h.mx k e;rw[UY]at a;omega),fu h.my a (fun k a e=>by have:=aS h.my k e;rw[UY]at a;omega),h.px,h.py,h.apart,h.bf.trans (a.below h.bf.size (fun k a=>by rw[UY.1 a];exact UZ _))⟩
theorem zw{w:World}{B n sz:Nat}{e:TypeId}{v:Value}{xs:List Value}(h:w.ownsRow B e sz v n xs):∀k∈ob v,B<=k:=fun k a=>aS h k (cE a)
theorem cY.Kv{w wr d b:World}{r s:RV}{x y:Value}{f e:List PV}(h:cY w wr r s x y f e)(c:Below wr.heap.size wr d)(i:d.grownBy b x.ownBlock):Kept wr b (ob x)/\Blk b (w.heap.size+2) [x,y] 110:=by
 have a:=((dH c).mono (fun k a=>by cases a)).trans (gh i);exact⟨a,a.aM h.mb (fun g=>by have:=zw h.mx _ g;omega)⟩
theorem cY.Ku{w wr d b:World}{r s:RV}{x y:Value}{f e:List PV}(h:cY w wr r s x y f e)(c:Below wr.heap.size wr d)(i:d.grownBy b y.ownBlock):Kept wr b (ob y)/\Blk b (w.heap.size+2) [x,y] 110:=by
 have a:=((dH c).mono (fun k a=>by cases a)).trans (gh i);exact⟨a,a.aM h.mb (fun g=>by have:=zw h.my _ g;omega)⟩
theorem kT{w:World}{B n sz:Nat}{e:TypeId}{v:Value}{xs:List Value}(h:w.ownsRow B e sz v n xs){k:Nat}(a:k<B)(j:Nat)(z:Value):(w.setCell ⟨k,j,none⟩ z).ownsRow B e sz v n xs:=ownsRow_setCell_below h a z
theorem cY.PD{w wr l n:World}{r s:RV}{x y:Value}{i q us:List PV}{m:Nat}{g:Value}(h:cY w wr r s x y i q)(d:Below wr.heap.size wr l)(v:∀u∈us,dV w u)(z:(i++us).length=m)
  (f:n.ownsRow (w.heap.size+3) 100 7 g m (aG i++aG us))(A:l.grownBy n x.ownBlock)(p:∀k,g.ownBlock=some k->x.ownBlock=some k\/k=l.heap.size):
  cY w (n.setCell ⟨w.heap.size+2,0,none⟩ g) r s g y (i++us) q:=by
 obtain⟨a,B⟩:=h.Kv d A;have b:=zw h.mx;refine⟨(a.aM h.pb (fun o=>by have:=b _ o;omega)).other _ _ (by simp),(a.aM h.rb (fun o=>by have:=b _ o;omega)).other _ _ (by simp),B.set 0 _,h.hr,h.hs,?_,?_,fun u c=>?_,h.py,fun k e t=>?_,?_⟩
 ·rw[z,jB];exact kT f (by omega) _ _
 ·refine kT (fu h.my a (fun k a e=>h.apart k (cE a) e)) (by omega) _ _
 ·rcases VW.1 c with c|c
  ·exact h.px u c
  ·exact v u c
 ·rcases p k e with e3|e3
  ·exact h.apart k e3 t
  ·have:=(h.my.lt k t).2;have:=d.size;omega
 ·exact(h.bf.trans (a.below h.bf.size (fun k a=>by have:=b k a;omega))).setCell (by simp) _
theorem cY.PC{w wr l n:World}{r s:RV}{x y:Value}{q i us:List PV}{m:Nat}{g:Value}(h:cY w wr r s x y q i)(d:Below wr.heap.size wr l)(t:∀u∈us,dV w u)(v:(i++us).length=m)
  (f:n.ownsRow (w.heap.size+3) 100 7 g m (aG i++aG us))(z:l.grownBy n y.ownBlock)(p:∀k,g.ownBlock=some k->y.ownBlock=some k\/k=l.heap.size):
  cY w (n.setCell ⟨w.heap.size+2,1,none⟩ g) r s x g q (i++us):=by
 obtain⟨a,A⟩:=h.Ku d z;have b:=zw h.my;refine⟨(a.aM h.pb (fun o=>by have:=b _ o;omega)).other _ _ (by simp),(a.aM h.rb (fun o=>by have:=b _ o;omega)).other _ _ (by simp),A.set 1 _,h.hr,h.hs,?_,?_,h.px,fun u c=>?_,fun k e B=>?_,?_⟩
 ·refine kT (fu h.mx a (fun k a e=>h.apart k e (cE a))) (by omega) _ _
 ·rw[v,jB];exact kT f (by omega) _ _
 ·rcases VW.1 c with c|c
  ·exact h.py u c
  ·exact t u c
 ·rcases p k B with e3|e3
  ·exact h.apart k e e3
  ·have:=(h.mx.lt k e).2;have:=d.size;omega
 ·exact(h.bf.trans (a.below h.bf.size (fun k a=>by have:=b k a;omega))).setCell (by simp) _
theorem cY.Oy{w wr d f:World}{r s:RV}{x y:Value}{c n us:List PV}{g a m:Nat}(h:cY w wr r s x y c n)(l:Below wr.heap.size wr d)(o:∀u∈us,dV w u)(p:(c++us).length=m)
  (b:f.ownsRow (w.heap.size+3) 100 7 (.slice (some ⟨g,0,none⟩) m a) m (aG c++aG us))(q:d.grownBy f x.ownBlock)(i:x.ownBlock=some g\/g=d.heap.size):
  cY w (f.setCell ⟨w.heap.size+2,0,none⟩ (.slice (some ⟨g,0,none⟩) m a)) r s (.slice (some ⟨g,0,none⟩) m a) y (c++us) n:=
 h.PD l o p b q (fun k e=>by
  have:g=k:=by simpa[Value.ownBlock]using e
  subst this;exact i)
theorem cY.Ox{w wr d f:World}{r s:RV}{x y:Value}{n c us:List PV}{g a m:Nat}(h:cY w wr r s x y n c)(l:Below wr.heap.size wr d)(o:∀u∈us,dV w u)(p:(c++us).length=m)
  (b:f.ownsRow (w.heap.size+3) 100 7 (.slice (some ⟨g,0,none⟩) m a) m (aG c++aG us))(q:d.grownBy f y.ownBlock)(i:y.ownBlock=some g\/g=d.heap.size):
  cY w (f.setCell ⟨w.heap.size+2,1,none⟩ (.slice (some ⟨g,0,none⟩) m a)) r s x (.slice (some ⟨g,0,none⟩) m a) n (c++us):=
 h.PC l o p b q (fun k e=>by
  have:g=k:=by simpa[Value.ownBlock]using e
  subst this;exact i)
theorem Ez{w wr:World}{B:Nat}{x:Value}{us:List PV}(h:wr.ownsRow B 100 7 x us.length (aG us))(f:∀u∈us,dV w u)(g:Below w.heap.size w wr):∃a n c,x=.slice a n c/\ae wr a n c us:=by
 obtain⟨a,c,e,d⟩:=bg h;exact⟨a,_,c,e,d,fun u b=>(f u b).below g⟩
theorem cY.ret{w wr:World}{r s:RV}{x y:Value}{e d:List PV}(h:cY w wr r s x y e d):Blk (gI wr (w.heap.size+1) x y) (w.heap.size+1) [x,y] 110/\(∃a n c,x=.slice a n c/\ae (gI wr (w.heap.size+1) x y) a n c e)/\(∃a n c,y=.slice a n c/\ae (gI wr (w.heap.size+1) x y) a n c d)/\Below w.heap.size w (gI wr (w.heap.size+1) x y):=by
 have b:Below w.heap.size w (gI wr (w.heap.size+1) x y):=(h.bf.setCell (by simp) _).setCell (by simp) _;exact⟨(h.rb.set 0 x).set 1 y,Ez (kT (kT h.mx (by omega) 0 x) (by omega) 1 y) h.px b,Ez (kT (kT h.my (by omega) 0 x) (by omega) 1 y) h.py b,b⟩
def BC (r s:RV) (w:World):World:=w.alloc (.cells #[.slice r.ao r.n r.cap,.int .i64 r.g,.slice s.ao s.n s.cap,.int .i64 s.g] 180)
theorem xN(r s:RV)(w:World):(BC r s w).heap.size=w.heap.size+1:=WO ..
theorem I3(w:World):(k9 w).heap.size=w.heap.size+1:=WO ..
theorem cY.start(r s:RV)(w:World)(f:ae w r.ao r.n r.cap r.vs)(d:ae w s.ao s.n s.cap s.vs):cY w (k9 (k9 (BC r s w))) r s (.slice none 0 0) (.slice none 0 0) [] []:=by
 have g:Blk (BC r s w) w.heap.size (oK r s) 180:=Blk.new w _ _;have c:=uu (BC r s w);have b:=uu (k9 (BC r s w));rw[xN]at c;rw[I3,xN]at b;refine⟨(g.alloc _).alloc _,c.alloc _,b,f,d,XM _ _ _ _,XM _ _ _ _,fun u a=>absurd a (by simp),fun u a=>absurd a (by simp),fun k e=>(by cases e),?_⟩
 exact(((VE _ _).alloc (UZ _) _).alloc (by simp) _).alloc (by simp;omega) _
def od (w:World) (a:Addr):Nat:=match w.cell? a with
 | some (.slice _ n _)=>n
 | _=>0
theorem cY.left{w wr:World}{r s:RV}{x y:Value}{b a:List PV}(h:cY w wr r s x y b a):od wr ⟨w.heap.size,0,none⟩+od wr ⟨w.heap.size,2,none⟩=r.vs.length+s.vs.length:=by
 obtain⟨d,-,c⟩:=mi h.pb;unfold od;rw[d,c,h.hr.len,h.hs.len]
theorem uJ{w:World}{v:PV}(h:dV w v)(a:Ac.bG v.pt=0):ef v=(Ac.lg v.pt:Int):=by
 unfold ef Ac.lg;have e:v.pt.kind=v.kind:=rfl;rw[e];by_cases k:v.kind=2
 ·rw[VC k,VC k];have:=h.jd.len;show(v.m:Int)=(v.aB.length:Int)
  omega
 ·rw[VD k,VD k];have:=(Ac.mI a).1;show v.n=(v.n.toNat:Int)
  change 0<=v.n at this;omega
theorem kV{w:World}{r:RV}{v:PV}{t:List PV}(h:dV w v)(a:Ac.bG v.pt=0)(q:Nat):(r.next v t q).vs.map PV.pt=Ac.lK v.pt (t.map PV.pt) r.g q/\(r.next v t q).g=Ac.oO v.pt r.g q:=by
 have e:=uJ h a;unfold RV.next Ac.lK Ac.oO;by_cases k:r.g+q=Ac.lg v.pt
 ·rw[VC (by rw[e,k]),VC k,VC k];exact⟨rfl,rfl⟩
 ·rw[VD (by rw[e];omega),VD k,VD k];exact⟨rfl,rfl⟩
theorem Qj(x y:Value)(w:World):(Instr.index 110 (.agg #[x,y]) (.int .i64 0)).run prog w=.ok x w:=by kernel_rfl
theorem Qi(x y:Value)(w:World):(Instr.index 110 (.agg #[x,y]) (.int .i64 1)).run prog w=.ok y w:=by kernel_rfl
theorem MO(p q:PV):(mc p q).map PV.pt=Ac.EK p.pt q.pt:=by
 unfold mc Ac.EK;have e:q.pt.kind=q.kind:=rfl;rw[e];split<;>rfl
theorem MN(p q:PV):(ma p q).map PV.pt=Ac.EJ p.pt q.pt:=by
 unfold ma Ac.EJ;have e:q.pt.kind=q.kind:=rfl;have a:p.pt.kind=p.kind:=rfl;rw[e,a];split
 ·split<;>rfl
 ·rfl
theorem I9{w:World}{p q:PV}(h:dV w p):∀z∈mc p q,dV w z:=by
 unfold mc;intro z a;split at a
 ·rw[UY.1 a];exact h
 ·cases a
theorem I7{w:World}{p q:PV}(h:dV w q):∀z∈ma p q,dV w z:=by
 unfold ma;intro z a;split at a
 ·split at a
  ·rw[UY.1 a];exact tH h p
  ·rw[UY.1 a];exact h
 ·cases a
theorem JA(p q:PV):(mc p q).length<=1:=by unfold mc;split<;>simp
theorem I8(p q:PV):(ma p q).length<=1:=by
 unfold ma;split
 ·split<;>simp
 ·simp
theorem Ac.zq{p:Ac.Pt}(h:Ac.bG p=0)(k:¬p.kind=2)(g n:Nat):Ac.m4 (Ac.piece p g n).set/\Ac.m4 (Ac.piece p g n).bm:=by
 rw[Ac.nl k];rcases Ac.qV h with⟨_,a,_⟩|⟨b,e,_⟩|⟨m,e,_⟩
 ·exact⟨(Ac.fY a).1,(Ac.fY a).2.1⟩
 ·rw[e]at k;exact absurd rfl k
 ·rw[e];show Ac.m4 0/\Ac.m4 0
  exact⟨⟨by decide,by decide⟩,⟨by decide,by decide⟩⟩
