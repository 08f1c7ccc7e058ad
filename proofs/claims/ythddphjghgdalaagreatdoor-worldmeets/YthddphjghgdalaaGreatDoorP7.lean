/- A part. -/
import Derived.Test.YthddphjghgdalaaGreatDoorP6
set_option maxRecDepth 100000
set_option maxHeartbeats 3200000
namespace Go.Proofs.YthddphjghgdalaaGreatDoor
open Go.RowKit Go.Proofs.Tryz
def ef (v:PV):Int:=if v.kind=2 then (v.m:Int) else v.n
theorem wo(v:PV)(w:World):Calls prog 188 #[.agg #[.int .i64 v.kind,.int .i64 v.n,.slice v.ao v.m v.cap,.int .i64 v.set,.int .i64 v.bm,.bool v.goes,.string v.link]] w fun e w'=>e=.returned (.int .i64 (ef v))/\Below w.heap.size w w':=by
 have c:=hId (aK v w);obtain⟨r,a⟩:∃r,ef v=r:=⟨_,rfl⟩;rw[a];unfold ef at a;by_cases b:v.kind=2
 ·rw[VC b]at a;subst a;have d:(v.kind==2)=true:=by simp[b]
  clear b;go_enter func188,ntmps188
  go_wp2
  go_ret
  exact⟨rfl,c.o⟩
 ·rw[VD b]at a;subst a;have d:(v.kind==2)=false:=by simp[b]
  clear b;go_enter func188,ntmps188
  go_wp2
  go_ret
  exact⟨rfl,c.o⟩
def xU (vs:List PV) (k:Int):Bool:=match vs with
 | []=>false
 | v :: _=>v.kind == k
theorem ae.head{w:World}{f:Option Addr}{n c:Nat}{v:PV}{t:List PV}(h:ae w f n c (v::t)):∃b a,f=some ⟨b,a,none⟩/\bV w b a v/\0<n/\n=t.length+1:=by
 have d:=h.len;rw[VG]at d;obtain⟨b,a,e,g⟩:=h.get (by omega);have:=g 0 (by simp);rw[XQ,Nat.add_zero]at this;exact⟨b,a,e,this,by omega,d.symm⟩
theorem jE(b a:Nat)(i:Option Addr)(n d:Nat)(g:List PV)(k:Int)(w:World)(o:w.cell? ⟨b,a,none⟩=some (.slice i n d))(f:ae w i n d g):
  Calls prog 153 #[.pointer (some ⟨b,a,none⟩),.int .i64 k] w fun e w'=>e=.returned (.bool (xU g k))/\w'=w:=by
 cases g with
 |nil=>
  have h:n=0:=f.len.symm;subst h;clear f;go_enter func153,ntmps153
  go_wp2
  go_ret
  exact⟨rfl,rfl⟩
 |cons v t=>
  obtain⟨m,l,rfl,c,h,-⟩:=f.head;have p:=c.c0;clear f c;unfold xU;simp only
  generalize v.kind=q at*;go_enter func153,ntmps153
  go_wp2
  go_ret
  exact⟨rfl,rfl⟩
theorem qJ(b a:Nat)(k:Option Addr)(n d:Nat)(v:PV)(t:List PV)(g:Nat)(w:World)(D:w.cell? ⟨b,a,none⟩=some (.slice k n d))(i:w.cell? ⟨b,a+1,none⟩=some (.int .i64 g))(h:ae w k n d (v::t))(C:(g:Int)<=ef v)(B:ef v<=1000):
  Calls prog 172 #[.pointer (some ⟨b,a,none⟩)] w fun e w'=>e=.returned (.int .i64 (ef v-g))/\Below w.heap.size w w':=by
 obtain⟨y,x,rfl,f,A,-⟩:=h.head;obtain⟨K,J,I,H,G,F,E⟩:=f;have o:=hId (fun w'=>wo v w');have m:Hd (∀w',Below w.heap.size w.drew w'->w'.cell? ⟨b,a+1,none⟩=some (.int .i64 g)):=fun w' c=>(c.cell (p:=⟨b,a+1,none⟩) (gW i)).trans i;have l:Hd (∀w',Below w.heap.size w.drew w'->Below w.heap.size w w'):=fun w' c=>(VE _ _).drew.trans c;clear h;have q:wrap64 (ef v-g)=ef v-g:=by unfold wrap64;omega
 have r:IntKind.i64.wrap (ef v-g)=ef v-g:=IntWalk.i64_in _ ⟨by omega,by omega⟩;generalize ef v=L at*;go_enter func172,ntmps172
 go_upto_region 1 with fail
 go_region_with ((go_at_call 188;refine(o.o _).mono ?_;rintro e u⟨rfl,c⟩;have z:=m.o _ c;have s:=l.o _ c;clear c))
 all_goals
  go_wp2
  go_ret
  exact⟨rfl,by assumption⟩
structure RV where
 ao:Option Addr
 n:Nat
 cap:Nat
 vs:List PV
 g:Nat
def oK (r s:RV):List Value:=[.slice r.ao r.n r.cap,.int .i64 r.g,.slice s.ao s.n s.cap,.int .i64 s.g]
def RV.ok (w:World) (r:RV):Prop:=ae w r.ao r.n r.cap r.vs
def aE (v:PV) (g q:Nat):PV:=if v.kind=2 then { v with ao:=v.ao.map (fun a=>a.add (g*3)),m:=q,cap:=v.cap - g,aB:=(v.aB.drop g).take q } else { v with n:=q }
theorem bw(v:PV)(g q:Nat):(aE v g q).pt=Ac.piece v.pt g q:=by
 unfold aE Ac.piece PV.pt;split
 ·rfl
 ·rfl
def wJ (ao:Option Addr) (cap:Nat):Option Addr:=if cap=1 then ao else ao.map (fun a=>a.add 7)
def RV.next (r:RV) (v:PV) (t:List PV) (q:Nat):RV:=if ((r.g+q:Nat):Int)=ef v then ⟨wJ r.ao r.cap,r.n - 1,r.cap - 1,t,0⟩ else ⟨r.ao,r.n,r.cap,v :: t,r.g+q⟩
theorem iU(b a k:Nat):(⟨b,a,none⟩:Addr).add k=⟨b,a+k,none⟩:=by unfold Addr.add;split<;>simp_all
theorem dV.piece{w:World}{v:PV}(h:dV w v){g q:Nat}(n:1<=q)(a:v.kind=2->g+q<=v.m):dV w (aE v g q):=by
 unfold aE;by_cases k:v.kind=2
 ·rw[VC k];have a:=a k;obtain⟨d,c,e,i⟩:=h.jd.bH (by omega);have l:=h.jd.room;have m:=h.jd.fg;have b:=h.jd.len;refine⟨⟨fun x f=>h.jd.fit x (List.mem_of_mem_drop (List.mem_of_mem_take f)),by simp;omega,by simp only;omega,by simp only;omega,fun _=>⟨d,c+g*3,?_,i.part g q⟩⟩,h.fit⟩
  simp only
  rw[e,Option.map_some,iU]
 ·rw[VD k];exact⟨h.jd,h.fit⟩
theorem ae.tail{w:World}{d:Option Addr}{n a:Nat}{v:PV}{t:List PV}(h:ae w d n a (v::t)):ae w (wJ d a) (n-1) (a-1) t:=by
 have g:=h.len;rw[VG]at g;have l:=h.row.room;have o:=h.row.fg;refine⟨⟨by rw[gm];congr 1;omega,by omega,by omega,fun m=>?_⟩,fun u f=>h.iE u (VP _ f)⟩
 obtain⟨b,c,e,k⟩:=h.row.bH (by omega);refine⟨b,c+7,?_,fun j u i=>?_⟩
 ·unfold wJ;rw[VD (by omega),e,Option.map_some,iU]
 ·have:=k (7+j) u (by rw[iN,show 7+j=j+1+1+1+1+1+1+1 by omega];exact i);rw[<-WX]at this;exact this
theorem RV.kW{w:World}{r:RV}{v:PV}{t:List PV}(h:ae w r.ao r.n r.cap (v::t))(q:Nat):RV.ok w (r.next v t q):=by
 unfold RV.next RV.ok;split
 ·exact h.tail
 ·exact h
theorem wrap_add{g q gq:Nat}(h:g+q=gq)(a:gq<=1000):wrap64 ((g:Int)+(q:Int))=(gq:Int)/\IntKind.i64.wrap ((g:Int)+(q:Int))=(gq:Int):=by
 rw[show(g:Int)+(q:Int)=(gq:Int)by omega];exact⟨by unfold wrap64;omega,IntWalk.i64_in _ ⟨by omega,by omega⟩⟩
theorem Q3:prog.elem 31=100:=by kernel_rfl
theorem Jh:prog.underlying 31=some (.slice (prog.elem 31)):=by kernel_rfl
theorem Q5:prog.elem 22=67:=by kernel_rfl
theorem Jj:prog.underlying 22=some (.slice (prog.elem 22)):=by kernel_rfl
theorem Ci(b c n a:Nat)(d:0<n)(w:World):(Instr.slice 31 (.slice (some ⟨b,c,none⟩) n a) (some (.int .i64 1)) none none).run prog w=.ok (.slice (wJ (some ⟨b,c,none⟩) a) (n-1) (a-1)) w:=by
 rw[run_slice_l (P:=prog) (w:=w) 31 _ n a Jh .i64 (1:Int) (by omega) (by omega),Q3,Tryz.sizeOf100 w];rfl
theorem KE(b c n a i k:Nat)(e:i<k)(d:k<=n)(f:n<=a)(w:World):(Instr.slice 22 (.slice (some ⟨b,c,none⟩) n a) (some (.int .i64 i)) (some (.int .i64 k)) none).run prog w=.ok (.slice (some ⟨b,c+i*3,none⟩) (k-i) (a-i)) w:=by
 rw[run_slice_lh (P:=prog) (w:=w) 22 _ n a Jj .i64 .i64 (i:Int) (k:Int) (by omega) (by omega) (by omega),Q5,Tryz.sizeOf67 w];simp only[Result.andThen,Int.toNat_natCast]
 congr 1
 unfold sliced;rw[VD (by omega)];simp only[Option.map_some,iU]
structure vR (w0 w:World) (b:Nat) (cs:List Value) (u:PV):Prop where
 rb:Blk w w0.heap.size (iD iZ) 100
 pb:Blk w (w0.heap.size+1) (iD u) 100
 cb:Blk w b cs 180
 kept:Kept w0 w [b]
theorem vR.start{w:World}{b:Nat}{cs:List Value}(h:Blk w b cs 180)(v:PV):vR w (aH v (aH iZ w)) b cs v:=
 ⟨(dC iZ w).alloc _,by have:=dC v (aH iZ w);rw[cV]at this;exact this,(h.alloc _).alloc _,((Kept.refl w [b]).alloc _).alloc _⟩
theorem vR.own{a w:World}{b:Nat}{cs:List Value}{u:PV}(h:vR a w b cs u)(c:b<a.heap.size)(j:Nat)(x:Value){u':PV}(e:(iD u).set j x=iD u'):vR a (w.setCell ⟨a.heap.size+1,j,none⟩ x) b cs u':=
 ⟨h.rb.other _ _ (by simp),by have:=h.pb.set j x;rw[e]at this;exact this,h.cb.other _ _ (by simp;omega),h.kept.setCell _ _ (.inr (by simp))⟩
theorem vR.pair{a w:World}{b:Nat}{cs:List Value}{u:PV}(h:vR a w b cs u)(c:b<a.heap.size)(j:Nat)(x:Value):vR a (w.setCell ⟨b,j,none⟩ x) b (cs.set j x) u:=
 ⟨h.rb.other _ _ (by simp;omega),h.pb.other _ _ (by simp;omega),h.cb.set j x,h.kept.setCell _ _ (.inl (by simp))⟩
theorem vR.drew{a w:World}{b:Nat}{cs:List Value}{u:PV}(h:vR a w b cs u):vR a w.drew b cs u:=⟨h.rb,h.pb,h.cb,h.kept.drew⟩
theorem vR.under{c w w':World}{b:Nat}{cs:List Value}{u:PV}(h:vR c w b cs u)(a:Below w.heap.size w w'):vR c w' b cs u:=
 ⟨(a.block _ h.rb.lt).trans h.rb,(a.block _ h.pb.lt).trans h.pb,(a.block _ h.cb.lt).trans h.cb,h.kept.trans ((dH a).mono (fun x d=>by cases d))⟩
theorem ig(w:World)(g:Nat)(k:PV)(S:List Nat)(h:g∈S):Kept w (iW w g k) S:=by
 unfold iW;exact(((((((Kept.refl w S).setCell _ _ (.inl h)).setCell _ _ (.inl h)).setCell _ _ (.inl h)).setCell _ _ (.inl h)).setCell _ _ (.inl h)).setCell _ _ (.inl h)).setCell _ _ (.inl h)
theorem vR.done{a w:World}{b:Nat}{cs:List Value}{u:PV}(h:vR a w b cs u)(d:b<a.heap.size)(k:PV):Blk (iW w a.heap.size k) a.heap.size (iD k) 100/\Blk (iW w a.heap.size k) b cs 180/\Kept a (iW w a.heap.size k) [b]:=by
 refine⟨gN h.rb,?_,h.kept.bZ (ig w _ k [a.heap.size] (by simp)) (fun x c=>by rw[UY.1 c];exact .inr (UZ _))⟩
 exact(ig w a.heap.size k [a.heap.size] (by simp)).aM h.cb (by simp;omega)
def dK (p f:PV):PV:={ p with set:=Ac.less p.set (Ac.both f.set f.bm),bm:=Ac.less p.bm (Ac.both f.set f.bm),goes:=p.goes&&!f.goes,link:=if f.goes then ⟨#[]⟩ else p.link }
def jW (f p:PV):PV:={ f with set:=Ac.both (Ac.less f.set p.bm) p.set,bm:=Ac.both (Ac.less f.bm p.set) p.bm,goes:=f.goes || p.goes,link:=if p.goes then p.link else f.link }
structure Me (w0 w:World) (u v r:PV):Prop where
 ub:Blk w w0.heap.size (iD u) 100
 vb:Blk w (w0.heap.size+1) (iD v) 100
 rb:Blk w (w0.heap.size+2) (iD r) 100
 bf:Below w0.heap.size w0 w
theorem Me.start(u v:PV)(w:World):Me w (aH iZ (aH v (aH u w))) u v iZ:=by
 refine⟨((dC u w).alloc _).alloc _,?_,?_,(jI u v w).trans ((aK iZ _).mono (by rw[cV,cV];omega))⟩
 ·have:=(dC v (aH u w)).alloc (.cells #[.int .i64 0,.int .i64 0,.slice none 0 0,.int .i64 0,.int .i64 0,.bool false,.string ⟨#[]⟩] 100);rw[cV]at this;exact this
 ·have:=dC iZ (aH v (aH u w));rw[cV,cV]at this;exact this
theorem Me.drew{a w:World}{u v r:PV}(h:Me a w u v r):Me a w.drew u v r:=⟨h.ub,h.vb,h.rb,h.bf.drew⟩
theorem Me.G2{a w:World}{u v r:PV}(h:Me a w u v r)(j:Nat)(x:Value){u':PV}(e:(iD u).set j x=iD u'):Me a (w.setCell ⟨a.heap.size,j,none⟩ x) u' v r:=
 ⟨by have:=h.ub.set j x;rw[e]at this;exact this,h.vb.other _ _ (by simp),h.rb.other _ _ (by simp),h.bf.setCell (UZ _) _⟩
theorem F5(p f:PV)(w:World)(L:Ac.m4 p.set)(K:Ac.m4 p.bm)(F:Ac.m4 f.set)(E:Ac.m4 f.bm):
  Calls prog 181 #[.agg #[.int .i64 p.kind,.int .i64 p.n,.slice p.ao p.m p.cap,.int .i64 p.set,.int .i64 p.bm,.bool p.goes,.string p.link],.agg #[.int .i64 f.kind,.int .i64 f.n,.slice f.ao f.m f.cap,.int .i64 f.set,.int .i64 f.bm,.bool f.goes,.string f.link]] w fun e w'=>e=.returned (.agg #[.int .i64 (dK p f).kind,.int .i64 (dK p f).n,.slice (dK p f).ao (dK p f).m (dK p f).cap,.int .i64 (dK p f).set,.int .i64 (dK p f).bm,.bool (dK p f).goes,.string (dK p f).link])/\Below w.heap.size w w':=by
 have B:=hId (Me.start p f w);have q1:=tB F E;have q2:=lV L (Ac.oG F E);have q3:=lV K (Ac.oG F E);obtain⟨u,H⟩:∃u,dK p f=u:=⟨_,rfl⟩;rw[H];have G:=hId H;obtain⟨h,r,i,m,g,s,l,n,z,x⟩:=p;obtain⟨v,C,y,J,t,o,b,c,A,D⟩:=f;simp only at*
 clear H L K F E;go_enter func181,ntmps181
 go_upto_region 1 with fail
 change Code.wp prog _ _ _ (aH iZ (aH ⟨v,C,y,J,t,o,b,c,A,D⟩ (aH ⟨h,r,i,m,g,s,l,n,z,x⟩ w)));generalize aH iZ (aH ⟨v,C,y,J,t,o,b,c,A,D⟩ (aH ⟨h,r,i,m,g,s,l,n,z,x⟩ w))=W at*;have Y:=B.o.vb.c3;have X:=B.o.vb.c4;have u3:=B.o.ub.c3;have f3:=B.o.ub.frozen 3;go_upto_region 3 with fail
 change Code.wp prog _ _ _ (W.setCell ⟨w.heap.size,3,none⟩ (.int .i64 (Ac.less l (Ac.both b c))));have q:=B.o.G2 3 (.int .i64 (Ac.less l (Ac.both b c))) (u':=⟨h,r,i,m,g,s,Ac.less l (Ac.both b c),n,z,x⟩) rfl;generalize W.setCell ⟨w.heap.size,3,none⟩ (.int .i64 (Ac.less l (Ac.both b c)))=M at*;have q:Hd _:=q;clear Y X u3 f3 B;have u4:=q.o.ub.c4;have f4:=q.o.ub.frozen 4;go_upto_region 4 with fail
 change Code.wp prog _ _ _ (M.setCell ⟨w.heap.size,4,none⟩ (.int .i64 (Ac.less n (Ac.both b c))));have a:=q.o.G2 4 (.int .i64 (Ac.less n (Ac.both b c))) (u':=⟨h,r,i,m,g,s,Ac.less l (Ac.both b c),Ac.less n (Ac.both b c),z,x⟩) rfl;generalize M.setCell ⟨w.heap.size,4,none⟩ (.int .i64 (Ac.less n (Ac.both b c)))=I at*;have a:Hd _:=a;clear u4 f4 q q1 q2 q3;have V:=a.o.vb.c5
 cases A
 ·obtain rfl:u=⟨h,r,i,m,g,s,(Ac.less l (Ac.both b c)),(Ac.less n (Ac.both b c)),z,x⟩:=by rw[<-G.o];unfold dK;simp
  clear G;have U:=a.o.ub.c0;have T:=a.o.ub.c1;have S:=a.o.ub.c2;have Q:=a.o.ub.c3;have P:=a.o.ub.c4;have O:=a.o.ub.c5;have N:=a.o.ub.c6;have r0:=a.o.rb.c0;have r1:=a.o.rb.c1;have r2:=a.o.rb.c2;have r3:=a.o.rb.c3;have r4:=a.o.rb.c4;have r5:=a.o.rb.c5;have r6:=a.o.rb.c6;have g0:=a.o.rb.frozen 0;have g1:=a.o.rb.frozen 1;have g2:=a.o.rb.frozen 2;have g3:=a.o.rb.frozen 3;have g4:=a.o.rb.frozen 4;have g5:=a.o.rb.frozen 5;have g6:=a.o.rb.frozen 6;go_wp2
  change bodyPost prog _ _ Exit.ret _ (iW I (w.heap.size+2) ⟨h,r,i,m,g,s,(Ac.less l (Ac.both b c)),(Ac.less n (Ac.both b c)),z,x⟩);exact VL (gL (k:=⟨h,r,i,m,g,s,(Ac.less l (Ac.both b c)),(Ac.less n (Ac.both b c)),z,x⟩) rfl _ rfl (gN a.o.rb)) rfl ⟨rfl,a.o.bf.trans ((gg _ _ _).mono (by omega))⟩
 ·obtain rfl:u=⟨h,r,i,m,g,s,(Ac.less l (Ac.both b c)),(Ac.less n (Ac.both b c)),false,⟨#[]⟩⟩:=by rw[<-G.o];unfold dK;simp
  clear G;have u5:=a.o.ub.c5;have Z:=a.o.ub.c6;have f5:=a.o.ub.frozen 5;have f6:=a.o.ub.frozen 6;go_upto_region 6 with fail
  change Code.wp prog _ _ _ ((I.setCell ⟨w.heap.size,5,none⟩ (.bool false)).setCell ⟨w.heap.size,6,none⟩ (.string ⟨#[]⟩));have d:=(a.o.G2 5 (.bool false) (u':=⟨h,r,i,m,g,s,(Ac.less l (Ac.both b c)),(Ac.less n (Ac.both b c)),false,x⟩) rfl).G2 6 (.string ⟨#[]⟩) (u':=⟨h,r,i,m,g,s,(Ac.less l (Ac.both b c)),(Ac.less n (Ac.both b c)),false,⟨#[]⟩⟩) rfl;generalize (I.setCell ⟨w.heap.size,5,none⟩ (.bool false)).setCell ⟨w.heap.size,6,none⟩ (.string ⟨#[]⟩)=W4 at*;have d:Hd _:=d;clear V u5 Z f5 f6 a;have U:=d.o.ub.c0;have T:=d.o.ub.c1;have S:=d.o.ub.c2;have Q:=d.o.ub.c3;have P:=d.o.ub.c4;have O:=d.o.ub.c5;have N:=d.o.ub.c6;have r0:=d.o.rb.c0;have r1:=d.o.rb.c1;have r2:=d.o.rb.c2;have r3:=d.o.rb.c3;have r4:=d.o.rb.c4;have r5:=d.o.rb.c5;have r6:=d.o.rb.c6;have g0:=d.o.rb.frozen 0;have g1:=d.o.rb.frozen 1;have g2:=d.o.rb.frozen 2;have g3:=d.o.rb.frozen 3;have g4:=d.o.rb.frozen 4;have g5:=d.o.rb.frozen 5;have g6:=d.o.rb.frozen 6;go_wp2
  change bodyPost prog _ _ Exit.ret _ (iW W4 (w.heap.size+2) ⟨h,r,i,m,g,s,(Ac.less l (Ac.both b c)),(Ac.less n (Ac.both b c)),false,⟨#[]⟩⟩);exact VL (gL (k:=⟨h,r,i,m,g,s,(Ac.less l (Ac.both b c)),(Ac.less n (Ac.both b c)),false,⟨#[]⟩⟩) rfl _ rfl (gN d.o.rb)) rfl ⟨rfl,d.o.bf.trans ((gg _ _ _).mono (by omega))⟩
structure Om (w0 w:World) (u v r o:PV):Prop where
 ub:Blk w w0.heap.size (iD u) 100
 vb:Blk w (w0.heap.size+1) (iD v) 100
 rb:Blk w (w0.heap.size+2) (iD r) 100
 ob:Blk w (w0.heap.size+3) (iD o) 100
 bf:Below w0.heap.size w0 w
theorem Om.start(u v:PV)(w:World):Om w (aH u (aH iZ (aH v (aH u w)))) u v iZ u:=by
 have h:=Me.start u v w;refine⟨h.ub.alloc _,h.vb.alloc _,h.rb.alloc _,?_,h.bf.trans ((aK u _).mono h.bf.size)⟩
 have:=dC u (aH iZ (aH v (aH u w)));rw[cV,cV,cV]at this;exact this
theorem Om.drew{a w:World}{u v r o:PV}(h:Om a w u v r o):Om a w.drew u v r o:=⟨h.ub,h.vb,h.rb,h.ob,h.bf.drew⟩
theorem Om.NC{a w:World}{u v r o:PV}(h:Om a w u v r o)(j:Nat)(x:Value){o':PV}(e:(iD o).set j x=iD o'):Om a (w.setCell ⟨a.heap.size+3,j,none⟩ x) u v r o':=
 ⟨h.ub.other _ _ (by simp),h.vb.other _ _ (by simp),h.rb.other _ _ (by simp),by have:=h.ob.set j x;rw[e]at this;exact this,h.bf.setCell (by simp) _⟩
theorem NW(f p:PV)(w:World)(X:Ac.m4 f.set)(V:Ac.m4 f.bm)(I:Ac.m4 p.set)(H:Ac.m4 p.bm):
  Calls prog 173 #[.agg #[.int .i64 f.kind,.int .i64 f.n,.slice f.ao f.m f.cap,.int .i64 f.set,.int .i64 f.bm,.bool f.goes,.string f.link],.agg #[.int .i64 p.kind,.int .i64 p.n,.slice p.ao p.m p.cap,.int .i64 p.set,.int .i64 p.bm,.bool p.goes,.string p.link]] w fun e w'=>e=.returned (.agg #[.int .i64 (jW f p).kind,.int .i64 (jW f p).n,.slice (jW f p).ao (jW f p).m (jW f p).cap,.int .i64 (jW f p).set,.int .i64 (jW f p).bm,.bool (jW f p).goes,.string (jW f p).link])/\Below w.heap.size w w':=by
 have B:=hId (Om.start f p w);have o:=hId (Me.start f p w);have q1:=lV X H;have q2:=tB (Ac.mD X H) I;have q3:=lV V I;have q4:=tB (Ac.mD V I) H;obtain⟨u,U⟩:∃u,jW f p=u:=⟨_,rfl⟩;rw[U];have J:=hId U;obtain⟨h,s,i,m,g,t,q,r,A,z⟩:=f;obtain⟨y,G,C,Z,x,v,b,c,E,l⟩:=p;simp only at*
 clear U X V I H;go_enter func173,ntmps173
 go_upto_region 1 with fail
 change Code.wp prog _ _ _ (aH iZ (aH ⟨y,G,C,Z,x,v,b,c,E,l⟩ (aH ⟨h,s,i,m,g,t,q,r,A,z⟩ w)));obtain⟨F,D⟩:∃F,aH iZ (aH ⟨y,G,C,Z,x,v,b,c,E,l⟩ (aH ⟨h,s,i,m,g,t,q,r,A,z⟩ w))=F:=⟨_,rfl⟩;rw[D]at B o⊢;have HZ:Hd (F.heap.size=w.heap.size+3):=by show _=_;rw[<-D,cV,cV,cV]
 clear D;have Q:=o.o.ub.c0;have P:=o.o.ub.c1;have O:=o.o.ub.c2;have N:=o.o.ub.c3;have M:=o.o.ub.c4;have L:=o.o.ub.c5;have K:=o.o.ub.c6;go_upto_region 2 with fail
 change Code.wp prog _ _ _ (aH ⟨h,s,i,m,g,t,q,r,A,z⟩ F);generalize aH ⟨h,s,i,m,g,t,q,r,A,z⟩ F=W at*;clear Q P O N M L K o;rw[HZ.o];have u3:=B.o.ub.c3;have S:=B.o.vb.c4;have T:=B.o.vb.c3;have o3:=B.o.ob.c3;have f3:=B.o.ob.frozen 3;go_upto_region 3 with fail
 change Code.wp prog _ _ _ (W.setCell ⟨w.heap.size+3,3,none⟩ (.int .i64 (Ac.both (Ac.less q c) b)));have n:=B.o.NC 3 (.int .i64 (Ac.both (Ac.less q c) b)) (o':=⟨h,s,i,m,g,t,(Ac.both (Ac.less q c) b),r,A,z⟩) rfl;generalize W.setCell ⟨w.heap.size+3,3,none⟩ (.int .i64 (Ac.both (Ac.less q c) b))=W2 at*;have n:Hd _:=n;clear u3 S T o3 f3 B;have u4:=n.o.ub.c4;have S:=n.o.vb.c4;have T:=n.o.vb.c3;have o4:=n.o.ob.c4;have f4:=n.o.ob.frozen 4;go_upto_region 4 with fail
 change Code.wp prog _ _ _ (W2.setCell ⟨w.heap.size+3,4,none⟩ (.int .i64 (Ac.both (Ac.less r b) c)));have a:=n.o.NC 4 (.int .i64 (Ac.both (Ac.less r b) c)) (o':=⟨h,s,i,m,g,t,(Ac.both (Ac.less q c) b),(Ac.both (Ac.less r b) c),A,z⟩) rfl;generalize W2.setCell ⟨w.heap.size+3,4,none⟩ (.int .i64 (Ac.both (Ac.less r b) c))=Y at*;have a:Hd _:=a;clear u4 S T o4 f4 n q1 q2 q3 q4;have v5:=a.o.vb.c5
 cases E
 ·obtain rfl:u=⟨h,s,i,m,g,t,(Ac.both (Ac.less q c) b),(Ac.both (Ac.less r b) c),A,z⟩:=by rw[<-J.o];unfold jW;simp
  clear J;have Q:=a.o.ob.c0;have P:=a.o.ob.c1;have O:=a.o.ob.c2;have N:=a.o.ob.c3;have M:=a.o.ob.c4;have L:=a.o.ob.c5;have K:=a.o.ob.c6;have r0:=a.o.rb.c0;have r1:=a.o.rb.c1;have r2:=a.o.rb.c2;have r3:=a.o.rb.c3;have r4:=a.o.rb.c4;have r5:=a.o.rb.c5;have r6:=a.o.rb.c6;have g0:=a.o.rb.frozen 0;have g1:=a.o.rb.frozen 1;have g2:=a.o.rb.frozen 2;have g3:=a.o.rb.frozen 3;have g4:=a.o.rb.frozen 4;have g5:=a.o.rb.frozen 5;have g6:=a.o.rb.frozen 6;go_wp2
  change bodyPost prog _ _ Exit.ret _ (iW Y (w.heap.size+2) ⟨h,s,i,m,g,t,(Ac.both (Ac.less q c) b),(Ac.both (Ac.less r b) c),A,z⟩);exact VL (gL (k:=⟨h,s,i,m,g,t,(Ac.both (Ac.less q c) b),(Ac.both (Ac.less r b) c),A,z⟩) rfl _ rfl (gN a.o.rb)) rfl ⟨rfl,a.o.bf.trans ((gg _ _ _).mono (by omega))⟩
 ·obtain rfl:u=⟨h,s,i,m,g,t,(Ac.both (Ac.less q c) b),(Ac.both (Ac.less r b) c),true,l⟩:=by rw[<-J.o];unfold jW;simp
  clear J;have v6:=a.o.vb.c6;have o5:=a.o.ob.c5;have o6:=a.o.ob.c6;have f5:=a.o.ob.frozen 5;have f6:=a.o.ob.frozen 6;go_upto_region 5 with fail
  go_region
  change Exit.then _ _ Exit.normal _ ((Y.drew.setCell ⟨w.heap.size+3,5,none⟩ (.bool true)).setCell ⟨w.heap.size+3,6,none⟩ (.string l));have d:=(a.o.drew.NC 5 (.bool true) (o':=⟨h,s,i,m,g,t,(Ac.both (Ac.less q c) b),(Ac.both (Ac.less r b) c),true,z⟩) rfl).NC 6 (.string l) (o':=⟨h,s,i,m,g,t,(Ac.both (Ac.less q c) b),(Ac.both (Ac.less r b) c),true,l⟩) rfl;generalize (Y.drew.setCell ⟨w.heap.size+3,5,none⟩ (.bool true)).setCell ⟨w.heap.size+3,6,none⟩ (.string l)=W4 at*;have d:Hd _:=d;clear v5 v6 o5 o6 f5 f6 a;have Q:=d.o.ob.c0;have P:=d.o.ob.c1;have O:=d.o.ob.c2;have N:=d.o.ob.c3;have M:=d.o.ob.c4;have L:=d.o.ob.c5;have K:=d.o.ob.c6;have r0:=d.o.rb.c0;have r1:=d.o.rb.c1;have r2:=d.o.rb.c2;have r3:=d.o.rb.c3;have r4:=d.o.rb.c4;have r5:=d.o.rb.c5;have r6:=d.o.rb.c6;have g0:=d.o.rb.frozen 0;have g1:=d.o.rb.frozen 1;have g2:=d.o.rb.frozen 2;have g3:=d.o.rb.frozen 3;have g4:=d.o.rb.frozen 4;have g5:=d.o.rb.frozen 5;have g6:=d.o.rb.frozen 6;go_wp2
  change bodyPost prog _ _ Exit.ret _ (iW W4 (w.heap.size+2) ⟨h,s,i,m,g,t,(Ac.both (Ac.less q c) b),(Ac.both (Ac.less r b) c),true,l⟩);exact VL (gL (k:=⟨h,s,i,m,g,t,(Ac.both (Ac.less q c) b),(Ac.both (Ac.less r b) c),true,l⟩) rfl _ rfl (gN d.o.rb)) rfl ⟨rfl,d.o.bf.trans ((gg _ _ _).mono (by omega))⟩
