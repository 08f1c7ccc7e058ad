/- A part. -/
import Derived.Test.YthddphjghgdalaaGreatDoorP23
import Derived.Deep.RegionHeldLaw
set_option maxRecDepth 100000
set_option maxHeartbeats 6400000
namespace Go.Proofs.YthddphjghgdalaaGreatDoor
open Go.RowKit Go.Proofs.Tryz
theorem Ix.Rs{B:Nat}{w w':World}{b:Nat}{v:WV}{n k J f I:Nat}{D A C:List Value}{c:CV}{q r:QV}(i:eR B 0 w b v)(h:Ix w v n k J f I D A C c q r){m:MV}{t:List MV}(G:q.ms=m::t)(u:Kept w w' [f])(H:∀cs T,Blk w f cs T->Blk w' f (cs.set k (.slice (jS q.a q.cap) (q.n-1) (q.cap-1))) T):
  eR B (2*k+5) w' b {v with up:=v.up.set k ⟨jS q.a q.cap,q.n-1,q.cap-1,t⟩}:=by
 obtain⟨o,e⟩:=VO.1 h.q;have y:bk b v 2=some f:=by show v.ua.map _=_;rw[h.ua];rfl
 have z:∀x∈[f],NT w x:=fun x g=>by rw[UY.1 g];exact i.ur.nt y
 have F:=i.uq k q h.q;have d:∀a:Addr,jS q.a q.cap=some a->bk b v (2*k+5)=some a.block:=fun a l=>by
  rw[<-fP h.q,<-te q.a q.cap,l];rfl
 have p:=H _ _ h.bu;rw[rF o ⟨jS q.a q.cap,q.n-1,q.cap-1,t⟩]at p;refine i.QD o h.ua h.bu [f] (fun x g=>.inl (by rw[UY.1 g];exact y)) u _ p ((F.tail G).1.aw u z (fun a l g=>?_)) (fun g=>absurd rfl g) (.inr rfl) (fun a l=>⟨WJ (i.hi _ _ (d a l)) u.size,i.lo _ _ (d a l),fun s E e3=>E (i.dj s _ _ e3 (d a l))⟩)
 have:=i.dj (2*k+5) 2 f (by rw[d a l,UY.1 g]) y;omega
theorem Ix.tailD{B:Nat}{w w':World}{b:Nat}{v:WV}{n k J I f:Nat}{D A C:List Value}{c:CV}{q r:QV}(i:eR B 0 w b v)(h:Ix w v n k J I f D A C c q r){m:MV}{t:List MV}(G:r.ms=m::t)(u:Kept w w' [f])(H:∀cs T,Blk w f cs T->Blk w' f (cs.set k (.slice (jS r.a r.cap) (r.n-1) (r.cap-1))) T):
  eR B (2*k+6) w' b {v with down:=v.down.set k ⟨jS r.a r.cap,r.n-1,r.cap-1,t⟩}:=by
 obtain⟨o,e⟩:=VO.1 h.r;have y:bk b v 3=some f:=by show v.da.map _=_;rw[h.da];rfl
 have z:∀x∈[f],NT w x:=fun x g=>by rw[UY.1 g];exact i.dr.nt y
 have F:=i.dq k r h.r;have d:∀a:Addr,jS r.a r.cap=some a->bk b v (2*k+6)=some a.block:=fun a l=>by
  rw[<-ei h.r,<-te r.a r.cap,l];rfl
 have p:=H _ _ h.bd;rw[rF o ⟨jS r.a r.cap,r.n-1,r.cap-1,t⟩]at p;refine i.QE o h.da h.bd [f] (fun x g=>.inl (by rw[UY.1 g];exact y)) u _ p ((F.tail G).1.aw u z (fun a l g=>?_)) (fun g=>absurd rfl g) (.inr rfl) (fun a l=>⟨WJ (i.hi _ _ (d a l)) u.size,i.lo _ _ (d a l),fun s E e3=>E (i.dj s _ _ e3 (d a l))⟩)
 have:=i.dj (2*k+6) 3 f (by rw[d a l,UY.1 g]) y;omega
theorem Ew{w:World}{q:QV}(h:qp w q):q.eV.length=0↔q.n=0:=by rw[yH h]
def jg (B b:Nat) (w:World) (E:Int) (V:Wo.W) (w':World):Prop:=Below B w w'/\(E=0->∃ X v',eR B X w' b v'/\v'.w=V)
theorem Wo.S5{c:Kl.Cl}{a rev:Int}{x:Sv.En}(h:Kl.jQ c a rev x=0):Kl.Rc (Kl.gT c a rev x):=by
 have b:Kl.iS c=0:=by
  unfold Kl.jQ at h;by_cases g:Kl.iS c=0
  ·exact g
  ·rw[VD g]at h;exact absurd h g
 have d:Kl.Bk c a rev x=0:=by unfold Kl.jQ at h;rw[VC b]at h;exact h
 have e:Kl.gT c a rev x=Kl.FM c a rev x:=VC h;rw[e];exact(Kl.OE (Kl.xL b) d).rc
def PT (b gc h n cc k:Nat) (c:CV) (m:MV) (w:World):Prop:=w.cell? ⟨b,3,none⟩=some (.slice (some ⟨gc,0,none⟩) n cc)/\w.cell? ⟨gc,k*7,none⟩=some (.int .i64 c.rev)/\w.cell? ⟨gc,k*7+1,none⟩=some (.slice c.ba c.bn c.bc)/\w.cell? ⟨gc,k*7+2,none⟩=some (.slice c.na c.nn c.nc)/\w.cell? ⟨gc,k*7+3,none⟩=some (.int .i64 c.seq)/\w.cell? ⟨gc,k*7+4,none⟩=some (.slice c.sa c.sn c.sc)/\w.cell? ⟨gc,k*7+5,none⟩=some (.slice c.ha c.hn c.hc)/\w.cell? ⟨gc,k*7+6,none⟩=some (.bool c.jo)/\w.cell? ⟨h,0,none⟩=some (.int .i64 m.mr)/\w.cell? ⟨h,1,none⟩=some (.int .i64 m.e.aR)/\w.cell? ⟨h,2,none⟩=some (.int .i64 m.e.seq)/\w.cell? ⟨h,3,none⟩=some (.slice m.e.ao m.e.n m.e.cap)
theorem DX(B b n k:Nat)(v:WV)(w:World)(h:eR B 0 w b v)(l:Wo.gi v.w n)(s:k<n)(i:(Wo.vw v.w k).d.length=0):
  Calls prog 49 #[.pointer (some ⟨b,0,none⟩),.int .i64 k] w fun e w'=>e=.returned (.int .i64 7)/\Below B w w':=by
 have x:=h.lo 0 b rfl;have u:=h.hi 0 b rfl;obtain⟨D,C,m,A,y,z,c,q,r,a⟩:=h.at l s;have d:r.n=0:=by rw[a.cl]at i;exact(Ew (h.dq k r a.r)).1 i
 have p:=a.p5 h;have o:Hd (Calls prog 77 #[.pointer (some ⟨m,k,none⟩)] w fun e w'=>e=.returned (.tuple #[.agg #[.int .i64 0,.int .i64 0,.int .i64 0,.slice none 0 0],.bool false])/\Below w.heap.size w w'):=tW m k r w a.Fi d;clear h l a i d;go_enter func49,ntmps49
 go_wp2_with fail
 refine o.o.mono ?_
 rintro e f⟨rfl,g⟩;have t:Hd (Below B w (aj pE f)):=(g.mono (by omega)).trans ((ay pE f).mono (by have:=g.size;omega));clear g o p;go_upto_region 2 with fail
 change Code.wp prog _ _ _ (aj pE f);generalize aj pE f=W at*;go_wp2
 go_ret
 exact⟨rfl,t.o⟩
theorem DV(B b n k:Nat)(v:WV)(w:World)(h:eR B 0 w b v)(hL:Wo.gi v.w n)(hk:k<n)(h0:(Wo.vw v.w k).d.length≠0)(hS:df w):
  Calls prog 49 #[.pointer (some ⟨b,0,none⟩),.int .i64 k] w fun e w'=>e=.returned (.int .i64 0)/\jg B b w 0 (Wo.put v.w k (Wo.sh k (Wo.vw v.w k))) w':=by
 have bs:=h.lo 0 b rfl;have br:=h.hi 0 b rfl;obtain⟨gc,gu,gd,sc,su,sd,c,q,r,hI⟩:=h.at hL hk;obtain⟨m,ms,ah⟩:∃m ms,r.ms=m::ms:=by
  rw[hI.cl]at h0
  cases hr:r.ms with
  |nil=>
   have h1:r.eV.length≠0:=h0;unfold QV.eV at h1;rw[hr]at h1;exact absurd rfl h1
  |cons m ms=>exact⟨m,ms,rfl⟩
 have am:=hI.cl;have p5:=hI.p5 h;have aw:=h.dq k r hI.r;have CT:Hd (Calls prog 77 #[.pointer (some ⟨gd,k,none⟩)] w fun e w'=>e=.returned (.tuple #[.agg #[.int .i64 m.mr,.int .i64 m.e.aR,.int .i64 m.e.seq,.slice m.e.ao m.e.n m.e.cap],.bool true])/\Kept w w' [gd]/\(∀cs T,Blk w gd cs T->Blk w' gd (cs.set k (.slice (jS r.a r.cap) (r.n-1) (r.cap-1))) T)):=tV gd k r m ms w hI.Fi (hI.bd.frozen _) aw ah;have b8:=hId (h.lo 3 gd (by show v.da.map _=_;rw[hI.da];rfl));have ax:Hd (∀x∈[gd],NT w x):=fun x hx=>by rw[UY.1 hx];exact h.dr.nt (by show v.da.map _=_;rw[hI.da];rfl)
 have b5:=hId (aw.ops m (by rw[ah];exact VK ..));have b4:=hId hS;have HT:Hd (∀w',Kept w w' [gd]->(∀cs T,Blk w gd cs T->Blk w' gd (cs.set k (.slice (jS r.a r.cap) (r.n-1) (r.cap-1))) T)->eR B (2*k+6) w' b {v with down:=v.down.set k ⟨jS r.a r.cap,r.n-1,r.cap-1,ms⟩}):=fun w' h1 h2=>hI.tailD h ah h1 h2;obtain⟨A,I⟩:∃A,{v with down:=v.down.set k ⟨jS r.a r.cap,r.n-1,r.cap-1,ms⟩}=A:=⟨_,rfl⟩;have ab:A.w=Wo.put v.w k ⟨(Wo.vw v.w k).c,(Wo.vw v.w k).u,ms.map MV.mg⟩:=by rw[<-I];exact WV.SK hL hk _
 have ad:Hd (Wo.gi A.w n):=by show Wo.gi _ _;rw[ab];exact hL.put k _
 have au:Wo.vw A.w k=⟨c.cl,q.eV,ms.map MV.mg⟩:=by rw[ab,Wo.iG hL hk,am]
 obtain⟨V,hV⟩:∃V,Wo.put v.w k (Wo.sh k (Wo.vw v.w k))=V:=⟨_,rfl⟩;have av:r.eV=m.mg::ms.map MV.mg:=by unfold QV.eV;rw[ah];rfl
 have bd:Hd (Kl.jQ c.cl k m.mr m.e.en≠0->Wo.put A.w k (Wo.oq (Wo.vw A.w k))=V):=fun hE=>by
  show _=V
  rw[<-hV,ab,Wo.l6,<-ab,au,am];congr 1
  unfold Wo.sh;show Wo.oq _=(match r.eV with|[]=>_|m::r=>_)
  rw[av];exact(VD hE).symm
 have bc:Hd (Kl.jQ c.cl k m.mr m.e.en=0->Wo.put A.w k (Wo.tK k (Kl.kD c.cl k m.mr m.e.en) ⟨Kl.gT c.cl k m.mr m.e.en,(Wo.vw A.w k).u,(Wo.vw A.w k).d⟩)=V):=fun hE=>by
  show _=V
  rw[<-hV,ab,Wo.l6,<-ab,au,am];congr 1
  unfold Wo.sh;show _=(match r.eV with|[]=>_|m::r=>_)
  rw[av];exact(VC hE).symm
 have bj:Hd (A.cs[k]?=some c):=by show A.cs[k]?=_;rw[<-I];exact hI.c
 rw[hV];rw[I]at HT;clear h hL hI am aw h0 hS ah hV au av ab I;go_enter func49,ntmps49
 go_wp2_with fail
 refine CT.o.mono ?_
 rintro e P⟨rfl,ai,ak⟩;have H1:=hId (HT.o P ai ak);have bl:Hd (Below B w P):=ai.below (by omega) (fun x hx=>by rw[UY.1 hx];exact b8.o);have bg:=hId (b5.o.aw ai ax.o);have a9:=hId (b4.o.aw ai ax.o);clear ai ak CT p5 HT ax b5 b4 b8;have ao:=hId (ay m P);have HM:=hId (dE m P);go_upto_region 2 with fail
 change Code.wp prog _ _ _ (aj m P);have bq:=H1.o.hi 0 b rfl;generalize aj m P=W at*;have h2:=H1.o.below ao.o;obtain⟨a,bt,bu,bo,bm,bn,d,q1,r1,i2⟩:=h2.at ad.o hk;have e1:d=c:=by have:=i2.c;rw[bj.o]at this;exact(WU this).symm
 subst e1;have H2:=hId h2;have b7:=hId i2;have b9:=hId (bl.o.trans (ao.o.mono (by omega)));have CH:Hd (∀w',Below W.heap.size W w'->Calls prog 82 #[.agg #[.int .i64 d.rev,.slice d.ba d.bn d.bc,.slice d.na d.nn d.nc,.int .i64 d.seq,.slice d.sa d.sn d.sc,.slice d.ha d.hn d.hc,.bool d.jo],.int .i64 k,.agg #[.int .i64 m.mr,.int .i64 m.e.aR,.int .i64 m.e.seq,.slice m.e.ao m.e.n m.e.cap]] w' fun e al=>(∃t:CV,e=.returned (.tuple #[.agg #[.int .i64 t.rev,.slice t.ba t.bn t.bc,.slice t.na t.nn t.nc,.int .i64 t.seq,.slice t.sa t.sn t.sc,.slice t.ha t.hn t.hc,.bool t.jo],.bool (Kl.kD d.cl k m.mr m.e.en),.int .i64 (Kl.jQ d.cl k m.mr m.e.en)])/\kE al t/\t.cl=Kl.gT d.cl k m.mr m.e.en)/\Below w'.heap.size w' al):=fun w' F=>MZ d k m w' ((h2.cl d (WQ i2.c)).below F) ((bg.o.below ao.o).below F) ((a9.o.below ao.o).below F);have bf:Hd (Kl.jQ d.cl k m.mr m.e.en=0->Kl.Rc (Kl.gT d.cl k m.mr m.e.en)):=Wo.S5;generalize Kl.jQ d.cl k m.mr m.e.en=E at*;generalize Kl.kD d.cl k m.mr m.e.en=Sb at*;generalize Kl.gT d.cl k m.mr m.e.en=C at*;have p3:=i2.p3 h2;have a0:W.cell? ⟨a,k*7,none⟩=some (.int .i64 d.rev):=i2.cell 0 (by decide);have a1:W.cell? ⟨a,k*7+1,none⟩=some (.slice d.ba d.bn d.bc):=i2.cell 1 (by decide);have a2:W.cell? ⟨a,k*7+2,none⟩=some (.slice d.na d.nn d.nc):=i2.cell 2 (by decide);have a3:W.cell? ⟨a,k*7+3,none⟩=some (.int .i64 d.seq):=i2.cell 3 (by decide);have a4:W.cell? ⟨a,k*7+4,none⟩=some (.slice d.sa d.sn d.sc):=i2.cell 4 (by decide);have a5:W.cell? ⟨a,k*7+5,none⟩=some (.slice d.ha d.hn d.hc):=i2.cell 5 (by decide);have a6:W.cell? ⟨a,k*7+6,none⟩=some (.bool d.jo):=i2.cell 6 (by decide);obtain⟨x0,x1,x2,x3⟩:=AV HM.o;have G:Hd (∀w',Below W.heap.size W w'->w'.cell? ⟨b,3,none⟩=some (.slice (some ⟨a,0,none⟩) n A.cc)/\w'.cell? ⟨a,k*7,none⟩=some (.int .i64 d.rev)/\w'.cell? ⟨a,k*7+1,none⟩=some (.slice d.ba d.bn d.bc)/\w'.cell? ⟨a,k*7+2,none⟩=some (.slice d.na d.nn d.nc)/\w'.cell? ⟨a,k*7+3,none⟩=some (.int .i64 d.seq)/\w'.cell? ⟨a,k*7+4,none⟩=some (.slice d.sa d.sn d.sc)/\w'.cell? ⟨a,k*7+5,none⟩=some (.slice d.ha d.hn d.hc)/\w'.cell? ⟨a,k*7+6,none⟩=some (.bool d.jo)/\w'.cell? ⟨P.heap.size,0,none⟩=some (.int .i64 m.mr)/\w'.cell? ⟨P.heap.size,1,none⟩=some (.int .i64 m.e.aR)/\w'.cell? ⟨P.heap.size,2,none⟩=some (.int .i64 m.e.seq)/\w'.cell? ⟨P.heap.size,3,none⟩=some (.slice m.e.ao m.e.n m.e.cap)):=fun w' F=>⟨aA p3 F,aA a0 F,aA a1 F,aA a2 F,aA a3 F,aA a4 F,aA a5 F,aA a6 F,aA x0 F,aA x1 F,aA x2 F,aA x3 F⟩;clear h2 i2;go_upto_region 4 with fail
 go_cut [7,8,9]from 22 to 36 (fun p N M wx=>∃(h:Nat)(t:CV),p=.pointer (some ⟨h,0,none⟩)/\N=.bool Sb/\M=.int .i64 E/\Blk wx h (fS t) 41/\kE wx t/\t.cl=C/\Below W.heap.size W wx/\W.heap.size<=h)
 case first=>
  have g:PT b a P.heap.size n A.cc k d m W.drew:=G.o _ (VE _ _).drew;refine gj (S:=PT b a P.heap.size n A.cc k d m) (f:=fun _=>true) (by kernel_rfl) ?_
  refine aT (i:=0) (v:=?vv0) rfl (by kernel_rfl) (fun _ _ _ h=>h) (Or.inl ⟨by rfl,fun u o=>?hy0⟩) g ?rest0
  case hy0=>obtain⟨s0,s1,s2,Z,Y,X,U,Q,N,M,y,s⟩:=o;go_simp;try with_reducible rfl
  try simp only[Act.put,UX]
  refine aT (i:=1) (v:=?vv1) rfl (by kernel_rfl) (fun _ _ _ h=>h) (Or.inl ⟨by rfl,fun u o=>?hy1⟩) g ?rest1
  case hy1=>obtain⟨s0,s1,s2,Z,Y,X,U,Q,N,M,y,s⟩:=o;go_simp;try with_reducible rfl
  try simp only[Act.put]
  refine aT (i:=2) (v:=?vv2) rfl (by kernel_rfl) (fun _ _ _ h=>h) (Or.inl ⟨by rfl,fun u o=>?hy2⟩) g ?rest2
  case hy2=>obtain⟨s0,s1,s2,Z,Y,X,U,Q,N,M,y,s⟩:=o;go_simp;try with_reducible rfl
  try simp only[Act.put]
  refine aT (i:=3) (v:=?vv3) rfl (by kernel_rfl) (fun _ _ _ h=>h) (Or.inl ⟨by rfl,fun u o=>?hy3⟩) g ?rest3
  case hy3=>obtain⟨s0,s1,s2,Z,Y,X,U,Q,N,M,y,s⟩:=o;go_simp;try with_reducible rfl
  try simp only[Act.put]
  refine aT (i:=4) (v:=?vv4) rfl (by kernel_rfl) (fun _ _ _ h=>h) (Or.inl ⟨by rfl,fun u o=>?hy4⟩) g ?rest4
  case hy4=>obtain⟨s0,s1,s2,Z,Y,X,U,Q,N,M,y,s⟩:=o;go_simp;try with_reducible rfl
  try simp only[Act.put]
  refine aT (i:=5) (v:=?vv5) rfl (by kernel_rfl) (fun _ _ _ h=>h) (Or.inl ⟨by rfl,fun u o=>?hy5⟩) g ?rest5
  case hy5=>obtain⟨s0,s1,s2,Z,Y,X,U,Q,N,M,y,s⟩:=o;go_simp;try with_reducible rfl
  try simp only[Act.put]
  refine aT (i:=6) (v:=?vv6) rfl (by kernel_rfl) (fun _ _ _ h=>h) (Or.inl ⟨by rfl,fun u o=>?hy6⟩) g ?rest6
  case hy6=>obtain⟨s0,s1,s2,Z,Y,X,U,Q,N,M,y,s⟩:=o;go_simp;try with_reducible rfl
  try simp only[Act.put]
  refine aT (i:=7) (v:=?vv7) rfl (by kernel_rfl) (fun _ _ _ h=>h) (Or.inl ⟨by rfl,fun u o=>?hy7⟩) g ?rest7
  case hy7=>obtain⟨s0,s1,s2,Z,Y,X,U,Q,N,M,y,s⟩:=o;go_simp;try with_reducible rfl
  try simp only[Act.put]
  refine aT (i:=8) (v:=?vv8) rfl (by kernel_rfl) (fun _ _ _ h=>h) (Or.inl ⟨by rfl,fun u o=>?hy8⟩) g ?rest8
  case hy8=>obtain⟨s0,s1,s2,Z,Y,X,U,Q,N,M,y,s⟩:=o;go_simp;try with_reducible rfl
  try simp only[Act.put]
  refine sR (i:=9) (j:=14) (by kernel_rfl) rfl rfl (fun K H=>?_) (fun K H=>?_)
  ·go_simp
   refine(CH.o _ (VE _ _).drew).mono ?_
   rintro e z⟨⟨t,rfl,ht,a7⟩,F⟩;have O:=hId (cT F);have HT:=hId ht;have ac:=hId a7;clear ht a7 F g CH;have g:PT b a P.heap.size n A.cc k d m z:=G.o _ O.o;refine H.out _ _ (fun _=>g) ?_
   clear H K;try simp only[Act.put,UX,VA,VB]
   refine aT (i:=10) (v:=?vv10) rfl (by kernel_rfl) (fun _ _ _ h=>h) (Or.inl ⟨by rfl,fun u o=>?hy10⟩) g ?rest10
   case hy10=>obtain⟨s0,s1,s2,Z,Y,X,U,Q,N,M,y,s⟩:=o;go_simp;try with_reducible rfl
   try simp only[Act.put,UX]
   refine aT (i:=11) (v:=?vv11) rfl (by kernel_rfl) (fun _ _ _ h=>h) (Or.inl ⟨by rfl,fun u o=>?hy11⟩) g ?rest11
   case hy11=>obtain⟨s0,s1,s2,Z,Y,X,U,Q,N,M,y,s⟩:=o;go_simp;try with_reducible rfl
   try simp only[Act.put]
   refine aT (i:=12) (v:=?vv12) rfl (by kernel_rfl) (fun _ _ _ h=>h) (Or.inl ⟨by rfl,fun u o=>?hy12⟩) g ?rest12
   case hy12=>obtain⟨s0,s1,s2,Z,Y,X,U,Q,N,M,y,s⟩:=o;go_simp;try with_reducible rfl
   try simp only[Act.put]
   refine aT (i:=13) (v:=?vv13) rfl (by kernel_rfl) (fun _ _ _ h=>h) (Or.inl ⟨by rfl,fun u o=>?hy13⟩) g ?rest13
   case hy13=>obtain⟨s0,s1,s2,Z,Y,X,U,Q,N,M,y,s⟩:=o;go_simp;try with_reducible rfl
   try simp only[Act.put]
   have L:=hId (O.o.trans ((aa eJ z).mono O.o.size));have l:=hId (cH eJ z);have a9:PT b a P.heap.size n A.cc k d m (aO eJ z):=G.o _ L.o;refine ar (i:=14) (by kernel_rfl) rfl (fun K H=>?_)
   go_simp
   refine H.out _ (aO eJ z) (fun _=>a9) ?_
   clear H K;try simp only[Act.put,UX,VA,VB]
   have J:=cQ (aO eJ z) z.heap.size t;have ae:=hId (L.o.trans (J.below (by have:=L.o.size;omega) (fun x hx=>by rw[UY.1 hx];exact O.o.size)));have a8:PT b a P.heap.size n A.cc k d m (jt (aO eJ z) z.heap.size t):=G.o _ ae.o;have an:=hId ((HT.o.below (aa eJ z)).bA l.o J);have ap:Hd (Blk (jt (aO eJ z) z.heap.size t) z.heap.size (fS t) 41):=fV l.o;have bh:=hId O.o.size;have z0:(aO eJ z).cell? ⟨z.heap.size,0,none⟩=some (.int .i64 0):=l.o.cell 0;have g0:=l.o.frozen 0;have z1:(aO eJ z).cell? ⟨z.heap.size,1,none⟩=some (.slice none 0 0):=l.o.cell 1;have g1:=l.o.frozen 1;have z2:(aO eJ z).cell? ⟨z.heap.size,2,none⟩=some (.slice none 0 0):=l.o.cell 2;have g2:=l.o.frozen 2;have z3:(aO eJ z).cell? ⟨z.heap.size,3,none⟩=some (.int .i64 0):=l.o.cell 3;have g3:=l.o.frozen 3;have z4:(aO eJ z).cell? ⟨z.heap.size,4,none⟩=some (.slice none 0 0):=l.o.cell 4;have g4:=l.o.frozen 4;have z5:(aO eJ z).cell? ⟨z.heap.size,5,none⟩=some (.slice none 0 0):=l.o.cell 5;have g5:=l.o.frozen 5;have z6:(aO eJ z).cell? ⟨z.heap.size,6,none⟩=some (.bool false):=l.o.cell 6;have g6:=l.o.frozen 6;refine ar (i:=15) (by kernel_rfl) rfl (fun K H=>?_)
   clear J;generalize aO eJ z=W5 at L l a9 ae a8 an ap z0 g0 z1 g1 z2 g2 z3 g3 z4 g4 z5 g5 z6 g6 H⊢;go_simp
   refine H.out _ (jt W5 z.heap.size t) (fun _=>a8) ?_
   clear H K;try simp only[Act.put,UX,VA,VB]
   refine aT (i:=16) (v:=?vv16) rfl (by kernel_rfl) (fun _ _ _ h=>h) (Or.inl ⟨by rfl,fun u o=>?hy16⟩) a8 ?rest16
   case hy16=>obtain⟨s0,s1,s2,Z,Y,X,U,Q,N,M,y,s⟩:=o;go_simp;try with_reducible rfl
   try simp only[Act.put,UX]
   refine ar (i:=17) (by kernel_rfl) rfl (fun K H=>?_)
   go_simp
   refine H.out _ _ (fun _=>a8) ?_
   clear H K;refine et (by kernel_rfl) ?_ _
   go_wp2_with fail
   go_meet
   case rel=>exact⟨_,t,rfl,rfl,rfl,ap.o,an.o,ac.o,ae.o,bh.o⟩
  ·have L:Hd (Below W.heap.size W (aO eJ W.drew)):=((VE _ _).drew).trans ((aa eJ W.drew).mono (by simp));have l:Hd (Blk (aO eJ W.drew) W.heap.size (fS eJ) 41):=cH eJ W.drew;have a9:PT b a P.heap.size n A.cc k d m (aO eJ W.drew):=G.o _ L.o;go_simp
   refine H.out _ (aO eJ W.drew) (fun _=>a9) ?_
   clear H K;try simp only[Act.put,UX,VA,VB]
   refine ar (i:=9) (by kernel_rfl) rfl (fun K H=>?_)
   generalize aO eJ W.drew=W4 at L l a9 H⊢;go_simp
   refine(CH.o _ L.o).mono ?_
   rintro e z⟨⟨t,rfl,ht,a7⟩,F⟩;have O:=hId (L.o.trans (F.mono L.o.size));have D:Hd (Blk z W.heap.size (fS eJ) 41):=(F.block _ l.o.lt).trans l.o;have HT:=hId ht;have ac:=hId a7;clear ht a7 F g CH a9;have g:PT b a P.heap.size n A.cc k d m z:=G.o _ O.o;refine H.out _ _ (fun _=>g) ?_
   clear H K;try simp only[Act.put,UX,VA,VB]
   refine aT (i:=10) (v:=?vv10b) rfl (by kernel_rfl) (fun _ _ _ h=>h) (Or.inl ⟨by rfl,fun u o=>?hy10b⟩) g ?rest10b
   case hy10b=>obtain⟨s0,s1,s2,Z,Y,X,U,Q,N,M,y,s⟩:=o;go_simp;try with_reducible rfl
   try simp only[Act.put,UX]
   refine aT (i:=11) (v:=?vv11b) rfl (by kernel_rfl) (fun _ _ _ h=>h) (Or.inl ⟨by rfl,fun u o=>?hy11b⟩) g ?rest11b
   case hy11b=>obtain⟨s0,s1,s2,Z,Y,X,U,Q,N,M,y,s⟩:=o;go_simp;try with_reducible rfl
   try simp only[Act.put]
   refine aT (i:=12) (v:=?vv12b) rfl (by kernel_rfl) (fun _ _ _ h=>h) (Or.inl ⟨by rfl,fun u o=>?hy12b⟩) g ?rest12b
   case hy12b=>obtain⟨s0,s1,s2,Z,Y,X,U,Q,N,M,y,s⟩:=o;go_simp;try with_reducible rfl
   try simp only[Act.put]
   refine aT (i:=13) (v:=?vv13b) rfl (by kernel_rfl) (fun _ _ _ h=>h) (Or.inl ⟨by rfl,fun u o=>?hy13b⟩) g ?rest13b
   case hy13b=>obtain⟨s0,s1,s2,Z,Y,X,U,Q,N,M,y,s⟩:=o;go_simp;try with_reducible rfl
   try simp only[Act.put]
   have J:=cQ z W.heap.size t;have ae:=hId (O.o.trans (J.below O.o.size (fun x hx=>by rw[UY.1 hx];exact UZ _)));have a8:PT b a P.heap.size n A.cc k d m (jt z W.heap.size t):=G.o _ ae.o;have an:=hId (HT.o.bA D.o J);have ap:Hd (Blk (jt z W.heap.size t) W.heap.size (fS t) 41):=fV D.o;have z0:=D.o.c0;have g0:=D.o.frozen 0;have z1:=D.o.c1;have g1:=D.o.frozen 1;have z2:=D.o.c2;have g2:=D.o.frozen 2;have z3:=D.o.c3;have g3:=D.o.frozen 3;have z4:=D.o.c4;have g4:=D.o.frozen 4;have z5:=D.o.c5;have g5:=D.o.frozen 5;have z6:=D.o.c6;have g6:=D.o.frozen 6;refine ar (i:=15) (by kernel_rfl) rfl (fun K H=>?_)
   clear J;go_simp
   refine H.out _ (jt z W.heap.size t) (fun _=>a8) ?_
   clear H K;try simp only[Act.put,UX,VA,VB]
   refine aT (i:=16) (v:=?vv16b) rfl (by kernel_rfl) (fun _ _ _ h=>h) (Or.inl ⟨by rfl,fun u o=>?hy16b⟩) a8 ?rest16b
   case hy16b=>obtain⟨s0,s1,s2,Z,Y,X,U,Q,N,M,y,s⟩:=o;go_simp;try with_reducible rfl
   try simp only[Act.put,UX]
   refine ar (i:=17) (by kernel_rfl) rfl (fun K H=>?_)
   go_simp
   refine H.out _ _ (fun _=>a8) ?_
   clear H K;refine et (by kernel_rfl) ?_ _
   go_wp2_with fail
   go_meet
   case rel=>exact⟨_,t,rfl,rfl,rfl,ap.o,an.o,ac.o,ae.o,UZ _⟩
 case rest=>
  obtain⟨h,t,rfl,rfl,rfl,ak,az,a7,aq,bp⟩:=hcut;have af:=hId aq;have b3:=hId az;have ac:=hId a7;have HQ:=hId ak;clear ak az a7 aq p3 a0 a1 a2 a3 a4 a5 a6 x0 x1 x2 x3 CH G;have b0:B<=W.heap.size:=by have:=H2.o.hi 0 b rfl;omega
  by_cases hz:E=0
  ·have be:=hId (ug b3.o (by rw[ac.o];exact bf.o hz));have b2:=bc.o hz;subst hz;have h1:=H2.o.below af.o;have i1:=b7.o.below af.o;have p3:=i1.p3 h1;have a0:wc.cell? ⟨a,k*7,none⟩=some (.int .i64 d.rev):=i1.cell 0 (by decide);have a1:wc.cell? ⟨a,k*7+1,none⟩=some (.slice d.ba d.bn d.bc):=i1.cell 1 (by decide);have a2:wc.cell? ⟨a,k*7+2,none⟩=some (.slice d.na d.nn d.nc):=i1.cell 2 (by decide);have a3:wc.cell? ⟨a,k*7+3,none⟩=some (.int .i64 d.seq):=i1.cell 3 (by decide);have a4:wc.cell? ⟨a,k*7+4,none⟩=some (.slice d.sa d.sn d.sc):=i1.cell 4 (by decide);have a5:wc.cell? ⟨a,k*7+5,none⟩=some (.slice d.ha d.hn d.hc):=i1.cell 5 (by decide);have a6:wc.cell? ⟨a,k*7+6,none⟩=some (.bool d.jo):=i1.cell 6 (by decide);have f0:wc.frozen? ⟨a,k*7,none⟩=false:=i1.bc.frozen _;have f1:wc.frozen? ⟨a,k*7+1,none⟩=false:=i1.bc.frozen _;have f2:wc.frozen? ⟨a,k*7+2,none⟩=false:=i1.bc.frozen _;have f3:wc.frozen? ⟨a,k*7+3,none⟩=false:=i1.bc.frozen _;have f4:wc.frozen? ⟨a,k*7+4,none⟩=false:=i1.bc.frozen _;have f5:wc.frozen? ⟨a,k*7+5,none⟩=false:=i1.bc.frozen _;have f6:wc.frozen? ⟨a,k*7+6,none⟩=false:=i1.bc.frozen _;obtain⟨x0,x1,x2,x3,x4,x5,x6⟩:=Bh HQ.o;have bi:=hId (h1.lo 1 a (by show A.ca.map _=_;rw[i1.ca];rfl));have ba:a≠h:=by have:=(b7.o.bc).lt;omega
   obtain⟨h2,i2⟩:=i1.oJ h1 b3.o;have H3:=hId h2;have J:=hId ((b9.o.trans (af.o.mono b0)).trans ((rH wc a (k*7) t).below (by have:=af.o.size;omega) (fun x hx=>by rw[UY.1 hx];exact bi.o)));have b6:Hd (Wo.gi (WV.w {A with cs:=A.cs.set k t}) n):=by show Wo.gi _ _;rw[WV.KH ad.o hk];exact ad.o.put k _
   have b1:Hd (Wo.put (WV.w {A with cs:=A.cs.set k t}) k (Wo.tK k Sb (Wo.vw (WV.w {A with cs:=A.cs.set k t}) k))=V):=by
    show _=V
    rw[<-b2,WV.KH ad.o hk,Wo.iG ad.o hk,ac.o];exact Wo.l6 _ _ _ _
   have CG:Hd (∀w',Below (oJ wc a (k*7) t).heap.size (oJ wc a (k*7) t) w'->Calls prog 75 #[.pointer (some ⟨b,0,none⟩),.int .i64 k] w' fun e al=>e=.returned (.tuple #[])/\MW B (2*k+6) b w' (Wo.put (WV.w {A with cs:=A.cs.set k t}) k (Wo.vP k (Wo.vw (WV.w {A with cs:=A.cs.set k t}) k))) al):=fun w' F=>uR B (2*k+6) b n k _ w' (h2.below F) b6.o hk (by omega) (fun c' bb=>by
    have e:(A.cs.set k t)[k]?=some c':=bb;rw[i2]at e
    cases e
    exact be.o)
   clear h1 i1 h2 i2 b2;go_upto_region 8 with fail
   cases Sb
   ·go_region
    go_wp2
    change bodyPost prog _ _ Exit.ret _ (oJ wc a (k*7) t).drew;go_ret
    exact⟨rfl,J.o.drew,fun _=>⟨_,_,H3.o.below (VE _ _).drew,(Wo.jC b6.o hk).symm.trans b1.o⟩⟩
   ·go_region
    go_wp2_with fail
    change Calls prog 75 _ (oJ wc a (k*7) t).drew _;refine(CG.o _ (VE _ _).drew).mono ?_
    rintro e w4⟨rfl,⟨v',I,ag⟩,F⟩;have H4:=hId I;have H5:=hId (ag.trans b1.o);have H6:=hId ((J.o.drew).trans F);clear I ag F CG;go_wp2
    go_ret
    exact⟨rfl,H6.o,fun _=>⟨_,v',H4.o,H5.o⟩⟩
  ·have ba:(E !=0)=true:=by simp[hz]
   have CC:=hId (sw B (2*k+6) b n k A wc (H2.o.below af.o) ad.o hk);rw[bd.o hz]at CC;have bk:=hId (b9.o.trans (af.o.mono b0));go_wp2_with fail
   refine CC.o.mono ?_
   rintro e w4⟨rfl,⟨v',I,ag,-⟩,F⟩;have H4:=hId I;have H5:=hId ag;have H6:=hId (bk.o.trans F);clear I ag F CC;go_wp2
   go_ret
   exact⟨rfl,H6.o,fun _=>⟨_,v',H4.o,H5.o⟩⟩
theorem Ie(n:Value)(u:Option Addr)(d m:Nat)(a:List EV)(r:Nat)(c:Nat->World->Prop)(w:World)(K:d<=m)(L:m<=9223372036854775807)(f:a.length=d)
  (y:∀j wr,c j wr->fQ wr u d m a)(A:c r w)(h:∀j(N:j<a.length) wr,c j wr->Calls prog 81 #[.agg #[.int .i64 ((j+1:Nat):Int),.int .i64 a[j].aR,.int .i64 a[j].seq,.slice a[j].ao a[j].n a[j].cap],n] wr fun e w'=>e=.returned (.tuple #[])/\c (j+1) w'):
  Calls prog 80 #[.slice u d m,.int .i64 r,.func (.func 81) #[] #[n]] w fun e w'=>e=.returned (.tuple #[])/\∃j,(j=r\/j=d)/\r<=j/\d<=j/\c j w':=by
 have E:=hId f;have G:=hId y;have s:=hId h;have H:=hId A;clear y h A f;go_enter func80,ntmps80
 go_wp2
 go_loopw [6] (fun i wr=>∃j:Nat,r<=j/\(j=r\/j<=d)/\i=.int .i64 j/\c j wr) (fun i _=>d-(intOf i).toNat)
 case atStart=>exact⟨r,UZ _,.inl rfl,rfl,H.o⟩
 case round=>
  obtain⟨j,p,k,rfl,g⟩:=hrel;have o:=hId g;have F:=hId k;clear g k;by_cases q:j<d
  ·obtain⟨b,J,rfl,l⟩:=(G.o j wr o.o).get (by omega);have z:j<a.length:=by rw[E.o];exact q
   obtain⟨D,C,B⟩:=l j z;have I:Hd (Calls prog 81 #[.agg #[.int .i64 ((j:Int)+1),.int .i64 a[j].aR,.int .i64 a[j].seq,.slice a[j].ao a[j].n a[j].cap],n] wr fun e w'=>e=.returned (.tuple #[])/\c (j+1) w'):=s.o j z wr o.o;clear l;generalize a[j]=v at*;go_wp2_with fail
   refine I.o.mono ?_
   rintro e M⟨rfl,x⟩;have t:=hId x;clear x D C B;go_wp2
   go_roundw
   case rel=>exact⟨j+1,by omega,.inr (by omega),by go_num,t.o⟩
   case measure=>simp[intOf];omega
  ·have O:decide ((j:Int)<(d:Int))=false:=by simp;omega
   go_wp2
   go_end0
   exact⟨rfl,j,by have:=F.o;omega,p,by omega,o.o⟩
theorem If(o:Value)(n:Value)(x:Option Addr)(d m:Nat)(a:List EV)(r:Nat)(c:Nat->World->Prop)(w:World)(L:d<=m)(M:m<=9223372036854775807)(f:a.length=d)
  (z:∀j wr,c j wr->fQ wr x d m a)(B:c r w)(h:∀j(O:j<a.length) wr,c j wr->Calls prog 83 #[.agg #[.int .i64 ((j+1:Nat):Int),.int .i64 a[j].aR,.int .i64 a[j].seq,.slice a[j].ao a[j].n a[j].cap],o,n] wr fun e w'=>e=.returned (.tuple #[])/\c (j+1) w'):
  Calls prog 80 #[.slice x d m,.int .i64 r,.func (.func 83) #[] #[o,n]] w fun e w'=>e=.returned (.tuple #[])/\∃j,(j=r\/j=d)/\r<=j/\d<=j/\c j w':=by
 have F:=hId f;have H:=hId z;have t:=hId h;have I:=hId B;clear z h B f;go_enter func80,ntmps80
 go_wp2
 go_loopw [6] (fun i wr=>∃j:Nat,r<=j/\(j=r\/j<=d)/\i=.int .i64 j/\c j wr) (fun i _=>d-(intOf i).toNat)
 case atStart=>exact⟨r,UZ _,.inl rfl,rfl,I.o⟩
 case round=>
  obtain⟨j,q,k,rfl,g⟩:=hrel;have p:=hId g;have G:=hId k;clear g k;by_cases s:j<d
  ·obtain⟨b,K,rfl,l⟩:=(H.o j wr p.o).get (by omega);have A:j<a.length:=by rw[F.o];exact s
   obtain⟨E,D,C⟩:=l j A;have J:Hd (Calls prog 83 #[.agg #[.int .i64 ((j:Int)+1),.int .i64 a[j].aR,.int .i64 a[j].seq,.slice a[j].ao a[j].n a[j].cap],o,n] wr fun e w'=>e=.returned (.tuple #[])/\c (j+1) w'):=t.o j A wr p.o;clear l;generalize a[j]=v at*;go_wp2_with fail
   refine J.o.mono ?_
   rintro e N⟨rfl,y⟩;have u:=hId y;clear y E D C;go_wp2
   go_roundw
   case rel=>exact⟨j+1,by omega,.inr (by omega),by go_num,u.o⟩
   case measure=>simp[intOf];omega
  ·have P:decide ((j:Int)<(d:Int))=false:=by simp;omega
   go_wp2
   go_end0
   exact⟨rfl,j,by have:=G.o;omega,q,by omega,p.o⟩
theorem Wo.AB(a:List Sv.En)(r j:Nat)(g:r<=j)(f:j<a.length):(Wo.news a r).take (j+1-r)=(Wo.news a r).take (j-r)++[⟨((j+1:Nat):Int),a[j]⟩]:=by
 have c:∀(n:Nat)(l:List Sv.En)(i:Nat)(b:n<l.length),(Wo.eL i l).take (n+1)=(Wo.eL i l).take n++[⟨((i+n+1:Nat):Int),l[n]⟩]:=by
  intro n;induction n with
  |zero=>
   intro l i b
   cases l with
   |nil=>simp at b
   |cons x l=>rfl
  |succ n d=>
   intro l i b
   cases l with
   |nil=>simp at b
   |cons x l=>
    have:=d l (i+1) (by simpa using b);show _::(Wo.eL (i+1) l).take (n+1)=_::((Wo.eL (i+1) l).take n++_)
    rw[this,show i+1+n+1=i+(n+1)+1 by omega];rfl
 have e:=c (j-r) (a.drop r) r (by rw[XG];omega);unfold Wo.news;rw[show j+1-r=j-r+1 by omega,e];congr 3
 ·congr 1
  omega
 ·rw[List.getElem_drop];congr 1
  omega
theorem Wo.AD(a:List Sv.En)(r j:Nat)(h:a.length<=j):(Wo.news a r).take (j-r)=Wo.news a r:=XD (by rw[Wo.qD];omega)
theorem IQ(B X b n k t s:Nat)(v:WV)(m:MV)(w:World)(h:eR B X w b v)(r:Wo.gi v.w n)(C:k<n)(D:X≠2*k+6)(q:ae w m.e.ao m.e.n m.e.cap m.e.vs)(o:tF m.e.n m.e.vs)(x:w.cell? ⟨t,0,none⟩=some (.pointer (some ⟨b,0,none⟩)))(u:w.cell? ⟨s,0,none⟩=some (.int .i64 k)):
  Calls prog 83 #[.agg #[.int .i64 m.mr,.int .i64 m.e.aR,.int .i64 m.e.seq,.slice m.e.ao m.e.n m.e.cap],.pointer (some ⟨t,0,none⟩),.pointer (some ⟨s,0,none⟩)] w fun e w'=>e=.returned (.tuple #[])/\vr B X b v w (Wo.put v.w k (Wo.bb m.mg (Wo.vw v.w k))) w':=by
 have H:=h.lo 0 b rfl;have G:=h.hi 0 b rfl;have a:=ay m w;have l:Hd (Below B w (aj m w)):=a.mono (by omega);have i:Hd (Fr b v v w (aj m w)):=Fr.below a;have E:=hId (dE m w);have y:=hId (tT B X b n k v m _ (h.below a) r C D (q.below a) o);have J:=aA x a;have I:=aA u a;generalize Wo.put v.w k (Wo.bb m.mg (Wo.vw v.w k))=V at*;clear h r q o x u;go_enter func83,ntmps83
 go_upto_region 1 with fail
 change Code.wp prog _ _ _ (aj m w);generalize aj m w=W at*;obtain⟨x0,x1,x2,x3⟩:=AV E.o;go_wp2_with fail
 refine y.o.mono ?_
 rintro e z⟨rfl,⟨A,g,f,d,c⟩,p⟩;have F:Hd (vr B X b v w V z):=⟨⟨A,g,f,i.o.trans d,c⟩,l.o.trans p⟩;clear g f d c p y;go_wp2
 go_end0
 exact⟨rfl,F.o⟩
namespace Wo
theorem rA{α:Type}(l:List α)(i:Nat)(h:i<l.length):l.take (i+1)=l.take i++[l[i]]:=(List.take_append_getElem h).symm
theorem xG{s:Sv.Se}(h:Sv.dL s=0)(i:Nat):Sv.cM s.first (s.log.take i)=0:=by
 obtain⟨f,d,c,a,b⟩:=Sv.mW h;have e:=List.take_append_drop i s.log;rw[<-e]at a;exact(Sv.uY a).1
theorem IW{s:Sv.Se}(h:Sv.dL s=0)(i:Nat)(b:i<s.log.length):Ac.ag (Sv.cS s.first (s.log.take i)) s.log[i].o=0/\Sv.cS s.first (s.log.take (i+1))=Ac.done (Sv.cS s.first (s.log.take i)) s.log[i].o:=by
 have a:=xG h (i+1);rw[rA _ _ b]at a⊢;obtain⟨k,f,e⟩:=Sv.uY a;obtain⟨d,g,c⟩:=Sv.fold_cons f;exact⟨d,e.trans c⟩
theorem Ho{c:Kl.Cl}{k:Nat}{x:Sv.En}(h:Kl.kZ c k x=true):x.aR=k/\x.seq=c.seq/\0<c.aJ.length:=by
 unfold Kl.kZ at h;simp only[WD,XF,beq_iff_eq]at h
 exact h
theorem E5{c:Kl.Cl}{k:Nat}{x:Sv.En}(h:¬Kl.kZ c k x=true)(a:0<c.aJ.length):¬(x.aR=k/\x.seq=c.seq):=by
 intro g;apply h
 unfold Kl.kZ;simp only[WD,XF,beq_iff_eq]
 exact⟨g.1,g.2,a⟩
theorem P9{c:Kl.Cl}{o:List Ac.Pt}(b:Ac.ag c.base o=0):(Kl.fW c o).rev=c.rev+1/\(Kl.fW c o).base=Ac.done c.base o/\(Kl.fW c o).seq=c.seq/\(0<(Kl.fW c o).aJ.length->0<c.aJ.length)/\(c.held.length=0->(Kl.fW c o).held.length=0):=by
 rcases Kl.wZ c o with⟨a,e⟩|⟨a,e⟩|g
 ·exact absurd b a
 ·rw[e];exact⟨rfl,rfl,rfl,fun h=>absurd h (by show¬0<([]:List Ac.Pt).length;exact Nat.lt_irrefl 0),fun _=>rfl⟩
 ·rw[g.is];refine⟨rfl,rfl,rfl,fun h=>?_,fun h=>?_⟩
  ·have d:=Kl.zS g.b1;have f:0<(Kl.tY o c.aJ).length:=h;omega
  ·exact(Kl.zS g.b2).2 h
theorem P7(c:Kl.Cl)(o:List Ac.Pt):(Kl.iX c o).rev=c.rev+1/\(Kl.iX c o).base=Ac.done c.base o/\c.seq<=(Kl.iX c o).seq/\(Kl.mf c o=true->(Kl.iX c o).seq=c.seq+1)/\(Kl.mf c o=false->(Kl.iX c o).aJ=[])/\(Kl.iX c o).held=[]/\(Kl.iX c o).jo=c.jo:=by
 unfold Kl.iX
 cases a:Kl.mf c o
 ·rw[VD WB];exact⟨rfl,rfl,XV _,(fun e=>by cases e),fun _=>rfl,rfl,rfl⟩
 ·rw[VC rfl];exact⟨rfl,rfl,by show c.seq<=c.seq+1;omega,fun _=>rfl,(fun e=>by cases e),rfl,rfl⟩
structure Hrd (k:Nat) (v:Vw) (m:Mg) (r:List Mg):Prop where
 e0:Kl.jQ v.c k m.rev m.e=0
 is:sh k v=tK k (Kl.kD v.c k m.rev m.e) ⟨Kl.gT v.c k m.rev m.e,v.u,r⟩
 jo:(Kl.gT v.c k m.rev m.e).jo=v.c.jo
 held:v.c.held.length=0->(Kl.gT v.c k m.rev m.e).held.length=0/\Kl.kD v.c k m.rev m.e=false
 S4:Kl.kD v.c k m.rev m.e=true->(Kl.gT v.c k m.rev m.e).held.length=0
 none:v.c.aJ.length=0->(Kl.gT v.c k m.rev m.e).aJ.length=0
theorem CI.PB{s:Sv.Se}(hs:Sv.dL s=0){k:Nat}{v:Vw}(h:CI s.first s.log k v)(K:v.c.jo=true){m:Mg}{r:List Mg}(L:v.d=m::r):CI s.first s.log k (sh k v)/\Hrd k v m r:=by
 obtain⟨a1,a2,a3,a4,a5⟩:=Sv.mW hs;have hc:=h.c0.rc.e0;have l:=h.c0.rc;have z:=h.c0.on K;rw[L]at z;have D:r.length<=90:=by have:=h.c0.dn;rw[L,VG]at this;omega
 have F:=fun m hm=>h.c0.dO m (by rw[L];exact VP _ hm);have a9:Kl.jQ v.c k m.rev m.e=Kl.Bk v.c k m.rev m.e:=VC hc;have C:∀(y:Kl.Cl)(b:Bool),Kl.Bk v.c k m.rev m.e=0->Kl.FM v.c k m.rev m.e=y->Kl.JT v.c k m.rev m.e=b->C0 s.first s.log k ⟨y,v.u,r⟩->(b=false->re s.log k ⟨y,v.u,r⟩)->y.jo=v.c.jo->(v.c.held.length=0->y.held.length=0/\b=false)->(b=true->y.held.length=0)->(v.c.aJ.length=0->y.aJ.length=0)->CI s.first s.log k (sh k v)/\Hrd k v m r:=by
  intro y b g1 g2 g3 g4 g5 g6 g7 g8 g9;have E:=a9.trans g1;have S:Kl.gT v.c k m.rev m.e=y:=(VC E).trans g2;have eS:Kl.kD v.c k m.rev m.e=b:=(VC E).trans g3;have is:sh k v=tK k (Kl.kD v.c k m.rev m.e) ⟨Kl.gT v.c k m.rev m.e,v.u,r⟩:=by
   unfold sh;rw[L];exact VC E
  refine⟨?_,⟨E,is,by rw[S];exact g6,by rw[S,eS];exact g7,by rw[S,eS];exact g8,by rw[S];exact g9⟩⟩
  rw[is,S,eS];exact CI.ups g4 g5
 by_cases A:kx m=true
 ·have d:m::r.filter kx=Wo.news s.log v.c.rev.toNat:=by rw[List.filter_cons_of_pos A]at z;exact z
  have N:v.c.rev.toNat<s.log.length:=by
   rcases Nat.lt_or_ge v.c.rev.toNat s.log.length with g|g
   ·exact g
   ·rw[uH _ _ g]at d;cases d
  rw[H8 _ _ N]at d;obtain⟨em,er⟩:=List.cons.inj d;have aa:=l.lo;have ab:m.rev=v.c.rev+1:=by rw[em];show((v.c.rev.toNat+1:Nat):Int)=_;omega
  have U:m.e=s.log[v.c.rev.toNat]:=by rw[em]
  have P:=h.c0.dO m (by rw[L];exact VK ..) A;obtain⟨Y,f2⟩:=IW hs _ N;rw[h.c0.base,<-U]at Y f2;have i:¬m.e.o.length=0:=by have:=Kl.mL P;omega
  have t:¬(m.rev≠v.c.rev+1\/v.c.rev=60):=by omega
  have w:(v.c.rev+1).toNat=v.c.rev.toNat+1:=by omega
  have a7:∀e∈s.log.take (v.c.rev.toNat+1),e∈s.log.take v.c.rev.toNat\/e=m.e:=fun e p=>by
   rw[rA _ _ N]at p;rcases VW.1 p with p|p
   ·exact .inl p
   ·exact .inr ((UY.1 p).trans U.symm)
  by_cases a:Kl.kZ v.c k m.e=true
  ·obtain⟨w1,w2,w3⟩:=Ho a;obtain⟨G,Z,J,Q,W,o6,o7⟩:=P7 v.c m.e.o;refine C (Kl.iX v.c m.e.o) (Kl.mf v.c m.e.o) ?_ ?_ ?_ ⟨(Kl.Kg l (by omega) Y).rc,?_,?_,h.c0.un,D,fun x u=>⟨(h.c0.uo x u).1,Int.le_trans (h.c0.uo x u).2 J⟩,F,(fun e=>by rw[show(Kl.iX v.c m.e.o).jo=v.c.jo from o7,K]at e;cases e),fun _=>?_,fun e p hw=>Int.le_trans (h.c0.low e p hw) J,fun f e p u=>?_⟩ (fun M e f=>?_) o7 (fun H=>⟨by rw[o6];rfl,?_⟩) (fun _=>by rw[o6];rfl) (fun H=>absurd w3 (by omega))
   ·unfold Kl.Bk;rw[VD i,VC P,VD t,VC a,Y]
   ·unfold Kl.FM;rw[VD i,VD t,VC a]
   ·unfold Kl.JT;rw[VD i,VD t,VC a]
   ·show(Kl.iX v.c m.e.o).rev.toNat<=_
    rw[G];omega
   ·show Sv.cS s.first (s.log.take (Kl.iX v.c m.e.o).rev.toNat)=(Kl.iX v.c m.e.o).base
    rw[G,Z,w];exact f2
   ·show r.filter kx=Wo.news s.log (Kl.iX v.c m.e.o).rev.toNat
    rw[G,w];exact er
   ·have a6:=u.1;have a0:e.seq=(Kl.iX v.c m.e.o).seq:=u.2
    cases M:Kl.mf v.c m.e.o
    ·have n:0<(Kl.iX v.c m.e.o).aJ.length:=f;rw[W M]at n;exact absurd n (Nat.lt_irrefl 0)
    ·rw[Q M]at a0;have:=h.c0.low e (List.mem_of_mem_take p) a6;omega
   ·have n:0<(Kl.iX v.c m.e.o).aJ.length:=f;rw[W M]at n;exact absurd n (Nat.lt_irrefl 0)
   ·cases M:Kl.mf v.c m.e.o
    ·rfl
    ·unfold Kl.mf at M;simp only[WD,XF]at M
     omega
  ·obtain⟨G,Z,J,Q,W⟩:=P9 Y;have O:=Kl.Kh (c:=v.c) (o:=m.e.o) l (by omega);refine C (Kl.fW v.c m.e.o) false ?_ ?_ ?_ ⟨O.rc,?_,?_,h.c0.un,D,(fun x u=>by show _/\x.e.seq<=(Kl.fW v.c m.e.o).seq;rw[J];exact h.c0.uo x u),F,(fun e=>by rw[show(Kl.fW v.c m.e.o).jo=v.c.jo from O.jo,K]at e;cases e),fun _=>?_,(fun e p hw=>by show e.seq<=(Kl.fW v.c m.e.o).seq;rw[J];exact h.c0.low e p hw),fun f e p=>?_⟩ (fun _ e f=>?_) O.jo (fun H=>⟨W H,rfl⟩) (fun e=>by cases e) (fun H=>?_)
   ·unfold Kl.Bk;rw[VD i,VC P,VD t,VD a]
   ·unfold Kl.FM;rw[VD i,VD t,VD a]
   ·unfold Kl.JT;rw[VD i,VD t,VD a]
   ·show(Kl.fW v.c m.e.o).rev.toNat<=_
    rw[G];omega
   ·show Sv.cS s.first (s.log.take (Kl.fW v.c m.e.o).rev.toNat)=(Kl.fW v.c m.e.o).base
    rw[G,Z,w];exact f2
   ·show r.filter kx=Wo.news s.log (Kl.fW v.c m.e.o).rev.toNat
    rw[G,w];exact er
   ·have q:=Q f;show¬(_/\e.seq=(Kl.fW v.c m.e.o).seq)
    rw[J];have a8:e∈s.log.take (v.c.rev.toNat+1):=by
     have V:e∈s.log.take (Kl.fW v.c m.e.o).rev.toNat:=p;rw[G,w]at V;exact V
    rcases a7 e a8 with g|g
    ·exact h.c0.old q e g
    ·rw[g];exact E5 a q
   ·have q:=Q f;show(∃x∈v.u,x.e.seq=(Kl.fW v.c m.e.o).seq)\/(∃e∈s.log,e.aR=k/\e.seq=(Kl.fW v.c m.e.o).seq)\/(∃x∈r,kx x=false/\x.e.aR=k/\x.e.seq=(Kl.fW v.c m.e.o).seq)
    rw[J];rcases h.cu K q with x|x|⟨y,B,x⟩
    ·exact .inl x
    ·exact .inr (.inl x)
    ·rw[L]at B;rcases WG.1 B with rfl|B
     ·rw[A]at x;cases x.1
     ·exact .inr (.inr ⟨y,B,x⟩)
   ·rcases XX (Kl.fW v.c m.e.o).aJ.length with g|g
    ·exact g
    ·have:=Q g;omega
 ·have I:kx m=false:=by simpa using A
  have X:m.e.o.length=0:=by unfold kx at I;have:=of_decide_eq_false I;omega
  have d:r.filter kx=Wo.news s.log v.c.rev.toNat:=by rw[List.filter_cons_of_neg A]at z;exact z
  have e1:Kl.Bk v.c k m.rev m.e=0:=VC X;have e3:Kl.JT v.c k m.rev m.e=false:=VC X;by_cases a:Kl.kZ v.c k m.e=true
  ·refine C (Kl.gv v.c) false e1 ?_ e3 ⟨Kl.Ll l.lo l.hi l.JQ l.JR l.ck,h.c0.rev,h.c0.base,h.c0.un,D,h.c0.uo,F,(fun e=>by have T:v.c.jo=false:=e;rw[K]at T;cases T),fun _=>d,h.c0.low,fun u=>absurd u (Nat.lt_irrefl 0)⟩ (fun _ _ u=>absurd u (Nat.lt_irrefl 0)) rfl (fun _=>⟨rfl,rfl⟩) (fun e=>by cases e) (fun _=>rfl)
   unfold Kl.FM;rw[VC X,VC a]
  ·refine C v.c false e1 ?_ e3 ⟨l,h.c0.rev,h.c0.base,h.c0.un,D,h.c0.uo,F,(fun e=>by have T:v.c.jo=false:=e;rw[K]at T;cases T),fun _=>d,h.c0.low,h.c0.old⟩ (fun _ e f=>?_) rfl (fun H=>⟨H,rfl⟩) (fun e=>by cases e) (fun H=>H)
   ·unfold Kl.FM;rw[VC X,VD a]
   ·rcases h.cu K f with x|x|⟨y,B,x⟩
    ·exact .inl x
    ·exact .inr (.inl x)
    ·rw[L]at B;rcases WG.1 B with rfl|B
     ·exact absurd x.2 (E5 a f)
     ·exact .inr (.inr ⟨y,B,x⟩)
structure Inv (w:W) (n:Nat):Prop where
 lo:1<=n
 hi:n<=4
 len:gi w n
 eF:Sv.dL w.s=0
 cl:∀ k,k<n->CI w.s.first w.s.log k (vw w k)
theorem Inv.put{w:W}{n:Nat}(h:Inv w n){k:Nat}(a:k<n){v:Vw}(b:CI w.s.first w.s.log k v):Inv (put w k v) n:=
 ⟨h.lo,h.hi,h.len.put k v,h.eF,fun j c=>by
  by_cases e:j=k
  ·subst e;rw[iG h.len a];exact b
  ·rw[mj h.len a _ e];exact h.cl j c⟩
theorem qW:∀(l:List Int),(∀x∈l,x=0)->de l=0
 |[],_=>rfl
 |x::l,h=>by
  unfold de;rw[VC (h x (VK ..))];exact qW l (fun y a=>h y (VP _ a))
theorem uV{α:Type}{l:List α}{x:α}(h:x∈l)(d:α):∃k,k<l.length/\l.getD k d=x:=by
 obtain⟨k,a,e⟩:=List.mem_iff_getElem.1 h;exact⟨k,a,by rw[WM,VM a];exact e⟩
theorem Ow{l:List Mg}(d:l.length<=90)(c:∀m∈l,kx m=true->Ac.gC m.e.o=0):kF l=0:=by
 unfold kF;rw[VD (by omega)];refine qW _ (fun x a=>?_)
 obtain⟨m,b,rfl⟩:=XI.1 a;unfold Kx;by_cases g:m.e.o.length=0
 ·rw[VC g]
 ·rw[VD g];exact c m b (WL (by omega))
theorem Inv.check{w:W}{n:Nat}(h:Inv w n):jR w=0:=by
 have p:=h.lo;have o:=h.hi;have a:=h.len.c;have b:=h.len.u;have c:=h.len.d;unfold jR;rw[VC h.eF,VD (by omega),VC,VC]
 ·refine qW _ (fun x f=>?_)
  obtain⟨q,g,rfl⟩:=XI.1 f;obtain⟨k,l,e⟩:=uV g [];have:=(h.cl k (by omega)).c0;have d:(vw w k).d=q:=e;exact Ow (by rw[<-d];exact this.dn) (by rw[<-d];exact this.dO)
 ·refine qW _ (fun x f=>?_)
  obtain⟨q,g,rfl⟩:=XI.1 f;obtain⟨k,l,e⟩:=uV g [];have:=(h.cl k (by omega)).c0;have d:(vw w k).u=q:=e;exact Ow (by rw[<-d];have:=this.un;omega) (fun m i _=>by rw[<-d]at i;exact(this.uo m i).1)
 ·refine qW _ (fun x f=>?_)
  obtain⟨q,g,rfl⟩:=XI.1 f;obtain⟨k,l,e⟩:=uV g Kl.none;have:=(h.cl k (by omega)).c0;have d:(vw w k).c=q:=e;rw[<-d];exact this.rc.e0
theorem zI(m:Mg):∀(a:List Nat)(w:W)(n:Nat),gi w n->a.Nodup->(∀k∈a,k<n)->gi (a.foldl (fun w k=>tell w m k) w) n/\(a.foldl (fun w k=>tell w m k) w).s=w.s/\∀j,vw (a.foldl (fun w k=>tell w m k) w) j=if j∈a then bb m (vw w j)else vw w j
 |[],w,n,h,_,_=>⟨h,rfl,fun j=>by rw[VD (by simp)];rfl⟩
 |k::a,w,n,h,q,f=>by
  obtain⟨d,c⟩:=List.nodup_cons.1 q;have b:=f k (VK ..);obtain⟨o,l,i⟩:=zI m a (tell w m k) n (h.put k _) c (fun j p=>f j (VP _ p));refine⟨o,l,fun j=>(i j).trans ?_⟩
  show(if j∈a then bb m (vw (put w k _) j)else vw (put w k _) j)=_
  rw[xo h b];by_cases e:j=k
  ·subst e;rw[VD d,VC rfl,VC (VK ..)]
  ·rw[VD e];by_cases g:j∈a
   ·rw[VC g,VC (VP _ g)]
   ·rw[VD g,VD (by intro x;rcases WG.1 x with x|x;exact e x;exact g x)]
theorem ow{w:W}{n:Nat}(h:gi w n)(m:Mg):gi (dY w m) n/\(dY w m).s=w.s/\∀j,j<n->vw (dY w m) j=bb m (vw w j):=by
 obtain⟨c,b,a⟩:=zI m (List.range w.cs.length) w n h List.nodup_range (fun k d=>by have:=XY.1 d;rw[h.c]at this;exact this);exact⟨c,b,fun j e=>(a j).trans (VC (XY.2 (by rw[h.c];exact e)))⟩
structure BZ (w:W) (n k:Nat) (m:Mg) (r:List Mg) (w':W):Prop where
 inv:Inv w' n
 vv:(w'.s=w.s/\(vw w' k=⟨(vw w k).c,r,(vw w k).d⟩\/vw w' k=bb ⟨0,⟨k,m.e.seq,[]⟩⟩ ⟨(vw w k).c,r,(vw w k).d⟩)/\∀ j,j≠k->vw w' j=vw w j) \/
  ∃ x,w'.s.log=w.s.log++[x]/\w'.s.log.length<=60/\vw w' k=bb ⟨((w.s.log.length+1:Nat):Int),x⟩ ⟨(vw w k).c,r,(vw w k).d⟩/\∀ j,j<n->j≠k->vw w' j=bb ⟨((w.s.log.length+1:Nat):Int),x⟩ (vw w j)
theorem ot{w:W}{n:Nat}(h:gi w n){k:Nat}(a:k<n)(s:Sv.Se)(r:List Mg):gi ⟨s,w.cs,w.up.set k r,w.dn⟩ n/\vw ⟨s,w.cs,w.up.set k r,w.dn⟩ k=⟨(vw w k).c,r,(vw w k).d⟩/\∀j,j≠k->vw ⟨s,w.cs,w.up.set k r,w.dn⟩ j=vw w j:=by
 have e:=fun j=>qU w.up k j r [] (by rw[h.u];exact a);refine⟨⟨h.c,(List.length_set ..).trans h.u,h.d⟩,?_,fun j b=>?_⟩
 ·show Vw.mk (cl w k) ((w.up.set k r).getD k []) (yr w k)=_
  rw[e,VC rfl];rfl
 ·show Vw.mk (cl w j) ((w.up.set k r).getD j []) (yr w j)=_
  rw[e,VD b];rfl
theorem Inv.KI{w:W}{n:Nat}(h:Inv w n){k:Nat}(v:k<n){m:Mg}{r:List Mg}(M:vY w k=m::r):BZ w n k m r (zf w k):=by
 have c:=h.cl k v;have d:(vw w k).u=m::r:=M;obtain⟨X,T⟩:=c.c0.uo m (by rw[d];exact VK ..);have K:r.length<=30:=by have:=c.c0.un;rw[d,VG]at this;omega
 have J:=fun x p=>c.c0.uo x (by rw[d];exact VP _ p);have s:(vw w k).c.jo=true:=by
  cases e:(vw w k).c.jo
  ·have:=(c.c0.off e).1;rw[d]at this
   cases this
  ·rfl
 have z:C0 w.s.first w.s.log k ⟨(vw w k).c,r,(vw w k).d⟩:=⟨c.c0.rc,c.c0.rev,c.c0.base,K,c.c0.dn,J,c.c0.dO,(fun e=>by rw[show(vw w k).c.jo=true from s]at e;cases e),c.c0.on,c.c0.low,c.c0.old⟩;have f:∀(q:Int),(vw w k).c.seq≠m.e.seq->0<(vw w k).c.aJ.length->(∃x∈r,x.e.seq=(vw w k).c.seq)\/(∃e∈w.s.log,e.aR=k/\e.seq=(vw w k).c.seq)\/(∃x∈(vw w k).d,kx x=false/\x.e.aR=k/\x.e.seq=(vw w k).c.seq):=fun q A i=>by
  rcases c.cu s i with⟨x,p,e⟩|x|x
  ·rw[d]at p;rcases WG.1 p with rfl|p
   ·exact absurd e.symm A
   ·exact .inl ⟨x,p,e⟩
  ·exact .inr (.inl x)
  ·exact .inr (.inr x)
 unfold zf;rw[M];show BZ w n k m r (if Sv.iV w.s m.rev ⟨k,m.e.seq,m.e.o⟩=0 then _ else _)
 by_cases B:Sv.iV w.s m.rev ⟨k,m.e.seq,m.e.o⟩=0
 ·rw[VC B];obtain⟨Q,P,g⟩:=Sv.J4 B;have D:=(Sv.PH B).eF;rcases g with g|g
  ·rw[(Sv.ph (rev:=m.rev) Q P g).2,uH _ _ (UZ _)];obtain⟨u,t,l⟩:=ot h.len v w.s r;refine⟨⟨h.lo,h.hi,u,h.eF,fun j b=>?_⟩,.inl ⟨rfl,.inl t,l⟩⟩
   by_cases e:j=k
   ·subst e;refine t.symm▸⟨z,fun _ i=>?_⟩
    by_cases A:(vw w j).c.seq=m.e.seq
    ·unfold Sv.has at g;obtain⟨y,V,hy2⟩:=List.any_eq_true.1 g;unfold Sv.Bi at hy2;simp only[WD,beq_iff_eq]at hy2
     exact .inr (.inl ⟨y,V,hy2.1,hy2.2.trans A.symm⟩)
    ·exact f 0 A i
   ·exact(l j e).symm▸h.cl j b
  ·have F:=g.fit;have C:=Sv.zO B g;rw[C]at D;rw[C];generalize Sv.jJ (w.s.log.drop m.rev.toNat) (⟨k,m.e.seq,m.e.o⟩:Sv.En).o=o at*;generalize Ac.done w.s.now o=S at*;have E:=Ac.bi.2 (Ac.kj F).2.1;have O:=g.Ia;show BZ w n k m r ((Wo.news (w.s.log++[⟨k,m.e.seq,o⟩]) w.s.log.length).foldl dY _)
   rw[wh _ _ _ (UZ _),uH _ _ (UZ _)];show BZ w n k m r (dY _ _)
   obtain⟨u,t,l⟩:=ot h.len v ⟨w.s.first,w.s.log++[⟨k,m.e.seq,o⟩],S⟩ r;obtain⟨U,G,I⟩:=ow u ⟨((w.s.log.length+1:Nat):Int),⟨k,m.e.seq,o⟩⟩;refine⟨⟨h.lo,h.hi,U,by rw[G];exact D,fun j b=>?_⟩,.inr ⟨⟨k,m.e.seq,o⟩,by rw[G],?_,?_,fun j b L=>?_⟩⟩
   ·rw[G,I j b];by_cases e:j=k
    ·subst e;rw[t];exact CI.news z _ E (fun _=>T) (fun _ i p=>f 0 (fun e=>p ⟨rfl,e.symm⟩) i)
    ·rw[l j e];exact CI.news (h.cl j b).c0 _ E (fun H=>absurd (Int.ofNat.inj H).symm e) (fun a i _=>(h.cl j b).cu a i)
   ·rw[G];show(w.s.log++_).length<=60
    rw[VI];show _+1<=60
    omega
   ·rw[I k v,t]
   ·rw[I j b,l j L]
 ·rw[VD B];obtain⟨u,t,l⟩:=ot h.len v w.s r;have N:vw (tell ⟨w.s,w.cs,w.up.set k r,w.dn⟩ ⟨0,⟨k,m.e.seq,[]⟩⟩ k) k=bb ⟨0,⟨k,m.e.seq,[]⟩⟩ ⟨(vw w k).c,r,(vw w k).d⟩:=(iG u v _).trans (by rw[t]);have H:∀j,j≠k->vw (tell ⟨w.s,w.cs,w.up.set k r,w.dn⟩ ⟨0,⟨k,m.e.seq,[]⟩⟩ k) j=vw ⟨w.s,w.cs,w.up.set k r,w.dn⟩ j:=fun j b=>mj u v _ b;refine⟨⟨h.lo,h.hi,u.put k _,h.eF,fun j b=>?_⟩,.inl ⟨rfl,.inr N,fun j b=>(H j b).trans (l j b)⟩⟩
  by_cases e:j=k
  ·subst e;exact N.symm▸CI.refuse z m.e.seq (fun _ i A=>f 0 A i)
  ·exact((H j e).trans (l j e)).symm▸h.cl j b
theorem Inv.step{w:W}{n:Nat}(h:Inv w n)(x:Hp)(a:iR w x=0):Inv (ue w x) n:=by
 have e:ue w x=uQ w x.aR.toNat x:=VC a;rw[e];unfold iR at a;rw[VC h.check]at a;by_cases l:x.aR<0\/(w.cs.length:Int)<=x.aR
 ·rw[VC l]at a;cases a
 rw[VD l]at a;have C:=h.len.c;obtain⟨k,z⟩:∃k,x.aR.toNat=k:=⟨_,rfl⟩;rw[z]at a⊢;have b:k<n:=by omega
 have c:=h.cl k b;unfold nM at a;unfold uQ;by_cases y:x.kind=1
 ·rw[VC y]at a⊢;exact h.put b (c.TH x.o a)
 rw[VD y]at a⊢;by_cases v:x.kind=2
 ·rw[VC v]at a⊢;unfold ve at a;by_cases g:x.pe=0
  ·rw[VC g]at a;by_cases i:x.n<0\/((Wo.cl w k).now.length:Int)<=x.n
   ·rw[VC i]at a;cases a
   ·rw[VD i]at a;exact h.put b (c.TH _ a)
  ·rw[VD g]at a;exact absurd a g
 rw[VD v]at a⊢;by_cases u:x.kind=3
 ·rw[VC u]at a⊢
  cases o:vY w k with
  |nil=>rw[o]at a;cases a
  |cons m r=>exact(h.KI b o).inv
 rw[VD u]at a⊢;by_cases t:x.kind=4
 ·rw[VC t]at a⊢
  cases p:yr w k with
  |nil=>rw[p]at a;cases a
  |cons m r=>
   have d:(vw w k).d=m::r:=p;have f:(vw w k).c.jo=true:=by
    cases e:(vw w k).c.jo
    ·have:=(c.c0.off e).2;rw[d]at this
     cases this
    ·rfl
   exact h.put b (c.PB h.eF f d).1
 rw[VD t]at a⊢;by_cases s:x.kind=5
 ·rw[VC s];exact h.put b c.c0.cut
 rw[VD s]at a⊢;by_cases q:x.kind=6
 ·rw[VC q]at a;by_cases f:(Wo.cl w k).jo=true
  ·rw[VC f]at a;cases a
  ·obtain⟨B,A,F,E,D⟩:=Sv.mW h.eF;exact h.put b (c.O7 B A (by show(Wo.cl w k).jo=false;simpa using f)).1
 ·rw[VD q]at a;cases a
theorem Inv.new{d:List It}{n:Nat}(i:1<=n)(g:n<=4)(c:Dc.check d=0):Inv ⟨⟨d,[],d⟩,List.replicate n ⟨0,d,d,0,[],[],true⟩,List.replicate n [],List.replicate n []⟩ n:=by
 refine⟨i,g,⟨List.length_replicate,List.length_replicate,List.length_replicate⟩,Sv.KA (VN _) rfl c rfl rfl,fun k b=>?_⟩
 have e:vw ⟨⟨d,[],d⟩,List.replicate n ⟨0,d,d,0,[],[],true⟩,List.replicate n [],List.replicate n []⟩ k=⟨⟨0,d,d,0,[],[],true⟩,[],[]⟩:=by
  show Vw.mk ((List.replicate n (⟨0,d,d,0,[],[],true⟩:Kl.Cl)).getD k Kl.none) ((List.replicate n ([]:List Mg)).getD k []) ((List.replicate n ([]:List Mg)).getD k [])=_
  rw[WM,WM,List.getElem?_replicate,VC b,List.getElem?_replicate,VC b];rfl
 rw[e];exact⟨⟨⟨XV _,by show(0:Int)<=60;decide,XV _,by show(0:Int)<=10000;decide,c,fun h=>h,fun h=>absurd h (Nat.lt_irrefl 0),rfl,rfl,rfl⟩,VN _,rfl,VN _,VN _,(fun m a=>by cases a),(fun m a=>by cases a),(fun e=>by cases e),fun _=>rfl,(fun e f=>by cases f),fun h=>absurd h (Nat.lt_irrefl 0)⟩,fun _ h=>absurd h (Nat.lt_irrefl 0)⟩
end Wo
namespace Wo
def qt (x:Hp):Nat->W->W
 | 0,w=>w
 | n+1,w=>if iR w x=0 then qt x n (ue w x) else w
def hp (kind:Int) (k:Nat):Hp:=⟨kind,k,0,[],0,[]⟩
def iz (w:W) (k:Nat):W:=qt (hp 4 k) 70 (qt (hp 3 k) 70 (qt (hp 6 k) 70 w))
def round (w:W):W:=(List.range w.cs.length).foldl iz w
def fi (w:W) (j:Nat):Nat:=(vw w j).d.length+(60 - w.s.log.length)
theorem mJ{w:W}{n:Nat}(h:Inv w n){k:Nat}(d:k<n)(a:Int):iR w (hp a k)=nM w k (hp a k)/\(iR w (hp a k)=0->ue w (hp a k)=uQ w k (hp a k)):=by
 have c:=h.len.c;have e:iR w (hp a k)=nM w k (hp a k):=by
  unfold iR;rw[VC h.check,VD (by show¬((k:Int)<0\/(w.cs.length:Int)<=(k:Int));omega)];rfl
 exact⟨e,fun b=>VC b⟩
theorem S6(w:W)(k:Nat):nM w k (hp 6 k)=if(vw w k).c.jo=true then 7 else 0:=by
 unfold nM hp;rw[VD (by show¬(6:Int)=1;decide),VD (by show¬(6:Int)=2;decide),VD (by show¬(6:Int)=3;decide),VD (by show¬(6:Int)=4;decide),VD (by show¬(6:Int)=5;decide),VC rfl];rfl
theorem S8(w:W)(k:Nat):nM w k (hp 3 k)=if(vY w k).length=0 then 7 else 0:=by
 unfold nM hp;rw[VD (by show¬(3:Int)=1;decide),VD (by show¬(3:Int)=2;decide),VC rfl]
theorem S7(w:W)(k:Nat):nM w k (hp 4 k)=if(yr w k).length=0 then 7 else 0:=by
 unfold nM hp;rw[VD (by show¬(4:Int)=1;decide),VD (by show¬(4:Int)=2;decide),VD (by show¬(4:Int)=3;decide),VC rfl]
structure Sb (w w':W) (j:Nat):Prop where
 on:(vw w j).c.jo=true->fi w j<=88->(vw w' j).c=(vw w j).c/\(vw w' j).u=(vw w j).u/\fi w' j<=fi w j
 off:(vw w j).c.jo=false->vw w' j=vw w j
theorem Sb.of_eq{w w':W}{j:Nat}(a:w'.s=w.s)(h:vw w' j=vw w j):Sb w w' j:=⟨fun _ _=>⟨by rw[h],by rw[h],by unfold fi;rw[h,a];exact UZ _⟩,fun _=>h⟩
theorem Sb.trans{a b c:W}{j:Nat}(h:Sb a b j)(g:Sb b c j):Sb a c j:=by
 refine⟨fun d i=>?_,fun d=>?_⟩
 ·obtain⟨f,m,e3⟩:=h.on d i;obtain⟨l,k,n⟩:=g.on (by rw[f];exact d) (by omega);exact⟨l.trans f,k.trans m,by omega⟩
 ·have e:=h.off d;exact(g.off (by rw[e];exact d)).trans e
theorem xr{m:Mg}{v:Vw}(a:v.c.jo=true)(b:v.d.length<90):bb m v=⟨v.c,v.u,v.d++[m]⟩:=by
 unfold bb;rw[VD (by rw[a];exact Bool.noConfusion),VD (by omega)]
theorem J1{m:Mg}{v:Vw}(a:v.c.jo=false):bb m v=v:=VC a
theorem tR(m:Mg)(v:Vw):(bb m v).c=v.c\/bb m v=oq v:=by
 unfold bb;by_cases g:v.c.jo=false
 ·rw[VC g];exact .inl rfl
 ·rw[VD g];by_cases a:90<=v.d.length
  ·rw[VC a];exact .inr rfl
  ·rw[VD a];exact .inl rfl
theorem J0(m:Mg)(v:Vw)(l:List Mg)(h:v.u=l):(bb m v).u=l\/(bb m v).u=[]:=by
 unfold bb;by_cases g:v.c.jo=false
 ·rw[VC g];exact .inl h
 ·rw[VD g];by_cases a:90<=v.d.length
  ·rw[VC a];exact .inr rfl
  ·rw[VD a];exact .inl h
theorem lO{α:Type}(l:List α)(x:α):(l++[x]).length=l.length+1:=by rw[VI];rfl
theorem BZ.other{w:W}{n k:Nat}{m:Mg}{r:List Mg}{w':W}(h:BZ w n k m r w'){j:Nat}(f:j<n)(e:j≠k):Sb w w' j:=by
 rcases h.vv with⟨b,_,l⟩|⟨x,b,p,_,i⟩
 ·exact Sb.of_eq b (l j e)
 ·have a:=i j f e;have d:w'.s.log.length=w.s.log.length+1:=by rw[b];exact lO _ _
  refine⟨fun c o=>?_,fun c=>by rw[a];exact J1 c⟩
  have g:(vw w j).d.length<90:=by unfold fi at o;omega
  rw[xr c g]at a;refine⟨by rw[a],by rw[a],?_⟩
  unfold fi;rw[a,d];show((vw w j).d++[_]).length+_<=_
  rw[lO];omega
theorem BZ.own{w:W}{n k:Nat}{m:Mg}{r:List Mg}{w':W}(h:BZ w n k m r w')(d:(vw w k).c.jo=true):((vw w' k).u=r\/(vw w' k).u=[])/\(fi w k<=88->(vw w' k).c=(vw w k).c/\(vw w' k).u=r/\fi w' k<=fi w k+1):=by
 rcases h.vv with⟨b,a|a,_⟩|⟨x,b,a,f,_⟩
 ·rw[a];exact⟨.inl rfl,fun _=>⟨rfl,rfl,by unfold fi;rw[a,b];show(vw w k).d.length+_<=_;omega⟩⟩
 ·rw[a];refine⟨J0 _ _ _ rfl,fun g=>?_⟩
  have c:(vw w k).d.length<90:=by unfold fi at g;omega
  have e:=xr (m:=⟨0,⟨k,m.e.seq,[]⟩⟩) (v:=⟨(vw w k).c,r,(vw w k).d⟩) d c;rw[e];refine⟨rfl,rfl,?_⟩
  unfold fi;rw[a,b,e];show((vw w k).d++[_]).length+_<=_
  rw[lO];omega
 ·have i:w'.s.log.length=w.s.log.length+1:=by rw[b];exact lO _ _
  rw[f];refine⟨J0 _ _ _ rfl,fun g=>?_⟩
  have c:(vw w k).d.length<90:=by unfold fi at g;omega
  have e:=xr (m:=⟨((w.s.log.length+1:Nat):Int),x⟩) (v:=⟨(vw w k).c,r,(vw w k).d⟩) d c;rw[e];refine⟨rfl,rfl,?_⟩
  unfold fi;rw[f,e,i];show((vw w k).d++[_]).length+_<=_
  rw[lO];omega
structure Jnd (w:W) (n k:Nat) (w':W):Prop where
 inv:Inv w' n
 s:w'.s=w.s
 mh:∀ j,j≠k->vw w' j=vw w j
 jo:(vw w' k).c.jo=true
 vv:vw w' k=vw w k\/(vw w k).c.jo=false/\(vw w' k).u.length<=1/\fi w' k<=60
theorem KS{w:W}{n:Nat}(h:Inv w n){k:Nat}(c:k<n)(N:Nat):Jnd w n k (qt (hp 6 k) (N+2) w):=by
 have a:∀(N:Nat)(w:W),Inv w n->(vw w k).c.jo=true->qt (hp 6 k) N w=w:=fun N w h b=>by
  cases N with
  |zero=>rfl
  |succ N=>
   have e:=((mJ h c 6).1.trans (S6 w k)).trans (VC b);show(if iR w (hp 6 k)=0 then _ else w)=w
   rw[e];rfl
 cases b:(vw w k).c.jo
 ·have e:=((mJ h c 6).1.trans (S6 w k)).trans (VD (by show¬(vw w k).c.jo=true;rw[b];exact Bool.noConfusion));have m:ue w (hp 6 k)=put w k (JS k w.s.log (vw w k)):=(mJ h c 6).2 e;have f:=h.step _ e;have p:qt (hp 6 k) (N+2) w=qt (hp 6 k) (N+1) (ue w (hp 6 k)):=VC e;obtain⟨s,r,x,v,u⟩:=Sv.mW h.eF;obtain⟨t,q⟩:=(h.cl k c).O7 s r b;have o:=(iG h.len c _).trans q;have g:(vP k ⟨jo (vw w k).c true,[],Wo.news w.s.log (vw w k).c.rev.toNat⟩).c.jo=true/\(vP k ⟨jo (vw w k).c true,[],Wo.news w.s.log (vw w k).c.rev.toNat⟩).u.length<=1/\(vP k ⟨jo (vw w k).c true,[],Wo.news w.s.log (vw w k).c.rev.toNat⟩).d=Wo.news w.s.log (vw w k).c.rev.toNat:=by
   unfold vP;split
   ·exact⟨rfl,VN _,rfl⟩
   ·rw[VD (by show¬30<=0;omega)];exact⟨rfl,UZ _,rfl⟩
  obtain⟨d,l,u3⟩:=g;rw[<-o]at d l u3;rw[p,a _ _ f (by rw[m];exact d)];rw[m]at f⊢;refine⟨f,rfl,fun j i=>mj h.len c _ i,d,.inr ⟨b,l,?_⟩⟩
  unfold fi;rw[u3,qD];show _+(60-w.s.log.length)<=60
  omega
 ·rw[a _ _ h b];exact⟨h,rfl,fun _ _=>rfl,b,.inl rfl⟩
structure Sdd (w:W) (n k:Nat) (w':W):Prop where
 inv:Inv w' n
 mh:∀ j,j<n->j≠k->Sb w w' j
 u:(vw w' k).u=[]
 own:(vw w k).c.jo=true->fi w k+(vw w k).u.length<=89->(vw w' k).c=(vw w k).c/\fi w' k<=fi w k+(vw w k).u.length
 same:(vw w k).u=[]->w'=w
theorem wW{n k:Nat}(b:k<n):∀(N:Nat)(w:W),Inv w n->(vw w k).u.length<=N->Sdd w n k (qt (hp 3 k) (N+1) w)
 |N,w,h,x=>by
  cases d:vY w k with
  |nil=>
   have e:=((mJ h b 3).1.trans (S8 w k)).trans (VC (by show(vY w k).length=0;rw[d];rfl));have o:qt (hp 3 k) (N+1) w=w:=by
    show(if iR w (hp 3 k)=0 then _ else w)=w
    rw[e];rfl
   rw[o];exact⟨h,fun j _ _=>Sb.of_eq rfl rfl,d,fun _ _=>⟨rfl,Nat.le_add_right _ _⟩,fun _=>rfl⟩
  |cons m r=>
   have a:(vw w k).u=m::r:=d;have e:=((mJ h b 3).1.trans (S8 w k)).trans (VD (by show¬(vY w k).length=0;rw[d];simp));have y:ue w (hp 3 k)=zf w k:=(mJ h b 3).2 e;have o:qt (hp 3 k) (N+1) w=qt (hp 3 k) N (zf w k):=by rw[<-y];exact VC e
   have l:=h.KI b d;have f:(vw w k).c.jo=true:=by
    cases e:(vw w k).c.jo
    ·have:=((h.cl k b).c0.off e).1;rw[a]at this
     cases this
    ·rfl
   obtain⟨c,t⟩:=l.own f;rw[a,VG]at x
   cases N with
   |zero=>omega
   |succ N=>
    have u:(vw (zf w k) k).u.length<=N:=by
     rcases c with c|c
     ·rw[c];omega
     ·rw[c];exact VN _
    have i:=wW b N (zf w k) l.inv u;rw[o];refine⟨i.inv,fun j f g=>(l.other f g).trans (i.mh j f g),i.u,fun _ v=>?_,fun s=>by rw[a]at s;cases s⟩
    rw[a,VG]at v⊢;obtain⟨q,p,z⟩:=t (by omega);obtain⟨q1,q2⟩:=i.own (by rw[q];exact f) (by rw[p];omega);rw[p]at q2;exact⟨q1.trans q,by omega⟩
def Gd (v:Vw):Prop:=v.u.length=0\/(v.u.length<=1/\v.c.held.length=0)
structure Hdd (w:W) (n k N:Nat) (w':W):Prop where
 inv:Inv w' n
 s:w'.s=w.s
 mh:∀ j,j≠k->vw w' j=vw w j
 jo:(vw w' k).c.jo=(vw w k).c.jo
 g:Gd (vw w' k)
 d:(vw w' k).d.length<=(vw w k).d.length - N
 held:(vw w k).c.held.length=0->(vw w' k).c.held.length=0/\(vw w' k).u=(vw w k).u
 aJ:(vw w k).c.aJ.length=0->(vw w' k).c.aJ.length=0
theorem zi{n k:Nat}(d:k<n):∀(N:Nat)(w:W),Inv w n->Gd (vw w k)->Hdd w n k N (qt (hp 4 k) N w)
 |0,w,h,i=>⟨h,rfl,fun _ _=>rfl,rfl,i,UZ _,fun e=>⟨e,rfl⟩,fun e=>e⟩
 |N+1,w,h,i=>by
  cases p:yr w k with
  |nil=>
   have b:(vw w k).d=[]:=p;have e:=((mJ h d 4).1.trans (S7 w k)).trans (VC (by show(yr w k).length=0;rw[p];rfl));have t:qt (hp 4 k) (N+1) w=w:=by
    show(if iR w (hp 4 k)=0 then _ else w)=w
    rw[e];rfl
   rw[t];exact⟨h,rfl,fun _ _=>rfl,rfl,i,by rw[b];exact VN _,fun e=>⟨e,rfl⟩,fun e=>e⟩
  |cons m r=>
   have b:(vw w k).d=m::r:=p;have e:=((mJ h d 4).1.trans (S7 w k)).trans (VD (by show¬(yr w k).length=0;rw[p];simp));have F:ue w (hp 4 k)=put w k (sh k (vw w k)):=(mJ h d 4).2 e;have L:Inv (put w k (sh k (vw w k))) n:=by rw[<-F];exact h.step _ e
   have t:qt (hp 4 k) (N+1) w=qt (hp 4 k) N (put w k (sh k (vw w k))):=by rw[<-F];exact VC e
   have f:(vw w k).c.jo=true:=by
    cases e:(vw w k).c.jo
    ·have:=((h.cl k d).c0.off e).2;rw[b]at this
     cases this
    ·rfl
   have a:=((h.cl k d).PB h.eF f b).2;have M:vw (put w k (sh k (vw w k))) k=sh k (vw w k):=iG h.len d _;have u:(sh k (vw w k)).c.jo=true/\Gd (sh k (vw w k))/\(sh k (vw w k)).d=r/\((vw w k).c.held.length=0->(sh k (vw w k)).c.held.length=0/\(sh k (vw w k)).u=(vw w k).u)/\((vw w k).c.aJ.length=0->(sh k (vw w k)).c.aJ.length=0):=by
    rw[a.is]
    cases q:Kl.kD (vw w k).c k m.rev m.e
    ·refine⟨a.jo.trans f,?_,rfl,fun x=>⟨(a.held x).1,rfl⟩,a.none⟩
     rcases i with g|⟨E,s⟩
     ·exact .inl g
     ·exact .inr ⟨E,(a.held s).1⟩
    ·have y:(vw w k).u.length=0:=by
      rcases i with g|⟨E,s⟩
      ·exact g
      ·have:=(a.held s).2;rw[q]at this
       cases this
     have K:=a.S4 q;have l:¬(vw w k).c.held.length=0:=fun g=>by
      have:=(a.held g).2;rw[q]at this
      cases this
     have v:tK k true ⟨Kl.gT (vw w k).c k m.rev m.e,(vw w k).u,r⟩=vP k ⟨Kl.gT (vw w k).c k m.rev m.e,(vw w k).u,r⟩:=rfl;rw[v];unfold vP;split
     ·rename_i O;exact⟨a.jo.trans f,.inl y,rfl,fun x=>absurd x l,a.none⟩
     ·rw[VD (by show¬30<=(vw w k).u.length;omega)];refine⟨a.jo.trans f,.inr ⟨?_,K⟩,rfl,fun x=>absurd x l,a.none⟩
      show((vw w k).u++[_]).length<=1
      rw[lO];omega
   obtain⟨D,C,B,A,z⟩:=u;rw[<-M]at D C B A z;have c:=zi d N _ L C;rw[t];refine⟨c.inv,c.s,fun j o=>(c.mh j o).trans (mj h.len d _ o),(c.jo.trans D).trans f.symm,c.g,?_,fun x=>?_,fun x=>c.aJ (z x)⟩
   ·have:=c.d;rw[B]at this;rw[b,VG];omega
   ·obtain⟨J,I⟩:=A x;obtain⟨H,G⟩:=c.held J;exact⟨H,G.trans I⟩
theorem CI.calm{s:Sv.Se}{k:Nat}{v:Vw}(h:CI s.first s.log k v)(f:v.c.jo=true)(o:v.d.length=0):v.c.rev.toNat=s.log.length/\(v.u.length=0->v.c.aJ.length=0):=by
 have b:=VS.1 o;have c:=h.c0.on f;rw[b]at c;have d:=VQ List.length c;rw[qD]at d;have p:=h.c0.rev;have i:v.c.rev.toNat=s.log.length:=by
  have:0=s.log.length-v.c.rev.toNat:=d;omega
 refine⟨i,fun l=>?_⟩
 rcases XX v.c.aJ.length with g|g
 ·exact g
 ·exfalso
  rcases h.cu f g with⟨m,a,_⟩|⟨e,n,x⟩|⟨m,a,_⟩
  ·rw[VS.1 l]at a;cases a
  ·refine h.c0.old g e ?_ x
   rw[i,List.take_length];exact n
  ·rw[b]at a;cases a
structure Oj (w:W) (j:Nat):Prop where
 f:(vw w j).c.jo=true->fi w j<=80
 u:(vw w j).u.length<=1
structure JV (w:W) (j:Nat):Prop where
 o:(vw w j).c.jo=true
 f:fi w j<=60
 u:(vw w j).u.length<=1
structure Oi (w:W) (j:Nat):Prop where
 p:JV w j
 h:(vw w j).c.held.length=0
structure MY (w:W) (j:Nat):Prop where
 p:JV w j
 h:(vw w j).c.held.length=0
 u:(vw w j).u.length=0
 s:(vw w j).c.aJ.length=0
theorem Oj.st{w w':W}{j:Nat}(h:Oj w j)(g:Sb w w' j):Oj w' j:=by
 cases a:(vw w j).c.jo
 ·have e:=g.off a;exact⟨(fun x=>by rw[e,a]at x;cases x),by rw[e];exact h.u⟩
 ·have f:=h.f a;obtain⟨c,b,e3⟩:=g.on a (by omega);exact⟨fun _=>by omega,by rw[b];exact h.u⟩
theorem JV.st{w w':W}{j:Nat}(h:JV w j)(g:Sb w w' j):JV w' j:=by
 have f:=h.f;obtain⟨b,a,e3⟩:=g.on h.o (by omega);exact⟨by rw[b];exact h.o,by omega,by rw[a];exact h.u⟩
theorem Oi.st{w w':W}{j:Nat}(h:Oi w j)(g:Sb w w' j):Oi w' j:=by
 have f:=h.p.f;obtain⟨a,b,e3⟩:=g.on h.p.o (by omega);exact⟨h.p.st g,by rw[a];exact h.h⟩
theorem MY.st{w w':W}{j:Nat}(h:MY w j)(g:Sb w w' j):MY w' j:=by
 have f:=h.p.f;obtain⟨a,b,e3⟩:=g.on h.p.o (by omega);exact⟨h.p.st g,by rw[a];exact h.h,by rw[b];exact h.u,by rw[a];exact h.s⟩
structure Trn (w:W) (n k:Nat) (w':W):Prop where
 inv:Inv w' n
 mh:∀ j,j<n->j≠k->Sb w w' j
 p1:Oj w' k
 p2:Oj w k->JV w' k
 p3:JV w k->Oi w' k
 p4:Oi w k->MY w' k
 p5:MY w k->(vw w' k).d.length=0/\w'.s=w.s/\∀ j,j≠k->vw w' j=vw w j
theorem nY{w:W}{n:Nat}(h:Inv w n){k:Nat}(r:k<n):Trn w n k (iz w k):=by
 have d:=KS h r 68;unfold iz;generalize qt (hp 6 k) 70 w=a at*;have o:=wW r 69 a d.inv (by have:=(d.inv.cl k r).c0.un;omega);have B:(69+1:Nat)=70:=rfl;rw[B]at o;generalize qt (hp 3 k) 70 a=b at*;have i:=zi r 70 b o.inv (.inl (by rw[o.u];rfl));generalize qt (hp 4 k) 70 b=c at*;have Q:=(Sv.mW o.inv.eF).1;have q:=i.inv.cl k r;have L:fi c k=(vw c k).d.length+(60-b.s.log.length):=by unfold fi;rw[i.s]
 have v:(vw c k).u.length<=1:=by rcases i.g with g|g;omega;exact g.1
 have N:=(o.inv.cl k r).c0.dn;have O:=i.d;have f:Oj w k->(vw c k).c.jo=true/\fi c k<=60/\(fi a k<=60->(vw c k).d.length=0):=fun p=>by
  have H:fi a k<=80/\(vw a k).u.length<=1:=by
   rcases d.vv with e|⟨_,K,e3⟩
   ·have s:fi a k=fi w k:=by unfold fi;rw[e,d.s]
    have z:(vw w k).c.jo=true:=by rw[<-e];exact d.jo
    exact⟨by rw[s];exact p.f z,by rw[e];exact p.u⟩
   ·exact⟨by omega,K⟩
  obtain⟨D,P⟩:=o.own d.jo (by omega);have M:fi b k=(vw b k).d.length+(60-b.s.log.length):=rfl;refine⟨by rw[i.jo,D];exact d.jo,by omega,fun g=>by omega⟩
 have m:JV w k->(vw c k).d.length=0:=fun p=>by
  refine(f ⟨fun _=>by have:=p.f;omega,p.u⟩).2.2 ?_
  rcases d.vv with e|⟨e,_,_⟩
  ·have s:fi a k=fi w k:=by unfold fi;rw[e,d.s]
   rw[s];exact p.f
  ·rw[p.o]at e;cases e
 have u:Oj w k->JV c k:=fun p=>⟨(f p).1,(f p).2.1,v⟩;have t:JV w k->Oi c k:=fun p=>by
  have C:=u ⟨fun _=>by have:=p.f;omega,p.u⟩;refine⟨C,?_⟩
  rcases i.g with g|g
  ·have E:=((q.calm C.o (m p)).2 g);exact q.c0.rc.xE E
  ·exact g.2
 have A:Oi w k->MY c k:=fun p=>by
  have y:=t p.p;have G:(vw b k).c=(vw a k).c:=by
   have H:fi a k<=60/\(vw a k).u.length<=1:=by
    rcases d.vv with e|⟨e,_,_⟩
    ·have s:fi a k=fi w k:=by unfold fi;rw[e,d.s]
     exact⟨by rw[s];exact p.p.f,by rw[e];exact p.p.u⟩
    ·rw[p.p.o]at e;cases e
   exact(o.own d.jo (by omega)).1
  have F:(vw b k).c.held.length=0:=by
   rw[G];rcases d.vv with e|⟨e,_,_⟩
   ·rw[e];exact p.h
   ·rw[p.p.o]at e;cases e
  obtain⟨x1,x2⟩:=i.held F;have x:(vw c k).u.length=0:=by rw[x2,o.u];rfl
  exact⟨y.p,y.h,x,(q.calm y.p.o (m p.p)).2 x⟩
 refine⟨i.inv,fun j z l=>?_,⟨fun _=>by omega,v⟩,u,t,A,fun p=>⟨m p.p,?_⟩⟩
 ·exact((Sb.of_eq d.s (d.mh j l)).trans (o.mh j z l)).trans (Sb.of_eq i.s (i.mh j l))
 ·have I:vw a k=vw w k:=by
   rcases d.vv with e|⟨e,_,_⟩
   ·exact e
   ·rw[p.p.o]at e;cases e
  have J:=o.same (VS.1 (by rw[I];exact p.u));rw[J]at i;exact⟨i.s.trans d.s,fun j l=>(i.mh j l).trans (d.mh j l)⟩
theorem vy{n:Nat}{A B:W->Nat->Prop}(o:∀{w w':W}{j:Nat},A w j->Sb w w' j->A w' j)(m:∀{w w':W}{j:Nat},B w j->Sb w w' j->B w' j)(l:∀{w:W}{k:Nat},Inv w n->k<n->A w k->B (iz w k) k):
  ∀(b:List Nat)(w:W),b.Nodup->(∀k∈b,k<n)->Inv w n->(∀j,j<n->j∈b->A w j)->(∀j,j<n->j∉b->B w j)->Inv (b.foldl iz w) n/\∀j,j<n->B (b.foldl iz w) j
 |[],w,_,_,h,_,g=>⟨h,fun j a=>g j a (by simp)⟩
 |k::b,w,r,p,h,q,g=>by
  obtain⟨t,s⟩:=List.nodup_cons.1 r;have c:=p k (VK ..);have f:=nY h c;refine vy o m l b (iz w k) s (fun j a=>p j (VP _ a)) f.inv (fun j a d=>?_) (fun j a d=>?_)
  ·have i:j≠k:=fun e=>t (e▸d);exact o (q j a (VP _ d)) (f.mh j a i)
  ·by_cases e:j=k
   ·rw[e];exact l h c (q k c (VK ..))
   ·exact m (g j a (fun x=>by rcases WG.1 x with x|x;exact e x;exact d x)) (f.mh j a e)
theorem pr{n:Nat}{A B:W->Nat->Prop}(d:∀{w w':W}{j:Nat},A w j->Sb w w' j->A w' j)(c:∀{w w':W}{j:Nat},B w j->Sb w w' j->B w' j)(b:∀{w:W}{k:Nat},Inv w n->k<n->A w k->B (iz w k) k){w:W}(h:Inv w n)(g:∀j,j<n->A w j):Inv (round w) n/\∀j,j<n->B (round w) j:=by
 unfold round;rw[h.len.c];exact vy d c b (List.range n) w List.nodup_range (fun k f=>XY.1 f) h (fun j a _=>g j a) (fun j a e=>absurd (XY.2 a) e)
structure Fin (w:W) (j:Nat):Prop where
 p:MY w j
 d:(vw w j).d.length=0
theorem Am{n:Nat}:∀(b:List Nat)(w:W),b.Nodup->(∀k∈b,k<n)->Inv w n->(∀j,j<n->MY w j)->(∀j,j<n->j∉b->Fin w j)->Inv (b.foldl iz w) n/\∀j,j<n->Fin (b.foldl iz w) j
 |[],w,_,_,h,_,g=>⟨h,fun j a=>g j a (by simp)⟩
 |k::b,w,q,l,h,o,g=>by
  obtain⟨s,r⟩:=List.nodup_cons.1 q;have c:=l k (VK ..);have d:=nY h c;have f:=o k c;obtain⟨q1,q2,q3⟩:=d.p5 f;have i:=d.p4 ⟨f.p,f.h⟩;have m:∀j,j<n->MY (iz w k) j:=fun j a=>by
   by_cases e:j=k
   ·rw[e];exact i
   ·exact(o j a).st (d.mh j a e)
  refine Am b (iz w k) r (fun j a=>l j (VP _ a)) d.inv m (fun j a p=>⟨m j a,?_⟩)
  by_cases e:j=k
  ·rw[e];exact q1
  ·rw[q3 j e];exact(g j a (fun x=>by rcases WG.1 x with x|x;exact e x;exact p x)).d
theorem yW{w:W}{n:Nat}(h:Inv w n)(d:∀j,j<n->MY w j):Inv (round w) n/\∀j,j<n->Fin (round w) j:=by
 unfold round;rw[h.len.c];exact Am (List.range n) w List.nodup_range (fun k b=>XY.1 b) h d (fun j c a=>absurd (XY.2 c) a)
def calm (w:W):Nat->W
 | 0=>w
 | n+1=>calm (round w) n
theorem Fj{w:W}{n:Nat}(h:Inv w n):Inv (calm w 8) n/\∀j,j<n->Fin (calm w 8) j:=by
 obtain⟨l,u⟩:=pr (A:=fun _ _=>True) (B:=Oj) (fun _ _=>trivial) (fun h g=>h.st g) (fun h a _=>(nY h a).p1) h (fun _ _=>trivial);obtain⟨k,t⟩:=pr (A:=Oj) (B:=JV) (fun h g=>h.st g) (fun h g=>h.st g) (fun h a p=>(nY h a).p2 p) l u;obtain⟨i,s⟩:=pr (A:=JV) (B:=Oi) (fun h g=>h.st g) (fun h g=>h.st g) (fun h a p=>(nY h a).p3 p) k t;obtain⟨f,r⟩:=pr (A:=Oi) (B:=MY) (fun h g=>h.st g) (fun h g=>h.st g) (fun h a p=>(nY h a).p4 p) i s;obtain⟨e,q⟩:=yW f r;obtain⟨d,o⟩:=yW e (fun j b=>(q j b).p);obtain⟨c,m⟩:=yW d (fun j b=>(o j b).p);exact yW c (fun j b=>(m j b).p)
structure Met (w:W) (j:Nat):Prop where
 jo:(vw w j).c.jo=true
 rev:(vw w j).c.rev=w.s.log.length
 aJ:(vw w j).c.aJ.length=0
 held:(vw w j).c.held.length=0
 now:(vw w j).c.now=w.s.now
 u:(vw w j).u.length=0
 d:(vw w j).d.length=0
theorem meets{w:W}{n:Nat}(h:Inv w n):∀j,j<n->Met (calm w 8) j:=fun j c=>by
 obtain⟨i,a⟩:=Fj h;have f:=a j c;generalize calm w 8=w' at*;have b:=i.cl j c;obtain⟨d,g⟩:=b.calm f.p.p.o f.d;obtain⟨o,m,l,k,e⟩:=Sv.mW i.eF;refine⟨f.p.p.o,by have:=b.c0.rc.lo;omega,f.p.s,f.p.h,?_,f.p.u,f.d⟩
 rw[b.c0.rc.nw,(Kl.gU f.p.s).2,(Kl.gU f.p.h).2,<-b.c0.base,d,List.take_length,e]
end Wo
