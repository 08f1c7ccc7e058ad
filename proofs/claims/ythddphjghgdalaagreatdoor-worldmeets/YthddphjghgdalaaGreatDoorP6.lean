/- A part. -/
import Derived.Test.YthddphjghgdalaaGreatDoorP5
set_option maxRecDepth 100000
set_option maxHeartbeats 12800000
namespace Go.Proofs.YthddphjghgdalaaGreatDoor
open Go.RowKit Go.Proofs.Tryz
theorem PY(w:World)(B:Nat)(O:Value)(p:PV)(a:List PV)(q:PV)(D:q.kind=1)(C:Ac.mz q.pt p.pt=false)(Q:eD w B O (a++[q]))(hB:B<=w.heap.size)(ho:((a++[q])).length<=100000)(hP:dV w p)(hF:re (an p) O)(hH:rZ B (an p))(_hn:∀z∈(a++[q]),0<=z.n/\z.n<=100000)(a4:0<=p.n/\p.n<=100000):
  Calls prog 151 #[O,.agg #[.int .i64 p.kind,.int .i64 p.n,.slice p.ao p.m p.cap,.int .i64 p.set,.int .i64 p.bm,.bool p.goes,.string p.link]] w fun e w'=>∃A K,e=.returned A/\mT w B O (a++[q]) p w' A K:=by
 obtain⟨i0,hi,a3,a2,a1⟩:=info_parts Tryz.vj;obtain⟨a0,l,c,m⟩:=bg Q.own;obtain⟨y,d⟩:∃y,((a++[q])).length=y:=⟨_,rfl⟩;have I:=hId d;rw[d]at c ho;have x:=m.room;rw[d]at x;subst c;have HT:=hId Q;have H1:Hd (Below w.heap.size w (aH p w)):=aK _ w;have H:Hd (bV (aH p w) w.heap.size 0 p):=dS _ w;have a7:=hId (nW hP);have ab:=hId hF;have aa:=hId hH;have a6:=hId (pU p);have CU:=hId (fun w'=>pT p w');obtain⟨ae,ad⟩:=a4;have t:Hd (w.ownsRow B 100 7 (.slice a0 y l) y (aG (a++[q]))):=by have:=Q.own;rw[d]at this;exact this
 clear Q hP hF hH _hn d m;obtain⟨j,P⟩:∃j,a.length=j:=⟨_,rfl⟩;obtain rfl:y=j+1:=by rw[<-I.o,VI,P];rfl
 obtain⟨b,ag,c,-,ai⟩:=t.o.form (Nat.succ_pos j);simp only[Value.slice.injEq,true_and]at c
 obtain⟨rfl,-⟩:=c;have E:j<(a++[q]).length:=by rw[VI,P];simp
 obtain⟨k0,Z,Y,X,W,V,U⟩:=ga (a++[q]) j E;have F:(a++[q])[j]=q:=by simp[<-P]
 rw[F]at k0 Z Y X W V U;have k:∀i u,i<7->(aG (a++[q]))[j*7+i]?=some u->w.cell? ⟨b,j*7+i,none⟩=some u:=fun i u hi h=>(t.o.cellAt (j*7+i) (by omega)).trans h;have SQ:bV w b (j*7) q:=⟨k 0 _ (by omega) k0,k 1 _ (by omega) Z,k 2 _ (by omega) Y,k 3 _ (by omega) X,k 4 _ (by omega) W,k 5 _ (by omega) V,k 6 _ (by omega) U⟩;have r:=hId (SQ.below H1.o);have ac:=hId (fun w'=>tj q p w');have q1:(0:Int)<=(j:Int):=by omega
 have q2:(j:Int)<(j:Int)+1:=by omega
 have o:(a++[q]).map PV.pt=a.map PV.pt++[q.pt]:=by rw[WN];rfl
 clear k k0 Z Y X W V U F E P SQ;have af:(q.kind==1)=true:=by simp[D]
 have a8:Hd (((a++[q])++[an p]).map PV.pt=Ac.iw ((a++[q]).map PV.pt) p.pt):=by
  show _=_
  rw[WN,o,Ac.ic,VD (fun h=>by rw[C]at h;cases h.2)];show _++[(an p).pt]=_
  rw[a6.o]
 clear o D;go_enter func151,ntmps151
 go_upto_region 2 with fail
 change Code.wp prog _ _ _ (aH p w);generalize aH p w=W5 at*;obtain⟨d0,d1,d2,d3,d4,d5,d6⟩:=H.o;simp only[VR]at d0 d1 d2 d3 d4 d5 d6
 obtain⟨b0,b1,b2,b3,b4,b5,b6⟩:=r.o;go_region_held3 (fun w'=>w'.cell? ⟨b,j*7,none⟩=some (.int .i64 q.kind)/\w'.cell? ⟨b,j*7+1,none⟩=some (.int .i64 q.n)/\w'.cell? ⟨b,j*7+2,none⟩=some (.slice q.ao q.m q.cap)/\w'.cell? ⟨b,j*7+3,none⟩=some (.int .i64 q.set)/\w'.cell? ⟨b,j*7+4,none⟩=some (.int .i64 q.bm)/\w'.cell? ⟨b,j*7+5,none⟩=some (.bool q.goes)/\w'.cell? ⟨b,j*7+6,none⟩=some (.string q.link)/\w'.cell? ⟨w.heap.size,0,none⟩=some (.int .i64 p.kind)/\w'.cell? ⟨w.heap.size,1,none⟩=some (.int .i64 p.n)/\w'.cell? ⟨w.heap.size,2,none⟩=some (.slice p.ao p.m p.cap)/\w'.cell? ⟨w.heap.size,3,none⟩=some (.int .i64 p.set)/\w'.cell? ⟨w.heap.size,4,none⟩=some (.int .i64 p.bm)/\w'.cell? ⟨w.heap.size,5,none⟩=some (.bool p.goes)/\w'.cell? ⟨w.heap.size,6,none⟩=some (.string p.link)) (first|exact⟨b0,b1,b2,b3,b4,b5,b6,d0,d1,d2,d3,d4,d5,d6⟩|exact⟨x0,x1,x2,x3,x4,x5,x6,y0,y1,y2,y3,y4,y5,y6⟩) (first|(go_at_call 85;refine(ac.o _).mono ?_;rintro e S⟨rfl,s⟩;have J:Hd (Below w.heap.size w S):=H1.o.drew.trans (s.mono (Below.size H1.o.drew));have N:Hd (bV S w.heap.size 0 p):=H.o.drew.below s;have M:Hd (bV S b (j*7) q):=r.o.drew.below s;obtain⟨y0,y1,y2,y3,y4,y5,y6⟩:=N.o;obtain⟨x0,x1,x2,x3,x4,x5,x6⟩:=M.o;simp only[VR]at y0 y1 y2 y3 y4 y5 y6;clear s;rw[C]))
 go_wp2_with fail
 refine(CU.o _).mono ?_
 rintro e T⟨rfl,s⟩;have v:=hId ((J.o).trans (s.mono (J.o).size));have a9:=hId (ax t.o v.o);have ah:=VX hB v.o.size;clear s;go_wp2_with (at_builtin;refine wpList_append_lies _ rfl (.tmp 38) (.tmp 41) 32 rfl B 100 i0 (.agg #[.int .i64 0,.int .i64 0,.slice none 0 0,.int .i64 0,.int .i64 0,.bool false,.string ⟨#[]⟩]) 7 80 underlying32 hi a3 a2 a1 rfl (by decide) _ (j+1) (aG (a++[q])) rfl ?c1 ⟨T.heap.size,0,none⟩ 1 1 (iD (an p)) rfl rfl ?c2 ?c3 (by decide) ?c4 ?c5 ?c6 _ rfl ?c7)
 case c1=>exact a9.o.alloc _
 case c2=>exact World.news_of_block (cs:=(iD (an p)).toArray) (heap_alloc_new T _)
 case c3=>exact fun u hu=>aY [an p] u (by rw[bq];exact hu)
 case c4=>unfold maxLen;omega
 case c5=>omega
 case c6=>first|omega|(simp;omega)
 case c7=>
  intro g L w3 n f G a5;have HW:=hId (qy w T B (some ⟨b,0,none⟩) (j+1) l (a++[q]) p HT.o I.o a7.o ab.o aa.o v.o _ ((VE _ _).alloc (UZ _) _) g L w3 a8.o n f (by rcases G with h|h;exact .inl h;exact .inr (h.trans (WO ..).symm)));clear n f G a5;go_wp2
  go_ret
  exact⟨_,_,rfl,HW.o⟩
theorem Mp(w:World)(B:Nat)(K:Value)(p:PV)(a:List PV)(q:PV)(o:q.kind=1)(y:Ac.mz q.pt p.pt=true)(M:eD w B K (a++[q]))(_hB:B<=w.heap.size)(ho:((a++[q])).length<=100000)(_hP:dV w p)(hF:re (an p) K)(_hH:rZ B (an p))(hn:∀z∈(a++[q]),0<=z.n/\z.n<=100000)(a1:0<=p.n/\p.n<=100000):
  Calls prog 151 #[K,.agg #[.int .i64 p.kind,.int .i64 p.n,.slice p.ao p.m p.cap,.int .i64 p.set,.int .i64 p.bm,.bool p.goes,.string p.link]] w fun e w'=>∃x G,e=.returned x/\mT w B K (a++[q]) p w' x G:=by
 obtain⟨i0,hi,ac,ab,aa⟩:=info_parts Tryz.vj;obtain⟨a0,g,c,k⟩:=bg M.own;obtain⟨t,d⟩:∃t,((a++[q])).length=t:=⟨_,rfl⟩;have a3:=hId d;rw[d]at c ho;have s:=k.room;rw[d]at s;subst c;have HT:=hId M;have H1:Hd (Below w.heap.size w (aH p w)):=aK _ w;have D:Hd (bV (aH p w) w.heap.size 0 p):=dS _ w;have ag:=hId hF;have a4:=hId hn;obtain⟨a7,a6⟩:=a1;have r:Hd (w.ownsRow B 100 7 (.slice a0 t g) t (aG (a++[q]))):=by have:=M.own;rw[d]at this;exact this
 clear M _hP hF _hH hn d k;obtain⟨j,v⟩:∃j,a.length=j:=⟨_,rfl⟩;obtain rfl:t=j+1:=by rw[<-a3.o,VI,v];rfl
 have HJ:=hId v;obtain⟨b,a9,c,-,ae⟩:=r.o.form (Nat.succ_pos j);simp only[Value.slice.injEq,true_and]at c
 obtain⟨rfl,-⟩:=c;have A:j<(a++[q]).length:=by rw[VI,v];simp
 obtain⟨k0,k1,Z,Y,X,W,V⟩:=ga (a++[q]) j A;have C:(a++[q])[j]=q:=by simp[<-v]
 rw[C]at k0 k1 Z Y X W V;have f:∀i u,i<7->(aG (a++[q]))[j*7+i]?=some u->w.cell? ⟨b,j*7+i,none⟩=some u:=fun i u hi h=>(r.o.cellAt (j*7+i) (by omega)).trans h;have SQ:bV w b (j*7) q:=⟨f 0 _ (by omega) k0,f 1 _ (by omega) k1,f 2 _ (by omega) Z,f 3 _ (by omega) Y,f 4 _ (by omega) X,f 5 _ (by omega) W,f 6 _ (by omega) V⟩;have m:=hId (SQ.below H1.o);have ad:=a4.o q (by simp);have a5:=hId (fun w'=>tj q p w');have q1:(0:Int)<=(j:Int):=by omega
 have q2:(j:Int)<(j:Int)+1:=by omega
 have l:(a++[q]).map PV.pt=a.map PV.pt++[q.pt]:=by rw[WN];rfl
 clear f k0 k1 Z Y X W V C A v SQ;have a8:(q.kind==1)=true:=by simp[o]
 have a2:Hd ((a++[{q with n:=q.n+p.n}]).map PV.pt=Ac.iw ((a++[q]).map PV.pt) p.pt):=by
  show _=_
  rw[l,Ac.ic,VC ⟨o,y⟩,WN];rfl
 clear l o;go_enter func151,ntmps151
 go_upto_region 2 with fail
 change Code.wp prog _ _ _ (aH p w);generalize aH p w=W5 at*;obtain⟨d0,d1,d2,d3,d4,d5,d6⟩:=D.o;simp only[VR]at d0 d1 d2 d3 d4 d5 d6
 obtain⟨b0,b1,b2,b3,b4,b5,b6⟩:=m.o;go_region_held3 (fun w'=>w'.cell? ⟨b,j*7,none⟩=some (.int .i64 q.kind)/\w'.cell? ⟨b,j*7+1,none⟩=some (.int .i64 q.n)/\w'.cell? ⟨b,j*7+2,none⟩=some (.slice q.ao q.m q.cap)/\w'.cell? ⟨b,j*7+3,none⟩=some (.int .i64 q.set)/\w'.cell? ⟨b,j*7+4,none⟩=some (.int .i64 q.bm)/\w'.cell? ⟨b,j*7+5,none⟩=some (.bool q.goes)/\w'.cell? ⟨b,j*7+6,none⟩=some (.string q.link)/\w'.cell? ⟨w.heap.size,0,none⟩=some (.int .i64 p.kind)/\w'.cell? ⟨w.heap.size,1,none⟩=some (.int .i64 p.n)/\w'.cell? ⟨w.heap.size,2,none⟩=some (.slice p.ao p.m p.cap)/\w'.cell? ⟨w.heap.size,3,none⟩=some (.int .i64 p.set)/\w'.cell? ⟨w.heap.size,4,none⟩=some (.int .i64 p.bm)/\w'.cell? ⟨w.heap.size,5,none⟩=some (.bool p.goes)/\w'.cell? ⟨w.heap.size,6,none⟩=some (.string p.link)) (first|exact⟨b0,b1,b2,b3,b4,b5,b6,d0,d1,d2,d3,d4,d5,d6⟩|exact⟨x0,x1,x2,x3,x4,x5,x6,U,T,S,Q,P,O,N⟩) (first|(go_at_call 85;refine(a5.o _).mono ?_;rintro e J⟨rfl,L⟩;have F:Hd (Below w.heap.size w J):=H1.o.drew.trans (L.mono (Below.size H1.o.drew));have I:Hd (bV J w.heap.size 0 p):=D.o.drew.below L;have H:Hd (bV J b (j*7) q):=m.o.drew.below L;obtain⟨U,T,S,Q,P,O,N⟩:=I.o;obtain⟨x0,x1,x2,x3,x4,x5,x6⟩:=H.o;simp only[VR]at U T S Q P O N;clear L;rw[y]))
 clear b0 b1 b2 b3 b4 b5 b6 d0 d1 d2 d3 d4 d5 d6;have E:=ax r.o F.o;have z1:=E.frozenAt (j*7+1);go_wp2_with fail
 go_region
 have HW:=hId (Ja w J B b g j a q p HT.o HJ.o F.o a2.o);clear z1 E x0 x1 x2 x3 x4 x5 x6 U T S Q P O N;go_wp2
 go_ret
 exact⟨_,_,rfl,HW.o⟩
theorem xk(w:World)(B:Nat)(d:Value)(a:List PV)(p:PV)(k:eD w B d a)(o:B<=w.heap.size)(h:a.length<=100000)(l:dV w p)(n:re (an p) d)(m:rZ B (an p))(i:∀z∈a,0<=z.n/\z.n<=100000)(c:0<=p.n/\p.n<=100000):
  Calls prog 151 #[d,.agg #[.int .i64 p.kind,.int .i64 p.n,.slice p.ao p.m p.cap,.int .i64 p.set,.int .i64 p.bm,.bool p.goes,.string p.link]] w fun e w'=>∃f g,e=.returned f/\mT w B d a p w' f g:=by
 rcases List.eq_nil_or_concat a with e|⟨b,q,e⟩
 ·subst e;exact PX w B d p k o h l n m i c
 ·rw[XU]at e;subst e;by_cases r:q.kind=1
  ·cases s:Ac.mz q.pt p.pt
   ·exact PY w B d p b q r s k o h l n m i c
   ·exact Mp w B d p b q r s k o h l n m i c
  ·exact Jb w B d b q r p k o h l n m i c
namespace Ac
structure TS where
 o:List Pt
 put:List It
 cut:Nat
def tS (s:TS) (p:Pt):TS:=if p.kind=1 then ⟨iw (s.o++bL s.put s.cut) p,[],0⟩ else if p.kind=2 then ⟨s.o,s.put++p.aB,s.cut⟩ else ⟨s.o,s.put,s.cut+p.n.toNat⟩
def ts (o:List Pt):TS:=o.foldl tS ⟨[],[],0⟩
theorem Mu(o:List Pt)(k:Nat)(h:k<o.length):ts (o.take (k+1))=tS (ts (o.take k)) o[k]:=by
 unfold ts;rw[WY h,XC];rfl
def ll (l:List Pt):Int:=(l.map Pt.n).sum
theorem jq(l a:List Pt):ll (l++a)=ll l+ll a:=by simp[ll]
theorem lE(p:Pt):ll [p]=p.n:=by simp[ll]
theorem td(a:List It)(n:Nat):ll (bL a n)=n:=by
 unfold bL;rw[jq];have c:ll (if a.isEmpty then[]else[iW a])=0:=by split<;>rfl
 have b:ll (if n=0 then[]else[Dt n])=n:=by
  split
  ·rename_i h;subst h;rfl
  ·rw[lE];rfl
 rw[c,b];omega
theorem FR{a:List It}{n:Nat}{z:Pt}(h:z∈bL a n):0<=z.n:=by
 unfold bL at h;rcases VW.1 h with h|h
 ·split at h
  ·cases h
  ·rw[UY.1 h];exact XV _
 ·split at h
  ·cases h
  ·rw[UY.1 h];exact Int.natCast_nonneg _
theorem Ce:∀{l:List Pt},(∀z∈l,0<=z.n)->0<=ll l/\∀z∈l,z.n<=ll l
 |[],_=>⟨by decide,fun z a=>by cases a⟩
 |p::l,h=>by
  obtain⟨d,b⟩:=Ce (fun z a=>h z (VP _ a));have c:=h p (VK ..);have e:ll (p::l)=p.n+ll l:=by simp[ll]
  rw[e];refine⟨by omega,fun z a=>?_⟩
  rcases WG.1 a with rfl|a
  ·omega
  ·have:=b z a;omega
theorem sS{p:Pt}(h:p.kind=1):(ez p).n=p.n:=by unfold ez;rw[VC h]
theorem GH(o:List Pt)(p:Pt)(a:p.kind=1):ll (iw o p)=ll o+p.n/\(iw o p).length<=o.length+1:=by
 rcases List.eq_nil_or_concat o with e|⟨o',q,e⟩
 ·rw[e,qx,lE,sS a];simp[ll]
 ·rw[XU]at e;rw[e,ic];by_cases h:q.kind=1/\mz q p=true
  ·rw[VC h,jq,jq,lE,lE];refine⟨by simp only;omega,by simp⟩
  ·rw[VD h,jq,jq,lE,lE,sS a];exact⟨rfl,by simp⟩
theorem GI{o:List Pt}{p:Pt}(d:p.kind=1)(b:∀z∈o,0<=z.n)(c:0<=p.n):∀z∈iw o p,0<=z.n:=by
 rcases List.eq_nil_or_concat o with e|⟨o',q,e⟩
 ·rw[e,qx];intro z a;rw[UY.1 a,sS d];exact c
 ·rw[XU]at e;rw[e]at b⊢;rw[ic];by_cases h:q.kind=1/\mz q p=true
  ·rw[VC h];intro z a;rcases VW.1 a with a|a
   ·exact b z (List.mem_append_left _ a)
   ·rw[UY.1 a];have:=b q (by simp);simp only
    omega
  ·rw[VD h];intro z a;rcases VW.1 a with a|a
   ·exact b z a
   ·rw[UY.1 a,sS d];exact c
structure TB (s:TS) (o:List Pt):Prop where
 len:s.o.length+(bL s.put s.cut).length<=o.length
 pos:∀ z ∈ s.o,0<=z.n
 sum:ll s.o+s.cut=nd o
 put:s.put.length<=lv o
theorem rR(a:List It)(n:Nat):(bL a n).length=(if a.isEmpty then 0 else 1)+(if n=0 then 0 else 1):=by
 unfold bL;rw[VI];congr 1
 ·split<;>rfl
 ·split<;>rfl
theorem TB.step{s:TS}{o:List Pt}(h:TB s o){p:Pt}(e:bG p=0):TB (tS s p) (o++[p]):=by
 have v:=sj e;have m:=mI e;have l:=h.len;rw[rR]at l;have f:nd (o++[p])=nd o+rK p:=by rw[Kq];simp[nd]
 have q:lv (o++[p])=lv o+sZ p:=by rw[LA];simp[lv]
 have t:=h.sum;have u:=h.put;unfold tS;rcases cz e with k|k|k
 ·rw[VC k];have i:=GH (s.o++bL s.put s.cut) p k;have r:=h.len;refine⟨?_,?_,?_,?_⟩
  ·simp only
   have:(bL ([]:List It) 0).length=0:=rfl;rw[this,VI];have:=i.2;rw[VI]at this;simp
   omega
  ·refine GI k (fun z d=>?_) m.1
   rcases VW.1 d with d|d
   ·exact h.pos z d
   ·exact FR d
  ·simp only
   rw[i.1,jq,td,f];omega
  ·simp
 ·rw[VD (by omega),VC k];have c:rK p=0:=VC k;have g:sZ p=p.aB.length:=(VD (by omega)).trans (VC k);refine⟨?_,h.pos,by simp only;rw[f,c];omega,by simp only;rw[VI,q,g];omega⟩
  simp only
  rw[rR,VI,List.length_singleton];have n:(if(s.put++p.aB).isEmpty=true then 0 else 1)<=1:=by split<;>omega
  generalize (if(s.put++p.aB).isEmpty=true then 0 else 1)=a at*;generalize (if s.cut=0 then 0 else 1)=b at*;omega
 ·rw[VD (by omega),VD (by omega)];have c:rK p=p.n.toNat:=VD (by omega);refine⟨?_,h.pos,by simp only;rw[f,c];omega,by simp only;omega⟩
  simp only
  rw[rR,VI,List.length_singleton];have n:(if s.cut+p.n.toNat=0 then 0 else 1)<=1:=by split<;>omega
  generalize (if s.cut+p.n.toNat=0 then 0 else 1)=a at*;generalize (if s.put.isEmpty=true then 0 else 1)=b at*;omega
theorem Ei:∀(o a:List Pt)(s:TS),TB s a->(∀p∈o,bG p=0)->TB (o.foldl tS s) (a++o)
 |[],a,s,h,_=>by rw[VY];exact h
 |p::o,a,s,h,b=>by
  have:=Ei o (a++[p]) (tS s p) (h.step (b p (VK ..))) (fun q c=>b q (VP _ c));rw[VT]at this;exact this
theorem Jr{o:List Pt}(h:∀p∈o,bG p=0):TB (ts o) o:=by
 have:=Ei o [] ⟨[],[],0⟩ ⟨by simp[bL],fun z a=>(by cases a),rfl,by simp⟩ h;exact this
end Ac
theorem Ac.Dm{p:Ac.Pt}(h:Ac.bG p=0):Ac.rK p<=80:=by
 have:=Ac.sj h;have:=Ac.mI h;omega
theorem Ac.O0:∀(o:List Ac.Pt),(∀p∈o,Ac.bG p=0)->Ac.nd o<=o.length*80
 |[],_=>by simp[Ac.nd]
 |p::o,h=>by
  rw[Ac.kX,VG];have:=Ac.Dm (h p (VK ..));have:=Ac.O0 o (fun q a=>h q (VP _ a));omega
theorem vS.af{i n m:World}{o d:Value}{g c:List PV}{p:PV}(h:vS i o (.slice none 0 0) g [] 0 n)(f:mT n (i.heap.size+3) o g p m d c):vS i d (.slice none 0 0) c [] 0 (m.setCell ⟨i.heap.size,0,none⟩ d):=by
 have b:=fun x a=>aS h.jL.own x (cE a);have t:=f.kept.aM h.tb (fun a=>by have:=b _ a;omega);have r:=f.kept.aM h.pb (fun a=>by have:=b _ a;omega);have s:=f.kept.aM h.cb (fun a=>by have:=b _ a;omega);obtain⟨q,-,l⟩:=f.jL.var (nq f.kept _) t;refine⟨?_,l,r.other _ _ (by simp),s.other _ _ (by simp),q,XM _ _ _ _,fun x a=>absurd a (by simp),fun v _=>Ad v rfl,fun k _ e=>by cases e⟩
 exact(h.bf.trans (f.kept.below h.bf.size (fun x a=>by have:=b x a;omega))).setCell (UZ _) _
theorem vS.NL{m w r:World}{E B:Value}{t:List PV}{c A:List It}{y g f n:Nat}(h:vS m E B t c y w)(I:Fit A)
  (z:r.ownsRow (m.heap.size+3) 67 3 (.slice (some ⟨g,0,none⟩) n f) n (aI (c++A)))(G:(c++A).length=n)(H:w.grownBy r B.ownBlock)(u:B.ownBlock=some g\/g=w.heap.size):
  vS m E (.slice (some ⟨g,0,none⟩) n f) t (c++A) y (r.setCell ⟨m.heap.size+1,0,none⟩ (.slice (some ⟨g,0,none⟩) n f)):=by
 have i:=gh H;have d:=fun x b=>aS h.Hj x (cE b);have K:=i.aM h.tb (fun b=>by have:=d _ b;omega);have F:=i.aM h.pb (fun b=>by have:=d _ b;omega);have J:=i.aM h.cb (fun b=>by have:=d _ b;omega);have l:=h.jL.kept i (fun x b e=>h.apart x e (cE b)) (fun v o a p q b=>h.NP v o a p q (cE b).symm);have C:Kept r (r.setCell ⟨m.heap.size+1,0,none⟩ (.slice (some ⟨g,0,none⟩) n f)) [m.heap.size+1]:=dX _ _ _ _ _ (UY.2 rfl);refine⟨?_,K.other _ _ (by simp),F.set 0 _,J.other _ _ (by simp),?_,?_,qY h.NO I,fun v o a p q e=>?_,fun k i e=>?_⟩
 ·exact(h.bf.trans (i.below h.bf.size (fun x b=>by have:=d x b;omega))).setCell (Nat.le_succ _) _
 ·refine l.kept C (fun x b e=>?_) (fun v o a p q b=>?_)
  ·have:=aS l.own x e;rw[UY]at b;omega
  ·have:=l.hi v o a p q;rw[UY]at b;omega
 ·rw[G];exact ownsRow_setCell_below z (by simp) _
 ·rcases u with s|s
  ·exact h.NP v o a p q (by rw[s];exact e)
  ·have L:=(h.jL.iE v o).bH p q;have:a.block=g:=by simpa[Value.ownBlock]using e
   omega
 ·have D:g=k:=by simpa[Value.ownBlock]using e
  rcases u with s|s
  ·exact h.apart k i (by rw[s,D])
  ·have:=(h.jL.own.lt k i).2;omega
theorem vS.T7{b w:World}{l m:Value}{f:List PV}{d:List It}{k:Nat}(h:vS b l m f d k w)(c:Nat):vS b l m f d c (w.setCell ⟨b.heap.size+2,0,none⟩ (.int .i64 c)):=by
 have i:Kept w (w.setCell ⟨b.heap.size+2,0,none⟩ (.int .i64 c)) [b.heap.size+2]:=dX _ _ _ _ _ (UY.2 rfl);refine⟨h.bf.setCell (by simp) _,h.tb.other _ _ (by simp),h.pb.other _ _ (by simp),h.cb.set 0 _,?_,ownsRow_setCell_below h.Hj (by simp) _,h.NO,h.NP,h.apart⟩
 refine h.jL.kept i (fun x g e=>?_) (fun v n a o p g=>?_)
 ·have:=aS h.jL.own x e;rw[UY]at g;omega
 ·have:=h.jL.hi v n a o p;rw[UY]at g;omega
def Rr (w:World):World:=((w.alloc (.cells #[(.slice none 0 0)] 32)).alloc (.cells #[(.slice none 0 0)] 22)).alloc (.cells #[.int .i64 0] 3)
theorem Gp(w:World):vS w (.slice none 0 0) (.slice none 0 0) [] [] 0 (Rr w):=by
 have f:=Blk.new w [(.slice none 0 0)] 32;have d:=Blk.newAt (w.alloc (.cells #[(.slice none 0 0)] 32)) (w.heap.size+1) [(.slice none 0 0)] 22 (WO ..);have c:=Blk.newAt ((w.alloc (.cells #[(.slice none 0 0)] 32)).alloc (.cells #[(.slice none 0 0)] 22)) (w.heap.size+2) [.int .i64 0] 3 (by rw[WO,WO]);exact⟨(((VE _ _).alloc (UZ _) _).alloc (by simp) _).alloc (by simp;omega) _,(f.alloc _).alloc _,d.alloc _,c,eD.nil _ _,XM _ _ _ _,fun x a=>absurd a (by simp),fun v b=>absurd b (by simp),fun k e=>by cases e⟩
theorem eD.mono{w:World}{B e:Nat}{c:Value}{b:List PV}(h:eD w B c b)(d:e<=B):eD w e c b:=
 ⟨h.own.mono d,h.iE,h.cu,fun v f a g i=>VX d (h.hi v f a g i)⟩
theorem eD.ops{w:World}{B:Nat}{f:Value}{b:List PV}(h:eD w B f b):∃a c,f=.slice a b.length c/\ae w a b.length c b:=by
 obtain⟨a,c,e,d⟩:=bg h.own;exact⟨a,c,e,d,h.iE⟩
theorem zF(ao:Option Addr)(n ar:Nat)(d:List PV)(w:World)(hO:ae w ao n ar d)(C:∀v∈d,Ac.bG v.pt=0)(a7:d.length<=100):
  Calls prog 125 #[.slice ao n ar] w fun e w'=>(∃tv us,e=.returned tv/\eD w' w.heap.size tv us/\us.map PV.pt=(Ac.ts (d.map PV.pt)).o++Ac.bL (Ac.ts (d.map PV.pt)).put (Ac.ts (d.map PV.pt)).cut)/\Below w.heap.size w w':=by
 have M:∀p∈d.map PV.pt,Ac.bG p=0:=fun p hp=>by
  obtain⟨v,hv,rfl⟩:=XI.1 hp;exact C v hv
 obtain⟨i0,hi,b5,b4,b3⟩:=info_parts Tryz.DQ;have ax:=hId hO;have HN:=hId hO.len;have bw:n<=100:=by have:=hO.len;omega
 have bo:=hId C;have au:Hd (∀k,(Ac.ts ((d.map PV.pt).take k)).o.length+2<=200/\(∀z∈(Ac.ts ((d.map PV.pt).take k)).o++Ac.bL (Ac.ts ((d.map PV.pt).take k)).put (Ac.ts ((d.map PV.pt).take k)).cut,0<=z.n/\z.n<=8000)/\(Ac.ts ((d.map PV.pt).take k)).cut<=8000/\(Ac.ts ((d.map PV.pt).take k)).put.length<=8000):=fun k=>by
  have hb:=Ac.Jr (o:=(d.map PV.pt).take k) (fun p hp=>M p (List.mem_of_mem_take hp));have h1:=Ac.FA (d.map PV.pt) k;have h2:=Ac.FF (d.map PV.pt) k;have h3:=Ac.Kz (d.map PV.pt) M;have h4:(d.map PV.pt).length<=100:=by rw[VH];exact a7
  have h5:=Ac.O0 (d.map PV.pt) M;have h6:=hb.len;have h7:=hb.sum;have h8:=hb.put;have h9:((d.map PV.pt).take k).length<=100:=by rw[List.length_take];omega
  have a4:∀z∈(Ac.ts ((d.map PV.pt).take k)).o++Ac.bL (Ac.ts ((d.map PV.pt).take k)).put (Ac.ts ((d.map PV.pt).take k)).cut,0<=z.n:=fun z P=>by
   rcases VW.1 P with P|P
   ·exact hb.pos z P
   ·exact Ac.FR P
  have b6:=Ac.Ce a4;have cb:Ac.ll ((Ac.ts ((d.map PV.pt).take k)).o++Ac.bL (Ac.ts ((d.map PV.pt).take k)).put (Ac.ts ((d.map PV.pt).take k)).cut)=Ac.nd ((d.map PV.pt).take k):=by rw[Ac.jq,Ac.td];exact h7
  have cc:=(Ac.Ce hb.pos).1;refine⟨by omega,fun z P=>⟨a4 z P,?_⟩,by omega,by omega⟩
  have:=b6.2 z P;omega
 have bx:=hO.row.room;have bz:=hO.row.fg;clear hO C a7 M;have aw:=hId ax.o;have av:=hId (Gp w);clear ax;go_enter func125,ntmps125
 go_wp2
 go_loopw [12] (fun i wr=>∃k:Nat,k<=n/\i=.int .i64 k/\∃tv pv F,vS w tv pv F (Ac.ts ((d.map PV.pt).take k)).put (Ac.ts ((d.map PV.pt).take k)).cut wr/\F.map PV.pt=(Ac.ts ((d.map PV.pt).take k)).o) (fun i _=>n-(intOf i).toNat)
 case atStart=>exact⟨0,VN _,rfl,_,_,[],av.o,rfl⟩
 case round=>
  obtain⟨k,hk,rfl,tv,pv,F,hT,ah⟩:=hrel;have U:=hId hT;have D:=hId ah;clear hT ah av;by_cases bc:k<n
  ·obtain⟨pb,po,rfl,hG⟩:=aw.o.get (by omega);have Q:k<d.length:=by rw[HN.o];exact bc
   have G:Hd (Ac.ts ((d.map PV.pt).take (k+1))=Ac.tS (Ac.ts ((d.map PV.pt).take k)) d[k].pt):=by
    have:=Ac.Mu (d.map PV.pt) k (by rw[VH];exact Q);rw[List.getElem_map]at this;exact this
   have aq:=au.o k;have C:=bo.o d[k] (WT Q);have J:=aw.o.iE d[k] (WT Q);obtain⟨c0,c1,c2,c3,c4,c5,c6⟩:=(hG k Q).same (U.o.bf.block pb (gW (hG k Q).c0));clear hG;generalize Ac.ts ((d.map PV.pt).take k)=s at*;generalize d[k]=v at*;obtain⟨Y,q,E,m,b,f,l,y,t,r⟩:=v;simp only at c0 c1 c2 c3 c4 c5 c6
   clear Q;obtain⟨T,sp,L⟩:=s;simp only at U D aq
   obtain⟨bh,am,bf,al⟩:=aq;have bb:F.length+2<=200:=by have:=VQ List.length D.o;rw[VH]at this;omega
   have ca:w.heap.size+3<=wr.heap.size:=U.o.cb.lt;by_cases h1:Y=1
   ·subst h1;have b7:0<=q/\q<=80:=Ac.mI C;have I:Ac.tS ⟨T,sp,L⟩ (PV.pt ⟨1,q,E,m,b,f,l,y,t,r⟩)=⟨Ac.iw (T++Ac.bL sp L) (PV.pt ⟨1,q,E,m,b,f,l,y,t,r⟩),[],0⟩:=rfl;rw[I]at G;have S:Hd (bV (aH ⟨1,q,E,m,b,f,l,y,t,r⟩ wr) wr.heap.size 0 ⟨1,q,E,m,b,f,l,y,t,r⟩):=dS _ wr;have H:Below wr.heap.size wr (aH ⟨1,q,E,m,b,f,l,y,t,r⟩ wr):=aK _ wr;have B:=hId (U.o.under H);have bp:Hd (∀x∈w.heap.size::(w.heap.size+1)::(w.heap.size+2)::ob tv,x≠wr.heap.size):=fun x hx e=>by
     simp only[WG]at hx
     rcases hx with h|h|h|h
     ·omega
     ·omega
     ·omega
     ·have:=(U.o.jL.own.lt x (cE h)).2;omega
    have bs:Hd (wr.heap.size<(aH ⟨1,q,E,m,b,f,l,y,t,r⟩ wr).heap.size):=by show _<_;rw[cV];omega
    have bn:=hId J;have bv:=hId am;clear H I C J am;go_upto_region 10 with fail
    change Code.wp prog _ _ _ (aH ⟨1,q,E,m,b,f,l,y,t,r⟩ wr);generalize aH ⟨1,q,E,m,b,f,l,y,t,r⟩ wr=W5 at*;clear c0 c1 c2 c3 c4 c5 c6;obtain⟨d0,d1,d2,d3,d4,d5,d6⟩:=S.o;simp only[VR]at d0 d1 d2 d3 d4 d5 d6
    go_wp2_with fail
    refine(ti w W5 tv pv F sp L B.o (by omega) (by omega) (by omega)).mono ?_
    rintro e w6⟨rfl,V,g,A,W,bd,ak⟩;have aa:=hId A;have bl:=hId (S.o.same (ak.block _ bs.o (fun hm=>bp.o _ hm rfl)));have N:Hd (g.map PV.pt=T++Ac.bL sp L):=by show _=_;rw[W,D.o]
    have ay:Hd (∀z∈g,0<=z.n/\z.n<=8000):=fun z P=>by
     have:z.pt∈T++Ac.bL sp L:=by rw[<-N.o];exact XI.2 ⟨z,P,rfl⟩
     exact bv.o z.pt this
    have t6:=ja A.tb;have bm:=hId (bn.o.below A.bf);have CW:Hd (Calls prog 151 #[V,.agg #[.int .i64 1,.int .i64 q,.slice E m b,.int .i64 l,.int .i64 y,.bool t,.string r]] w6 fun e w'=>∃ac az,e=.returned ac/\mT w6 (w.heap.size+3) V g ⟨1,q,E,m,b,f,l,y,t,r⟩ w' ac az):=xk w6 (w.heap.size+3) V g ⟨1,q,E,m,b,f,l,y,t,r⟩ A.jL A.cb.lt (by omega) bm.o (qZ rfl _) (rO rfl _) (fun z P=>⟨(ay.o z P).1,by have:=(ay.o z P).2;omega⟩) ⟨b7.1,by change q<=100000;omega⟩;obtain⟨d0,d1,d2,d3,d4,d5,d6⟩:=bl.o;simp only[VR]at d0 d1 d2 d3 d4 d5 d6
    clear A W ak;go_wp2_with fail
    refine CW.o.mono ?_
    rintro e w7⟨c9,X,rfl,hW⟩;have bk:=hId (aa.o.af hW);have b2:Hd (X.map PV.pt=Ac.iw (T++Ac.bL sp L) (PV.pt ⟨1,q,E,m,b,f,l,y,t,r⟩)):=by show _=_;rw[hW.pt,N.o]
    have a9:=hW.kept.aM aa.o.tb (fun hx=>by have:=aS aa.o.jL.own _ (cE hx);omega);have t7:=ja a9;have f7:=a9.frozen 0;obtain⟨ta,tc,a3,-⟩:=bg hW.jL.own;obtain⟨ad,a6⟩:∃ad,X.length=ad:=⟨_,rfl⟩;rw[a6]at a3;subst a3;clear hW a6 a9 d0 d1 d2 d3 d4 d5 d6 t6;go_wp2
    go_roundw
    case rel=>exact⟨k+1,by omega,by go_num,_,_,X,by rw[G.o];exact bk.o,by rw[G.o];exact b2.o⟩
    case measure=>simp[intOf];omega
   ·by_cases h2:Y=2
    ·subst h2;obtain⟨aj,ai,-⟩:=Ac.jT C rfl;change 1<=f.length at aj;change f.length<=80 at ai;have a1:f.length=m:=J.jd.len;rw[a1]at aj ai;have I:Ac.tS ⟨T,sp,L⟩ (PV.pt ⟨2,q,E,m,b,f,l,y,t,r⟩)=⟨T,sp++f,L⟩:=rfl;rw[I]at G;obtain⟨ib,io,rfl,ap⟩:=J.jd.bH (by change m≠0;omega);have S:Hd (bV (aH ⟨2,q,some ⟨ib,io,none⟩,m,b,f,l,y,t,r⟩ wr) wr.heap.size 0 ⟨2,q,some ⟨ib,io,none⟩,m,b,f,l,y,t,r⟩):=dS _ wr;have H:Below wr.heap.size wr (aH ⟨2,q,some ⟨ib,io,none⟩,m,b,f,l,y,t,r⟩ wr):=aK _ wr;have B:=hId (U.o.under H);have bt:Hd (∀j u,(aI f)[j]?=some u->(aH ⟨2,q,some ⟨ib,io,none⟩,m,b,f,l,y,t,r⟩ wr).cell? ((⟨ib,io,none⟩:Addr).add j)=some u):=lW (ap.below B.o.bf);have br:Hd ((aI f).length=m*3):=by show _=_;rw[dP,a1]
     obtain⟨ml,a0⟩:∃ml,sp.length=ml:=⟨_,rfl⟩;rw[a0]at al;have bu:Hd (Fit f):=J.jd.fit;have bq:Hd ((sp++f).length=ml+m):=by show _=_;rw[VI,a1,a0]
     have ab:Hd ((aH ⟨2,q,some ⟨ib,io,none⟩,m,b,f,l,y,t,r⟩ wr).ownsRow (w.heap.size+3) 67 3 pv ml (aI sp)):=by have:=B.o.Hj;rw[a0]at this;exact this
     obtain⟨pa,pc,ba,-⟩:=bg ab.o;have b0:w.heap.size+3<=(aH ⟨2,q,some ⟨ib,io,none⟩,m,b,f,l,y,t,r⟩ wr).heap.size:=B.o.cb.lt;clear I C J a1 ap H a0;subst ba;go_upto_region 12 with fail
     change Code.wp prog _ _ _ (aH ⟨2,q,some ⟨ib,io,none⟩,m,b,f,l,y,t,r⟩ wr);generalize aH ⟨2,q,some ⟨ib,io,none⟩,m,b,f,l,y,t,r⟩ wr=W5 at*;clear c0 c1 c2 c3 c4 c5 c6;obtain⟨d0,d1,d2,d3,d4,d5,d6⟩:=S.o;simp only[VR]at d0 d1 d2 d3 d4 d5 d6
     have p5:=ja B.o.pb;go_wp2_with (at_builtin;refine wpList_append_lies _ rfl (.tmp 27) (.tmp 29) 22 rfl (w.heap.size+3) 67 i0 (.agg #[.int .u8 0,.int .i64 0,.string ⟨#[]⟩]) 3 32 underlying22 hi b5 b4 b3 rfl (by decide) _ ml (aI sp) rfl ab.o ⟨ib,io,none⟩ m b (aI f) rfl br.o bt.o (bR _) (by omega) (by unfold maxLen;omega) (by omega) b0 _ rfl ?c7)
     case c7=>
      intro g2 c8 w8 a5 K an b1;have a8:=(gh K).aM B.o.pb (fun hx=>by have:=aS ab.o _ (cE hx);omega);have O:=hId (B.o.NL bu.o (by rw[fb];exact a5) bq.o K an);have p8:=ja a8;have f8:=a8.frozen 0;clear a5 K an b1 a8;go_wp2
      go_roundw
      case rel=>exact⟨k+1,by omega,by go_num,_,_,F,by rw[G.o];exact O.o,by rw[G.o];exact D.o⟩
      case measure=>simp[intOf];omega
    ·by_cases h3:Y=3
     ·subst h3;obtain⟨b9,b8⟩:=Ac.Ay C rfl;change 1<=q at b9;change q<=80 at b8;obtain⟨Z,rfl⟩:∃Z:Nat,q=Z:=⟨q.toNat,by omega⟩;have I:Ac.tS ⟨T,sp,L⟩ (PV.pt ⟨3,Z,E,m,b,f,l,y,t,r⟩)=⟨T,sp,L+Z⟩:=rfl;rw[I]at G;have S:Hd (bV (aH ⟨3,Z,E,m,b,f,l,y,t,r⟩ wr) wr.heap.size 0 ⟨3,Z,E,m,b,f,l,y,t,r⟩):=dS _ wr;have H:Below wr.heap.size wr (aH ⟨3,Z,E,m,b,f,l,y,t,r⟩ wr):=aK _ wr;have B:=hId (U.o.under H);have O:=hId (B.o.T7 (L+Z));clear I C J H;go_upto_region 12 with fail
      change Code.wp prog _ _ _ (aH ⟨3,Z,E,m,b,f,l,y,t,r⟩ wr);generalize aH ⟨3,Z,E,m,b,f,l,y,t,r⟩ wr=W5 at*;clear c0 c1 c2 c3 c4 c5 c6;obtain⟨d0,d1,d2,d3,d4,d5,d6⟩:=S.o;simp only[VR]at d0 d1 d2 d3 d4 d5 d6
      have k5:=ja B.o.cb;have f5:=B.o.cb.frozen 0;rw[Int.natCast_add]at O;go_wp2
      go_roundw
      case rel=>exact⟨k+1,by omega,by go_num,_,_,F,by rw[G.o];exact O.o,by rw[G.o];exact D.o⟩
      case measure=>simp[intOf];omega
     ·exact absurd (Ac.cz C) (fun h=>h.elim h1 (fun h=>h.elim h2 h3))
  ·have be:k=n:=by omega
   have hm:(d.map PV.pt).take k=d.map PV.pt:=XD (by rw[VH,HN.o];omega);rw[hm]at U D;have a2:=au.o n;rw[XD (by rw[VH,HN.o];omega)]at a2;obtain⟨s,hs⟩:∃s,Ac.ts (d.map PV.pt)=s:=⟨_,rfl⟩;have bj:=hId hs;rw[hs]at U D a2;clear hs;obtain⟨T,sp,L⟩:=s;simp only at U D a2
   obtain⟨bh,-,bf,al⟩:=a2;have bb:F.length+2<=200:=by have:=VQ List.length D.o;rw[VH]at this;omega
   clear hm;subst be;go_wp2_with fail
   refine(ti w wr tv pv F sp L U.o (by omega) (by omega) (by omega)).mono ?_
   rintro e w6⟨rfl,V,g,A,W,bd,-⟩;have bi:Hd (eD w6 w.heap.size V g):=A.jL.mono (by omega);have N:Hd (g.map PV.pt=T++Ac.bL sp L):=by show _=_;rw[W,D.o]
   have HB:=hId A.bf;have t9:=ja A.tb;obtain⟨a,c,af,-⟩:=bg A.jL.own;obtain⟨rl,ag⟩:∃rl,g.length=rl:=⟨_,rfl⟩;rw[ag]at af;clear A W ag;subst af;go_wp2
   go_ret
   exact⟨⟨_,g,rfl,bi.o,by rw[bj.o];exact N.o⟩,HB.o⟩
theorem LQ {x y:It}:Dc.alike x y=true ↔ x=y:=by
 constructor
 ·intro h;unfold Dc.alike at h;simp only[WD] at h
  obtain ⟨h1,h2,h3⟩:=h;have e1:x.c=y.c:=UInt8.toNat_inj.1 (by have:(x.c.toNat:Int)=(y.c.toNat:Int):=(by simpa using h1);omega);have e2:x.m=y.m:=by simpa using h2
  have e3:x.l=y.l:=iP (by rw[<- Lib.toList_data,<- Lib.toList_data];simpa using h3);obtain ⟨a,b,c⟩:=x;obtain ⟨a',b',c'⟩:=y;simp only at e1 e2 e3
  rw[e1,e2,e3]
 ·rintro rfl;unfold Dc.alike;simp
theorem jy:∀(l a:List It),Dc.same l a=true↔l=a
 |[],[]=>by simp[Dc.same]
 |[],_::_=>by simp[Dc.same]
 |_::_,[]=>by simp[Dc.same]
 |x::s,y::t=>by
  rw[Dc.same,WD,LQ,jy s t];simp
namespace Ac
theorem G4(p:Pt):mz p p=true:=by unfold mz;simp
theorem tm(p:Pt):gK p p=true:=by
 unfold gK;rw[(jy _ _).2 rfl,G4];simp
theorem o9:∀o:List Pt,eU o o=true
 |[]=>rfl
 |p::o=>by rw[eU,tm,o9 o];rfl
theorem xy{p q:Pt}:mz p q=true↔dt p=dt q:=by
 unfold mz;simp only[WD,beq_iff_eq]
 constructor
 ·rintro⟨d,c,b,a⟩;have e:p.link=q.link:=iP (by rw[<-Lib.toList_data,<-Lib.toList_data];exact a);unfold dt;rw[d,c,b,e]
 ·intro h;unfold dt at h;simp only[Ch.mk.injEq]at h
  obtain⟨d,c,b,a⟩:=h;exact⟨d,c,b,by rw[a]⟩
theorem jr{p q:Pt}:gK p q=true↔p=q:=by
 constructor
 ·intro h;unfold gK at h;simp only[WD,beq_iff_eq]at h
  obtain⟨d,c,b,a⟩:=h;have b:=(jy _ _).1 b;have a:=xy.1 a;unfold dt at a;simp only[Ch.mk.injEq]at a
  obtain⟨z,y,x,w,v,u,t⟩:=p;obtain⟨s,r,o,n,m,l,k⟩:=q;simp only at d c b a
  obtain⟨i,g,f,e⟩:=a;rw[d,c,b,i,g,f,e]
 ·rintro rfl;exact tm p
theorem uI{p:Pt}{c:Ch}:lM p c=true↔p.kind=1/\dt p=c:=by
 constructor
 ·exact nF
 ·rintro⟨a,rfl⟩;unfold lM dt;simp[a]
theorem jl:∀(o:List Pt)(q:Pt)(c:Ch),kJ (o++[q]) c=if lM q c then o++[{q with n:=q.n+1}]else o++[q]++[jw c 1]
 |[],q,c=>by
  show kJ [q] c=_
  rw[kJ];split<;>rfl
 |[p],q,c=>by
  show kJ (p::q::[]) c=_
  rw[kJ];have:=jl [] q c;rw[List.nil_append]at this;rw[this];split<;>rfl
 |p::a::o,q,c=>by
  show kJ (p::a::(o++[q])) c=_
  rw[kJ];have:=jl (a::o) q c;rw[VF]at this;rw[this];split<;>rfl
def qi (o:List Pt) (c:Ch):Nat->List Pt
 | 0=>o
 | k+1=>qi (kJ o c) c k
theorem mS:∀(k:Nat)(o:List Pt)(q:Pt)(c:Ch),lM q c=true->qi (o++[q]) c k=o++[{q with n:=q.n+k}]
 |0,o,q,c,_=>by simp[qi]
 |k+1,o,q,c,h=>by
  have a:lM {q with n:=q.n+1} c=true:=h;rw[qi,jl,VC h,mS k o _ c a];congr 2
  simp only
  congr 1
  omega
theorem uM(c:Ch)(n:Int):lM (jw c n) c=true:=uI.2 ⟨rfl,rfl⟩
theorem wG(c:Ch):∀(k:Nat)(a:List Pt)(r:List A),lD a [] 0 (List.replicate k (A.af c)++r)=lD (qi a c k) [] 0 r
 |0,a,r=>rfl
 |k+1,a,r=>by
  rw[WR,VF,lD,qi];have:bL ([]:List It) 0=[]:=rfl;rw[this,VY,wG c k]
theorem uK{p:Pt}(h:bG p=0)(b:p.kind=1):p.aB=[]:=by
 have a:=(jr.1 (jN h).2);unfold ez at a;rw[VC b]at a;exact(VQ Pt.aB a).trans rfl
theorem N3{p:Pt}(h:bG p=0)(a:p.kind=1):p=jw (dt p) p.n:=by
 have b:=uK h a;obtain⟨k,i,g,f,e,d,c⟩:=p;simp only at a b
 subst a b;rfl
theorem Bv{o:List Pt}{p:Pt}(h:bG p=0)(b:p.kind=1){k:Nat}(c:p.n=(k:Int)+1):qi o (dt p) (k+1)=iw o p:=by
 have d:ez p=jw (dt p) ((k:Int)+1):=by
  have:=N3 h b;unfold ez;rw[VC b];obtain⟨u,t,s,r,n,m,l⟩:=p;simp only at b c
  subst b c;rfl
 rcases List.eq_nil_or_concat o with e|⟨o',q,e⟩
 ·rw[e,qx,d,qi];have i:kJ [] (dt p)=[]++[jw (dt p) 1]:=rfl;rw[i,mS k [] _ _ (uM _ _)];show[jw (dt p) ((1:Int)+k)]=_
  rw[Int.add_comm]
 ·rw[XU]at e;rw[e,ic];by_cases a:q.kind=1/\mz q p=true
  ·rw[VC a,mS _ _ _ _ (uI.2 ⟨a.1,xy.1 a.2⟩),c];rfl
  ·have f:lM q (dt p)=false:=by
    cases g:lM q (dt p)
    ·rfl
    ·have:=uI.1 g;exact absurd ⟨this.1,xy.2 this.2⟩ a
   rw[VD a,qi,jl,VD (by rw[f];exact WB),mS k _ _ _ (uM _ _),d];show _++[jw (dt p) ((1:Int)+k)]=_
   rw[Int.add_comm]
theorem J2{p:Pt}(h:bG p=0)(s:TS)(r:List A):lD s.o s.put s.cut (bt p++r)=lD (tS s p).o (tS s p).put (tS s p).cut r:=by
 unfold tS;rcases cz h with k|k|k
 ·rw[VC k];obtain⟨_,_,d,c⟩:=kY h k;obtain⟨m,b⟩:∃m:Nat,p.n=(m:Int)+1:=⟨(p.n-1).toNat,by omega⟩;have a:bt p=List.replicate (m+1) (A.af (dt p)):=by
   unfold bt;rw[VD (by omega),VC k];congr 1
   omega
  rw[a,WR,VF,lD,wG];simp only
  rw[<-Bv h k b];rfl
 ·rw[VD (by omega),VC k];have a:bt p=p.aB.map A.put:=by unfold bt;rw[VC k]
  rw[a,zL]
 ·rw[VD (by omega),VD (by omega)];have a:bt p=List.replicate p.n.toNat A.cut:=by unfold bt;rw[VD (by omega),VD (by omega)]
  rw[a,zN]
theorem zM:∀(o:List Pt)(s:TS)(r:List A),(∀p∈o,bG p=0)->lD s.o s.put s.cut (ah o++r)=lD (o.foldl tS s).o (o.foldl tS s).put (o.foldl tS s).cut r
 |[],s,r,_=>rfl
 |p::o,s,r,h=>by
  rw[cB,VT,J2 (h p (VK ..)),List.foldl_cons];exact zM o (tS s p) r (fun q a=>h q (VP _ a))
theorem fG:∀(a b:List A),aX (a++b)=aX a+aX b
 |[],b=>by simp[aX]
 |some (.inl c)::a,b=>by rw[VF,aX,aX,fG a b];omega
 |some (.inr x)::a,b=>by rw[VF,aX,aX,fG a b]
 |none::a,b=>by rw[VF,aX,aX,fG a b];omega
theorem gw:∀(a b:List A),leave (a++b)=leave a+leave b
 |[],b=>by simp[leave]
 |some (.inl c)::a,b=>by rw[VF,leave,leave,gw a b];omega
 |some (.inr x)::a,b=>by rw[VF,leave,leave,gw a b];omega
 |none::a,b=>by rw[VF,leave,leave,gw a b]
theorem dh(c:Ch):∀n:Nat,aX (List.replicate n (A.af c))=n/\leave (List.replicate n (A.af c))=n
 |0=>⟨rfl,rfl⟩
 |n+1=>by rw[WR,aX,leave,(dh c n).1,(dh c n).2];exact⟨rfl,rfl⟩
theorem fw:∀n:Nat,aX (List.replicate n A.cut)=n/\leave (List.replicate n A.cut)=0
 |0=>⟨rfl,rfl⟩
 |n+1=>by rw[WR,aX,leave,(fw n).1,(fw n).2];exact⟨rfl,rfl⟩
theorem gp:∀l:List It,aX (l.map A.put)=0/\leave (l.map A.put)=l.length
 |[]=>⟨rfl,rfl⟩
 |x::l=>by rw[XA,aX,leave,(gp l).1,(gp l).2];exact⟨rfl,rfl⟩
theorem IA{p:Pt}(h:p.kind=1\/p.kind=2\/p.kind=3):aX (bt p)=rK p/\leave (bt p)=sZ p:=by
 unfold bt rK sZ;rcases h with k|k|k
 ·rw[VD (by omega),VC k,VD (by omega),VC k];exact dh _ _
 ·rw[VC k,VC k,VD (by omega),VC k];exact gp _
 ·rw[VD (by omega),VD (by omega),VD (by omega),VD (by omega),VD (by omega)];exact fw _
theorem ij:∀{o:List Pt},(∀p∈o,p.kind=1\/p.kind=2\/p.kind=3)->aX (ah o)=nd o/\leave (ah o)=lv o
 |[],_=>⟨rfl,rfl⟩
 |p::o,h=>by
  have b:=IA (h p (VK ..));have a:=ij (fun q c=>h q (VP _ c));rw[cB,fG,gw,kX,qI,b.1,b.2,a.1,a.2];exact⟨rfl,rfl⟩
theorem lP{o:List Pt}(h:∀p∈o,bG p=0):∀p∈o,p.kind=1\/p.kind=2\/p.kind=3:=fun p a=>cz (h p a)
def Gd (z:Pt):Prop:=(z.kind=1/\be z.set z.bm=false/\cJ z.goes z.link=false/\z.aB=[]/\1<=z.n)\/(∃ ps,z=iW ps/\ps≠[]/\∀ x ∈ ps,Dc.err x=0)\/(∃ n,z=Dt n/\0<n)
theorem OG{z:Pt}(h:Gd z):z.kind=1\/z.kind=2\/z.kind=3:=by
 rcases h with h|⟨a,rfl,_⟩|⟨n,rfl,_⟩
 ·exact .inl h.1
 ·exact .inr (.inl rfl)
 ·exact .inr (.inr rfl)
theorem jz{z:Pt}(h:Gd z)(d:rK z<=80)(l:sZ z<=80):bG z=0:=by
 have c:yU z=0->gK z (ez z)=true->bG z=0:=fun a b=>by unfold bG;rw[VC a,VC b]
 rcases h with⟨k,o,p,i,m⟩|⟨f,rfl,g,q⟩|⟨n,rfl,m⟩
 ·refine c ?_ (jr.2 ?_)
  ·unfold rK at d;rw[VD (by omega)]at d;unfold yU Af;rw[VC k,o,p];show oQ z.n=0
   unfold oQ;rw[VD (by omega)]
  ·unfold ez;rw[VC k];obtain⟨x,w,v,u,t,s,r⟩:=z;simp only at i
   subst i;rfl
 ·refine c ?_ (jr.2 rfl)
  show mH f=0
  have l:f.length<=80:=l;have:f.length≠0:=fun e=>g (VS.1 e);unfold mH;rw[VD (by omega)];exact yS q
 ·refine c ?_ (jr.2 rfl)
  show oQ (n:Int)=0
  have d:((n:Int)).toNat<=80:=d;unfold oQ;rw[VD (by omega)]
theorem OJ{p:Pt}(h:bG p=0)(a:p.kind=1):Gd p:=by
 rcases gA (jN h).1 with⟨_,d⟩|⟨c,_⟩|⟨b,_⟩
 ·obtain⟨e,c,b⟩:=yT d;exact .inl ⟨a,e,c,uK h a,(ud b).1⟩
 ·omega
 ·omega
theorem AY{c:List It}{n:Nat}(h:∀x∈c,Dc.err x=0):∀z∈bL c n,Gd z:=by
 intro z a;unfold bL at a;rcases VW.1 a with a|a
 ·split at a
  ·cases a
  ·rename_i b;rw[UY.1 a];exact .inr (.inl ⟨c,rfl,fun e=>b (by rw[e];rfl),h⟩)
 ·split at a
  ·cases a
  ·rename_i b;rw[UY.1 a];exact .inr (.inr ⟨n,rfl,Nat.pos_of_ne_zero b⟩)
theorem Kp:∀{o:List Pt}{z:Pt},z∈o->rK z<=nd o/\sZ z<=lv o
 |p::o,z,h=>by
  rw[kX,qI];rcases WG.1 h with rfl|h
  ·exact⟨by omega,by omega⟩
  ·have:=Kp h;exact⟨by omega,by omega⟩
theorem sX{d:List It}{o:List Pt}(h:dR o)(a:nd o=d.length):ap (ah o) d=some (mk d o).1:=by
 have:=O1 d o ([],0) (by simpa using a) (lP h.ok);simpa[mk]using this
def OkE (a:A):Prop:=match a with
 | some (.inl c)=>JM c/\cJ c.goes c.link=false/\True
 | some (.inr x)=>Dc.err x=0
 | none=>True
theorem Dk{x:It}(c:Dc.ends x=true\/Dc.gG x=true)(b:m4 x.m)(a:Dc.link x=true):Dc.err x=0:=by
 rw[uZ c];have:Dc.marks x=true:=by unfold Dc.marks;simp only[WD,XF];exact b
 rw[this,a];rfl
theorem nE{x:It}{c:Ch}(a:Dc.link x=true)(b:cJ c.goes c.link=false):Dc.link (change x c)=true:=by
 unfold Dc.link at a⊢;have i:Dc.ends (change x c)=Dc.ends x:=rfl;rw[i]
 cases e:Dc.ends x
 ·cases f:c.goes
  ·have d:(change x c).l=x.l:=by unfold change;rw[f];rfl
   rw[d];rw[e]at a;exact a
  ·have d:(change x c).l=c.link:=by unfold change;rw[f,e];rfl
   rw[d];unfold cJ at b;rw[f]at b
   cases h:c.link.toList.isEmpty
   ·rw[h]at b
    cases g:Lk.may c.link.data.toList
    ·rw[g]at b;cases b
    ·rfl
   ·rfl
 ·have d:(change x c).l=x.l:=by unfold change;rw[e];simp
  rw[d];rw[e]at a;exact a
theorem yh:∀(l:List A)(d p:List It),(∀a∈l,OkE a)->(∀x∈d,Dc.err x=0)->ap l d=some p->∀x∈p,Dc.err x=0
 |[],d,p,_,_,h=>by rw[(br h).2];intro x g;simp at g
 |some (.inr x)::r,d,p,e,f,h=>by
  obtain⟨n,rfl,k⟩:=cw h;have o:=yh r d n (fun a i=>e a (VP _ i)) f k;intro y b;rcases WG.1 b with rfl|b
  ·exact e _ (VK ..)
  ·exact o y b
 |some (.inl c)::r,d,p,e,f,h=>by
  obtain⟨z,q,n,rfl,rfl,k⟩:=cK h;have o:=yh r q n (fun a i=>e a (VP _ i)) (fun x g=>f x (VP _ g)) k;have t:=e _ (VK ..);obtain⟨m,s,-⟩:=t;obtain⟨v,u,e3⟩:=jj (f z (VK ..));intro y b;rcases WG.1 b with rfl|b
  ·exact Dk v (yK u m.bm m.set) (nE e3 s)
  ·exact o y b
 |none::r,d,p,e,f,h=>by
  obtain⟨z,q,rfl,k⟩:=dy h;exact yh r q p (fun a i=>e a (VP _ i)) (fun x g=>f x (VP _ g)) k
theorem tD:∀(l:List A)(c:Ch)(d p:List It),ap (l++[A.af c]) d=some p->∃f x b,d=f++[x]/\p=b++[change x c]
 |[],c,d,p,h=>by
  obtain⟨z,f,b,rfl,rfl,a⟩:=cK h;obtain⟨rfl,rfl⟩:=br a;exact⟨[],z,[],rfl,rfl⟩
 |some (.inr x)::r,c,d,p,h=>by
  obtain⟨b,rfl,a⟩:=cw h;obtain⟨i,y,g,rfl,rfl⟩:=tD r c d b a;exact⟨i,y,x::g,rfl,rfl⟩
 |some (.inl e)::r,c,d,p,h=>by
  obtain⟨z,f,b,rfl,rfl,a⟩:=cK h;obtain⟨i,y,g,rfl,rfl⟩:=tD r c f b a;exact⟨z::i,y,change z e::g,rfl,rfl⟩
 |none::r,c,d,p,h=>by
  obtain⟨z,f,rfl,a⟩:=dy h;obtain⟨i,y,g,rfl,rfl⟩:=tD r c f p a;exact⟨z::i,y,g,rfl,rfl⟩
theorem Fx{o:List Pt}(h:∀p∈o,bG p=0):∀a∈ah o,OkE a:=by
 intro a b;obtain⟨p,f,b⟩:=List.mem_flatMap.1 b;have c:=h p f;unfold bt at b;rcases cz c with k|k|k
 ·rw[VD (by omega),VC k]at b;rw[(List.mem_replicate.1 b).2];obtain⟨i,d,_,_⟩:=kY c k;rcases gA (jN c).1 with⟨_,g⟩|⟨d,_⟩|⟨l,_⟩
  ·exact⟨⟨i,d⟩,(yT g).2.1,trivial⟩
  ·omega
  ·omega
 ·rw[VC k]at b;obtain⟨x,e,rfl⟩:=XI.1 b;exact j7 (jT c k).2.2 x e
 ·rw[VD (by omega),VD (by omega)]at b;rw[(List.mem_replicate.1 b).2];trivial
theorem MA{l:List It}(g:l.length<=80)(d:Dc.jF l=0){a:List It}{x:It}(e:l=a++[x])(b:Dc.ends x=true):Dc.check l=0:=by
 have c:a.length<l.length:=by rw[e];simp
 rw[Dc.pM (by omega) d c (by rw[e];simp)];have f:l[a.length]=x:=by simp[e]
 rw[f,b];rfl
theorem qH{d:List It}{o:List Pt}(v:Dc.check d=0)(h:dR o)(s:nd o=d.length)(D:lv o<=80):
  Dc.check (mk d o).1=0/\(mk d o).1.length=lv o/\∃f x c y,d=f++[x]/\(mk d o).1=c++[y]/\x.c=y.c:=by
 have k:=sX h s;have b:(mk d o).1.length=lv o:=by
  have:=DE d o ([],0) (by simp;omega);simpa[mk]using this
 obtain⟨C,u,E,x0,z,i⟩:=oA v;obtain⟨o',p,e,l⟩:=h.last;have r:=h.ok p (by rw[e];simp);obtain⟨_,_,B,_⟩:=kY r l;obtain⟨m,t⟩:∃m:Nat,p.n.toNat=m+1:=⟨p.n.toNat-1,by omega⟩;have w:ah o=(ah o'++List.replicate m (A.af (dt p)))++[A.af (dt p)]:=by
  rw[e,ct,cB,fK,VY,VT];congr 1
  unfold bt;rw[VD (by omega),VC l,t,List.replicate_succ']
 have a:=k;rw[w]at a;obtain⟨f,x,c,q,n⟩:=tD _ _ _ _ a;have g:x=x0:=by
  have:=q.symm.trans z;have:=List.append_inj' this rfl;simpa using this.2
 refine⟨MA (by omega) (yS (yh _ _ _ (Fx h.ok) (j7 u) k)) n (by rw[Ak,g];exact i),b,f,x,c,_,q,n,rfl⟩
end Ac
theorem jk(k f:Option Addr)(n d i b:Nat)(l:List It)(g:List PV)(w:World)(p:cy w k n d l)(o:ae w f i b g)(m:df w):
  Calls prog 40 #[.slice k n d,.slice f i b] w fun e w'=>(∃a c,e=.returned (.tuple #[.slice a (Ac.done l (g.map PV.pt)).length c,.int .i64 (Ac.ag l (g.map PV.pt))])/\cy w' a (Ac.done l (g.map PV.pt)).length c (Ac.done l (g.map PV.pt)))/\Below w.heap.size w w':=by
 unfold Ac.done;by_cases h:Ac.ag l (g.map PV.pt)=0
 ·rw[VC h,h];exact MS k f n d i b l g w p o m h
 ·rw[VD h];refine(xW k f n d i b l g w p o m h).mono ?_
  rintro e w'⟨q,r⟩;exact⟨⟨none,0,q,cf w'⟩,r⟩
theorem jU(w:World):ae w none 0 0 []:=⟨Row.nil w 7,fun v a=>absurd a (by simp)⟩
theorem Ac.Pc{o:List Ac.Pt}(h:∀p∈o,Ac.bG p=0):(Ac.ts o).o++Ac.bL (Ac.ts o).put (Ac.ts o).cut=Ac.tidy o:=by
 have:=Ac.zM o ⟨[],[],0⟩ [] h;rw[VY]at this;unfold Ac.tidy;rw[show Ac.lD [] [] 0 (Ac.ah o)=_ from this];rfl
theorem rM(g:Option Addr)(n a:Nat)(b:List PV)(w:World)(l:ae w g n a b)(c:∀v∈b,Ac.bG v.pt=0)(d:b.length<=100):
  Calls prog 125 #[.slice g n a] w fun e w'=>(∃h us,e=.returned h/\eD w' w.heap.size h us/\us.map PV.pt=Ac.tidy (b.map PV.pt))/\Below w.heap.size w w':=by
 have f:∀p∈b.map PV.pt,Ac.bG p=0:=fun p k=>by
  obtain⟨v,i,rfl⟩:=XI.1 k;exact c v i
 have:=zF g n a b w l c d;rw[Ac.Pc f]at this;exact this
namespace Ac
def lg (p:Pt):Nat:=if p.kind=2 then p.aB.length else p.n.toNat
theorem oH(p:Pt):(bt p).length=lg p:=by
 unfold bt lg;split<;>simp
def piece (p:Pt) (g n:Nat):Pt:=if p.kind=2 then { p with aB:=(p.aB.drop g).take n } else { p with n:=n }
theorem bp(p:Pt)(g n:Nat):(piece p g n).kind=p.kind:=by unfold piece;split<;>rfl
theorem rI{p:Pt}(k:p.kind=2)(g n:Nat):piece p g n={p with aB:=(p.aB.drop g).take n}:=VC k
theorem nl{p:Pt}(k:¬p.kind=2)(g n:Nat):piece p g n={p with n:=n}:=VD k
theorem BY(p:Pt)(g n:Nat)(h:g+n<=lg p):bt (piece p g n)=((bt p).drop g).take n:=by
 by_cases k:p.kind=2
 ·rw[rI k];unfold bt;simp only[VC k]
  rw[List.map_take,List.map_drop]
 ·rw[nl k];unfold lg at h;rw[VD k]at h;unfold bt;simp only[VD k]
  rw[List.drop_replicate,List.take_replicate];congr 1
  omega
theorem qV{p:Pt}(h:bG p=0):Gd p:=by
 have a:=jr.1 (jN h).2;rcases cz h with k|k|k
 ·exact OJ h k
 ·have e:p=iW p.aB:=by
   unfold ez at a;rw[VD (by omega),VC k]at a;rw[k]at a;exact a
  obtain⟨b,d,c⟩:=jT h k;exact .inr (.inl ⟨p.aB,e,fun e=>by rw[e]at b;simp at b,j7 c⟩)
 ·obtain⟨b,d⟩:=Ay h k;have e:p=Dt p.n.toNat:=by
   unfold ez at a;rw[VD (by omega),VD (by omega)]at a;rw[k]at a;rw[a];show(⟨3,p.n,[],0,0,false,⟨#[]⟩⟩:Pt)=⟨3,((p.n.toNat:Nat):Int),[],0,0,false,⟨#[]⟩⟩
   rw[show((p.n.toNat:Nat):Int)=p.n by omega]
  exact .inr (.inr ⟨p.n.toNat,e,by omega⟩)
theorem nG{p:Pt}(h:bG p=0):1<=lg p/\lg p<=80:=by
 unfold lg;rcases cz h with k|k|k
 ·obtain⟨_,_,b,a⟩:=kY h k;rw[VD (by omega)];omega
 ·obtain⟨b,a,_⟩:=jT h k;rw[VC k];omega
 ·obtain⟨b,a⟩:=Ay h k;rw[VD (by omega)];omega
theorem fM{p:Pt}(h:bG p=0){g n:Nat}(w:1<=n)(i:g+n<=lg p):bG (piece p g n)=0:=by
 have l:=nG h;unfold lg at i l;by_cases k:p.kind=2
 ·rw[VC k]at i l;have f:((p.aB.drop g).take n).length=n:=by simp;omega
  rcases qV h with⟨q,_⟩|⟨v,e,o,s⟩|⟨m,e,_⟩
  ·omega
  ·rw[rI k];refine jz (.inr (.inl ⟨(p.aB.drop g).take n,by rw[e];rfl,fun e=>by rw[e]at f;simp at f;omega,fun x r=>s x ?_⟩)) ?_ ?_
   ·rw[e]at r;exact List.mem_of_mem_drop (List.mem_of_mem_take r)
   ·unfold rK;simp only[VC k];omega
   ·unfold sZ;simp only[VC k];rw[VD (by omega)];omega
  ·rw[e]at k;cases k
 ·rw[VD k]at i l;have u:rK {p with n:=(n:Int)}<=80:=by unfold rK;simp only[VD k];omega
  have t:sZ {p with n:=(n:Int)}<=80:=by
   unfold sZ;simp only[VD k]
   split<;>omega
  rw[nl k];rcases qV h with⟨q,a,b,c,d⟩|⟨v,e,o,s⟩|⟨m,e,_⟩
  ·exact jz (.inl ⟨q,a,b,c,by simp only;omega⟩) u t
  ·rw[e]at k;exact absurd rfl k
  ·refine jz (.inr (.inr ⟨n,by rw[e];rfl,by omega⟩)) u t
theorem II{c:Ch}{n:Nat}(e:1<=n)(d:n<=80)(a:be c.set c.bm=false)(b:cJ c.goes c.link=false):bG (jw c n)=0:=
 jz (.inl ⟨rfl,a,b,rfl,by show(1:Int)<=n;omega⟩) (by show((n:Int)).toNat<=80;omega) (by show((n:Int)).toNat<=80;omega)
theorem E7{n:Nat}(b:1<=n)(a:n<=80):bG (jw wg n)=0:=II b a (by decide+kernel) (by decide+kernel)
def ra (ps:List Pt) (g:Nat):List A:=(ah ps).drop g
structure Rv (ps:List Pt) (g:Nat):Prop where
 ok:∀ p ∈ ps,bG p=0
 lt:∀ p t,ps=p :: t->g<lg p
 nil:ps=[]->g=0
 last:ps≠[]->∃ o' p,ps=o'++[p]/\p.kind=1
theorem dR.rv{o:List Pt}(h:dR o):Rv o 0:=
 ⟨h.ok,fun p t e=>(nG (h.ok p (by rw[e];exact VK ..))).1,fun _=>rfl,fun _=>h.last⟩
def lK (p:Pt) (t:List Pt) (g n:Nat):List Pt:=if g+n=lg p then t else p :: t
def oO (p:Pt) (g n:Nat):Nat:=if g+n=lg p then 0 else g+n
theorem Pv(p:Pt)(t:List Pt)(g n:Nat):ra (lK p t g n) (oO p g n)=(ah (p::t)).drop (g+n):=by
 unfold ra lK oO;by_cases h:g+n=lg p
 ·rw[VC h,VC h,XW,cB,h,<-oH,List.drop_left]
 ·rw[VD h,VD h]
theorem gM(p:Pt)(t:List Pt)(g n:Nat)(h:g+n<=lg p):ra (p::t) g=bt (piece p g n)++ra (lK p t g n) (oO p g n):=by
 rw[Pv,BY p g n h];have e:((bt p).drop g).take n=((ah (p::t)).drop g).take n:=by
  rw[cB,List.drop_append_of_le_length (by rw[oH];omega),List.take_append_of_le_length (by rw[XG,oH];omega)]
 rw[e,<-List.drop_drop,List.take_append_drop];rfl
theorem Rv.Oz{p:Pt}{t:List Pt}{g n:Nat}(h:Rv (p::t) g)(i:g+n<=lg p):Rv (lK p t g n) (oO p g n):=by
 unfold lK oO;by_cases e:g+n=lg p
 ·rw[VC e,VC e];refine⟨fun q c=>h.ok q (VP _ c),fun q u a=>(nG (h.ok q (by rw[a];simp))).1,fun _=>rfl,fun d=>?_⟩
  obtain⟨o',q,b,c⟩:=h.last (by simp);rcases o' with _|⟨r,o'⟩
  ·simp at b
   exact absurd b.2 d
  ·simp at b
   exact⟨o',q,b.2,c⟩
 ·rw[VD e,VD e];refine⟨h.ok,fun q u a=>?_,fun f=>(by cases f),fun _=>h.last (by simp)⟩
  simp at a
  rw[<-a.1];omega
theorem zx(p:Pt)(t:List Pt)(g n:Nat):(lK p t g n).length<=t.length+1:=by
 unfold lK;split<;>simp
theorem dw{p:Pt}{t:List Pt}{g n:Nat}(h:g+n=lg p):lK p t g n=t:=VC h
theorem fF{p:Pt}{g n:Nat}(h:g+n=lg p):oO p g n=0:=VC h
theorem Rv.some{a:List Pt}{g:Nat}(h:Rv a g)(c:a≠[]):1<=aX (ra a g)/\1<=leave (ra a g):=by
 obtain⟨o',q,e,d⟩:=h.last c;have b:=h.ok q (by rw[e];simp);have n:=nG b;have l:lg q=q.n.toNat:=VD (by omega);obtain⟨m,f⟩:∃m,q.n.toNat=m+1:=⟨q.n.toNat-1,by omega⟩;have k:ah a=(ah o'++List.replicate m (A.af (dt q)))++[A.af (dt q)]:=by
  rw[e,ct,cB,fK,VY,VT];congr 1
  unfold bt;rw[VD (by omega),VC d,f,List.replicate_succ']
 have i:g<=(ah o'++List.replicate m (A.af (dt q))).length:=by
  rw[VI,List.length_replicate];rcases o' with _|⟨r,o'⟩
  ·have:=h.lt q [] (by rw[e];rfl);rw[fK,List.length_nil];omega
  ·have:=h.lt r (o'++[q]) (by rw[e];rfl);rw[cB,VI,oH];omega
 unfold ra;rw[k,List.drop_append_of_le_length i,fG,gw];exact⟨Nat.le_add_left _ _,Nat.le_add_left _ _⟩
theorem vz(b:List A):∀(xs:List It)(a:List A),bF (xs.map A.put++a) b=(xs.map A.put++(bF a b).1,List.replicate xs.length (A.af wg)++(bF a b).2)
 |[],a=>rfl
 |x::xs,a=>by
  rw[XA,VF,mn,vz b xs a];rfl
theorem rh(a:List A)(b:List A)(h:(∃c e,a=A.af c::e)\/∃e,a=A.cut::e):∀d:List It,bF a (d.map A.put++b)=(List.replicate d.length (A.af wg)++(bF a b).1,d.map A.put++(bF a b).2)
 |[]=>rfl
 |y::d=>by
  have f:=rh a b h d;rcases h with⟨c,e,rfl⟩|⟨e,rfl⟩
  ·rw[XA,VF,nX,f];rfl
  ·rw[XA,VF,pX,f];rfl
theorem yz(c d:Ch)(a b:List A):∀n:Nat,bF (List.replicate n (A.af c)++a) (List.replicate n (A.af d)++b)=(List.replicate n (A.af c)++(bF a b).1,List.replicate n (A.af (behind d c))++(bF a b).2)
 |0=>rfl
 |n+1=>by
  rw[WR,VF,WR,VF,pV,yz c d a b n];rfl
theorem y8(d:Ch)(a b:List A):∀n:Nat,bF (List.replicate n A.cut++a) (List.replicate n (A.af d)++b)=(List.replicate n A.cut++(bF a b).1,(bF a b).2)
 |0=>rfl
 |n+1=>by
  rw[WR,VF,WR,VF,pY,y8 d a b n];rfl
theorem y7(c:Ch)(a b:List A):∀n:Nat,bF (List.replicate n (A.af c)++a) (List.replicate n A.cut++b)=((bF a b).1,List.replicate n A.cut++(bF a b).2)
 |0=>rfl
 |n+1=>by
  rw[WR,VF,WR,VF,pW,y7 c a b n];rfl
theorem y9(a b:List A):∀n:Nat,bF (List.replicate n A.cut++a) (List.replicate n A.cut++b)=bF a b
 |0=>rfl
 |n+1=>by rw[WR,VF,VF,pZ,y9 a b n]
theorem wv(a b:List A):∀n:Nat,join (List.replicate n A.cut++a) b=List.replicate n A.cut++join a b
 |0=>rfl
 |n+1=>by rw[WR,VF,nI,wv a b n];rfl
theorem rs(a b:List A)(h:∀d,a≠.cut::d):∀c:List It,join a (c.map A.put++b)=c.map A.put++join a b
 |[]=>rfl
 |y::c=>by rw[XA,VF,nH a _ y h,rs a b h c];rfl
theorem AS(c d:Ch)(a b:List A):∀n:Nat,join (List.replicate n (A.af c)++a) (List.replicate n (A.af d)++b)=List.replicate n (A.af (iH c d))++join a b
 |0=>rfl
 |n+1=>by rw[WR,VF,WR,VF,qO,AS c d a b n];rfl
theorem AT(c:Ch)(a b:List A):∀n:Nat,join (List.replicate n (A.af c)++a) (List.replicate n A.cut++b)=List.replicate n A.cut++join a b
 |0=>rfl
 |n+1=>by rw[WR,VF,WR,VF,qP,AT c a b n];rfl
theorem AQ(d:Ch)(a b:List A):∀xs:List It,join (xs.map A.put++a) (List.replicate xs.length (A.af d)++b)=(xs.map fun x=>change x d).map A.put++join a b
 |[]=>rfl
 |x::xs=>by rw[XA,VF,VG,WR,VF,qM,AQ d a b xs];rfl
theorem AR(a b:List A):∀xs:List It,join (xs.map A.put++a) (List.replicate xs.length A.cut++b)=join a b
 |[]=>rfl
 |x::xs=>by rw[XA,VF,VG,WR,VF,qN,AR a b xs]
end Ac
namespace Ac
def qv (p f:Pt):Pt:={ p with set:=less p.set (both f.set f.bm),bm:=less p.bm (both f.set f.bm),goes:=p.goes&&!f.goes,link:=if f.goes then ⟨#[]⟩ else p.link }
theorem JX(p f:Pt):dt (qv p f)=behind (dt p) (dt f):=rfl
def Hr (f p:Pt):Pt:={ f with set:=both (less f.set p.bm) p.set,bm:=both (less f.bm p.set) p.bm,goes:=f.goes || p.goes,link:=if p.goes then p.link else f.link }
theorem QA(f p:Pt):dt (Hr f p)=iH (dt f) (dt p):=rfl
theorem fY{s c:Int}(h:be s c=false):m4 s/\m4 c/\s.toNat&&& c.toNat=0:=by
 unfold be rX at h;simp only[Bool.or_eq_false_iff,Bool.not_eq_false',WD,XF,bne_eq_false_iff_eq]at h
 exact⟨h.1,h.2.1,h.2.2⟩
theorem zv{s c:Int}(d:m4 s)(b:m4 c)(a:s.toNat&&& c.toNat=0):be s c=false:=by
 unfold be rX;simp only[Bool.or_eq_false_iff,Bool.not_eq_false',WD,XF,bne_eq_false_iff_eq]
 exact⟨d,b,a⟩
theorem rf{s c a b:Int}(h:be s c=false)(o:be a b=false):be (less s (both a b)) (less c (both a b))=false:=by
 obtain⟨i,g,p⟩:=fY h;obtain⟨e,d,_⟩:=fY o;refine zv (mD i (oG e d)) (mD g (oG e d)) ?_
 obtain⟨x,l,rfl⟩:=cG i;obtain⟨y,k,rfl⟩:=cG g;obtain⟨u,n,rfl⟩:=cG e;obtain⟨v,m,rfl⟩:=cG d;have f:∀x<4,∀y<4,∀u<4,∀v<4,x&&& y=0->(x-(x&&& (u|||v)))&&& (y-(y&&& (u|||v)))=0:=by decide+kernel
 exact f x l y k u n v m p
theorem we{s c a b:Int}(h:be s c=false)(o:be a b=false):be (both (less s b) a) (both (less c a) b)=false:=by
 obtain⟨i,g,q⟩:=fY h;obtain⟨e,d,p⟩:=fY o;refine zv (oG (mD i d) e) (oG (mD g e) d) ?_
 obtain⟨x,l,rfl⟩:=cG i;obtain⟨y,k,rfl⟩:=cG g;obtain⟨u,n,rfl⟩:=cG e;obtain⟨v,m,rfl⟩:=cG d;have f:∀x<4,∀y<4,∀u<4,∀v<4,(x&&& y=0/\u&&& v=0)->((x-(x&&& v))|||u)&&& ((y-(y&&& u))|||v)=0:=by decide+kernel
 exact f x l y k u n v m ⟨q,p⟩
theorem rr(g:Bool):cJ g ⟨#[]⟩=false:=by cases g<;>decide+kernel
theorem AP{p:Pt}(h:bG p=0)(k:p.kind=1){q:Pt}(a:q.kind=1)(b:q.n=p.n)(e:q.aB=[])(c:be q.set q.bm=false)(d:cJ q.goes q.link=false):bG q=0:=by
 obtain⟨_,_,g,f⟩:=kY h k;refine jz (.inl ⟨a,c,d,e,by omega⟩) ?_ ?_
 ·unfold rK;rw[VD (by omega),b];omega
 ·unfold sZ;rw[VC a,b];omega
theorem F4{p f:Pt}(h:bG p=0)(k:p.kind=1)(i:bG f=0)(a:f.kind=1):bG (qv p f)=0:=by
 rcases qV h with⟨_,c,d,g,_⟩|⟨b,e,_⟩|⟨m,e,_⟩
 ·rcases qV i with⟨_,l,n,_,_⟩|⟨b,e,_⟩|⟨m,e,_⟩
  ·refine AP h k (q:=qv p f) k rfl g (rf c l) ?_
   show cJ (p.goes&&!f.goes) (if f.goes then⟨#[]⟩else p.link)=false
   cases f.goes
   ·rw[Bool.not_false,Bool.and_true];exact d
   ·exact rr _
  ·rw[e]at a;cases a
  ·rw[e]at a;cases a
 ·rw[e]at k;cases k
 ·rw[e]at k;cases k
theorem NV{f p:Pt}(c:bG f=0)(a:f.kind=1)(h:bG p=0)(k:p.kind=1):bG (Hr f p)=0:=by
 rcases qV h with⟨_,g,b,_,_⟩|⟨d,e,_⟩|⟨m,e,_⟩
 ·rcases qV c with⟨_,l,n,o,_⟩|⟨d,e,_⟩|⟨m,e,_⟩
  ·refine AP c a (q:=Hr f p) a rfl o (we l g) ?_
   show cJ (f.goes||p.goes) (if p.goes then p.link else f.link)=false
   cases i:p.goes
   ·rw[Bool.or_false];exact n
   ·rw[i]at b;rw[Bool.or_true];exact b
  ·rw[e]at a;cases a
  ·rw[e]at a;cases a
 ·rw[e]at k;cases k
 ·rw[e]at k;cases k
theorem A9{p q:Pt}(h:bG p=0)(k:p.kind=2)(c:bG q=0)(f:q.kind=1):bG (iW (p.aB.map fun x=>change x (dt q)))=0:=by
 obtain⟨d,t,s⟩:=jT h k;have r:=Fx (o:=[q]) (fun z g=>by rw[UY.1 g];exact c) (A.af (dt q)) (by
  have B:=nG c;have w:lg q=q.n.toNat:=VD (by omega);obtain⟨m,n⟩:∃m,q.n.toNat=m+1:=⟨q.n.toNat-1,by omega⟩;rw[cB,fK,VY];unfold bt;rw[VD (by omega),VC f,n];exact VK ..)
 obtain⟨a,b,-⟩:=r;refine jz (.inr (.inl ⟨_,rfl,fun e=>?_,fun x l=>?_⟩)) (VN _) ?_
 ·have:=VQ List.length e;rw[VH]at this;simp at this
  rw[this]at d;simp at d
 ·obtain⟨y,i,rfl⟩:=XI.1 l;obtain⟨v,u,e3⟩:=jj (j7 s y i);exact Dk v (yK u a.bm a.set) (nE e3 b)
 ·show(p.aB.map fun x=>change x (dt q)).length<=80
  rw[VH];exact t
theorem dJ{p:Pt}(k:p.kind=1){n:Nat}(a:p.n=n):bt p=List.replicate n (A.af (dt p)):=by unfold bt;rw[VD (by omega),VC k,a];rfl
theorem dk{p:Pt}(k:p.kind=3){n:Nat}(a:p.n=n):bt p=List.replicate n A.cut:=by unfold bt;rw[VD (by omega),VD (by omega),a];rfl
theorem gX{p:Pt}(k:p.kind=2):bt p=p.aB.map A.put:=by unfold bt;rw[VC k]
theorem l7{p:Pt}(k:¬p.kind=2)(g n:Nat):(piece p g n).n=n:=by rw[nl k]
theorem dz(p:Pt):ah [p]=bt p:=by rw[cB,fK,VY]
theorem fv{x:List Pt}{p:Pt}(h:∀z∈x,bG z=0)(b:bG p=0):∀z∈x++[p],bG z=0:=fun z a=>by
 rcases VW.1 a with a|a
 ·exact h z a
 ·rw[UY.1 a];exact b
def EK (p q:Pt):List Pt:=if q.kind=1 then [p] else []
def EJ (p q:Pt):List Pt:=if p.kind=1 then (if q.kind=1 then [qv q p] else [q]) else []
structure eE (a b ps:List Pt) (g:Nat) (qs:List Pt) (h:Nat) (x y:List Pt):Prop where
 rp:Rv ps g
 rq:Rv qs h
 eq:bF (ah a) (ah b)=(ah x++(bF (ra ps g) (ra qs h)).1,ah y++(bF (ra ps g) (ra qs h)).2)
 aX:aX (ra ps g)=aX (ra qs h)
 DB:∀ p ∈ x,bG p=0
 QB:∀ p ∈ y,bG p=0
 lx:x.length+ps.length+qs.length<=a.length+b.length
 ly:y.length+ps.length+qs.length<=a.length+b.length
theorem eE.start{a b:List Pt}(e:dR a)(d:dR b)(f:nd a=nd b):eE a b a 0 b 0 [] []:=by
 refine⟨e.rv,d.rv,?_,?_,fun p c=>absurd c (by simp),fun p c=>absurd c (by simp),by simp,by simp⟩
 ·unfold ra;rw[XW,XW,fK,List.nil_append,List.nil_append]
 ·unfold ra;rw[XW,XW,(ij (lP e.ok)).1,(ij (lP d.ok)).1,f]
theorem eE.left{a b i:List Pt}{g:Nat}{f:List Pt}{h:Nat}{x y:List Pt}(I:eE a b i g f h x y):i=[]↔f=[]:=by
 constructor
 ·intro e
  cases k:f with
  |nil=>rfl
  |cons q u=>
   have d:=(I.rq.some (by rw[k];simp)).1;have c:=I.aX;rw[e,I.rp.nil e]at c;rw[<-c]at d;exact absurd d (by decide)
 ·intro e
  cases k:i with
  |nil=>rfl
  |cons q u=>
   have d:=(I.rp.some (by rw[k];simp)).1;have c:=I.aX;rw[e,I.rq.nil e]at c;rw[c]at d;exact absurd d (by decide)
theorem eE.done{a b:List Pt}{g:Nat}{d:List Pt}{h:Nat}{x y:List Pt}(I:eE a b [] g d h x y):bF (ah a) (ah b)=(ah x,ah y):=by
 have e:=I.left.1 rfl;have c:=I.eq;subst e;rw[I.rp.nil rfl,I.rq.nil rfl]at c;rw[c];show(ah x++[],ah y++[])=_
 rw[VY,VY]
theorem kS{p:Pt}(k:p.kind=2){g n:Nat}(h:g+n<=lg p):(piece p g n).aB.length=n:=by
 unfold lg at h;rw[VC k]at h;rw[rI k];simp
 omega
theorem eE.Tp{a b:List Pt}{p:Pt}{t:List Pt}{g:Nat}{m:List Pt}{h:Nat}{x y:List Pt}(I:eE a b (p::t) g m h x y)(k:p.kind=2):
  eE a b t 0 m h (x++[piece p g (lg p-g)]) (y++[jw wg ((lg p-g:Nat):Int)]):=by
 have u:=I.rp.lt p t rfl;have d:=I.rp.ok p (VK ..);have v:=nG d;have c:g+(lg p-g)<=lg p:=by omega
 have f:g+(lg p-g)=lg p:=by omega
 have i:=gM p t g (lg p-g) c;have e:(piece p g (lg p-g)).kind=2:=(bp ..).trans k;rw[dw f,fF f,gX e]at i;have q:=I.eq;have o:=I.aX;have l:=kS k c;rw[i,vz,l]at q;rw[i,fG,(gp _).1,VR]at o;have n:=I.rp.Oz c;rw[dw f,fF f]at n;have s:=I.lx;have r:=I.ly;rw[VG]at s r;refine⟨n,I.rq,?_,o,fv I.DB (fM d (by omega) c),fv I.QB (E7 (by omega) (by omega)),by simp;omega,by simp;omega⟩
 rw[q,ct,ct,dz,dz,gX e,vE,Int.toNat_natCast,VT,VT]
theorem NK{p:Pt}{t:List Pt}{g:Nat}(h:Rv (p::t) g)(k:¬p.kind=2):(∃c b,ra (p::t) g=A.af c::b)\/∃b,ra (p::t) g=A.cut::b:=by
 have f:=h.lt p t rfl;have e:=gM p t g 1 (by omega);rw[e];have d:=l7 k g 1;rcases cz (h.ok p (VK ..))with a|a|a
 ·rw[dJ ((bp ..).trans a) d];exact .inl ⟨_,_,rfl⟩
 ·exact absurd a k
 ·rw[dk ((bp ..).trans a) d];exact .inr ⟨_,rfl⟩
theorem eE.Pz{a b:List Pt}{p:Pt}{t:List Pt}{g:Nat}{q:Pt}{u:List Pt}{h:Nat}{x y:List Pt}(I:eE a b (p::t) g (q::u) h x y)(k:¬p.kind=2)(m:q.kind=2):
  eE a b (p::t) g u 0 (x++[jw wg ((lg q-h:Nat):Int)]) (y++[piece q h (lg q-h)]):=by
 have w:=I.rq.lt q u rfl;have d:=I.rq.ok q (VK ..);have z:=nG d;have c:h+(lg q-h)<=lg q:=by omega
 have f:h+(lg q-h)=lg q:=by omega
 have i:=gM q u h (lg q-h) c;have e:(piece q h (lg q-h)).kind=2:=(bp ..).trans m;rw[dw f,fF f,gX e]at i;have r:=I.eq;have o:=I.aX;have l:=kS m c;rw[i,rh _ _ (NK I.rp k),l]at r;rw[i,fG,(gp _).1,VR]at o;have n:=I.rq.Oz c;rw[dw f,fF f]at n;have v:=I.lx;have s:=I.ly;simp only[VG]at v s
 refine⟨I.rp,n,?_,o,fv I.DB (E7 (by omega) (by omega)),fv I.QB (fM d (by omega) c),by simp;omega,by simp;omega⟩
 rw[r,ct,ct,dz,dz,gX e,vE,Int.toNat_natCast,VT,VT]
theorem qB{p q:Pt}{t u:List Pt}{g h n:Nat}(e:g+n=lg p\/h+n=lg q):(lK p t g n).length+(lK q u h n).length<=t.length+u.length+1:=by
 have b:=zx p t g n;have a:=zx q u h n;rcases e with e|e
 ·rw[dw e]at b⊢;omega
 ·rw[dw e]at a⊢;omega
theorem eE.both{a b:List Pt}{p:Pt}{t:List Pt}{g:Nat}{q:Pt}{u:List Pt}{h:Nat}{x y:List Pt}(I:eE a b (p::t) g (q::u) h x y)(k:¬p.kind=2)(H:¬q.kind=2){n:Nat}(T:n=min (lg p-g) (lg q-h)):
  eE a b (lK p t g n) (oO p g n) (lK q u h n) (oO q h n) (x++EK (piece p g n) (piece q h n)) (y++EJ (piece p g n) (piece q h n)):=by
 have V:=I.rp.lt p t rfl;have U:=I.rq.lt q u rfl;have L:=I.rp.ok p (VK ..);have K:=I.rq.ok q (VK ..);have z:g+n<=lg p:=by omega
 have w:h+n<=lg q:=by omega
 have S:g+n=lg p\/h+n=lg q:=by omega
 have D:1<=n:=by omega
 have G:=fM L D z;have J:=fM K D w;have C:=gM p t g n z;have B:=gM q u h n w;have o:=l7 k g n;have m:=l7 H h n;have s:=I.eq;have A:=I.aX;rw[C,B]at s;rw[C,B,fG,fG]at A;have O:=I.lx;have N:=I.ly;simp only[VG]at O N
 have M:=qB (t:=t) (u:=u) S;have F:=I.rp.Oz z;have E:=I.rq.Oz w;have l:(piece p g n).kind=p.kind:=bp ..;have i:(piece q h n).kind=q.kind:=bp ..;generalize piece p g n=P at*;generalize piece q h n=Q at*;have r:=cz G;have e:=cz J;rw[l]at r;rw[i]at e;rcases r with r|r|r
 ·rcases e with e|e|e
  ·have d:=l.trans r;have c:=i.trans e;have v:EK P Q=[P]:=VC c;have f:EJ P Q=[qv Q P]:=(VC d).trans (VC c);rw[dJ d o,dJ c m,yz]at s;rw[dJ d o,dJ c m,(dh _ _).1,(dh _ _).1]at A;rw[v,f];refine⟨F,E,?_,by omega,fv I.DB G,fv I.QB (F4 J c G d),by simp;omega,by simp;omega⟩
   rw[s,ct,ct,dz,dz,dJ d o,dJ (p:=qv Q P) c (n:=n) m,JX,VT,VT]
  ·exact absurd e H
  ·have d:=l.trans r;have c:=i.trans e;have v:EK P Q=[]:=VD (by omega);have f:EJ P Q=[Q]:=(VC d).trans (VD (by omega));rw[dJ d o,dk c m,y7]at s;rw[dJ d o,dk c m,(dh _ _).1,(fw _).1]at A;rw[v,f,VY];refine⟨F,E,?_,by omega,I.DB,fv I.QB J,by omega,by simp;omega⟩
   rw[s,ct,dz,dk c m,VT]
 ·exact absurd r k
 ·rcases e with e|e|e
  ·have d:=l.trans r;have c:=i.trans e;have v:EK P Q=[P]:=VC c;have f:EJ P Q=[]:=VD (by omega);rw[dk d o,dJ c m,y8]at s;rw[dk d o,dJ c m,(fw _).1,(dh _ _).1]at A;rw[v,f,VY];refine⟨F,E,?_,by omega,fv I.DB G,I.QB,by simp;omega,by omega⟩
   rw[s,ct,dz,dk d o,VT]
  ·exact absurd e H
  ·have d:=l.trans r;have c:=i.trans e;have v:EK P Q=[]:=VD (by omega);have f:EJ P Q=[]:=VD (by omega);rw[dk d o,dk c m,y9]at s;rw[dk d o,dk c m,(fw _).1]at A;rw[v,f,VY,VY];exact⟨F,E,s,by omega,I.DB,I.QB,by omega,by omega⟩
structure fL (a b ps:List Pt) (g:Nat) (qs:List Pt) (h:Nat) (x:List Pt):Prop where
 rp:Rv ps g
 rq:Rv qs h
 eq:join (ah a) (ah b)=ah x++join (ra ps g) (ra qs h)
 aX:leave (ra ps g)=Ac.aX (ra qs h)
 DB:∀ p ∈ x,bG p=0
 lx:x.length+ps.length+qs.length<=a.length+b.length
theorem fL.start{a b:List Pt}(d:dR a)(c:dR b)(f:lv a=nd b):fL a b a 0 b 0 []:=by
 refine⟨d.rv,c.rv,?_,?_,fun p e=>absurd e (by simp),by simp⟩
 ·unfold ra;rw[XW,XW,fK,List.nil_append]
 ·unfold ra;rw[XW,XW,(ij (lP d.ok)).2,(ij (lP c.ok)).1,f]
theorem fL.left{a b i:List Pt}{g:Nat}{f:List Pt}{h:Nat}{x:List Pt}(I:fL a b i g f h x):i=[]↔f=[]:=by
 constructor
 ·intro e
  cases k:f with
  |nil=>rfl
  |cons q u=>
   have d:=(I.rq.some (by rw[k];simp)).1;have c:=I.aX;rw[e,I.rp.nil e]at c;rw[<-c]at d;exact absurd d (by decide)
 ·intro e
  cases k:i with
  |nil=>rfl
  |cons q u=>
   have d:=(I.rp.some (by rw[k];simp)).2;have c:=I.aX;rw[e,I.rq.nil e]at c;rw[c]at d;exact absurd d (by decide)
theorem fL.done{a b:List Pt}{g:Nat}{d:List Pt}{h:Nat}{x:List Pt}(I:fL a b [] g d h x):join (ah a) (ah b)=ah x:=by
 have e:=I.left.1 rfl;have c:=I.eq;subst e;rw[I.rp.nil rfl,I.rq.nil rfl]at c;rw[c];show ah x++[]=_
 rw[VY]
theorem fL.T8{a b:List Pt}{p:Pt}{t:List Pt}{g:Nat}{m:List Pt}{h:Nat}{x:List Pt}(I:fL a b (p::t) g m h x)(k:p.kind=3):
  fL a b t 0 m h (x++[piece p g (lg p-g)]):=by
 have s:=I.rp.lt p t rfl;have l:=I.rp.ok p (VK ..);have c:g+(lg p-g)<=lg p:=by omega
 have f:g+(lg p-g)=lg p:=by omega
 have i:=gM p t g (lg p-g) c;have e:(piece p g (lg p-g)).kind=3:=(bp ..).trans k;have d:(piece p g (lg p-g)).n=((lg p-g:Nat):Int):=l7 (by omega) g _;rw[dw f,fF f,dk e d]at i;have q:=I.eq;have o:=I.aX;rw[i,wv]at q;rw[i,gw,(fw _).2,VR]at o;have n:=I.rp.Oz c;rw[dw f,fF f]at n;have r:=I.lx;rw[VG]at r;refine⟨n,I.rq,?_,o,fv I.DB (fM l (by omega) c),by simp;omega⟩
 rw[q,ct,dz,dk e d,VT]
theorem KV{p:Pt}{t:List Pt}{g:Nat}(h:Rv (p::t) g)(k:¬p.kind=3):∀b,ra (p::t) g≠.cut::b:=by
 have i:=h.lt p t rfl;have f:=gM p t g 1 (by omega);rw[f];rcases cz (h.ok p (VK ..))with a|a|a
 ·rw[dJ ((bp ..).trans a) (l7 (by omega) g 1)];intro b e
  cases e
 ·have c:=kS a (g:=g) (n:=1) (by omega);rw[gX ((bp ..).trans a)];obtain⟨z,d⟩:=List.length_eq_one_iff.1 c;rw[d];intro b e
  cases e
 ·exact absurd a k
theorem fL.Pz{a b:List Pt}{p:Pt}{t:List Pt}{g:Nat}{q:Pt}{u:List Pt}{h:Nat}{x:List Pt}(I:fL a b (p::t) g (q::u) h x)(k:¬p.kind=3)(r:q.kind=2):
  fL a b (p::t) g u 0 (x++[piece q h (lg q-h)]):=by
 have s:=I.rq.lt q u rfl;have i:=I.rq.ok q (VK ..);have c:h+(lg q-h)<=lg q:=by omega
 have e:h+(lg q-h)=lg q:=by omega
 have f:=gM q u h (lg q-h) c;have d:(piece q h (lg q-h)).kind=2:=(bp ..).trans r;rw[dw e,fF e,gX d]at f;have n:=I.eq;have m:=I.aX;rw[f,rs _ _ (KV I.rp k)]at n;rw[f,fG,(gp _).1,VR]at m;have l:=I.rq.Oz c;rw[dw e,fF e]at l;have o:=I.lx;simp only[VG]at o
 refine⟨I.rp,l,?_,m,fv I.DB (fM i (by omega) c),by simp;omega⟩
 rw[n,ct,dz,gX d,VT]
def zu (p q:Pt):List Pt:=if q.kind=1 then (if p.kind=1 then [Hr p q] else [iW (p.aB.map fun x=>change x (dt q))]) else if p.kind=1 then [q] else []
theorem fL.both{a b:List Pt}{p:Pt}{t:List Pt}{g:Nat}{q:Pt}{u:List Pt}{h:Nat}{x:List Pt}(I:fL a b (p::t) g (q::u) h x)(k:¬p.kind=3)(H:¬q.kind=2){n:Nat}(S:n=min (lg p-g) (lg q-h)):
  fL a b (lK p t g n) (oO p g n) (lK q u h n) (oO q h n) (x++zu (piece p g n) (piece q h n)):=by
 have U:=I.rp.lt p t rfl;have T:=I.rq.lt q u rfl;have L:=I.rp.ok p (VK ..);have K:=I.rq.ok q (VK ..);have o:g+n<=lg p:=by omega
 have w:h+n<=lg q:=by omega
 have O:g+n=lg p\/h+n=lg q:=by omega
 have D:1<=n:=by omega
 have J:=fM L D o;have G:=fM K D w;have C:=gM p t g n o;have B:=gM q u h n w;have r:¬p.kind=2->(piece p g n).n=n:=fun k=>l7 k g n;have i:=l7 H h n;have y:=fun k=>kS k o;have m:=I.eq;have A:=I.aX;rw[C,B]at m;rw[C,B,fG,gw]at A;have N:=I.lx;simp only[VG]at N
 have M:=qB (t:=t) (u:=u) O;have F:=I.rp.Oz o;have E:=I.rq.Oz w;have v:(piece p g n).kind=p.kind:=bp ..;have f:(piece q h n).kind=q.kind:=bp ..;generalize piece p g n=P at*;generalize piece q h n=Q at*;have l:=cz J;have d:=cz G;rw[v]at l;rw[f]at d;rcases l with l|l|l
 ·have e:=v.trans l;have r:=r (by omega);rcases d with d|d|d
  ·have c:=f.trans d;have s:zu P Q=[Hr P Q]:=(VC c).trans (VC e);rw[dJ e r,dJ c i,AS]at m;rw[dJ e r,dJ c i,(dh _ _).2,(dh _ _).1]at A;rw[s];refine⟨F,E,?_,by omega,fv I.DB (NV J e G c),by simp;omega⟩
   rw[m,ct,dz,dJ (p:=Hr P Q) e (n:=n) r,QA,VT]
  ·exact absurd d H
  ·have c:=f.trans d;have s:zu P Q=[Q]:=(VD (by omega)).trans (VC e);rw[dJ e r,dk c i,AT]at m;rw[dJ e r,dk c i,(dh _ _).2,(fw _).1]at A;rw[s];refine⟨F,E,?_,by omega,fv I.DB G,by simp;omega⟩
   rw[m,ct,dz,dk c i,VT]
 ·have e:=v.trans l;have y:=y l;rcases d with d|d|d
  ·have c:=f.trans d;have s:zu P Q=[iW (P.aB.map fun x=>change x (dt Q))]:=(VC c).trans (VD (by omega));have z:=AQ (dt Q) (ra (lK p t g n) (oO p g n)) (ra (lK q u h n) (oO q h n)) P.aB;rw[y]at z;rw[gX e,dJ c i,z]at m;rw[gX e,dJ c i,(gp _).2,(dh _ _).1,y]at A;rw[s];refine⟨F,E,?_,by omega,fv I.DB (A9 J e G c),by simp;omega⟩
   rw[m,ct,dz,xe,VT]
  ·exact absurd d H
  ·have c:=f.trans d;have s:zu P Q=[]:=(VD (by omega)).trans (VD (by omega));have z:=AR (ra (lK p t g n) (oO p g n)) (ra (lK q u h n) (oO q h n)) P.aB;rw[y]at z;rw[gX e,dk c i,z]at m;rw[gX e,dk c i,(gp _).2,(fw _).1,y]at A;rw[s,VY];exact⟨F,E,m,by omega,I.DB,by omega⟩
 ·exact absurd l k
end Ac
