/- A part. -/
import Derived.Test.YthddphjghgdalaaGreatDoorP22
set_option maxRecDepth 100000
set_option maxHeartbeats 1600000
namespace Go.Proofs.YthddphjghgdalaaGreatDoor
open Go.RowKit Go.Proofs.Tryz
theorem uR(B X b n k:Nat)(v:WV)(w:World)(h:eR B X w b v)(hL:Wo.gi v.w n)(hk:k<n)(hX:X≠2*k+5)(hf:∀c,v.cs[k]?=some c->tF c.sn c.aJ):
  Calls prog 75 #[.pointer (some ⟨b,0,none⟩),.int .i64 k] w fun e w'=>e=.returned (.tuple #[])/\MW B X b w (Wo.put v.w k (Wo.vP k (Wo.vw v.w k))) w':=by
 have b2:=h.lo 0 b rfl;have b1:=h.hi 0 b rfl;obtain⟨gc,gu,gd,sc,su,sd,c,q,r,l⟩:=h.at hL hk;have U:=aa c w;have Z:Hd (Below B w (aO c w)):=U.mono (by omega);have J:=h.below U;have I:=l.below U;have HQ:=hId (cH c w);have H:=h.cl c (WQ l.c);obtain⟨m,hm⟩:∃m:MV,m=⟨c.rev,⟨k,c.seq,c.sa,c.sn,c.sc,c.aJ⟩⟩:=⟨_,rfl⟩;have CM:Hd (∀w',Below (aO c w).heap.size (aO c w) w'->Calls prog 73 #[.agg #[.int .i64 c.rev,.int .i64 k,.int .i64 c.seq,.slice c.sa c.sn c.sc]] w' fun e a5=>(∃t:MV,e=.returned (.agg #[.int .i64 t.mr,.int .i64 t.e.aR,.int .i64 t.e.seq,.slice t.e.ao t.e.n t.e.cap])/\ae a5 t.e.ao t.e.n t.e.cap t.e.vs/\t.mg=m.mg/\t.e.n=c.sn)/\Below w'.heap.size w' a5):=fun w' O=>by
  have:=rT m w' (by rw[hm];exact(H.aJ.below U).below O) (by rw[hm];exact hf c l.c);rw[hm]at this⊢;exact this
 have ay:=hJ c w;have g3:=l.p3 h;have e0:w.cell? ⟨gc,k*7,none⟩=some (.int .i64 c.rev):=l.cell 0 (by decide);have e1:w.cell? ⟨gc,k*7+1,none⟩=some (.slice c.ba c.bn c.bc):=l.cell 1 (by decide);have e2:w.cell? ⟨gc,k*7+2,none⟩=some (.slice c.na c.nn c.nc):=l.cell 2 (by decide);have e3:w.cell? ⟨gc,k*7+3,none⟩=some (.int .i64 c.seq):=l.cell 3 (by decide);have e4:w.cell? ⟨gc,k*7+4,none⟩=some (.slice c.sa c.sn c.sc):=l.cell 4 (by decide);have e5:w.cell? ⟨gc,k*7+5,none⟩=some (.slice c.ha c.hn c.hc):=l.cell 5 (by decide);have e6:w.cell? ⟨gc,k*7+6,none⟩=some (.bool c.jo):=l.cell 6 (by decide);have a9:(c.aJ.map PV.pt).length=c.sn:=by rw[VH];exact H.aJ.len
 generalize hW:aO c w=W at*;have E:=I.cl;have L:=J.uq k q I.q;have G:=yH L;have p4:=I.p4 J;have c4:=I.Fh;obtain⟨x0,-,-,x3,x4,-,x6⟩:=Bh HQ.o;have H1:=hId J;have HI:=hId I;obtain⟨V,hV⟩:∃V,Wo.put v.w k (Wo.vP k (Wo.vw v.w k))=V:=⟨_,rfl⟩;rw[hV];by_cases p:c.jo=false\/c.sn=0
 ·have HV:Hd (v.w=V):=by
   show v.w=V
   rw[<-hV,show Wo.vP k (Wo.vw v.w k)=Wo.vw v.w k from VC (by rw[E];show c.jo=false\/(c.aJ.map PV.pt).length=0;rw[a9];exact p),Wo.jC hL hk]
  cases N:c.jo
  ·rw[N]at x6;clear h hL J I l hV hf L E G p H CM N;go_enter func75,ntmps75
   go_upto_region 1 with fail
   change Code.wp prog _ _ _ (aO c w);rw[hW];go_wp2
   refine VL (results_none rfl _ _ _) rfl ?_
   exact⟨rfl,⟨v,H1.o,HV.o⟩,Z.o⟩
  ·have hz:c.sn=0:=by rcases p with g|g;rw[N]at g;cases g;exact g
   rw[N]at x6;rw[hz]at x4;clear h hL J I l hV hf L E G p H CM N hz;go_enter func75,ntmps75
   go_upto_region 1 with fail
   change Code.wp prog _ _ _ (aO c w);rw[hW];go_wp2
   refine VL (results_none rfl _ _ _) rfl ?_
   exact⟨rfl,⟨v,H1.o,HV.o⟩,Z.o⟩
 ·have N:c.jo=true:=by cases e:c.jo;exact absurd (.inl e) p;rfl
  have aj:0<c.sn:=by rcases XX c.sn with e|e;exact absurd (.inr e) p;exact e
  have b0:((c.sn:Int)==0)=false:=by simp;omega
  have az:(c.sn==0)=false:=by simp;omega
  rw[N]at x6;have T:¬((Wo.vw v.w k).c.jo=false\/(Wo.vw v.w k).c.aJ.length=0):=by rw[E];show¬(c.jo=false\/(c.aJ.map PV.pt).length=0);rw[a9];exact p
  by_cases a1:30<=q.n
  ·have HV:Hd (Wo.put v.w k (Wo.oq (Wo.vw v.w k))=V):=by
    show _=V
    rw[<-hV];congr 1
    unfold Wo.vP;rw[VD T,VC (by rw[E];show 30<=q.eV.length;rw[G];exact a1)]
   have CC:=hId (sw B X b n k v W J hL hk);rw[HV.o]at CC;have an:decide ((30:Int)<=(q.n:Int))=true:=by simp;omega
   clear h hL J I l hV hf L E G p H CM T N;go_enter func75,ntmps75
   go_upto_region 1 with fail
   change Code.wp prog _ _ _ (aO c w);rw[hW];go_wp2_with fail
   refine CC.o.mono ?_
   rintro e M⟨rfl,⟨v',a8,a7,-⟩,O⟩;have H2:Hd (MW B X b w V M):=⟨⟨v',a8,a7⟩,Z.o.trans O⟩;clear a8 a7 O CC;go_wp2
   refine VL (results_none rfl _ _ _) rfl ?_
   exact⟨rfl,H2.o⟩
  ·have an:decide ((30:Int)<=(q.n:Int))=false:=by simp;omega
   have b3:decide (30<=q.n)=false:=by simp;omega
   have HV:Hd (∀g af(t:MV),t.mg=m.mg->WV.w {v with up:=v.up.set k ⟨some ⟨g,0,none⟩,q.n+1,af,q.ms++[t]⟩}=V):=fun g af t ht=>by
    rw[WV.G2 hL hk,<-hV];congr 1
    unfold Wo.vP;rw[VD T,VD (by rw[E];show¬30<=q.eV.length;rw[G];exact a1)];show Wo.Vw.mk _ ((q.ms++[t]).map MV.mg) _=_
    rw[E,WN];show Wo.Vw.mk _ (q.eV++[t.mg]) _=_
    rw[ht,hm];rfl
   obtain⟨i0,hi,am,al,ak⟩:=info_parts Tryz.LR;have ax:q.n<=30:=by omega
   have a4:Hd (B<=W.heap.size):=by show B<=_;have:=J.hi 0 b rfl;omega
   have aw:=hId (J.lo 2 gu (by show v.ua.map _=_;rw[I.ua];rfl));have ao:Hd (∀x∈oT q.a,B<=x):=fun x hx=>by
    obtain⟨ad,e1,e2⟩:=dI.1 hx;refine J.lo (2*k+5) x ?_
    rw[<-fP I.q,e1,<-e2];rfl
   have HX:=hId hX;have au:Hd (w.heap.size∉oT q.a):=fun hx=>by
    obtain⟨ad,e1,e2⟩:=dI.1 hx;have:=h.hi (2*k+5) w.heap.size (by rw[<-fP l.q,e1,<-e2];rfl);omega
   have aq:Hd (∀w',Below W.heap.size W w'->∀(o:Obj),∀x∈oT q.a,NT (w'.alloc o) x):=fun w' O o x hx=>by
    obtain⟨ad,e1,e2⟩:=dI.1 hx;exact((((J.uN k q I.q hX).below O).below ((VE _ _).alloc (UZ _) _))).nt (by rw[e1,<-e2];rfl)
   clear h hL J I l hV hf L E G N hX a1 T p aj H hm;go_enter func75,ntmps75
   go_upto_region 1 with fail
   change Code.wp prog _ _ _ (aO c w);rw[hW];go_upto_region 4 with fail
   have a:=PO.of p4 c4 x0 x3 x4 (VE _ _).drew;refine gj (S:=PO b gu w.heap.size n v.uc k q c) (f:=fun j=>j !=25) (by kernel_rfl) ?_
   refine aT (i:=0) (v:=?vv0) rfl (by kernel_rfl) (fun _ _ _ h=>h) (Or.inl ⟨by rfl,fun u d=>?hy0⟩) a ?rest0
   case hy0=>obtain⟨D,C,A,z,y⟩:=d;go_simp;try with_reducible rfl
   try simp only[Act.put,UX]
   refine aT (i:=1) (v:=?vv1) rfl (by kernel_rfl) (fun _ _ _ h=>h) (Or.inl ⟨by rfl,fun u d=>?hy1⟩) a ?rest1
   case hy1=>obtain⟨D,C,A,z,y⟩:=d;go_simp;try with_reducible rfl
   try simp only[Act.put]
   refine aT (i:=2) (v:=?vv2) rfl (by kernel_rfl) (fun _ _ _ h=>h) (Or.inl ⟨by rfl,fun u d=>?hy2⟩) a ?rest2
   case hy2=>obtain⟨D,C,A,z,y⟩:=d;go_simp;try with_reducible rfl
   try simp only[Act.put]
   refine aT (i:=3) (v:=?vv3) rfl (by kernel_rfl) (fun _ _ _ h=>h) (Or.inl ⟨by rfl,fun u d=>?hy3⟩) a ?rest3
   case hy3=>obtain⟨D,C,A,z,y⟩:=d;go_simp;try with_reducible rfl
   try simp only[Act.put]
   refine aT (i:=4) (v:=?vv4) rfl (by kernel_rfl) (fun _ _ _ h=>h) (Or.inl ⟨by rfl,fun u d=>?hy4⟩) a ?rest4
   case hy4=>obtain⟨D,C,A,z,y⟩:=d;go_simp;try with_reducible rfl
   try simp only[Act.put]
   refine aT (i:=5) (v:=?vv5) rfl (by kernel_rfl) (fun _ _ _ h=>h) (Or.inl ⟨by rfl,fun u d=>?hy5⟩) a ?rest5
   case hy5=>obtain⟨D,C,A,z,y⟩:=d;go_simp;try with_reducible rfl
   try simp only[Act.put]
   refine aT (i:=6) (v:=?vv6) rfl (by kernel_rfl) (fun _ _ _ h=>h) (Or.inl ⟨by rfl,fun u d=>?hy6⟩) a ?rest6
   case hy6=>obtain⟨D,C,A,z,y⟩:=d;go_simp;try with_reducible rfl
   try simp only[Act.put]
   refine aT (i:=7) (v:=?vv7) rfl (by kernel_rfl) (fun _ _ _ h=>h) (Or.inl ⟨by rfl,fun u d=>?hy7⟩) a ?rest7
   case hy7=>obtain⟨D,C,A,z,y⟩:=d;go_simp;try with_reducible rfl
   try simp only[Act.put]
   refine aT (i:=8) (v:=?vv8) rfl (by kernel_rfl) (fun _ _ _ h=>h) (Or.inl ⟨by rfl,fun u d=>?hy8⟩) a ?rest8
   case hy8=>obtain⟨D,C,A,z,y⟩:=d;go_simp;try with_reducible rfl
   try simp only[Act.put]
   refine aT (i:=9) (v:=?vv9) rfl (by kernel_rfl) (fun _ _ _ h=>h) (Or.inl ⟨by rfl,fun u d=>?hy9⟩) a ?rest9
   case hy9=>obtain⟨D,C,A,z,y⟩:=d;go_simp;try with_reducible rfl
   try simp only[Act.put]
   refine aT (i:=10) (v:=?vv10) rfl (by kernel_rfl) (fun _ _ _ h=>h) (Or.inl ⟨by rfl,fun u d=>?hy10⟩) a ?rest10
   case hy10=>obtain⟨D,C,A,z,y⟩:=d;go_simp;try with_reducible rfl
   try simp only[Act.put]
   refine aT (i:=11) (v:=?vv11) rfl (by kernel_rfl) (fun _ _ _ h=>h) (Or.inl ⟨by rfl,fun u d=>?hy11⟩) a ?rest11
   case hy11=>obtain⟨D,C,A,z,y⟩:=d;go_simp;try with_reducible rfl
   try simp only[Act.put]
   refine aT (i:=12) (v:=?vv12) rfl (by kernel_rfl) (fun _ _ _ h=>h) (Or.inl ⟨by rfl,fun u d=>?hy12⟩) a ?rest12
   case hy12=>obtain⟨D,C,A,z,y⟩:=d;go_simp;try with_reducible rfl
   try simp only[Act.put]
   refine aT (i:=13) (v:=?vv13) rfl (by kernel_rfl) (fun _ _ _ h=>h) (Or.inl ⟨by rfl,fun u d=>?hy13⟩) a ?rest13
   case hy13=>obtain⟨D,C,A,z,y⟩:=d;go_simp;try with_reducible rfl
   try simp only[Act.put]
   refine aT (i:=14) (v:=?vv14) rfl (by kernel_rfl) (fun _ _ _ h=>h) (Or.inl ⟨by rfl,fun u d=>?hy14⟩) a ?rest14
   case hy14=>obtain⟨D,C,A,z,y⟩:=d;go_simp;try with_reducible rfl
   try simp only[Act.put]
   refine aT (i:=15) (v:=?vv15) rfl (by kernel_rfl) (fun _ _ _ h=>h) (Or.inl ⟨by rfl,fun u d=>?hy15⟩) a ?rest15
   case hy15=>obtain⟨D,C,A,z,y⟩:=d;go_simp;try with_reducible rfl
   try simp only[Act.put]
   refine aT (i:=16) (v:=?vv16) rfl (by kernel_rfl) (fun _ _ _ h=>h) (Or.inl ⟨by rfl,fun u d=>?hy16⟩) a ?rest16
   case hy16=>obtain⟨D,C,A,z,y⟩:=d;go_simp;try with_reducible rfl
   try simp only[Act.put]
   refine aT (i:=17) (v:=?vv17) rfl (by kernel_rfl) (fun _ _ _ h=>h) (Or.inl ⟨by rfl,fun u d=>?hy17⟩) a ?rest17
   case hy17=>obtain⟨D,C,A,z,y⟩:=d;go_simp;try with_reducible rfl
   try simp only[Act.put]
   refine aT (i:=18) (v:=?vv18) rfl (by kernel_rfl) (fun _ _ _ h=>h) (Or.inl ⟨by rfl,fun u d=>?hy18⟩) a ?rest18
   case hy18=>obtain⟨D,C,A,z,y⟩:=d;go_simp;try with_reducible rfl
   try simp only[Act.put]
   refine aT (i:=19) (v:=?vv19) rfl (by kernel_rfl) (fun _ _ _ h=>h) (Or.inl ⟨by rfl,fun u d=>?hy19⟩) a ?rest19
   case hy19=>obtain⟨D,C,A,z,y⟩:=d;go_simp;try with_reducible rfl
   try simp only[Act.put]
   refine aT (i:=20) (v:=?vv20) rfl (by kernel_rfl) (fun _ _ _ h=>h) (Or.inl ⟨by rfl,fun u d=>?hy20⟩) a ?rest20
   case hy20=>obtain⟨D,C,A,z,y⟩:=d;go_simp;try with_reducible rfl
   try simp only[Act.put]
   refine ar (i:=21) (by kernel_rfl) rfl (fun K F=>?_)
   go_simp
   refine(CM.o _ (VE _ _).drew).mono ?_
   rintro e M⟨⟨t,rfl,ab,ac,-⟩,O⟩;have av:=hId ac;have ap:=hId ab;have s:=hId (cT O);clear ac ab O;have ai:=PO.of p4 c4 x0 x3 x4 s.o;clear a;refine F.out _ _ (fun _=>ai) ?_
   clear F K;try simp only[Act.put,UX,VA,VB]
   refine ar (i:=22) (by kernel_rfl) rfl (fun K F=>?_)
   go_simp
   have ah:PO b gu w.heap.size n v.uc k q c (M.alloc (.cells #[.int .i64 t.mr,.int .i64 t.e.aR,.int .i64 t.e.seq,.slice t.e.ao t.e.n t.e.cap] 114)):=PO.of p4 c4 x0 x3 x4 (s.o.trans (((VE _ _).alloc (UZ _) _).mono s.o.size));refine F.out _ _ (fun _=>ah) ?_
   clear F K ai ah;try simp only[Act.put,UX,VA,VB]
   refine ar (i:=23) (by kernel_rfl) rfl (fun K F=>?_)
   have P:Hd (Below M.heap.size M (M.alloc (.cells #[.int .i64 t.mr,.int .i64 t.e.aR,.int .i64 t.e.seq,.slice t.e.ao t.e.n t.e.cap] 114))):=(VE _ _).alloc (UZ _) _;have a3:=(HI.o.below s.o).below P.o;have a2:=(H1.o.below s.o).below P.o;refine mw _ (by rfl) (.tmp 44) (.tmp 55) 53 (by rfl) 114 i0 (.agg #[.int .i64 0,.int .i64 0,.int .i64 0,.slice none 0 0]) 4 48 underlying53 hi am al ak rfl rfl q.a q.n q.cap (bN q.ms) (by rfl) (a2.uN k q a3.q HX.o) ⟨M.heap.size,0,none⟩ 1 1 (jX t) (by rfl) rfl (World.news_of_block (Blk.new M (jX t) 114)) (Kw t) rfl (by decide) (by unfold maxLen;omega) (by omega) ?_
   intro g a0 w3 hN Y hg;obtain⟨a6,z5,z6,z7⟩:=a3.SL a2 HX.o Y hN ((ap.o.below P.o).aw Y (aq.o _ s.o _)) hg;have Q:∀j,w3.cell? ⟨w.heap.size,j,none⟩=(M.alloc (.cells #[.int .i64 t.mr,.int .i64 t.e.aR,.int .i64 t.e.seq,.slice t.e.ao t.e.n t.e.cap] 114)).cell? ⟨w.heap.size,j,none⟩:=fun j=>WC (Y.block _ (by show w.heap.size<_;have:=s.o.size;have:=P.o.size;omega) (au.o));have ag:PO b gu w.heap.size n v.uc k q c w3:=⟨(z7 4).trans (a3.p4 a2),z5,(Q 0).trans (aA (aA x0 s.o) P.o),(Q 3).trans (aA (aA x3 s.o) P.o),(Q 4).trans (aA (aA x4 s.o) P.o)⟩;refine F.out _ _ (fun _=>ag) ?_
   clear F K Q;try simp only[Act.put,UX]
   refine ar (i:=24) (by kernel_rfl) rfl (fun K F=>?_)
   go_simp
   refine F.out _ _ (fun _=>ag) ?_
   clear F K;try simp only[Act.put,UX,VA,VB]
   refine ar (i:=25) (by kernel_rfl) rfl (fun K F=>?_)
   go_simp
   refine F.out _ _ (fun h=>by cases h) ?_
   clear F K;have H4:Hd (MW B X b w V (w3.setCell ⟨gu,k,none⟩ (.slice (some ⟨g,0,none⟩) (q.n+1) a0))):=⟨⟨_,a6,HV.o g a0 t av.o⟩,(Z.o.trans ((s.o.mono a4.o).trans ((P.o.mono (by have:=s.o.size;have:=a4.o;omega)).trans (Y.below (by have:=s.o.size;have:=P.o.size;have:=a4.o;omega) ao.o)))).setCell aw.o _⟩;refine et (by kernel_rfl) ?_ _
   clear a6 z5 z6 z7;go_wp2
   go_end0
   exact⟨rfl,H4.o⟩
def oJ (w:World) (g o:Nat) (t:CV):World:=((((((w.setCell ⟨g,o,none⟩ (.int .i64 t.rev)).setCell ⟨g,o+1,none⟩ (.slice t.ba t.bn t.bc)).setCell ⟨g,o+2,none⟩ (.slice t.na t.nn t.nc)).setCell ⟨g,o+3,none⟩ (.int .i64 t.seq)).setCell ⟨g,o+4,none⟩ (.slice t.sa t.sn t.sc)).setCell ⟨g,o+5,none⟩ (.slice t.ha t.hn t.hc)).setCell ⟨g,o+6,none⟩ (.bool t.jo)
theorem rH(w:World)(g o:Nat)(t:CV):Kept w (oJ w g o t) [g]:=(((((((Kept.refl w [g]).setCell _ _ (.inl (by simp))).setCell _ _ (.inl (by simp))).setCell _ _ (.inl (by simp))).setCell _ _ (.inl (by simp))).setCell _ _ (.inl (by simp))).setCell _ _ (.inl (by simp))).setCell _ _ (.inl (by simp))
theorem lm{α:Type}(A M R:List α)(o j:Nat)(x:α)(a:A.length=o)(b:j<M.length):(A++(M++R)).set (o+j) x=A++(M.set j x++R):=by
 rw[List.set_append_right _ _ (by omega),a,Nat.add_sub_cancel_left,List.set_append_left _ _ b]
theorem Ka{w:World}{g o:Nat}{x t:CV}{A R:List Value}(h:Blk w g (A++(fS x++R)) 41)(a:A.length=o):Blk (oJ w g o t) g (A++(fS t++R)) 41:=by
 have k:=h.set (o+0) (.int .i64 t.rev);rw[lm _ _ _ _ _ _ a (by show 0<7;decide)]at k;have i:=k.set (o+1) (.slice t.ba t.bn t.bc);rw[lm _ _ _ _ _ _ a (by show 1<7;decide)]at i;have f:=i.set (o+2) (.slice t.na t.nn t.nc);rw[lm _ _ _ _ _ _ a (by show 2<7;decide)]at f;have e:=f.set (o+3) (.int .i64 t.seq);rw[lm _ _ _ _ _ _ a (by show 3<7;decide)]at e;have d:=e.set (o+4) (.slice t.sa t.sn t.sc);rw[lm _ _ _ _ _ _ a (by show 4<7;decide)]at d;have c:=d.set (o+5) (.slice t.ha t.hn t.hc);rw[lm _ _ _ _ _ _ a (by show 5<7;decide)]at c;have b:=c.set (o+6) (.bool t.jo);rw[lm _ _ _ _ _ _ a (by show 6<7;decide)]at b;exact b
theorem Ax(l:List CV)(k:Nat)(c:CV)(h:l[k]?=some c):bB l=bB (l.take k)++(fS c++bB (l.drop (k+1))):=by
 obtain⟨b,e⟩:=VO.1 h;have a:l=l.take k++(l[k]::l.drop (k+1)):=by rw[<-VU b,List.take_append_drop]
 rw[e]at a;unfold bB;conv=>lhs;rw[a]
 rw[List.flatMap_append,List.flatMap_cons]
theorem Ik(l:List CV)(k:Nat)(c t:CV)(h:l[k]?=some c):bB (l.set k t)=bB (l.take k)++(fS t++bB (l.drop (k+1))):=by
 obtain⟨a,e⟩:=VO.1 h;rw[Ax (l.set k t) k t (by rw[XB,VC rfl,VC a]),List.take_set_of_le (UZ k),List.drop_set_of_lt (Nat.lt_succ_self k)]
theorem Ix.oJ{B X:Nat}{w:World}{b:Nat}{v:WV}{n k a z A:Nat}{i p s:List Value}{c:CV}{q r:QV}(m:eR B X w b v)(h:Ix w v n k a z A i p s c q r){t:CV}(u:kE w t):
  eR B X (oJ w a (k*7) t) b {v with cs:=v.cs.set k t}/\(v.cs.set k t)[k]?=some t:=by
 obtain⟨l,e⟩:=VO.1 h.c;have d:(bB (v.cs.take k)).length=k*7:=by rw[mK,List.length_take,Nat.min_eq_left (YB l)]
 have x:Blk (Go.Proofs.YthddphjghgdalaaGreatDoor.oJ w a (k*7) t) a (bB (v.cs.set k t)++i) 41:=by
  have o:=h.bc;rw[Ax _ _ _ h.c,VT,VT]at o;have y:=Ka (t:=t) o d;rw[Ik _ _ _ _ h.c,VT,VT];exact y
 refine⟨m.SP h.ca h.bc (rH w a (k*7) t) _ (List.length_set ..) x (fun C f=>?_),by rw[XB,VC rfl,VC l]⟩
 rcases List.mem_or_eq_of_mem_set f with g|g
 ·exact m.cl C g
 ·rw[g];exact u
theorem ug{w:World}{c:CV}(h:kE w c)(d:Kl.Rc c.cl):tF c.sn c.aJ:=by
 rcases XX c.sn with e|e
 ·have f:=h.aJ.len;have k:=VS.1 (f.trans e);exact⟨by omega,fun u a=>by rw[k]at a;cases a⟩
 ·have b:Ac.gC (c.aJ.map PV.pt)=0:=Wo.F0 d (by show 0<(c.aJ.map PV.pt).length;rw[VH,h.aJ.len];exact e);obtain⟨_,i,g⟩:=jV h.aJ b;exact⟨i,g⟩
def JF (B X b:Nat) (w:World) (E:Int) (V:Wo.W) (w':World):Prop:=Below B w w'/\(E=0->∃ v',eR B X w' b v'/\v'.w=V)
theorem Wo.TG{c:Kl.Cl}{o:List Ac.Pt}(h:Kl.vM c o=0):Kl.Rc (Kl.JL c o):=by
 have a:Kl.iS c=0:=by
  unfold Kl.vM at h;by_cases g:Kl.iS c=0
  ·exact g
  ·rw[VD g]at h;exact absurd h g
 have b:Kl.iR c o=0:=by unfold Kl.vM at h;rw[VC a]at h;exact h
 have e:Kl.JL c o=Kl.kH c o:=VC h;rw[e];exact(Kl.PJ (Kl.xL a) b).1
theorem Ao(B X b n k:Nat)(v:WV)(L:Option Addr)(J K:Nat)(us:List PV)(w:World)(h:eR B X w b v)(Q:Wo.gi v.w n)(p:k<n)(hX:X≠2*k+5)(hO:ae w L J K us)(hS:df w):
  Calls prog 46 #[.pointer (some ⟨b,0,none⟩),.int .i64 k,.slice L J K] w fun e w'=>e=.returned (.int .i64 (Kl.vM (Wo.vw v.w k).c (us.map PV.pt)))/\JF B X b w (Kl.vM (Wo.vw v.w k).c (us.map PV.pt)) (Wo.put v.w k (Wo.Bl k (Wo.vw v.w k) (us.map PV.pt))) w':=by
 have ac:=h.lo 0 b rfl;have ab:=h.hi 0 b rfl;obtain⟨a,gu,gd,sc,su,sd,c,q,r,f⟩:=h.at Q p;have A:=h.cl c (WQ f.c);have s:=f.cl;have m:(Wo.vw v.w k).c=c.cl:=by rw[s]
 have CD:Hd (Calls prog 74 #[.agg #[.int .i64 c.rev,.slice c.ba c.bn c.bc,.slice c.na c.nn c.nc,.int .i64 c.seq,.slice c.sa c.sn c.sc,.slice c.ha c.hn c.hc,.bool c.jo],.slice L J K] w fun e w'=>(∃t:CV,e=.returned (.tuple #[.agg #[.int .i64 t.rev,.slice t.ba t.bn t.bc,.slice t.na t.nn t.nc,.int .i64 t.seq,.slice t.sa t.sn t.sc,.slice t.ha t.hn t.hc,.bool t.jo],.bool (Kl.Mm c.cl (us.map PV.pt)),.int .i64 (Kl.vM c.cl (us.map PV.pt))])/\kE w' t/\t.cl=Kl.JL c.cl (us.map PV.pt))/\Below w.heap.size w w'):=RW c L J K us w A hO hS;obtain⟨V,P⟩:∃V,Wo.put v.w k (Wo.Bl k (Wo.vw v.w k) (us.map PV.pt))=V:=⟨_,rfl⟩;rw[P,m];have a7:Hd (Kl.vM c.cl (us.map PV.pt)=0->Kl.Rc (Kl.JL c.cl (us.map PV.pt))):=Wo.TG;have HV:Hd (Wo.put v.w k (Wo.tK k (Kl.Mm c.cl (us.map PV.pt)) ⟨Kl.JL c.cl (us.map PV.pt),(Wo.vw v.w k).u,(Wo.vw v.w k).d⟩)=V):=by
  show _=V
  rw[<-P];unfold Wo.Bl;rw[m]
 generalize Kl.vM c.cl (us.map PV.pt)=E at*;generalize Kl.Mm c.cl (us.map PV.pt)=Sb at*;generalize Kl.JL c.cl (us.map PV.pt)=C at*;have p3:=f.p3 h;have a0:w.cell? ⟨a,k*7,none⟩=some (.int .i64 c.rev):=f.cell 0 (by decide);have a1:w.cell? ⟨a,k*7+1,none⟩=some (.slice c.ba c.bn c.bc):=f.cell 1 (by decide);have a2:w.cell? ⟨a,k*7+2,none⟩=some (.slice c.na c.nn c.nc):=f.cell 2 (by decide);have a3:w.cell? ⟨a,k*7+3,none⟩=some (.int .i64 c.seq):=f.cell 3 (by decide);have a4:w.cell? ⟨a,k*7+4,none⟩=some (.slice c.sa c.sn c.sc):=f.cell 4 (by decide);have a5:w.cell? ⟨a,k*7+5,none⟩=some (.slice c.ha c.hn c.hc):=f.cell 5 (by decide);have a6:w.cell? ⟨a,k*7+6,none⟩=some (.bool c.jo):=f.cell 6 (by decide);have H0:=hId h;have HI:=hId f;have O:=hId Q;have HX:=hId hX;have a8:=hId (h.lo 1 a (by show v.ca.map _=_;rw[f.ca];rfl));clear h Q f A s m P hO hS hX;go_enter func46,ntmps46
 go_wp2_with fail
 refine CD.o.mono ?_
 rintro e i⟨⟨t,rfl,ht,z⟩,l⟩;have o:=hId l;have HT:=hId ht;have F:=hId z;clear l ht z CD p3 a0 a1 a2 a3 a4 a5 a6;have g:=hId (o.o.trans ((aa t i).mono o.o.size));have G:=hId (HT.o.below (aa t i));have HQ:=hId (cH t i);have a9:w.heap.size<=i.heap.size:=o.o.size;go_upto_region 2 with fail
 change Code.wp prog _ _ _ (aO t i);generalize aO t i=W at*;by_cases M:E=0
 ·have Z:=hId (ug G.o (by rw[F.o];exact a7.o M));subst M;have N:=H0.o.below g.o;have d:=HI.o.below g.o;have p3:=d.p3 N;have a0:W.cell? ⟨a,k*7,none⟩=some (.int .i64 c.rev):=d.cell 0 (by decide);have a1:W.cell? ⟨a,k*7+1,none⟩=some (.slice c.ba c.bn c.bc):=d.cell 1 (by decide);have a2:W.cell? ⟨a,k*7+2,none⟩=some (.slice c.na c.nn c.nc):=d.cell 2 (by decide);have a3:W.cell? ⟨a,k*7+3,none⟩=some (.int .i64 c.seq):=d.cell 3 (by decide);have a4:W.cell? ⟨a,k*7+4,none⟩=some (.slice c.sa c.sn c.sc):=d.cell 4 (by decide);have a5:W.cell? ⟨a,k*7+5,none⟩=some (.slice c.ha c.hn c.hc):=d.cell 5 (by decide);have a6:W.cell? ⟨a,k*7+6,none⟩=some (.bool c.jo):=d.cell 6 (by decide);have f0:W.frozen? ⟨a,k*7,none⟩=false:=d.bc.frozen _;have f1:W.frozen? ⟨a,k*7+1,none⟩=false:=d.bc.frozen _;have f2:W.frozen? ⟨a,k*7+2,none⟩=false:=d.bc.frozen _;have f3:W.frozen? ⟨a,k*7+3,none⟩=false:=d.bc.frozen _;have f4:W.frozen? ⟨a,k*7+4,none⟩=false:=d.bc.frozen _;have f5:W.frozen? ⟨a,k*7+5,none⟩=false:=d.bc.frozen _;have f6:W.frozen? ⟨a,k*7+6,none⟩=false:=d.bc.frozen _;obtain⟨x0,x1,x2,x3,x4,x5,x6⟩:=Bh HQ.o;have U:a≠i.heap.size:=by have:=N.hi 1 a (by show v.ca.map _=_;rw[d.ca];rfl);have:=(HI.o.bc).lt;omega
  obtain⟨S,i2⟩:=d.oJ N G.o;have H2:=hId S;have I:Hd (Below B w (oJ W a (k*7) t)):=(g.o.mono (by omega)).trans ((rH W a (k*7) t).below (by have:=g.o.size;omega) (fun x hx=>by rw[UY.1 hx];exact a8.o));have H:Hd (Wo.gi (WV.w {v with cs:=v.cs.set k t}) n):=by show Wo.gi _ _;rw[WV.KH O.o p];exact O.o.put k _
  have D:Hd (Wo.put (WV.w {v with cs:=v.cs.set k t}) k (Wo.tK k Sb (Wo.vw (WV.w {v with cs:=v.cs.set k t}) k))=V):=by
   show _=V
   rw[<-HV.o,WV.KH O.o p,Wo.iG O.o p,F.o];exact Wo.l6 _ _ _ _
  have CG:Hd (∀w',Below (oJ W a (k*7) t).heap.size (oJ W a (k*7) t) w'->Calls prog 75 #[.pointer (some ⟨b,0,none⟩),.int .i64 k] w' fun e T=>e=.returned (.tuple #[])/\MW B X b w' (Wo.put (WV.w {v with cs:=v.cs.set k t}) k (Wo.vP k (Wo.vw (WV.w {v with cs:=v.cs.set k t}) k))) T):=fun w' l=>uR B X b n k _ w' (S.below l) H.o p HX.o (fun c' Y=>by
   have e:(v.cs.set k t)[k]?=some c':=Y;rw[i2]at e
   cases e
   exact Z.o)
  clear N d S i2;go_upto_region 4 with fail
  cases Sb
  ·go_region
   go_wp2
   change bodyPost prog _ _ Exit.ret _ (oJ W a (k*7) t).drew;go_ret
   exact⟨rfl,I.o.drew,fun _=>⟨_,H2.o.below (VE _ _).drew,(Wo.jC H.o p).symm.trans D.o⟩⟩
  ·go_region
   go_wp2_with fail
   change Calls prog 75 _ (oJ W a (k*7) t).drew _;refine(CG.o _ (VE _ _).drew).mono ?_
   rintro e w4⟨rfl,⟨v',y,u⟩,l⟩;have H4:=hId y;have H5:=hId (u.trans D.o);have H6:=hId ((I.o.drew).trans l);clear y u l CG;go_wp2
   go_ret
   exact⟨rfl,H6.o,fun _=>⟨v',H4.o,H5.o⟩⟩
 ·have U:(E !=0)=true:=by simp[M]
  go_wp2
  go_ret
  exact⟨rfl,g.o.mono (by omega),fun e=>absurd e M⟩
def jS (a:Option Addr) (cap:Nat):Option Addr:=if cap=1 then a else a.map (fun b=>b.add (1*4))
theorem te(a:Option Addr)(b:Nat):(jS a b).map (·.block)=a.map (·.block):=by
 unfold jS;split
 ·rfl
 ·cases a with
  |none=>rfl
  |some c=>
   show some (c.add (1*4)).block=some c.block
   unfold Addr.add;split<;>rfl
theorem Q4:prog.elem 53=114:=by kernel_rfl
theorem Ji:prog.underlying 53=some (.slice (prog.elem 53)):=by kernel_rfl
theorem Cj(a:Option Addr)(n b:Nat)(c:0<n)(w:World):(Instr.slice 53 (.slice a n b) (some (.int .i64 1)) none none).run prog w=.ok (.slice (jS a b) (n-1) (b-1)) w:=by
 rw[run_slice_l (P:=prog) (w:=w) 53 a n b Ji .i64 (1:Int) (by omega) (by omega),Q4,Tryz.sizeOf114 w];rfl
theorem qp.tail{w:World}{q:QV}{m:MV}{a:List MV}(h:qp w q)(c:q.ms=m::a):qp w ⟨jS q.a q.cap,q.n-1,q.cap-1,a⟩/\0<q.n:=by
 have i:=h.len;rw[c,VG]at i;have r:=h.row.room;have p:=h.row.fg;refine⟨⟨⟨by rw[yF];show a.length*4=(q.n-1)*4;omega,by show q.n-1<=q.cap-1;omega,by show q.cap-1<=_;omega,fun g=>?_⟩,fun x f=>h.ops x (by rw[c];exact VP _ f)⟩,by omega⟩
 have o:q.n-1≠0:=g;obtain⟨b,d,e,l⟩:=h.row.bH (by omega);refine⟨b,d+4,?_,fun j u k=>?_⟩
 ·show jS q.a q.cap=_
  unfold jS;rw[VD (by omega),e,Option.map_some,iU]
 ·have:(bN q.ms)[4+j]?=some u:=by
   rw[c];show(jX m++bN a)[4+j]?=_
   rw[List.getElem?_append_right (by show 4<=_;omega)];have n:4+j-(jX m).length=j:=by show 4+j-4=j;omega
   rw[n];exact k
  have:=l _ u this;rw[<-WX]at this;exact this
theorem tW(p o:Nat)(q:QV)(w:World)(d:w.cell? ⟨p,o,none⟩=some (.slice q.a q.n q.cap))(c:q.n=0):
  Calls prog 77 #[.pointer (some ⟨p,o,none⟩)] w fun e w'=>e=.returned (.tuple #[SX pE,.bool false])/\Below w.heap.size w w':=by
 have f:=hId (ay pE w);have a:=hId (dE pE w);have b:=aA d f.o;rw[c]at b;clear d c;go_enter func77,ntmps77
 go_upto_region 1 with fail
 change Code.wp prog _ _ _ (aj pE w);generalize aj pE w=W at*;have q0:=a.o.c0;have q1:=a.o.c1;have q2:=a.o.c2;have q3:=a.o.c3;have k:=a.o.frozen 0;have i:=a.o.frozen 1;have h:=a.o.frozen 2;have g:=a.o.frozen 3;go_wp2
 change bodyPost prog _ _ Exit.ret _ (KY W w.heap.size pE);exact VL (zh (t:=pE) rfl _ rfl rfl (tu a.o)) rfl ⟨rfl,f.o.trans ((lI W w.heap.size pE).low (by have:=a.o.lt;omega))⟩
theorem tV(p o:Nat)(q:QV)(m:MV)(Z:List MV)(w:World)(H:w.cell? ⟨p,o,none⟩=some (.slice q.a q.n q.cap))(hf:w.frozen? ⟨p,o,none⟩=false)(C:qp w q)(G:q.ms=m::Z):
  Calls prog 77 #[.pointer (some ⟨p,o,none⟩)] w fun e w'=>e=.returned (.tuple #[SX m,.bool true])/\Kept w w' [p]/\(∀cs T,Blk w p cs T->Blk w' p (cs.set o (.slice (jS q.a q.cap) (q.n-1) (q.cap-1))) T):=by
 have D:p<w.heap.size:=WW _ _ H;have n:=(C.tail G).2;have L:=C.row.room;have M:=C.row.fg;have d:=hId (ay pE w);have HQ:=hId (dE pE w);have f:=mO pE w;obtain⟨b,v,I,E⟩:=C.row.bH (by omega);have c:∀j u,(jX m)[j]?=some u->w.cell? ⟨b,v+j,none⟩=some u:=fun j u hu=>E j u (by
  rw[G];show(jX m++bN Z)[j]?=_
  rw[List.getElem?_append_left (VO.1 hu).1];exact hu)
 have X:Hd ((aj pE w).frozen? ⟨p,o,none⟩=false):=(World.frozen?_of_block (d.o.block p D)).trans hf;have i:=aA H d.o;have m0:(aj pE w).cell? ⟨b,v,none⟩=some (.int .i64 m.mr):=aA (c 0 _ rfl) d.o;have m1:=aA (c 1 _ rfl) d.o;have m2:=aA (c 2 _ rfl) d.o;have m3:=aA (c 3 _ rfl) d.o;obtain⟨A,J⟩:∃A,jS q.a q.cap=A:=⟨_,rfl⟩;have K:∀w,(Instr.slice 53 (.slice (some ⟨b,v,none⟩) q.n q.cap) (some (.int .i64 1)) none none).run prog w=.ok (.slice A (q.n-1) (q.cap-1)) w:=fun w=>by rw[<-J,I];exact Cj _ _ _ n w
 rw[J];rw[I]at i;obtain⟨r,y⟩:∃x,q.n=x:=⟨_,rfl⟩;obtain⟨B,z⟩:∃x,q.cap=x:=⟨_,rfl⟩;rw[y,z]at i K L⊢;rw[y]at n;rw[z]at M;have a1:((r:Int)==0)=false:=by simp;omega
 have a0:(r==0)=false:=by simp;omega
 clear H hf C G I E c J y z;go_enter func77,ntmps77
 go_upto_region 1 with fail
 change Code.wp prog _ _ _ (aj pE w);generalize aj pE w=W at*;have l:=hId (ay m W);have S:=hId (dE m W);have O:Hd (Blk (aj m W) w.heap.size (jX pE) 114):=HQ.o.alloc _;have Y:Hd ((aj m W).frozen? ⟨p,o,none⟩=false):=(World.frozen?_of_block (l.o.block p (by omega))).trans X.o;have N:=aA i l.o;go_upto_region 4 with fail
 change Code.wp prog _ _ _ (aj m W);have U:Hd (Kept w (aj m W) [p]):=(Kept.dA d.o).trans (Kept.dA (l.o.mono (by have:=d.o.size;omega)));have P:Hd (∀cs T,Blk w p cs T->Blk (aj m W) p cs T):=fun cs T h=>(l.o.block p (by omega)).trans ((d.o.block p D).trans h);generalize aj m W=F at*;have f2:=Y.o;clear m0 m1 m2 m3 i;go_upto_region 5 with fail
 change Code.wp prog _ _ _ (F.setCell ⟨p,o,none⟩ (.slice A (r-1) (B-1)));have g:=aP F p o (.slice A (r-1) (B-1));have V:=hId (U.o.trans g);have Q:Hd (∀cs T,Blk w p cs T->Blk (F.setCell ⟨p,o,none⟩ (.slice A (r-1) (B-1))) p (cs.set o (.slice A (r-1) (B-1))) T):=fun cs T h=>(P.o cs T h).set o _;have k:=hId (g.aM S.o (by simp;omega));have a:=hId (g.aM O.o (by simp;omega));clear g f2 N;generalize F.setCell ⟨p,o,none⟩ (.slice A (r-1) (B-1))=s at*;have p0:s.cell? ⟨w.heap.size+1,0,none⟩=some (.int .i64 m.mr):=by rw[<-f];exact k.o.cell 0
 have p1:s.cell? ⟨w.heap.size+1,1,none⟩=some (.int .i64 m.e.aR):=by rw[<-f];exact k.o.cell 1
 have p2:s.cell? ⟨w.heap.size+1,2,none⟩=some (.int .i64 m.e.seq):=by rw[<-f];exact k.o.cell 2
 have p3:s.cell? ⟨w.heap.size+1,3,none⟩=some (.slice m.e.ao m.e.n m.e.cap):=by rw[<-f];exact k.o.cell 3
 have q0:=a.o.c0;have q1:=a.o.c1;have q2:=a.o.c2;have q3:=a.o.c3;have g0:=a.o.frozen 0;have g1:=a.o.frozen 1;have g2:=a.o.frozen 2;have g3:=a.o.frozen 3;go_wp2
 change bodyPost prog _ _ Exit.ret _ (KY s w.heap.size m);exact VL (zh (t:=m) rfl _ rfl rfl (tu a.o)) rfl ⟨rfl,V.o.bZ (lI s w.heap.size m) (fun x hx=>.inr (by rw[UY.1 hx];exact UZ _)),fun cs T h=>(lI s w.heap.size m).aM (Q.o cs T h) (by simp;omega)⟩
