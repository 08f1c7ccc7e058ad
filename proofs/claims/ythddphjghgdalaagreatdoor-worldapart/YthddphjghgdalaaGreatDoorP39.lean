/- A part. -/
import Derived.Test.YthddphjghgdalaaGreatDoorP38
set_option maxRecDepth 100000
set_option maxHeartbeats 12800000
namespace Go.Proofs.YthddphjghgdalaaGreatDoor
open Go.RowKit Go.Proofs.Tryz
theorem AE:l9.2=[0,0,0,0,0,0,0,0,7]:=by
 have h:=rL;unfold DF at h;simp only[WD]at h
 exact eq_of_beq h.1
theorem Nn:l9.1.cs.length=2:=by
 have h:=rL;unfold DF at h;simp only[WD]at h
 exact eq_of_beq h.2.1
theorem QI:Dc.same (Wo.cl l9.1 0).now (Wo.cl l9.1 1).now=true:=by
 have h:=rL;unfold DF at h;simp only[WD]at h
 exact h.2.2.1
theorem QH:Dc.same (Wo.cl l9.1 0).now l9.1.s.now=true:=by
 have h:=rL;unfold DF at h;simp only[WD]at h
 exact h.2.2.2.1
theorem Sa:l9.1.s.now.length=7:=by
 have h:=rL;unfold DF at h;simp only[WD]at h
 exact eq_of_beq h.2.2.2.2.1
theorem SY:l9.1.s.now[1]?.map (fun x=>x.c)=some 121:=by
 have h:=rL;unfold DF at h;simp only[WD]at h
 exact eq_of_beq h.2.2.2.2.2
theorem OD(t:WV)(f:t.w=yE gH 2)(g h d:Nat)(w:World)(p:gD w t)(r:Blk w d (eI (Ml g h)) 35)(y:ae w (some ⟨g+1,0,none⟩) 3 3 (Mj g 120 1 4))(s:ae w (some ⟨h+1,0,none⟩) 3 3 (Mj h 121 1 4))(q:Gl w w.heap.size):
  Calls prog 23 #[.agg #[.slice t.s.fa t.s.fn t.s.fc,.slice t.s.la t.s.ln t.s.lc,.slice t.s.na t.s.nn t.s.nc,.slice t.ca t.cn t.cc,.slice t.ua t.un t.uc,.slice t.da t.dn t.dc],.slice (some ⟨d,0,none⟩) 9 9] w fun e w'=>(∃(u:WV)(a:Option Addr)(c:Nat),e=.returned (.tuple #[.agg #[.slice u.s.fa u.s.fn u.s.fc,.slice u.s.la u.s.ln u.s.lc,.slice u.s.na u.s.nn u.s.nc,.slice u.ca u.cn u.cc,.slice u.ua u.un u.uc,.slice u.da u.dn u.dc],.slice a 9 c,.int .i64 0])/\gD w' u/\u.w=l9.1/\Row w' a 9 c 1 (FU l9.2)/\iu w.heap.size w'.heap.size u/\∀i:Addr,a=some i->w.heap.size<=i.block)/\Below w.heap.size w w':=by
 have n:∀k o,qq w (Mk k o):=fun k o=>⟨⟨Row.nil w 7,fun v l=>by cases l⟩,Row.nil w 1⟩;have b:∀x∈Ml g h,qq w x:=fun x b=>by
  unfold Ml at b;simp only[WG,List.not_mem_nil,or_false]at b
  rcases b with rfl|rfl|rfl|rfl|rfl|rfl|rfl|rfl|rfl
  ·exact⟨y,Row.nil w 1⟩
  ·exact⟨s,Row.nil w 1⟩
  all_goals exact n _ _
 have:=Cw t (Ml g h) (some ⟨d,0,none⟩) 9 9 w p (by rw[f];exact Nl) ⟨rfl,UZ _,by decide,fun _=>⟨d,0,rfl,fun j u m=>by rw[VR,r.cell j];exact m⟩⟩ b (by decide) q;rw[f,Qm]at this;exact this
theorem vt{P:Program}{ops:Array Oper}{Q:Exit->Act->World->Prop}{md:Region.Mode}{S:World->Prop}{f:Nat->Bool}:∀(n:Nat)(l:Array Bool)(a:Act)(w:World),(∀j,l.getD j true=false->f j=false)->vU P md ops Q (fun _=>True) (fun _=>true) n l a w->vU P md ops Q S f n l a w
 |0,_,_,_,_,h=>h
 |n+1,l,a,w,k,h=>⟨h.1,fun i m=>wpOp_mono (fun b u g=>⟨(fun e=>by rw[k i (mem_ready.1 m).1]at e;cases e),vt n _ b u (fun j c=>k j (by
   by_cases e:i=j
   ·subst e;rcases Nat.lt_or_ge i l.size with d|d
    ·simp[d]at c
    ·simp[d]at c
   ·rwa [getD_set_ne true e]at c)) g.2⟩) (h.2 i m)⟩
theorem JY{P:Program}{ops:Array Oper}{Q:Exit->Act->World->Prop}{md:Region.Mode}{S:World->Prop}{f:Nat->Bool}{n:Nat}{l:Array Bool}{a:Act}{w:World}(d:((List.range l.size).all fun j=>l.getD j true||!f j)=true)(h:vU P md ops Q (fun _=>True) (fun _=>true) n l a w):vU P md ops Q S f n l a w:=
 vt n l a w (fun j c=>by
  rcases Nat.lt_or_ge j l.size with b|b
  ·have:=XR.1 d j (XY.2 b);rw[c]at this;simpa using this
  ·simp[b]at c) h
structure Ol (u:WV) (a:Option Addr) (c:Nat) (w:World):Prop where
 nV:gD w u
 eq:u.w=l9.1
 row:Row w a 9 c 1 (FU l9.2)
theorem Ol.put{u x:WV}{a:Option Addr}{c b B:Nat}{w:World}(o:Blk w b (eo x) 30)(p:b<B)(n:gD w u)(m:u.w=l9.1)(i:Row w a 9 c 1 (FU l9.2))(l:iu B w.heap.size u)(k:∀d:Addr,a=some d->B<=d.block):Ol u a c (cO w b u):=
 ⟨n.mY (g:=b) (fun s y h e=>by have:=(l s y h e).1;omega) (bP w b u) (NT.iJ o),m,i.kept (by decide) (bP w b u) (fun d _ e f=>by have:=k d e;have:=UY.1 f;omega)⟩
def WbS (b:Nat) (t:WV) (w':World):Prop:=w'.cell? ⟨b,0,none⟩=some (.slice t.s.fa t.s.fn t.s.fc)/\w'.cell? ⟨b,1,none⟩=some (.slice t.s.la t.s.ln t.s.lc)/\w'.cell? ⟨b,2,none⟩=some (.slice t.s.na t.s.nn t.s.nc)/\w'.cell? ⟨b,3,none⟩=some (.slice t.ca t.cn t.cc)/\w'.cell? ⟨b,4,none⟩=some (.slice t.ua t.un t.uc)/\w'.cell? ⟨b,5,none⟩=some (.slice t.da t.dn t.dc)
theorem yI(w:World)(hG:Gl w w.heap.size):Calls prog 7 #[] w fun e w'=>e=.returned (.bool true)/\Below w.heap.size w w':=by
 have a3:Hd (∀w',Below w.heap.size w w'->Gl w' w'.heap.size):=fun w' h=>(hG.below h).mono h.size (UZ _);clear hG;go_enter func7,ntmps7
 go_wp2_with fail
 refine(Pn w).mono ?_
 rintro e w1⟨rfl,hD,o⟩;have H1:=hId o;have CN:Hd (Calls prog 21 #[.slice (some ⟨w.heap.size,0,none⟩) 5 5,.int .i64 2] w1 fun e w'=>(∃t:WV,e=.returned (.tuple #[.agg #[.slice t.s.fa t.s.fn t.s.fc,.slice t.s.la t.s.ln t.s.lc,.slice t.s.na t.s.nn t.s.nc,.slice t.ca t.cn t.cc,.slice t.ua t.un t.uc,.slice t.da t.dn t.dc],.int .i64 0])/\gD w' t/\t.w=yE gH 2/\iu w1.heap.size w'.heap.size t)/\Below w1.heap.size w1 w'):=E9 _ _ _ _ 2 w1 hD (a3.o _ o).zt.Be rn (by decide) (by decide);clear o hD;go_wp2_with fail
 refine CN.o.mono ?_
 rintro e N⟨⟨t,rfl,hV,a9,-⟩,o⟩;have A:=hId ((H1.o.trans (o.mono H1.o.size)).trans ((aV t N).mono (VX H1.o.size o.size)));have af:=hId (hV.below (aV t N));have ag:=hId a9;have B:=hId (bU t N);have aj:=hId (VX H1.o.size o.size);clear hV a9 o CN H1;go_upto_region 2 with fail
 change Code.wp prog _ _ _ (aQ t N);generalize aQ t N=W at*;generalize N.heap.size=b at*;have l:Hd (∀w',Below W.heap.size W w'->WbS b t w'):=fun w' o=>by
  have h:Blk w' b (eo t) 30:=(o.block _ B.o.lt).trans B.o;exact⟨h.cell 0,h.cell 1,h.cell 2,h.cell 3,h.cell 4,h.cell 5⟩
 go_cut [3,4]from 10 to 28 (fun sd f wx=>∃(u:WV)(a:Option Addr)(c:Nat),sd=.slice a 9 c/\f=.int .i64 0/\Blk wx b (eo u) 30/\Ol u a c wx/\Below w.heap.size w wx)
 case first=>
  have ak:Hd (Below W.heap.size W W.drew):=(VE _ _).drew;have n:=l.o _ ak.o;refine gj (S:=WbS b t) (f:=fun i=>decide (i<14)) (by kernel_rfl) ?_
  refine dW (i:=0) (oi:=_) (v:=?vv0) rfl (by kernel_rfl) (by kernel_rfl) (by kernel_rfl) (by kernel_rfl) (fun _ _ _ h=>h) (Or.inl ⟨by rfl,?hy0⟩) n ?rest0
  case hy0=>
   intro u d;obtain⟨H,G,F,E,D,C⟩:=d;go_simp
   try with_reducible rfl
  try simp only[Act.put,UX]
  refine dW (i:=5) (oi:=_) (v:=?vv5) rfl (by kernel_rfl) (by kernel_rfl) (by kernel_rfl) (by kernel_rfl) (fun _ _ _ h=>h) (Or.inl ⟨by rfl,?hy5⟩) n ?rest5
  case hy5=>
   intro u d;obtain⟨H,G,F,E,D,C⟩:=d;go_simp
   try with_reducible rfl
  try simp only[Act.put]
  refine dW (i:=6) (oi:=_) (v:=?vv6) rfl (by kernel_rfl) (by kernel_rfl) (by kernel_rfl) (by kernel_rfl) (fun _ _ _ h=>h) (Or.inl ⟨by rfl,?hy6⟩) n ?rest6
  case hy6=>
   intro u d;obtain⟨H,G,F,E,D,C⟩:=d;go_simp
   try with_reducible rfl
  try simp only[Act.put]
  refine dW (i:=7) (oi:=_) (v:=?vv7) rfl (by kernel_rfl) (by kernel_rfl) (by kernel_rfl) (by kernel_rfl) (fun _ _ _ h=>h) (Or.inl ⟨by rfl,?hy7⟩) n ?rest7
  case hy7=>
   intro u d;obtain⟨H,G,F,E,D,C⟩:=d;go_simp
   try with_reducible rfl
  try simp only[Act.put]
  refine dW (i:=8) (oi:=_) (v:=?vv8) rfl (by kernel_rfl) (by kernel_rfl) (by kernel_rfl) (by kernel_rfl) (fun _ _ _ h=>h) (Or.inl ⟨by rfl,?hy8⟩) n ?rest8
  case hy8=>
   intro u d;obtain⟨H,G,F,E,D,C⟩:=d;go_simp
   try with_reducible rfl
  try simp only[Act.put]
  refine dW (i:=9) (oi:=_) (v:=?vv9) rfl (by kernel_rfl) (by kernel_rfl) (by kernel_rfl) (by kernel_rfl) (fun _ _ _ h=>h) (Or.inl ⟨by rfl,?hy9⟩) n ?rest9
  case hy9=>
   intro u d;obtain⟨H,G,F,E,D,C⟩:=d;go_simp
   try with_reducible rfl
  try simp only[Act.put]
  refine dW (i:=10) (oi:=_) (v:=?vv10) rfl (by kernel_rfl) (by kernel_rfl) (by kernel_rfl) (by kernel_rfl) (fun _ _ _ h=>h) (Or.inl ⟨by rfl,?hy10⟩) n ?rest10
  case hy10=>
   intro u d;obtain⟨H,G,F,E,D,C⟩:=d;go_simp
   try with_reducible rfl
  try simp only[Act.put]
  refine dW (i:=11) (oi:=_) (v:=?vv11) rfl (by kernel_rfl) (by kernel_rfl) (by kernel_rfl) (by kernel_rfl) (fun _ _ _ h=>h) (Or.inl ⟨by rfl,?hy11⟩) n ?rest11
  case hy11=>
   intro u d;obtain⟨H,G,F,E,D,C⟩:=d;go_simp
   try with_reducible rfl
  try simp only[Act.put]
  refine ar (i:=1) (by kernel_rfl) rfl (fun K r=>?_)
  go_simp
  refine(rG 120 1 5 4 (by decide) _).mono ?_
  rintro e T⟨rfl,Z,ad⟩;have a5:=hId (cT ad);have an:Hd (ae T (some ⟨W.heap.size+1,0,none⟩) 3 3 (Mj W.heap.size 120 1 4)):=by rw[XE]at Z;exact Z
  have ai:=l.o _ a5.o;refine r.out _ _ (fun _=>ai) ?_
  clear r K Z ad;try simp only[Act.put,UX,VA,VB]
  refine dW (i:=2) (oi:=_) (v:=?vv2) rfl (by kernel_rfl) (by kernel_rfl) (by kernel_rfl) (by kernel_rfl) (fun _ _ _ h=>h) (Or.inl ⟨by rfl,?hy2⟩) ai ?rest2
  case hy2=>
   intro u d;obtain⟨H,G,F,E,D,C⟩:=d;go_simp
   try with_reducible rfl
  try simp only[Act.put,UX]
  refine ar (i:=3) (by kernel_rfl) rfl (fun K r=>?_)
  go_simp
  refine(rG 121 1 5 4 (by decide) _).mono ?_
  rintro e M⟨rfl,P,a2⟩;have a4:=hId (a5.o.trans (a2.mono a5.o.size));have ap:=hId (an.o.below a2);have ao:=hId P;have ah:=l.o _ a4.o;refine r.out _ _ (fun _=>ah) ?_
  clear r K P a2;try simp only[Act.put,UX,VA,VB]
  refine dW (i:=4) (oi:=_) (v:=?vv4) rfl (by kernel_rfl) (by kernel_rfl) (by kernel_rfl) (by kernel_rfl) (fun _ _ _ h=>h) (Or.inl ⟨by rfl,?hy4⟩) ah ?rest4
  case hy4=>
   intro u d;obtain⟨H,G,F,E,D,C⟩:=d;go_simp
   try with_reducible rfl
  try simp only[Act.put,UX]
  have aq:Hd (Blk (M.alloc (.cells (eI (Ml W.heap.size T.heap.size)).toArray 35)) M.heap.size (eI (Ml W.heap.size T.heap.size)) 35):=Blk.new _ _ _;have a6:Hd (Below M.heap.size M (M.alloc (.cells (eI (Ml W.heap.size T.heap.size)).toArray 35))):=(VE _ _).alloc (UZ _) _;have k:=hId (a4.o.trans (a6.o.mono a4.o.size));have am:=l.o _ k.o;refine ar (i:=12) (by kernel_rfl) rfl (fun K r=>?_)
  go_simp
  refine r.out _ (M.alloc (.cells (eI (Ml W.heap.size T.heap.size)).toArray 35)) (fun _=>am) ?_
  clear r K;try simp only[Act.put,UX,VA,VB]
  have CR:=OD t ag.o W.heap.size T.heap.size M.heap.size _ (af.o.below k.o) aq.o (ap.o.below a6.o) (ao.o.below a6.o) (a3.o _ (A.o.trans (k.o.mono A.o.size)));have av:=hId (WJ B.o.lt k.o.size);generalize (M.alloc (.cells (eI (Ml W.heap.size T.heap.size)).toArray 35))=X at*;refine ar (i:=13) (by kernel_rfl) rfl (fun K r=>?_)
  go_simp
  refine CR.mono ?_
  rintro e wt⟨⟨u,a,c,rfl,a7,a8,O,Q,aa⟩,o⟩;have J:=hId (k.o.trans (o.mono k.o.size));have L:Hd (Blk wt b (eo t) 30):=(J.o.block _ B.o.lt).trans B.o;have au:=hId (Ol.put L.o av.o a7 a8 O Q aa);have al:=l.o _ J.o;refine r.out _ _ (fun _=>al) ?_
  clear r K a7 a8 O Q aa o CR;try simp only[Act.put,UX,VA,VB]
  refine JY (by kernel_rfl) ?_
  refine dW (i:=14) (oi:=_) (v:=?vv14) rfl (by kernel_rfl) (by kernel_rfl) (by kernel_rfl) (by kernel_rfl) (fun _ _ _ h=>h) (Or.inl ⟨by rfl,?hy14⟩) trivial ?rest14
  case hy14=>
   intro u d;go_simp
   try with_reducible rfl
  try simp only[Act.put,UX]
  refine dW (i:=15) (oi:=_) (v:=?vv15) rfl (by kernel_rfl) (by kernel_rfl) (by kernel_rfl) (by kernel_rfl) (fun _ _ _ h=>h) (Or.inl ⟨by rfl,?hy15⟩) trivial ?rest15
  case hy15=>
   intro u d;go_simp
   try with_reducible rfl
  try simp only[Act.put]
  refine dW (i:=16) (oi:=_) (v:=?vv16) rfl (by kernel_rfl) (by kernel_rfl) (by kernel_rfl) (by kernel_rfl) (fun _ _ _ h=>h) (Or.inl ⟨by rfl,?hy16⟩) trivial ?rest16
  case hy16=>
   intro u d;go_simp
   try with_reducible rfl
  try simp only[Act.put]
  refine dW (i:=17) (oi:=_) (v:=?vv17) rfl (by kernel_rfl) (by kernel_rfl) (by kernel_rfl) (by kernel_rfl) (fun _ _ _ h=>h) (Or.inl ⟨by rfl,?hy17⟩) trivial ?rest17
  case hy17=>
   intro u d;go_simp
   try with_reducible rfl
  try simp only[Act.put]
  obtain⟨z0,z1,z2,z3,z4,z5⟩:=N5 L.o;obtain⟨y0,y1,y2,y3,y4,y5⟩:=So L.o;refine ar (i:=18) (by kernel_rfl) rfl (fun K r=>?_)
  go_simp
  refine r.out _ (cO wt b u) (fun _=>trivial) ?_
  clear r K;try simp only[Act.put,UX,VA,VB]
  refine lB (i:=19) (oi:=_) (v:=?vv19) (some 3) rfl rfl (by kernel_rfl) (by kernel_rfl) (by kernel_rfl) (by kernel_rfl) (fun _ _ _ h=>h) (Or.inl ⟨by rfl,?hy19⟩) trivial ?rest19
  case hy19=>
   intro u d;go_simp
   try with_reducible rfl
  try simp only[Act.put,UX,VA,VB]
  refine lB (i:=20) (oi:=_) (v:=?vv20) (some 4) rfl rfl (by kernel_rfl) (by kernel_rfl) (by kernel_rfl) (by kernel_rfl) (fun _ _ _ h=>h) (Or.inl ⟨by rfl,?hy20⟩) trivial ?rest20
  case hy20=>
   intro u d;go_simp
   try with_reducible rfl
  try simp only[Act.put,UX,VA,VB]
  refine et (by kernel_rfl) ?_ _
  go_wp2_with fail
  go_meet
  case rel=>exact⟨u,a,c,rfl,rfl,dM L.o,au.o,(A.o.trans (J.o.mono A.o.size)).trans ((bP wt b u).below (by have:=A.o.size;have:=J.o.size;omega) (fun y hy=>by rw[UY.1 hy];exact aj.o))⟩
 case rest=>
  obtain⟨u,a,c,rfl,rfl,hB,s,o⟩:=hcut;have hl:=s.nV.lens.1;have es:l9.1.s=u.s.se:=by rw[<-s.eq];rfl
  have ec:l9.1.cs=u.cs.map CV.cl:=by rw[<-s.eq];rfl
  have ab:u.cs.length=2:=by have:=Nn;rw[ec,VH]at this;exact this
  obtain⟨g,p,q⟩:∃g p,u.cs=[g,p]:=by
   match u.cs,ab with
   |[x,y],_=>exact⟨x,y,rfl⟩
  have V:u.cn=2:=by omega
  have e0:Wo.cl l9.1 0=g.cl:=by unfold Wo.cl;rw[ec,q];rfl
  have e1:Wo.cl l9.1 1=p.cl:=by unfold Wo.cl;rw[ec,q];rfl
  have n7:u.s.nn=7:=by have:=Sa;rw[es]at this;exact s.nV.eF.now.len.symm.trans this
  obtain⟨cb,co,ac,a1⟩:=s.nV.cr.bH (by omega);have q0:=a1 2 _ (by rw[q];rfl);have q1:wc.cell? ⟨cb,co+7+2,none⟩=some (.slice p.na p.nn p.nc):=by rw[WX];exact a1 9 _ (by rw[q];rfl)
  obtain⟨sb,so,rfl,Y⟩:=s.row.bH (by decide);have s8:wc.cell? ⟨sb,so+8,none⟩=some (.int .i64 7):=Y 8 _ (by rw[AE];rfl);have s7:wc.cell? ⟨sb,so+7,none⟩=some (.int .i64 0):=Y 7 _ (by rw[AE];rfl);obtain⟨nb,no,a0,hA⟩:=s.nV.eF.now.bH (by omega);have hy:wc.cell? ⟨nb,no+3,none⟩=some (.int .u8 121):=by
   have hj:=SY;rw[es]at hj;have I:u.s.now[1]?.map (fun x=>x.c)=some 121:=hj
   cases hh:u.s.now[1]? with
   |none=>rw[hh]at I;cases I
   |some z=>
    rw[hh]at I;obtain⟨h1,h3⟩:=VO.1 hh;have:=hA.c 1 h1;rw[h3,show z.c=121 from WU I]at this;exact this
  have k0:=s.nV.cl g (by rw[q];simp);have k1:=s.nV.cl p (by rw[q];simp);have ay:Hd (∀m,Calls prog 15 #[.slice g.na g.nn g.nc,.slice p.na p.nn p.nc] (wc.drewN m) fun e w'=>e=.returned (.bool true)/\∃U,w'=wc.drewN U):=fun m=>by
   have:=gJ g.na p.na g.nn g.nc p.nn p.nc g.now p.now (wc.drewN m) (k0.now.below (Go.below_drewN (VE _ _) m)) (k1.now.below (Go.below_drewN (VE _ _) m));rw[show Dc.same g.now p.now=true by have:=QI;rw[e0,e1]at this;exact this]at this;exact this.mono fun e w'⟨h1,U,V⟩=>⟨h1,m+U,by rw[V];simp⟩
  have ax:Hd (∀m,Calls prog 15 #[.slice g.na g.nn g.nc,.slice (some ⟨nb,no,none⟩) 7 u.s.nc] (wc.drewN m) fun e w'=>e=.returned (.bool true)/\∃U,w'=wc.drewN U):=fun m=>by
   have:=gJ g.na u.s.na g.nn g.nc u.s.nn u.s.nc g.now u.s.now (wc.drewN m) (k0.now.below (Go.below_drewN (VE _ _) m)) (s.nV.eF.now.below (Go.below_drewN (VE _ _) m));rw[show Dc.same g.now u.s.now=true by have:=QH;rw[e0,es]at this;exact this,n7,a0]at this;exact this.mono fun e w'⟨h1,U,V⟩=>⟨h1,m+U,by rw[V];simp⟩
  have p2:wc.cell? ⟨b,2,none⟩=some (.slice (some ⟨nb,no,none⟩) 7 u.s.nc):=by have:=hB.cell 2;rw[<-a0,<-n7];exact this
  have p3:wc.cell? ⟨b,3,none⟩=some (.slice (some ⟨cb,co,none⟩) 2 u.cc):=by have:=hB.cell 3;rw[<-ac,<-V];exact this
  have aw:=hId o;have r1:=s.nV.cr.room;have r2:=s.nV.eF.now.room;rw[V]at r1;rw[n7]at r2;clear s hB o hl es ec ab q e0 e1 n7 ac a1 Y a0 hA k0 k1 V l B af ag A aj a3;go_upto_region 3 with fail
  go_quiet (first|(go_at_call 15;exact(ay.o _).mono fun e N⟨he,hw⟩=>⟨he,hw⟩)|(go_at_call 15;exact(ax.o _).mono fun e N⟨he,hw⟩=>⟨he,hw⟩))
  go_wp2
  go_ret
  exact⟨rfl,Go.below_drewN aw.o _⟩
