/- A part. -/
import Derived.Test.YthddphjghgdalaaGreatDoorP16
set_option maxRecDepth 100000
set_option maxHeartbeats 6400000
namespace Go.Proofs.YthddphjghgdalaaGreatDoor
open Go.RowKit Go.Proofs.Tryz
theorem Io(d:Option Addr)(b:Nat)(w:World)(m:ae w d 0 b []):
  Calls prog 69 #[.slice d 0 b] w fun e w'=>(∃a c,e=.returned (.slice a 0 c)/\ae w' a 0 c [])/\Below w.heap.size w w':=by
 have n:=hId (pK d 0 b (aG []) w m.row (aY []) (by omega));clear m;go_enter func69,ntmps69
 go_wp2_with fail
 refine n.o.mono ?_
 rintro e g⟨⟨v,rfl,k⟩,l⟩;obtain⟨a,c,rfl,h,f,q⟩:=cR k;have r:Hd (ae g a 0 c []):=⟨h,fun v p=>absurd p (by simp)⟩;have s:=hId l;clear k l h f q n;go_wp2
 go_loopw [8] (fun i wr=>i=.int .i64 0/\wr=g) (fun _ _=>0)
 case atStart=>exact⟨rfl,rfl⟩
 case round=>
  obtain⟨rfl,o⟩:=hrel;obtain rfl:=o.symm;go_wp2
  go_ret
  exact⟨⟨a,c,rfl,r.o⟩,s.o⟩
def tF (n:Nat) (vs:List PV):Prop:=n<=40/\∀ v ∈ vs,v.m<=80
theorem lS(f:Option Addr)(n b:Nat)(d:List PV)(w:World)(h:ae w f n b d)(m:tF n d):
  Calls prog 69 #[.slice f n b] w fun e w'=>(∃a c us,e=.returned (.slice a n c)/\ae w' a n c us/\us.map PV.pt=d.map PV.pt)/\Below w.heap.size w w':=by
 rcases XX n with l|l
 ·subst l;have o:=VS.1 h.len;subst o;refine(Io f b w h).mono ?_
  rintro e w'⟨⟨a,c,k,i⟩,g⟩;exact⟨⟨a,c,[],k,i,rfl⟩,g⟩
 ·refine(uf f n b d w h l m.1 m.2).mono ?_
  rintro e w'⟨⟨a,c,us,k,i,p⟩,g⟩;exact⟨⟨a,c,us,k,i.ops,p⟩,g⟩
def QG (c:CV) (a1:Option Addr) (k1:Nat) (a2:Option Addr) (k2:Nat):CV:=(c.tO a1 c.bn k1 c.base).kM a2 c.nn k2 c.now
def SW (c:CV) (a4:Option Addr) (k4:Nat) (u4:List PV) (a5:Option Addr) (k5:Nat) (u5:List PV):CV:=(c.lh a4 c.sn k4 u4).mo a5 c.hn k5 u5
structure TV (w:World) (c:CV) (t:CV) (wx:World):Prop where
 k:jK wx (w.heap.size) t
 q:Blk wx (w.heap.size+1) (fS eJ) 41
 bf:Below w.heap.size w wx
 cl:t.cl=c.cl
 sn:t.sn=c.sn
 sv:tF t.sn t.aJ
 hv:tF t.hn t.held
 bn:t.bn=c.bn
theorem OO{w:World}{c:CV}{W a:World}(h:TV w c c W)(g:Below W.heap.size W a){f e:Option Addr}{d b:Nat}(n:cy a f c.bn d c.base)(m:cy a e c.nn b c.now):
  TV w c (QG c f d e b) ((a.setCell ⟨w.heap.size,1,none⟩ (.slice f c.bn d)).setCell ⟨w.heap.size,2,none⟩ (.slice e c.nn b)):=by
 have i:=h.k.below g;have l:=i.tO f c.bn d c.base n;have k:=l.kM e c.nn b c.now (m.bA i.aM (aP ..));exact⟨k,((aP a _ _ _).trans (aP _ _ _ _)).aM ((g.block _ h.q.lt).trans h.q) (by simp),((h.bf.trans (g.mono h.bf.size)).setCell (UZ _) _).setCell (UZ _) _,rfl,rfl,h.sv,h.hv,rfl⟩
theorem ON{w:World}{c t:CV}{W a:World}(h:TV w c t W)(k:Below W.heap.size W a){f e:Option Addr}{d b:Nat}{i g:List PV}(r:ae a f t.sn d i)(q:ae a e t.hn b g)(n:i.map PV.pt=t.aJ.map PV.pt)(m:g.map PV.pt=t.held.map PV.pt):
  jK ((a.setCell ⟨w.heap.size,4,none⟩ (.slice f t.sn d)).setCell ⟨w.heap.size,5,none⟩ (.slice e t.hn b)) (w.heap.size) (SW t f d i e b g)/\Blk ((a.setCell ⟨w.heap.size,4,none⟩ (.slice f t.sn d)).setCell ⟨w.heap.size,5,none⟩ (.slice e t.hn b)) (w.heap.size+1) (fS eJ) 41/\Below w.heap.size w ((a.setCell ⟨w.heap.size,4,none⟩ (.slice f t.sn d)).setCell ⟨w.heap.size,5,none⟩ (.slice e t.hn b))/\(SW t f d i e b g).cl=c.cl:=by
 have l:=h.k.below k;have p:=l.lh f t.sn d i r;have o:=p.mo e t.hn b g (q.bA l.aM (aP ..));refine⟨o,((aP a _ _ _).trans (aP _ _ _ _)).aM ((k.block _ h.q.lt).trans h.q) (by simp),((h.bf.trans (k.mono h.bf.size)).setCell (UZ _) _).setCell (UZ _) _,?_⟩
 rw[<-h.cl];show(⟨t.rev,t.base,t.now,t.seq,i.map PV.pt,g.map PV.pt,t.jo⟩:Kl.Cl)=_
 rw[n,m];rfl
theorem n8(c:CV)(w:World)(hC:kE w c)(Q:c.bn<=80)(P:c.nn<=80)(B:tF c.sn c.aJ)(E:tF c.hn c.held):
  Calls prog 43 #[.agg #[.int .i64 c.rev,.slice c.ba c.bn c.bc,.slice c.na c.nn c.nc,.int .i64 c.seq,.slice c.sa c.sn c.sc,.slice c.ha c.hn c.hc,.bool c.jo]] w fun e w'=>(∃t,e=.returned (Rh t)/\kE w' t/\t.cl=c.cl)/\Below w.heap.size w w':=by
 have M:=(aa c w).trans ((aa eJ _).mono (aa c w).size);have k:Hd (TV w c c (aO eJ (aO c w))):=⟨⟨(cH c w).alloc _,hC.below M⟩,by have:=cH eJ (aO c w);rw[hJ]at this;exact this,M,rfl,rfl,B,E,rfl⟩;clear B E M hC;go_enter func43,ntmps43
 go_upto_region 1 with fail
 change Code.wp prog _ _ _ (aO eJ (aO c w));generalize (aO eJ (aO c w))=W at*;have y:Hd (∀w',Below W.heap.size W w'->Calls prog 37 #[.slice c.ba c.bn c.bc] w' fun e b=>(∃v,e=.returned v/\b.ownsRow w'.heap.size 67 3 v c.bn (aI c.base))/\Below w'.heap.size w' b):=fun w' n=>gy _ _ _ _ _ (jc (k.o.k.ia.base.below n)) (bR _) Q;have x:Hd (∀w',Below W.heap.size W w'->Calls prog 37 #[.slice c.na c.nn c.nc] w' fun e b=>(∃v,e=.returned v/\b.ownsRow w'.heap.size 67 3 v c.nn (aI c.now))/\Below w'.heap.size w' b):=fun w' n=>gy _ _ _ _ _ (jc (k.o.k.ia.now.below n)) (bR _) P;have g:Hd (∀w',Below W.heap.size W w'->w'.cell? ⟨w.heap.size,1,none⟩=some (.slice c.ba c.bn c.bc)/\w'.cell? ⟨w.heap.size,2,none⟩=some (.slice c.na c.nn c.nc)/\w'.frozen? ⟨w.heap.size,1,none⟩=false/\w'.frozen? ⟨w.heap.size,2,none⟩=false):=fun w' n=>by
  have h:=(k.o.k.below n).aM;exact⟨h.cell 1,h.cell 2,h.frozen 1,h.frozen 2⟩
 have s:=hId k.o.k.ia.base.fit;have r:=hId k.o.k.ia.now.fit;obtain⟨Y,X,-,-⟩:=g.o W (VE _ _);go_cut []from 3 to 10 (fun u=>∃O L N K,TV w c (QG c O L N K) u)
 case first=>
  go_region_with (first|(go_at_call 37;(with_reducible_and_instances refine(y.o _ ?_).mono ?_);(first|exact d|exact(VE _ _).drew);rintro e J⟨⟨vF,rfl,D⟩,m⟩;obtain⟨aF,cF,rfl,p,-,-⟩:=cR D;have f:Below W.heap.size W J:=(by first|exact d.trans (m.mono d.size)|exact cT m);obtain⟨aj,ah,a9,a7⟩:=g.o _ f;clear D)|(go_at_call 37;(with_reducible_and_instances refine(x.o _ ?_).mono ?_);(first|exact f|exact(VE _ _).drew);rintro e I⟨⟨vN,rfl,C⟩,l⟩;obtain⟨aN,cN,rfl,o,-,-⟩:=cR C;have d:Below W.heap.size W I:=(by first|exact f.trans (l.mono f.size)|exact cT l);obtain⟨ai,ag,a8,a6⟩:=g.o _ d;clear C))
  all_goals
   first|go_meet|(go_wp2_with fail;go_meet)
   case rel=>exact⟨aF,cF,aN,cN,OO k.o (by first|exact f|exact d) (by first|exact bT p s.o|exact(bT p s.o).below l) (by first|exact bT o r.o|exact(bT o r.o).below m)⟩
 case rest=>
  obtain⟨O,L,N,K,G⟩:=hcut;clear k y x g Y X s r;generalize QG c O L N K=t at*;generalize wc=W at*;have k:=hId G;clear G;have y:Hd (∀w',Below W.heap.size W w'->Calls prog 69 #[.slice t.sa t.sn t.sc] w' fun e b=>(∃a c us,e=.returned (.slice a t.sn c)/\ae b a t.sn c us/\us.map PV.pt=t.aJ.map PV.pt)/\Below w'.heap.size w' b):=fun w' n=>lS _ _ _ _ _ (k.o.k.ia.aJ.below n) k.o.sv;have x:Hd (∀w',Below W.heap.size W w'->Calls prog 69 #[.slice t.ha t.hn t.hc] w' fun e b=>(∃a c us,e=.returned (.slice a t.hn c)/\ae b a t.hn c us/\us.map PV.pt=t.held.map PV.pt)/\Below w'.heap.size w' b):=fun w' n=>lS _ _ _ _ _ (k.o.k.ia.held.below n) k.o.hv;have g:Hd (∀w',Below W.heap.size W w'->w'.cell? ⟨w.heap.size,4,none⟩=some (.slice t.sa t.sn t.sc)/\w'.cell? ⟨w.heap.size,5,none⟩=some (.slice t.ha t.hn t.hc)/\w'.frozen? ⟨w.heap.size,4,none⟩=false/\w'.frozen? ⟨w.heap.size,5,none⟩=false):=fun w' n=>by
   have h:=(k.o.k.below n).aM;exact⟨h.cell 4,h.cell 5,h.frozen 4,h.frozen 5⟩
  obtain⟨V,U,-,-⟩:=g.o W (VE _ _);go_upto_region 2 with fail
  go_cut []from 11 to 18 (fun u=>∃q,jK u (w.heap.size) q/\Blk u (w.heap.size+1) (fS eJ) 41/\Below w.heap.size w u/\q.cl=c.cl)
  case first=>
   go_region_with (first|(go_at_call 69;(with_reducible_and_instances refine(y.o _ ?_).mono ?_);(first|exact d|exact(VE _ _).drew);rintro e J⟨⟨aF,cF,uF,rfl,p,A⟩,m⟩;have f:Below W.heap.size W J:=(by first|exact d.trans (m.mono d.size)|exact cT m);obtain⟨af,ac,a5,a3⟩:=g.o _ f;have T:Hd (uF.map PV.pt=t.aJ.map PV.pt):=A;clear A)|(go_at_call 69;(with_reducible_and_instances refine(x.o _ ?_).mono ?_);(first|exact f|exact(VE _ _).drew);rintro e I⟨⟨aN,cN,uN,rfl,o,z⟩,l⟩;have d:Below W.heap.size W I:=(by first|exact f.trans (l.mono f.size)|exact cT l);obtain⟨ad,ab,a4,a0⟩:=g.o _ d;have S:Hd (uN.map PV.pt=t.held.map PV.pt):=z;clear z))
   all_goals
    first|go_meet|(go_wp2_with fail;go_meet)
    case rel=>exact⟨_,ON k.o (by first|exact f|exact d) (by first|exact p|exact p.below l) (by first|exact o|exact o.below m) T.o S.o⟩
  case rest=>
   obtain⟨q,hk,hq,Z,F⟩:=hcut;have HK:=hId hk;have i:=hId hq;have HW:=hId Z;have H:=hId F;clear hk hq Z F k y x g V U;obtain⟨p0,Y,X,p3,V,U,p6⟩:=Bh HK.o.aM;have q0:=i.o.c0;have q1:=i.o.c1;have q2:=i.o.c2;have q3:=i.o.c3;have q4:=i.o.c4;have q5:=i.o.c5;have q6:=i.o.c6;have g0:=i.o.frozen 0;have g1:=i.o.frozen 1;have g2:=i.o.frozen 2;have g3:=i.o.frozen 3;have g4:=i.o.frozen 4;have g5:=i.o.frozen 5;have g6:=i.o.frozen 6;go_wp2
   change bodyPost prog _ _ Exit.ret _ (jt wc (w.heap.size+1) q);exact VL (NH (t:=q) rfl _ rfl (fV i.o)) rfl ⟨⟨q,rfl,HK.o.ia.bA i.o (cQ _ _ _),H.o⟩,HW.o.trans (((cQ wc (w.heap.size+1) q).low (by have:=i.o.lt;omega)).mono (by omega))⟩
theorem Nc(d:Option Addr)(n b:Nat)(l:List It)(w:World)(g:cy w d n b l)(y:df w)(u:Dc.check l=0):
  Calls prog 53 #[.slice d n b] w fun e w'=>(∃t,e=.returned (.tuple #[Rh t,.int .i64 0])/\kE w' t/\t.cl=⟨0,l,l,0,[],[],true⟩)/\Below w.heap.size w w':=by
 have q:Hd (Below w.heap.size w (aO eJ w)):=aa _ _;have z:Hd (Blk (aO eJ w) w.heap.size (fS eJ) 41):=cH _ _;have E:Hd (Calls prog 10 #[.slice d n b] (aO eJ w) fun e w'=>e=.returned (.int .i64 0)/\Below (aO eJ w).heap.size (aO eJ w) w'):=by have:=iq d n b l (aO eJ w) (g.below q.o) (y.below q.o);rw[u]at this;exact this
 have p:=Dc.eM u;rw[g.len]at p;have D:Hd (∀w',Below w.heap.size w w'->Calls prog 43 #[.agg #[.int .i64 0,.slice d n b,.slice d n b,.int .i64 0,.slice none 0 0,.slice none 0 0,.bool true]] w' fun e h=>(∃t,e=.returned (.agg #[.int .i64 t.rev,.slice t.ba t.bn t.bc,.slice t.na t.nn t.nc,.int .i64 t.seq,.slice t.sa t.sn t.sc,.slice t.ha t.hn t.hc,.bool t.jo])/\kE h t/\t.cl=⟨0,l,l,0,[],[],true⟩)/\Below w'.heap.size w' h):=fun w' c=>n8 ⟨0,d,n,b,l,d,n,b,l,0,none,0,0,[],none,0,0,[],true⟩ w' ⟨g.below c,g.below c,jU w',jU w'⟩ p.2 p.2 ⟨VN _,fun v s=>absurd s (by simp)⟩ ⟨VN _,fun v s=>absurd s (by simp)⟩;clear g y u p;go_enter func53,ntmps53
 go_upto_region 1 with fail
 change Code.wp prog _ _ _ (aO eJ w);generalize aO eJ w=W at*;go_wp2_with fail
 refine E.o.mono ?_
 rintro e A⟨rfl,c⟩;have f:=hId (q.o.trans (c.mono q.o.size));have m:Blk A w.heap.size (fS eJ) 41:=(c.block _ z.o.lt).trans z.o;have o:=hId m;clear c m;go_wp2_with fail
 refine(D.o _ f.o).mono ?_
 rintro e r⟨⟨t,rfl,k,i⟩,c⟩;have a:Hd (Blk r w.heap.size (fS eJ) 41):=(c.block _ o.o.lt).trans o.o;have B:=hId k;have x:=hId i;have C:=hId (f.o.trans (c.mono f.o.size));clear k i c;have L:=a.o.c0;have K:=a.o.c1;have J:=a.o.c2;have I:=a.o.c3;have H:=a.o.c4;have G:=a.o.c5;have F:=a.o.c6;have T:=a.o.frozen 0;have S:=a.o.frozen 1;have Q:=a.o.frozen 2;have P:=a.o.frozen 3;have O:=a.o.frozen 4;have N:=a.o.frozen 5;have M:=a.o.frozen 6;go_wp2
 change bodyPost prog _ _ Exit.ret _ (jt r w.heap.size t);exact VL (KP (t:=t) rfl _ rfl rfl (fV a.o)) rfl ⟨⟨t,rfl,B.o.bA a.o (cQ _ _ _),x.o⟩,C.o.trans ((cQ r w.heap.size t).low (by have:=a.o.lt;omega))⟩
