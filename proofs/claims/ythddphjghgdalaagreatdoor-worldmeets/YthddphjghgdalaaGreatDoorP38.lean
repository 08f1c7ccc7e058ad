/- A part. -/
import Derived.Test.YthddphjghgdalaaGreatDoorP37
import Derived.Deep.Slices
import Derived.Deep.Strs
import Derived.Lib.SmallJoins
import Derived.ProofKit
set_option maxRecDepth 100000
set_option maxHeartbeats 6400000
namespace Go.Proofs.YthddphjghgdalaaGreatDoor
open Go.RowKit Go.Proofs.Tryz
theorem lL{w:World}{A B C:Obj}:Below w.heap.size w (((w.alloc A).alloc B).alloc C).drew:=((((VE _ _).alloc (UZ _) _).alloc (by simp) _).alloc (by simp;omega) _).drew
theorem Re{w:World}(cs:List Value)(T:TypeId)(B C:Obj):Blk (((w.alloc (.cells cs.toArray T)).alloc B).alloc C).drew w.heap.size cs T:=(((Blk.new w cs T).alloc B).alloc C).drew
theorem Rb{w:World}(A:Obj)(cs:List Value)(T:TypeId)(C:Obj):Blk (((w.alloc A).alloc (.cells cs.toArray T)).alloc C).drew (w.heap.size+1) cs T:=((Blk.newAt (w.alloc A) _ cs T (WO ..)).alloc C).drew
theorem Ra{w:World}(A B:Obj)(cs:List Value)(T:TypeId):Blk (((w.alloc A).alloc B).alloc (.cells cs.toArray T)).drew (w.heap.size+1+1) cs T:=(Blk.newAt ((w.alloc A).alloc B) _ cs T (by rw[WO,WO])).drew
theorem E9(V:Option Addr)(m r:Nat)(l:List It)(n:Nat)(w:World)(hD:cy w V m r l)(hS:df w)(hc:Dc.check l=0)(az:1<=n)(a1:n<=4):
  Calls prog 21 #[.slice V m r,.int .i64 n] w fun e w'=>(∃t:WV,e=.returned (.tuple #[Mh t,.int .i64 0])/\gD w' t/\t.w=yE l n/\iu w.heap.size w'.heap.size t)/\Below w.heap.size w w':=by
 obtain⟨i0,hi,ah,ag,af⟩:=info_parts Tryz.O9;have HB:=hId (aV bX w);have HZ:=hId (bU bX w);have CS:Hd (Calls prog 52 #[.slice V m r] (aQ bX w) fun e w'=>(∃t,e=.returned (.tuple #[.agg #[.slice t.fa t.fn t.fc,.slice t.la t.ln t.lc,.slice t.na t.nn t.nc],.int .i64 0])/\nU w' t/\t.se=⟨l,[],l⟩)/\Below (aQ bX w).heap.size (aQ bX w) w'):=QC V m r l _ (hD.below HB.o) (hS.below HB.o) hc;have CK:Hd (∀w',Below w.heap.size w w'->Calls prog 53 #[.slice V m r] w' fun e a0=>(∃t,e=.returned (.tuple #[.agg #[.int .i64 t.rev,.slice t.ba t.bn t.bc,.slice t.na t.nn t.nc,.int .i64 t.seq,.slice t.sa t.sn t.sc,.slice t.ha t.hn t.hc,.bool t.jo],.int .i64 0])/\kE a0 t/\t.cl=⟨0,l,l,0,[],[],true⟩)/\Below w'.heap.size w' a0):=fun w' q=>Nc V m r l w' (hD.below q) (hS.below q) hc;have d1:decide ((n:Int)<1)=false:=by simp;omega
 have d2:decide ((4:Int)<(n:Int))=false:=by simp;omega
 have aj:=SU n a1;clear hD hS hc;go_enter func21,ntmps21
 go_upto_region 1 with fail
 change Code.wp prog _ _ _ (aQ bX w);generalize aQ bX w=W at*;go_wp2_with fail
 refine CS.o.mono ?_
 rintro e Y⟨⟨s,rfl,L,M⟩,q⟩;have O:=bM s Y;have U:=hId (q.trans (O.mono q.size));have a6:=hId (L.below O);have a9:=hId (M9 L M);have au:=hId M;have P:=hId (fI s Y);clear q O L M CS;go_upto_region 2 with fail
 change Code.wp prog _ _ _ (ai s Y);generalize ai s Y=b at*;generalize Y.heap.size=b6 at*;have B:Hd (Blk b w.heap.size (eo bX) 30):=(U.o.block _ HZ.o.lt).trans HZ.o;have S:=hId (HB.o.trans (U.o.mono HB.o.size));obtain⟨q0,q1,q2⟩:=mi P.o;have ap:=P.o.lt;have an:b6<b.heap.size+1:=by omega
 have am:b6<b.heap.size+1+1:=by omega
 go_upto_region 6 with fail
 have o:Hd (∀g f h E,b.heap.size<=g->b.heap.size<=f->b.heap.size<=h->f≠g->h≠g->Below b.heap.size b E->Blk E g (eo (zy s n f h 0 none 0 [])) 30->Blk E f (On n) 53->Blk E h (On n) 53->JI w s n l g f h 0 none 0 [] E):=fun g f h E h1 h2 h3 h4 h5 q hg hu hd=>by
  have:=B.o.lt;exact⟨hg,(q.block _ B.o.lt).trans B.o,a6.o.below q,bj.nil _ _ _,(fun x hx=>by cases hx),rfl,hu,hd,(fun F e=>by cases e),⟨by omega,by omega,by omega,h4,h5⟩,S.o.trans (q.mono S.o.size)⟩
 go_cut [8]from 27 to 33 (fun p E=>∃g f h,p=.pointer (some ⟨g,0,none⟩)/\JI w s n l g f h 0 none 0 [] E)
 case first=>
  go_region
  all_goals
   first|go_meet|(go_wp2_with fail;go_meet)
   case rel=>
   first
   |exact⟨_,b.heap.size,(b.heap.size+1),rfl,o.o (b.heap.size+1+1) b.heap.size (b.heap.size+1) _ (by omega) (by omega) (by omega) (by omega) (by omega) lL (Ra _ _ _ _) (Re _ _ _ _) (Rb _ _ _ _)⟩
   |exact⟨_,b.heap.size,(b.heap.size+1+1),rfl,o.o (b.heap.size+1) b.heap.size (b.heap.size+1+1) _ (by omega) (by omega) (by omega) (by omega) (by omega) lL (Rb _ _ _ _) (Re _ _ _ _) (Ra _ _ _ _)⟩
   |exact⟨_,(b.heap.size+1),b.heap.size,rfl,o.o (b.heap.size+1+1) (b.heap.size+1) b.heap.size _ (by omega) (by omega) (by omega) (by omega) (by omega) lL (Ra _ _ _ _) (Rb _ _ _ _) (Re _ _ _ _)⟩
   |exact⟨_,(b.heap.size+1+1),b.heap.size,rfl,o.o (b.heap.size+1) (b.heap.size+1+1) b.heap.size _ (by omega) (by omega) (by omega) (by omega) (by omega) lL (Rb _ _ _ _) (Ra _ _ _ _) (Re _ _ _ _)⟩
   |exact⟨_,(b.heap.size+1),(b.heap.size+1+1),rfl,o.o b.heap.size (b.heap.size+1) (b.heap.size+1+1) _ (by omega) (by omega) (by omega) (by omega) (by omega) lL (Re _ _ _ _) (Rb _ _ _ _) (Ra _ _ _ _)⟩
   |exact⟨_,(b.heap.size+1+1),(b.heap.size+1),rfl,o.o b.heap.size (b.heap.size+1+1) (b.heap.size+1) _ (by omega) (by omega) (by omega) (by omega) (by omega) lL (Re _ _ _ _) (Ra _ _ _ _) (Rb _ _ _ _)⟩
 case rest=>
  obtain⟨g,f,h,rfl,hI⟩:=hcut;have av:=hId hI;clear hI o aj q0 q1 q2 ap an am P a6 B S U HZ HB;generalize wc=W2 at*;go_wp2
  go_loopw [34] (fun i wr=>∃(j:Nat)(a:Option Addr)(c:Nat)(cs:List CV),j<=n/\i=.int .i64 j/\JI w s n l g f h j a c cs wr) (fun i _=>n-(intOf i).toNat)
  case atStart=>exact⟨0,none,0,[],VN _,rfl,av.o⟩
  case round=>
   obtain⟨j,a,c,cs,hj,rfl,I⟩:=hrel;have d:=hId I;clear I;by_cases ak:j<n
   ·have ae:=CK.o wr d.o.below;go_wp2_with fail
    refine ae.mono ?_
    rintro e X⟨⟨t,rfl,a2,a3⟩,q⟩;have N:=aa t X;have D:=hId (q.trans (N.mono q.size));have HT:=hId (a2.below N);have ac:=hId a3;have ab:=hId (cH t X);clear q N a2 a3 ae;go_upto_region 10 with fail
    change Code.wp prog _ _ _ (aO t X);generalize aO t X=u at*;generalize X.heap.size=b3 at*;obtain⟨k0,k1,k2,k3,k4,k5,k6⟩:=Bh ab.o;have lg:=d.o.box.lt;have p3:u.cell? ⟨g,3,none⟩=some (.slice a j c):=aA (d.o.box.cell 3) D.o;have T:Hd (Below u.heap.size u (u.alloc (.cells #[.int .i64 t.rev,.slice t.ba t.bn t.bc,.slice t.na t.nn t.nc,.int .i64 t.seq,.slice t.sa t.sn t.sc,.slice t.ha t.hn t.hc,.bool t.jo] 41))):=(VE _ _).alloc (UZ _) _;have C:=hId (D.o.trans (T.o.mono D.o.size));have Q:=hId (d.o.cr.below C.o);have a7:Hd (Row (u.alloc (.cells #[.int .i64 t.rev,.slice t.ba t.bn t.bc,.slice t.na t.nn t.nc,.int .i64 t.seq,.slice t.sa t.sn t.sc,.slice t.ha t.hn t.hc,.bool t.jo] 41)) (some ⟨u.heap.size,0,none⟩) 1 1 7 [.int .i64 t.rev,.slice t.ba t.bn t.bc,.slice t.na t.nn t.nc,.int .i64 t.seq,.slice t.sa t.sn t.sc,.slice t.ha t.hn t.hc,.bool t.jo]):=⟨rfl,UZ _,by decide,fun _=>⟨_,0,rfl,fun j y Z=>by rw[VR];exact((Blk.new u [.int .i64 t.rev,.slice t.ba t.bn t.bc,.slice t.na t.nn t.nc,.int .i64 t.seq,.slice t.sa t.sn t.sc,.slice t.ha t.hn t.hc,.bool t.jo] _).cell j).trans Z⟩⟩;obtain⟨xs,K⟩:∃xs,bB cs=xs:=⟨_,rfl⟩;rw[K]at Q;have a8:Hd (∀G J v,bj v 41 7 G (j+1) J (xs++[.int .i64 t.rev,.slice t.ba t.bn t.bc,.slice t.na t.nn t.nc,.int .i64 t.seq,.slice t.sa t.sn t.sc,.slice t.ha t.hn t.hc,.bool t.jo])->Kept (u.alloc (.cells #[.int .i64 t.rev,.slice t.ba t.bn t.bc,.slice t.na t.nn t.nc,.int .i64 t.seq,.slice t.sa t.sn t.sc,.slice t.ha t.hn t.hc,.bool t.jo] 41)) v (oT a)->(∀F:Addr,G=some F->F.block=u.heap.size+1\/a=some F)->JI w s n l g f h (j+1) G J (cs++[t]) (v.setCell ⟨g,3,none⟩ (.slice G (j+1) J))/\v.cell? ⟨g,3,none⟩=some (.slice a j c)/\v.frozen? ⟨g,3,none⟩=false):=fun G J v h1 h2 h3=>by
     have a5:Blk v g (eo (zy s n f h j a c cs)) 30:=h2.aM ((C.o.block _ lg).trans d.o.box) (fun e=>by
      obtain⟨F,e1,e2⟩:=dI.1 e;exact(d.o.lo F e1).2.1 e2)
     exact⟨d.o.next a9.o C.o (HT.o.below T.o) ac.o (by rw[K];exact h1) h2 (fun F e=>by rw[WO];exact h3 F e),a5.cell 3,a5.frozen 3⟩
    clear K T C HT ac ab lg D d;go_wp2_with (at_builtin;refine dZ (u.alloc (.cells #[.int .i64 t.rev,.slice t.ba t.bn t.bc,.slice t.na t.nn t.nc,.int .i64 t.seq,.slice t.sa t.sn t.sc,.slice t.ha t.hn t.hc,.bool t.jo] 41)) rfl (.tmp 42) (.tmp 44) 27 rfl 41 i0 (.agg #[.int .i64 0,.slice none 0 0,.slice none 0 0,.int .i64 0,.slice none 0 0,.slice none 0 0,.bool false]) 7 120 underlying27 hi ah ag af rfl rfl a j c xs rfl Q.o (some ⟨u.heap.size,0,none⟩) 1 1 [.int .i64 t.rev,.slice t.ba t.bn t.bc,.slice t.na t.nn t.nc,.int .i64 t.seq,.slice t.sa t.sn t.sc,.slice t.ha t.hn t.hc,.bool t.jo] rfl a7.o (fun y Z=>L2 [t] y (by show y∈fS t++[];rw[VY];exact Z)) rfl (by unfold maxLen;omega) (by omega) ?_)
    intro G J v H k a4;obtain⟨hN,f3,f4⟩:=a8.o G J v H k a4;have HN:=hId hN;clear hN H k a4 Q a7 a8 k0 k1 k2 k3 k4 k5 k6 p3;go_wp2
    go_roundw
    case rel=>exact⟨j+1,G,J,cs++[t],ak,by go_num,HN.o⟩
    case measure=>simp[intOf];omega
   ·obtain rfl:j=n:=by omega
    have al:=d.o.iM.lt;have k:=bP wr w.heap.size (zy s j f h j a c cs);have A:=d.o.cu a9.o;have ar:=hId ((d.o.nV a1).mY (g:=w.heap.size) (fun s' y z e=>by have:=(A s' y z e).1;omega) k (NT.iJ d.o.iM));have aq:Hd (Blk (cO wr w.heap.size (zy s j f h j a c cs)) w.heap.size (eo (zy s j f h j a c cs)) 30):=dM d.o.iM;have ay:=hId (d.o.below.trans (k.below (by omega) (fun y Z=>by rw[UY.1 Z];exact UZ _)));have aw:Hd (iu w.heap.size (cO wr w.heap.size (zy s j f h j a c cs)).heap.size (zy s j f h j a c cs)):=fun s' y z e=>⟨by have:=(A s' y z e).1;omega,WJ (A s' y z e).2 k.size⟩;have ax:=hId (d.o.w au.o);have o0:=d.o.box.c0;have z0:=d.o.iM.c0;have g0:=d.o.iM.frozen 0;have o1:=d.o.box.c1;have z1:=d.o.iM.c1;have g1:=d.o.iM.frozen 1;have o2:=d.o.box.c2;have z2:=d.o.iM.c2;have g2:=d.o.iM.frozen 2;have o3:=d.o.box.c3;have z3:=d.o.iM.c3;have g3:=d.o.iM.frozen 3;have o4:=d.o.box.c4;have z4:=d.o.iM.c4;have g4:=d.o.iM.frozen 4;have o5:=d.o.box.c5;have z5:=d.o.iM.c5;have g5:=d.o.iM.frozen 5;clear k al A;go_wp2
    change bodyPost prog _ _ Exit.ret _ (cO wr w.heap.size (zy s j f h j a c cs));exact VL (js (t:=zy s j f h j a c cs) (c:=.int .i64 0) rfl _ rfl rfl aq.o) rfl ⟨⟨zy s j f h j a c cs,rfl,ar.o,ax.o,aw.o⟩,ay.o⟩
def Mj (g:Nat) (c:UInt8) (k r:Int):List PV:=[⟨1,k,none,0,0,[],0,0,false,⟨#[]⟩⟩,⟨2,0,some ⟨g,0,none⟩,1,1,[⟨c,0,⟨#[]⟩⟩],0,0,false,⟨#[]⟩⟩,⟨1,r,none,0,0,[],0,0,false,⟨#[]⟩⟩]
def pgP (c:UInt8) (k r:Int):List Ac.Pt:=[⟨1,k,[],0,0,false,⟨#[]⟩⟩,⟨2,0,[⟨c,0,⟨#[]⟩⟩],0,0,false,⟨#[]⟩⟩,⟨1,r,[],0,0,false,⟨#[]⟩⟩]
def TY (c:UInt8) (k r:Int) (w:World):World:=(w.alloc (.cells #[.int .u8 c.toNat,.int .i64 0,.string ⟨#[]⟩] 67)).alloc (.cells #[.int .i64 1,.int .i64 k,.slice none 0 0,.int .i64 0,.int .i64 0,.bool false,.string ⟨#[]⟩,.int .i64 2,.int .i64 0,.slice (some ⟨w.heap.size,0,none⟩) 1 1,.int .i64 0,.int .i64 0,.bool false,.string ⟨#[]⟩,.int .i64 1,.int .i64 r,.slice none 0 0,.int .i64 0,.int .i64 0,.bool false,.string ⟨#[]⟩] 100)
theorem Kc(c:UInt8)(k r:Int)(w:World):Below w.heap.size w (TY c k r w):=((VE _ _).alloc (UZ _) _).alloc (by simp) _
theorem P1 (c:UInt8) (k r:Int) (w:World):ae (TY c k r w) (some ⟨w.heap.size+1,0,none⟩) 3 3 (Mj w.heap.size c k r):=by
 have h1:Blk (w.alloc (.cells #[.int .u8 c.toNat,.int .i64 0,.string ⟨#[]⟩] 67)) w.heap.size (aI [⟨c,0,⟨#[]⟩⟩]) 67:=Blk.new w _ _;have hP:Blk (TY c k r w) (w.heap.size+1) (aG (Mj w.heap.size c k r)) 100:=Blk.newAt _ _ _ _ (WO ..);have hI:Blk (TY c k r w) w.heap.size (aI [⟨c,0,⟨#[]⟩⟩]) 67:=h1.alloc _;have hA:=BP hI;refine ⟨⟨rfl,UZ _,by decide,fun _=>⟨_,0,rfl,fun j u hu=>?_⟩⟩,fun v hv=>?_⟩
 ·rw[VR];exact (hP.cell j).trans hu
 ·simp only[Mj,WG,List.not_mem_nil,or_false] at hv
  rcases hv with rfl | rfl | rfl
  ·exact ⟨cf _,VN _⟩
  ·exact ⟨⟨fun x hx=>by rw[UY.1 hx];exact VN _,rfl,UZ _,(by decide:1<=9223372036854775807),fun _=>⟨_,0,rfl,hA⟩⟩,VN _⟩
  ·exact ⟨cf _,VN _⟩
theorem rG(c:UInt8)(k n r:Int)(d:IntKind.i64.wrap (n-k)=r)(w:World):Calls prog 24 #[.int .u8 c.toNat,.int .i64 k,.int .i64 n] w fun e w'=>e=.returned (.slice (some ⟨w.heap.size+1,0,none⟩) 3 3)/\ae w' (some ⟨w.heap.size+1,0,none⟩) 3 3 (Mj w.heap.size c k r)/\Below w.heap.size w w':=by
 have a:=hId (P1 c k r w);have b:=hId (Kc c k r w);go_enter func24,ntmps24
 go_wp2
 go_ret
 exact⟨rfl,a.o,b.o⟩
def Mk (kind aR:Int):HV:=⟨kind,aR,0,none,0,0,[],none,0,0,[]⟩
def hpE (aR:Int) (g:Nat) (c:UInt8):HV:=⟨1,aR,0,some ⟨g+1,0,none⟩,3,3,Mj g c 1 4,none,0,0,[]⟩
def Ml (g h:Nat):List HV:=[hpE 0 g 120,hpE 1 h 121,Mk 3 1,Mk 3 0,Mk 4 0,Mk 4 0,Mk 4 1,Mk 4 1,Mk 6 0]
def Ql (kind aR:Int):Wo.Hp:=⟨kind,aR,0,[],Kd [],Ey []⟩
def hpQ (aR:Int) (c:UInt8):Wo.Hp:=⟨1,aR,0,pgP c 1 4,Kd [],Ey []⟩
def Sy:List Wo.Hp:=[hpQ 0 120,hpQ 1 121,Ql 3 1,Ql 3 0,Ql 4 0,Ql 4 0,Ql 4 1,Ql 4 1,Ql 6 0]
theorem Qm(g h:Nat):(Ml g h).map HV.hp=Sy:=rfl
def l9:Wo.W × List Int:=Wo.gZ (yE gH 2) Sy
def DF (p:Wo.W × List Int):Bool:=(p.2 == [0,0,0,0,0,0,0,0,7])&&((p.1.cs.length == 2)&&(Dc.same (Wo.cl p.1 0).now (Wo.cl p.1 1).now&&(Dc.same (Wo.cl p.1 0).now p.1.s.now&&((p.1.s.now.length == 7)&&(p.1.s.now[1]?.map (fun x=>x.c) == some 121)))))
theorem rL:DF l9=true:=by decide+kernel
theorem Nl:Wo.jR (yE gH 2)=0:=(Wo.Inv.new (by decide) (by decide) rn).check
theorem lB{P:Program}{ops:Array Oper}{Q:Exit->Act->World->Prop}{md:Region.Mode}{S:World->Prop}{f:Nat->Bool}{i:Nat}{oi:Oper}{v:Value}{n:Nat}{l:Array Bool}{a:Act}{w:World}(d:Option Tmp)(m:ops[i]?=some oi)(p:oi.dst=d)(e:Region.noSelect ops=true)(k:(rN md ops f i&&Ep md ops l)=true)(o:Region.free md ops l i=true)(g:(Region.ready md ops l).contains i=true)
  (r:∀c a w,Q (.panic c) (a.put d v) w->Q (.panic c) a w)(b:YieldsIf P ops S oi v a)(q:S w)(h:vU P md ops Q S f n (l.setIfInBounds i true) (a.put d v) w):vU P md ops Q S f (n+1) l a w:=by
 subst p;exact dW m e k o g r b q h
theorem vT{w:World}{g:Nat}{t:WV}{T:TypeId}(h:Blk w g (eo t) T):w.cell? ⟨g,0,none⟩=some (.slice t.s.fa t.s.fn t.s.fc)/\w.cell? ⟨g,1,none⟩=some (.slice t.s.la t.s.ln t.s.lc)/\w.cell? ⟨g,2,none⟩=some (.slice t.s.na t.s.nn t.s.nc)/\w.cell? ⟨g,3,none⟩=some (.slice t.ca t.cn t.cc)/\w.cell? ⟨g,4,none⟩=some (.slice t.ua t.un t.uc)/\w.cell? ⟨g,5,none⟩=some (.slice t.da t.dn t.dc):=⟨h.cell 0,h.cell 1,h.cell 2,h.cell 3,h.cell 4,h.cell 5⟩
theorem hv5{w:World}{g:Nat}{x:HV}{T:TypeId}(h:Blk w g (uO x) T):w.cell? ⟨g,0,none⟩=some (.int .i64 x.kind)/\w.cell? ⟨g,1,none⟩=some (.int .i64 x.aR)/\w.cell? ⟨g,2,none⟩=some (.int .i64 x.n)/\w.cell? ⟨g,3,none⟩=some (.slice x.oa x.on x.oc)/\w.cell? ⟨g,4,none⟩=some (.slice x.ya x.yn x.yc):=⟨h.cell 0,h.cell 1,h.cell 2,h.cell 3,h.cell 4⟩
theorem Tc{w:World}{g:Nat}{c:CV}{T:TypeId}(h:Blk w g (fS c) T):w.cell? ⟨g,0,none⟩=some (.int .i64 c.rev)/\w.cell? ⟨g,1,none⟩=some (.slice c.ba c.bn c.bc)/\w.cell? ⟨g,2,none⟩=some (.slice c.na c.nn c.nc)/\w.cell? ⟨g,3,none⟩=some (.int .i64 c.seq)/\w.cell? ⟨g,4,none⟩=some (.slice c.sa c.sn c.sc)/\w.cell? ⟨g,5,none⟩=some (.slice c.ha c.hn c.hc)/\w.cell? ⟨g,6,none⟩=some (.bool c.jo):=⟨h.cell 0,h.cell 1,h.cell 2,h.cell 3,h.cell 4,h.cell 5,h.cell 6⟩
theorem PG{w:World}{g:Nat}{l:List Value}{T:TypeId}(h:Blk w g l T):w.frozen? ⟨g,0,none⟩=false/\w.frozen? ⟨g,1,none⟩=false/\w.frozen? ⟨g,2,none⟩=false/\w.frozen? ⟨g,3,none⟩=false/\w.frozen? ⟨g,4,none⟩=false/\w.frozen? ⟨g,5,none⟩=false:=⟨h.frozen 0,h.frozen 1,h.frozen 2,h.frozen 3,h.frozen 4,h.frozen 5⟩
theorem TK{w:World}{a:Option Addr}{n i:Nat}{cs:List CV}(h:Row w a n i 7 (bB cs)){k:Nat}{c:CV}(l:cs[k]?=some c){b d:Nat}(e:a=some ⟨b,d,none⟩):w.cell? ⟨b,d+k*7,none⟩=some (.int .i64 c.rev)/\w.cell? ⟨b,d+k*7+1,none⟩=some (.slice c.ba c.bn c.bc)/\w.cell? ⟨b,d+k*7+2,none⟩=some (.slice c.na c.nn c.nc)/\w.cell? ⟨b,d+k*7+3,none⟩=some (.int .i64 c.seq)/\w.cell? ⟨b,d+k*7+4,none⟩=some (.slice c.sa c.sn c.sc)/\w.cell? ⟨b,d+k*7+5,none⟩=some (.slice c.ha c.hn c.hc)/\w.cell? ⟨b,d+k*7+6,none⟩=some (.bool c.jo):=by
 have r:=h.len;rw[mK]at r;have v:=(VO.1 l).1;obtain⟨x,p,o,t⟩:=h.bH (by omega);rw[e]at o
 cases o
 have g:∀j,j<7->∀u,(fS c)[j]?=some u->w.cell? ⟨b,d+k*7+j,none⟩=some u:=fun j s u q=>by
  rw[WX];refine t (k*7+j) u ?_
  have m:=get_at (f:=fS) (sp:=[]) (fun _=>rfl) l j s;rw[VY]at m;exact m.trans q
 exact⟨g 0 (by decide) _ rfl,g 1 (by decide) _ rfl,g 2 (by decide) _ rfl,g 3 (by decide) _ rfl,g 4 (by decide) _ rfl,g 5 (by decide) _ rfl,g 6 (by decide) _ rfl⟩
end Go.Proofs.YthddphjghgdalaaGreatDoor
namespace Go.Proofs.YthddphjghgdalaaGreatDoor
open Go.Proofs.Tryz
open Go.ChangeShapes Go.WideShapes Go.ChangeAt Go.WideMaps Go.WideElems Go.RowKit
theorem Fg:prog.cellsOf 67=3:=by kernel_rfl
theorem RJ:prog.cellsOf 5=1:=by kernel_rfl
theorem k8:prog.cellsOf 3=1:=by kernel_rfl
theorem MC:prog.cellsOf 9=1:=by kernel_rfl
theorem OZ{n:Int}(h:(Lit.int .u8 n).wf=true):∃c:UInt8,n=(c.toNat:Int):=by
 obtain⟨b,a⟩:=bounds_u8 h;exact⟨UInt8.ofNat n.toNat,by rw[UInt8.toNat_ofNat'];omega⟩
section
variable {H:Type} {enc:TypeId × Value->H} {w:World} {base:Nat} {spare:Nat->Bool} {held:Bool}
theorem LG{α:Type}(l:List α)(h:l.length=3):∃a b c,l=[a,b,c]:=by
 match l,h with
 |[a,b,c],_=>exact⟨a,b,c,rfl⟩
theorem N6{g:Nat}{cs:List Value}{x:DataW H×List MemPlace}(h:DataW.trod enc prog w base spare held g 67 cs=some x):
  ∃y:It,cs=[.int .u8 y.c.toNat,.int .i64 y.m,.string y.l]/\y.l.size<=9223372036854775807:=by
 obtain⟨r,q,p,n,_,i,C,B,A⟩:=Deep.trod_struct3 underlying67 h;rw[Fg]at i;obtain⟨a,b,c,rfl⟩:=LG cs i;have f:DataW.trod enc prog w base spare held n 5 (([a,b,c].drop 0).take (prog.cellsOf 5))=some r:=C;have e:DataW.trod enc prog w base spare held n 3 (([a,b,c].drop 1).take (prog.cellsOf 3))=some q:=B;have d:DataW.trod enc prog w base spare held n 9 (([a,b,c].drop 2).take (prog.cellsOf 9))=some p:=A;rw[RJ]at f;rw[k8]at e;rw[MC]at d;obtain⟨D,o,_,t⟩:=DataW.trod_int underlying5 f;obtain⟨u,m,_,_⟩:=DataW.trod_int underlying3 e;obtain⟨s,l,_,v⟩:=DataW.trod_string underlying9 d;simp at o m l
 obtain⟨k,z⟩:=OZ t;exact⟨⟨k,u,s⟩,by rw[o,m,l,z],v⟩
theorem zG{a:Addr}{cs:List Value}{f e d:Value}(h:w.cells? base a 3=some cs)(i:cs=[f,e,d]):w.cell? a=some f/\w.cell? (a.add 1)=some e/\w.cell? (a.add 2)=some d:=by
 unfold World.cells? at h;split at h
 ·subst i;have k:a.add 0=a:=rfl;simp only[show List.range 3=[0,1,2]from rfl,List.mapM_cons,List.mapM_nil,k]at h
  cases b:w.cell? a with
  |none=>rw[b]at h;simp at h
  |some x0=>
   cases c:w.cell? (a.add 1)with
   |none=>rw[b,c]at h;simp at h
   |some x1=>
    cases g:w.cell? (a.add 2)with
    |none=>rw[b,c,g]at h;simp at h
    |some x2=>
     rw[b,c,g]at h;simp at h
     exact⟨by rw[h.1],by rw[h.2.1],by rw[h.2.2]⟩
 ·cases h
theorem ju{s:Nat}{t:TypeId}(I:prog.underlying t=some (.slice 67)){E:Option Addr}{n p:Nat}{x:DataW H×List MemPlace}(h:DataW.trod enc prog w base spare held s t [.slice E n p]=some x):
  ∃l,cy w E n p l:=by
 rcases Deep.open_slice I h with⟨g,_⟩|⟨a,P,F,m,k,D,U,g,_,L,K,z,_,G⟩
 ·simp at g
  obtain⟨rfl,rfl,rfl⟩:=g;exact⟨[],fun _ h=>by simp at h,rfl,UZ _,by decide,fun h=>absurd rfl h⟩
 ·simp at g
  obtain⟨rfl,rfl,rfl⟩:=g;have S:n<=m:=by rw[z];split<;>omega
  have N:∀i,i<n->∃y:It,(w.cell? (a.add (i*3))=some (.int .u8 y.c.toNat)/\w.cell? (a.add (i*3+1))=some (.int .i64 y.m)/\w.cell? (a.add (i*3+2))=some (.string y.l))/\y.l.size<=9223372036854775807:=by
   intro i e;obtain⟨cs,o,M⟩:=G i (by omega);rw[Fg]at o;obtain⟨y,u,J⟩:=N6 M;obtain⟨O,C,B⟩:=zG o u;rw[Deep.add_add]at C B;exact⟨y,⟨O,C,B⟩,J⟩
  have Q:Inhabited It:=⟨It.zero⟩;obtain⟨f,v⟩:=Deep.choose_lt N;refine⟨(List.range n).map f,?_,by simp,L,K,?_⟩
  ·intro y u;obtain⟨i,e,rfl⟩:=XI.1 u;exact(v i (XY.1 e)).2
  ·intro T;obtain⟨b,c,q⟩:=a;have d:q=none:=by
    have:=World.cell?_spot (v 0 (by omega)).1.1;simpa[Addr.add]using this
   subst d;have r:∀j,(⟨b,c,none⟩:Addr).add j=⟨b,c+j,none⟩:=fun j=>Go.WideShapes.add_plain ..;refine⟨b,c,rfl,fun i e=>?_,fun i e=>?_,fun i e=>?_⟩
   all_goals
    have A:i<n:=by simpa using e
    have:=(v i A).1;simp only[r]at this
    simp only[List.getElem_map,List.getElem_range]
   ·exact this.1
   ·rw[WX];exact this.2.1
   ·rw[WX];exact this.2.2
end
theorem MB:prog.cellsOf 100=7:=by kernel_rfl
theorem OW:prog.cellsOf 22=1:=by kernel_rfl
theorem Ff:prog.cellsOf 4=1:=by kernel_rfl
section
variable {H:Type} {enc:TypeId × Value->H} {w:World} {base:Nat} {spare:Nat->Bool} {held:Bool}
theorem Ns{α:Type}(l:List α)(h:l.length=7):∃a b c d e f g,l=[a,b,c,d,e,f,g]:=by
 match l,h with
 |[a,b,c,d,e,f,g],_=>exact⟨a,b,c,d,e,f,g,rfl⟩
theorem slice_form{b:Nat}{t e:TypeId}(g:prog.underlying t=some (.slice e)){cs:List Value}{x:DataW H×List MemPlace}(h:DataW.trod enc prog w base spare held b t cs=some x):∃i n d,cs=[.slice i n d]:=by
 rcases Deep.open_slice g h with⟨c,_⟩|⟨a,l,f,m,k,D,o,c,_⟩
 ·exact⟨_,_,_,c⟩
 ·exact⟨_,_,_,c⟩
theorem NR{p:Nat}{cs:List Value}{x:DataW H×List MemPlace}(h:DataW.trod enc prog w base spare held p 100 cs=some x):
  ∃v:PV,cs=iD v/\dV w v:=by
 obtain⟨xs,n,_,_,u,o,b⟩:=DataW.trod_struct underlying100 h;rw[MB]at u;obtain⟨N,M,t,L,K,J,I,rfl⟩:=Ns xs o;obtain⟨i,g,a,f,e,d,c,rfl⟩:=Ns cs u;have E:DataW.trod enc prog w base spare held n 3 (([i,g,a,f,e,d,c].drop 0).take (prog.cellsOf 3))=some N:=b 0 _ rfl;rw[k8]at E;have D:DataW.trod enc prog w base spare held n 3 (([i,g,a,f,e,d,c].drop 1).take (prog.cellsOf 3))=some M:=b 1 _ rfl;rw[k8]at D;have C:DataW.trod enc prog w base spare held n 22 (([i,g,a,f,e,d,c].drop 2).take (prog.cellsOf 22))=some t:=b 2 _ rfl;rw[OW]at C;have B:DataW.trod enc prog w base spare held n 3 (([i,g,a,f,e,d,c].drop 3).take (prog.cellsOf 3))=some L:=b 3 _ rfl;rw[k8]at B;have A:DataW.trod enc prog w base spare held n 3 (([i,g,a,f,e,d,c].drop 4).take (prog.cellsOf 3))=some K:=b 4 _ rfl;rw[k8]at A;have z:DataW.trod enc prog w base spare held n 4 (([i,g,a,f,e,d,c].drop 5).take (prog.cellsOf 4))=some J:=b 5 _ rfl;rw[Ff]at z;have y:DataW.trod enc prog w base spare held n 9 (([i,g,a,f,e,d,c].drop 6).take (prog.cellsOf 9))=some I:=b 6 _ rfl;rw[MC]at y;obtain⟨T,G,_,_⟩:=DataW.trod_int underlying3 E;obtain⟨S,F,_,_⟩:=DataW.trod_int underlying3 D;obtain⟨Q,e3,_,_⟩:=DataW.trod_int underlying3 B;obtain⟨P,e4,_,_⟩:=DataW.trod_int underlying3 A;obtain⟨V,e5,_⟩:=DataW.trod_bool underlying4 z;obtain⟨O,e6,_,r⟩:=DataW.trod_string underlying9 y;have k:DataW.trod enc prog w base spare held n 22 [a]=some t:=C;obtain⟨W,m,s,q⟩:=slice_form underlying22 k;rw[q]at k;obtain⟨l,U⟩:=ju underlying22 k;simp at G F q e3 e4 e5 e6
 exact⟨⟨T,S,W,m,s,l,Q,P,V,O⟩,by rw[G,F,q,e3,e4,e5,e6];rfl,U,r⟩
theorem p9{A:Nat}{t:TypeId}(L:prog.underlying t=some (.slice 100)){G:Option Addr}{n r:Nat}{x:DataW H×List MemPlace}(h:DataW.trod enc prog w base spare held A t [.slice G n r]=some x):
  ∃J,ae w G n r J:=by
 rcases Deep.open_slice L h with⟨c,_⟩|⟨a,U,I,m,k,D,Y,c,_,O,N,C,_,K⟩
 ·simp at c
  obtain⟨rfl,rfl,rfl⟩:=c;exact⟨[],Row.nil w 7,fun v o=>absurd o (by simp)⟩
 ·simp at c
  obtain⟨rfl,rfl,rfl⟩:=c;have W:n<=m:=by rw[C];split<;>omega
  have T:∀i,i<n->∃v:PV,(∀j,j<7->w.cell? (a.add (i*7+j))=(iD v)[j]?)/\dV w v:=by
   intro i p;obtain⟨cs,q,S⟩:=K i (by omega);rw[MB]at q;obtain⟨v,rfl,o⟩:=NR S;have P:=World.cells?_some q;refine⟨v,fun j F=>?_,o⟩
   rw[<-Deep.add_add];exact P.2.2 j F
  have V:Inhabited PV:=⟨⟨0,0,none,0,0,[],0,0,false,⟨#[]⟩⟩⟩;obtain⟨f,B⟩:=Deep.choose_lt T;refine⟨(List.range n).map f,⟨by rw[gm];simp,O,N,?_⟩,?_⟩
  ·intro X;obtain⟨b,d,s⟩:=a;have g:s=none:=by
    have:=World.cell?_spot ((B 0 (by omega)).1 0 (by decide)|>.trans rfl);simpa[Addr.add]using this
   subst g;have z:∀j,(⟨b,d,none⟩:Addr).add j=⟨b,d+j,none⟩:=fun j=>Go.WideShapes.add_plain ..;refine⟨b,d,rfl,fun j u E=>?_⟩
   have F:j<n*7:=by
    have:=(VO.1 E).1;rw[gm]at this;simpa using this
   have p:j/7<n:=by omega
   have M:j=j/7*7+j%7:=by omega
   have c:=(B (j/7) p).1 (j%7) (Nat.mod_lt _ (by decide));rw[z,<-M]at c;rw[c];have y:j/7<((List.range n).map f).length:=by simpa using p
   have Q:((List.range n).map f)[j/7]=f (j/7):=by simp
   obtain⟨q0,q1,q2,q3,q4,q5,q6⟩:=ga ((List.range n).map f) (j/7) y;rw[Q]at q0 q1 q2 q3 q4 q5 q6;rw[<-E];have l:j%7=0\/j%7=1\/j%7=2\/j%7=3\/j%7=4\/j%7=5\/j%7=6:=by omega
   rcases l with e|e|e|e|e|e|e
   ·rw[e,show(aG ((List.range n).map f))[j]?=(aG ((List.range n).map f))[j/7*7]? from VQ _ (by omega),q0];rfl
   ·rw[e,show(aG ((List.range n).map f))[j]?=(aG ((List.range n).map f))[j/7*7+1]? from VQ _ (by omega),q1];rfl
   ·rw[e,show(aG ((List.range n).map f))[j]?=(aG ((List.range n).map f))[j/7*7+2]? from VQ _ (by omega),q2];rfl
   ·rw[e,show(aG ((List.range n).map f))[j]?=(aG ((List.range n).map f))[j/7*7+3]? from VQ _ (by omega),q3];rfl
   ·rw[e,show(aG ((List.range n).map f))[j]?=(aG ((List.range n).map f))[j/7*7+4]? from VQ _ (by omega),q4];rfl
   ·rw[e,show(aG ((List.range n).map f))[j]?=(aG ((List.range n).map f))[j/7*7+5]? from VQ _ (by omega),q5];rfl
   ·rw[e,show(aG ((List.range n).map f))[j]?=(aG ((List.range n).map f))[j/7*7+6]? from VQ _ (by omega),q6];rfl
  ·intro v o;obtain⟨i,p,rfl⟩:=XI.1 o;exact(B i (XY.1 p)).2
end
theorem D9:prog.cellsOf 71=3:=by kernel_rfl
theorem RH:prog.cellsOf 26=3:=by kernel_rfl
theorem D8:prog.cellsOf 32=1:=by kernel_rfl
theorem cellsD:prog.cellsOf 23=1:=by kernel_rfl
theorem OY:prog.cellsOf 24=1:=by kernel_rfl
section
variable {H:Type} {enc:TypeId × Value->H} {w:World} {base:Nat} {spare:Nat->Bool} {held:Bool}
theorem Ai{c:Nat}{cs:List Value}{x:DataW H×List MemPlace}(h:DataW.trod enc prog w base spare held c 71 cs=some x):
  ∃v:EV,cs=xI v/\ae w v.ao v.n v.cap v.vs:=by
 obtain⟨xs,n,_,_,o,b,e⟩:=DataW.trod_struct underlying71 h;rw[D9]at o;obtain⟨y,u,l,rfl⟩:=LG xs b;obtain⟨i,g,d,rfl⟩:=LG cs o;have r:DataW.trod enc prog w base spare held n 3 (([i,g,d].drop 0).take (prog.cellsOf 3))=some y:=e 0 _ rfl;rw[k8]at r;have q:DataW.trod enc prog w base spare held n 3 (([i,g,d].drop 1).take (prog.cellsOf 3))=some u:=e 1 _ rfl;rw[k8]at q;have p:DataW.trod enc prog w base spare held n 32 (([i,g,d].drop 2).take (prog.cellsOf 32))=some l:=e 2 _ rfl;rw[D8]at p;obtain⟨B,t,_,_⟩:=DataW.trod_int underlying3 r;obtain⟨A,s,_,_⟩:=DataW.trod_int underlying3 q;have a:DataW.trod enc prog w base spare held n 32 [d]=some l:=p;obtain⟨D,m,k,f⟩:=slice_form underlying32 a;rw[f]at a;obtain⟨z,C⟩:=p9 underlying32 a;simp at t s f
 exact⟨⟨B,A,D,m,k,z⟩,by rw[t,s,f];rfl,C⟩
theorem Hq{s:Nat}{t:TypeId}(K:prog.underlying t=some (.slice 71)){G:Option Addr}{n o:Nat}{x:DataW H×List MemPlace}(h:DataW.trod enc prog w base spare held s t [.slice G n o]=some x):
  ∃S,fQ w G n o S:=by
 rcases Deep.open_slice K h with⟨c,_⟩|⟨a,T,I,m,k,D,X,c,_,M,L,A,_,J⟩
 ·simp at c
  obtain⟨rfl,rfl,rfl⟩:=c;exact⟨[],fQ.nil w⟩
 ·simp at c
  obtain⟨rfl,rfl,rfl⟩:=c;have V:n<=m:=by rw[A];split<;>omega
  have Q:∀i,i<n->∃v:EV,(∀j,j<3->w.cell? (a.add (i*3+j))=(xI v)[j]?)/\ae w v.ao v.n v.cap v.vs:=by
   intro i g;obtain⟨cs,l,P⟩:=J i (by omega);rw[D9]at l;obtain⟨v,rfl,y⟩:=Ai P;have N:=World.cells?_some l;refine⟨v,fun j F=>?_,y⟩
   rw[<-Deep.add_add];exact N.2.2 j F
  have U:Inhabited EV:=⟨⟨0,0,none,0,0,[]⟩⟩;obtain⟨f,z⟩:=Deep.choose_lt Q;refine⟨(List.range n).map f,⟨by rw[fe];simp,M,L,?_⟩,?_⟩
  ·intro W;obtain⟨b,d,p⟩:=a;have e:p=none:=by
    have:=World.cell?_spot ((z 0 (by omega)).1 0 (by decide)|>.trans rfl);simpa[Addr.add]using this
   subst e;have r:∀j,(⟨b,d,none⟩:Addr).add j=⟨b,d+j,none⟩:=fun j=>Go.WideShapes.add_plain ..;refine⟨b,d,rfl,fun j u B=>?_⟩
   have F:j<n*3:=by
    have:=(VO.1 B).1;rw[fe]at this;simpa using this
   have g:j/3<n:=by omega
   have C:j=j/3*3+j%3:=by omega
   have c:=(z (j/3) g).1 (j%3) (Nat.mod_lt _ (by decide));rw[r,<-C]at c;rw[c];have q:j/3<((List.range n).map f).length:=by simpa using g
   have O:((List.range n).map f)[j/3]=f (j/3):=by simp
   have E:=im ((List.range n).map f) (j/3) q (j%3) (Nat.mod_lt _ (by decide));rw[O,<-C]at E;rw[<-E];exact B
  ·intro v y;obtain⟨i,g,rfl⟩:=XI.1 y;exact(z i (XY.1 g)).2
theorem G3{e:Nat}{cs:List Value}{x:DataW H×List MemPlace}(h:DataW.trod enc prog w base spare held e 26 cs=some x):
  ∃s:SV,cs=lA s/\nU w s:=by
 obtain⟨xs,n,_,_,u,d,l⟩:=DataW.trod_struct underlying26 h;rw[RH]at u;obtain⟨t,r,q,rfl⟩:=LG xs d;obtain⟨k,i,g,rfl⟩:=LG cs u;have z:DataW.trod enc prog w base spare held n 23 (([k,i,g].drop 0).take (prog.cellsOf 23))=some t:=l 0 _ rfl;rw[cellsD]at z;have y:DataW.trod enc prog w base spare held n 24 (([k,i,g].drop 1).take (prog.cellsOf 24))=some r:=l 1 _ rfl;rw[OY]at y;have v:DataW.trod enc prog w base spare held n 23 (([k,i,g].drop 2).take (prog.cellsOf 23))=some q:=l 2 _ rfl;rw[cellsD]at v;have c:DataW.trod enc prog w base spare held n 23 [k]=some t:=z;have b:DataW.trod enc prog w base spare held n 24 [i]=some r:=y;have a:DataW.trod enc prog w base spare held n 23 [g]=some q:=v;obtain⟨N,L,M,p⟩:=slice_form underlying23 c;obtain⟨G,E,F,o⟩:=slice_form underlying24 b;obtain⟨D,B,C,m⟩:=slice_form underlying23 a;rw[p]at c;rw[o]at b;rw[m]at a;obtain⟨f,J⟩:=ju underlying23 c;obtain⟨O,K⟩:=Hq underlying24 b;obtain⟨A,I⟩:=ju underlying23 a;simp at p o m
 exact⟨⟨N,L,M,f,G,E,F,O,D,B,C,A⟩,by rw[p,o,m];rfl,J,K,I⟩
end
theorem Fe:prog.cellsOf 41=7:=by kernel_rfl
theorem Fc:prog.cellsOf 114=4:=by kernel_rfl
theorem Sj{α:Type}(l:List α)(h:l.length=2):∃a b,l=[a,b]:=by
 match l,h with
 |[a,b],_=>exact⟨a,b,rfl⟩
theorem O6{α:Type}(l:List α)(h:l.length=4):∃a b c d,l=[a,b,c,d]:=by
 match l,h with
 |[a,b,c,d],_=>exact⟨a,b,c,d,rfl⟩
section
variable {H:Type} {enc:TypeId × Value->H} {w:World} {base:Nat} {spare:Nat->Bool} {held:Bool}
theorem Is{r:Nat}{cs:List Value}{x:DataW H×List MemPlace}(h:DataW.trod enc prog w base spare held r 41 cs=some x):
  ∃c:CV,cs=fS c/\kE w c:=by
 obtain⟨xs,n,_,_,L,q,k⟩:=DataW.trod_struct underlying41 h;rw[Fe]at L;obtain⟨K,J,I,G,F,E,D,rfl⟩:=Ns xs q;obtain⟨i,g,f,e,d,b,a,rfl⟩:=Ns cs L;have T:DataW.trod enc prog w base spare held n 3 (([i,g,f,e,d,b,a].drop 0).take (prog.cellsOf 3))=some K:=k 0 _ rfl;rw[k8]at T;have C:DataW.trod enc prog w base spare held n 3 [i]=some K:=T;have S:DataW.trod enc prog w base spare held n 23 (([i,g,f,e,d,b,a].drop 1).take (prog.cellsOf 23))=some J:=k 1 _ rfl;rw[cellsD]at S;have p:DataW.trod enc prog w base spare held n 23 [g]=some J:=S;have Q:DataW.trod enc prog w base spare held n 23 (([i,g,f,e,d,b,a].drop 2).take (prog.cellsOf 23))=some I:=k 2 _ rfl;rw[cellsD]at Q;have o:DataW.trod enc prog w base spare held n 23 [f]=some I:=Q;have P:DataW.trod enc prog w base spare held n 3 (([i,g,f,e,d,b,a].drop 3).take (prog.cellsOf 3))=some G:=k 3 _ rfl;rw[k8]at P;have B:DataW.trod enc prog w base spare held n 3 [e]=some G:=P;have O:DataW.trod enc prog w base spare held n 32 (([i,g,f,e,d,b,a].drop 4).take (prog.cellsOf 32))=some F:=k 4 _ rfl;rw[D8]at O;have m:DataW.trod enc prog w base spare held n 32 [d]=some F:=O;have N:DataW.trod enc prog w base spare held n 32 (([i,g,f,e,d,b,a].drop 5).take (prog.cellsOf 32))=some E:=k 5 _ rfl;rw[D8]at N;have l:DataW.trod enc prog w base spare held n 32 [b]=some E:=N;have M:DataW.trod enc prog w base spare held n 4 (([i,g,f,e,d,b,a].drop 6).take (prog.cellsOf 4))=some D:=k 6 _ rfl;rw[Ff]at M;have A:DataW.trod enc prog w base spare held n 4 [a]=some D:=M;obtain⟨n0,U,_,_⟩:=DataW.trod_int underlying3 C;obtain⟨Z,e3,_,_⟩:=DataW.trod_int underlying3 B;obtain⟨b6,e6,_⟩:=DataW.trod_bool underlying4 A;obtain⟨Y,m1,c1,t⟩:=slice_form underlying23 p;rw[t]at p;obtain⟨l1,z⟩:=ju underlying23 p;obtain⟨X,m2,c2,s⟩:=slice_form underlying23 o;rw[s]at o;obtain⟨l2,y⟩:=ju underlying23 o;obtain⟨W,m4,c4,e4⟩:=slice_form underlying32 m;rw[e4]at m;obtain⟨l4,v⟩:=p9 underlying32 m;obtain⟨V,m5,c5,e5⟩:=slice_form underlying32 l;rw[e5]at l;obtain⟨l5,u⟩:=p9 underlying32 l;simp at U t s e3 e4 e5 e6
 exact⟨⟨n0,Y,m1,c1,l1,X,m2,c2,l2,Z,W,m4,c4,l4,V,m5,c5,l5,b6⟩,by rw[U,t,s,e3,e4,e5,e6];rfl,z,y,v,u⟩
theorem DG{b:Nat}{cs:List Value}{x:DataW H×List MemPlace}(h:DataW.trod enc prog w base spare held b 114 cs=some x):
  ∃m:MV,cs=jX m/\ae w m.e.ao m.e.n m.e.cap m.e.vs:=by
 obtain⟨xs,n,_,_,o,a,p⟩:=DataW.trod_struct underlying114 h;rw[Fc]at o;obtain⟨l,k,rfl⟩:=Sj xs a;obtain⟨f,e,d,c,rfl⟩:=O6 cs o;have r:DataW.trod enc prog w base spare held n 3 (([f,e,d,c].drop 0).take (prog.cellsOf 3))=some l:=p 0 _ rfl;rw[k8]at r;have q:DataW.trod enc prog w base spare held n 71 (([f,e,d,c].drop 1).take (prog.cellsOf 71))=some k:=p 1 _ rfl;rw[D9]at q;have i:DataW.trod enc prog w base spare held n 3 [f]=some l:=r;have g:DataW.trod enc prog w base spare held n 71 [e,d,c]=some k:=q;obtain⟨t,s,_,_⟩:=DataW.trod_int underlying3 i;obtain⟨v,y,u⟩:=Ai g;simp at s
 refine⟨⟨t,v⟩,?_,u⟩
 rw[s,y];rfl
end
