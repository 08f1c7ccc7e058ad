/- A part. -/
import Derived.Test.YthddphjghgdalaaGreatDoorP4
set_option maxRecDepth 100000
set_option maxHeartbeats 12800000
namespace Go.Proofs.YthddphjghgdalaaGreatDoor
open Go.RowKit Go.Proofs.Tryz
namespace Ac
theorem j7:∀{l:List It},Dc.jF l=0->∀x∈l,Dc.err x=0
 |[],_,x,a=>by cases a
 |y::l,h,x,a=>by
  rw[Dc.jF]at h;by_cases b:Dc.err y=0
  ·rw[VC b]at h;rcases WG.1 a with rfl|a
   ·exact b
   ·exact j7 h x a
  ·rw[VD b]at h;exact absurd h b
theorem yS:∀{l:List It},(∀x∈l,Dc.err x=0)->Dc.jF l=0
 |[],_=>rfl
 |y::l,h=>by rw[Dc.jF,VC (h y (VK ..))];exact yS (fun x a=>h x (VP _ a))
theorem jj{x:It}(h:Dc.err x=0):(Dc.ends x=true\/Dc.gG x=true)/\m4 x.m/\Dc.link x=true:=by
 unfold Dc.err at h
 cases c:Dc.ends x
 ·cases d:Dc.gG x
  ·rw[c,d]at h;cases h
  ·rw[c,d]at h
   cases a:Dc.marks x
   ·rw[a]at h;cases h
   ·rw[a]at h
    cases b:Dc.link x
    ·rw[b]at h;cases h
    ·refine⟨.inr rfl,?_,rfl⟩
     unfold Dc.marks at a;simp only[WD,XF]at a
     exact a
 ·rw[c]at h
  cases a:Dc.marks x
  ·rw[a]at h;cases h
  ·rw[a]at h
   cases b:Dc.link x
   ·rw[b]at h;cases h
   ·refine⟨.inl rfl,?_,rfl⟩
    unfold Dc.marks at a;simp only[WD,XF]at a
    exact a
theorem oA{l:List It}(h:Dc.check l=0):l.length<=80/\Dc.jF l=0/\∃b x,l=b++[x]/\Dc.ends x=true:=by
 have c:¬80<l.length:=fun g=>by rw[Dc.pL g]at h;cases h
 have a:Dc.jF l=0:=by
  by_cases a:Dc.jF l=0
  ·exact a
  ·rw[Dc.uj c a]at h;exact h
 refine⟨by omega,a,?_⟩
 rcases List.eq_nil_or_concat l with e|⟨b,x,e⟩
 ·rw[Dc.ui a (by rw[e];rfl)]at h;cases h
 ·rw[XU]at e;have f:b.length<l.length:=by rw[e];simp
  rw[Dc.pM c a f (by rw[e];simp)]at h;have i:l[b.length]=x:=by simp[e]
  rw[i]at h;refine⟨b,x,e,?_⟩
  cases d:Dc.ends x
  ·rw[d]at h;cases h
  ·rfl
theorem qg{l:List It}(h:Dc.check l=0):M4 l:=fun x a=>(jj (j7 (oA h).2.1 x a)).2.1
theorem kj {d:List It} {o:List Pt} (h:ag d o=0):Dc.check d=0/\dR o/\nd o=d.length/\lv o<=80:=by
 unfold ag at h;by_cases h1:Dc.check d=0
 ·rw[VC h1] at h;by_cases h2:gC o=0
  ·rw[VC h2] at h;have hr:=bi.1 h2;rw[hr.lf,hr.lt] at h;by_cases h3:(nd o:Int)=d.length
   ·rw[VC h3] at h;by_cases h4:80<(lv o:Int)
    ·rw[VC h4] at h;cases h
    ·exact ⟨h1,hr,by omega,by omega⟩
   ·rw[VD h3] at h;cases h
  ·rw[VD h2] at h;exact absurd h h2
 ·rw[VD h1] at h;exact absurd h h1
theorem Q0{d:List It}{o:List Pt}(b:Dc.check d=0)(a:dR o)(e:nd o=d.length)(c:lv o<=80):ag d o=0:=by
 unfold ag;rw[VC b,VC (bi.2 a),a.lf,a.lt,VC (by omega),VD (by omega)]
theorem Fu{a:Int}(h:rX a=true):m4 a:=by
 unfold rX at h;simp only[WD,XF]at h
 exact h
theorem kY{p:Pt}(h:bG p=0)(d:p.kind=1):m4 p.set/\m4 p.bm/\1<=p.n/\p.n<=80:=by
 rcases gA (jN h).1 with⟨_,c⟩|⟨f,_⟩|⟨e,_⟩
 ·obtain⟨a,_,b⟩:=yT c;unfold be at a;simp only[Bool.or_eq_false_iff,Bool.not_eq_false']at a
  exact⟨Fu a.1,Fu a.2.1,ud b⟩
 ·omega
 ·omega
theorem jT{p:Pt}(h:bG p=0)(c:p.kind=2):1<=p.aB.length/\p.aB.length<=80/\Dc.jF p.aB=0:=by
 rcases gA (jN h).1 with⟨_,a⟩|⟨_,a⟩|⟨d,_⟩
 ·omega
 ·unfold mH at a;by_cases b:p.aB.length<1\/80<p.aB.length
  ·rw[VC b]at a;cases a
  ·rw[VD b]at a;exact⟨by omega,by omega,a⟩
 ·omega
theorem Ay{p:Pt}(h:bG p=0)(b:p.kind=3):1<=p.n/\p.n<=80:=by
 rcases gA (jN h).1 with⟨d,_⟩|⟨c,_⟩|⟨_,a⟩
 ·omega
 ·omega
 ·exact ud a
def done (d:List It) (o:List Pt):List It:=if ag d o=0 then (mk d o).1 else []
end Ac
theorem sW {w:World} {B0 n:Nat} {v:Value} {l:List It} (h:w.ownsRow B0 67 3 v n (aI l)) (hf:Fit l) (hl:l.length=n):∃ a c,v=.slice a n c/\cy w a n c l:=by
 rcases h.2 with ⟨rfl,rfl⟩ | ⟨g,cap,cur,rfl,hg,hh,h1,h2,h3,h4⟩
 ·exact ⟨none,0,rfl,hf,hl,UZ _,by decide,fun h=>absurd rfl h⟩
 ·exact ⟨_,cap,rfl,hf,hl,h1,by unfold maxLen at h2;exact h2,fun _=>⟨g,0,rfl,C9 h⟩⟩
theorem xW(g c:Option Addr)(n b h a:Nat)(l:List It)(d:List PV)(w:World)(o:cy w g n b l)(m:ae w c h a d)(k:df w)(p:¬Ac.ag l (d.map PV.pt)=0):
  Calls prog 40 #[.slice g n b,.slice c h a] w fun e w'=>e=.returned (.tuple #[.slice none 0 0,.int .i64 (Ac.ag l (d.map PV.pt))])/\Below w.heap.size w w':=by
 have f:Hd (Below w.heap.size w (w.alloc (.cells #[.slice g n b] 23))):=(VE _ _).alloc (UZ _) _;have s:=hId (yR g c n b h a l d _ (o.below f.o) (m.below f.o) (k.below f.o));clear o m k;generalize Ac.ag l (d.map PV.pt)=r at*;have t:(r !=0)=true:=by simp[p]
 go_enter func40,ntmps40
 go_wp2_with fail
 refine s.o.mono ?_
 rintro e u⟨rfl,i⟩;have q:=hId (f.o.trans (i.mono f.o.size));clear i;go_wp2
 go_ret2
 exact⟨rfl,q.o⟩
theorem MS(ao aq:Option Addr)(n D n' a9:Nat)(l:List It)(M:List PV)(w:World)(hD:cy w ao n D l)(hO:ae w aq n' a9 M)(hS:df w)(hE:Ac.ag l (M.map PV.pt)=0):
  Calls prog 40 #[.slice ao n D,.slice aq n' a9] w fun e w'=>(∃a c,e=.returned (.tuple #[.slice a (Ac.mk l (M.map PV.pt)).1.length c,.int .i64 0])/\cy w' a (Ac.mk l (M.map PV.pt)).1.length c (Ac.mk l (M.map PV.pt)).1)/\Below w.heap.size w w':=by
 obtain⟨aa,b6,b9,bs⟩:=Ac.kj hE;have a7:=(Ac.oA aa).1;obtain⟨i0,hi,b4,b3,b2⟩:=info_parts Tryz.DQ;have af:n≠0:=by
  obtain⟨_,_,l',x,e,_⟩:=Ac.oA aa;have:=hD.len;rw[e]at this;simp at this
  omega
 obtain⟨b,J,rfl,hA⟩:=hD.bH af;have H1:Hd (Below w.heap.size w (w.alloc (.cells #[.slice (some ⟨b,J,none⟩) n D] 23))):=(VE _ _).alloc (UZ _) _;have CF:=hId (yR _ aq n D n' a9 l M _ (hD.below H1.o) (hO.below H1.o) (hS.below H1.o));rw[hE]at CF;have bh:Hd (Blk (w.alloc (.cells #[.slice (some ⟨b,J,none⟩) n D] 23)) w.heap.size [.slice (some ⟨b,J,none⟩) n D] 23):=Blk.new w _ _;have bi:Hd (w.heap.size<(w.alloc (.cells #[.slice (some ⟨b,J,none⟩) n D] 23)).heap.size):=by show _<_;simp
 have bm:=hId hA;have bf:=hId hO;have HN:=hId hO.len;have bz:=hId hD.len;have bq:=hId hD.fit;have bx:=hId (Ac.qg aa);have bu:=hId (fun v hv=>b6.ok _ (XI.2 ⟨v,hv,rfl⟩));have bc:Hd (∀k,(Ac.mk l ((M.map PV.pt).take k)).2<=n/\(Ac.mk l ((M.map PV.pt).take k)).1.length<=80):=fun k=>by
  have:=Ac.FB l (M.map PV.pt) b9 k;rw[hD.len]at this;exact⟨this.1,by omega⟩
 have ag:=hD.room;have cd:=hO.row.room;have ce:=hO.row.fg;rw[hD.len]at a7;clear hD hO hS hE aa b6 b9 bs hA af;obtain⟨R,hR⟩:∃R,(Ac.mk l (M.map PV.pt)).1=R:=⟨_,rfl⟩;have HR:=hId hR;rw[hR];clear hR;go_enter func40,ntmps40
 go_wp2_with fail
 refine CF.o.mono ?_
 rintro e B⟨rfl,hb⟩;have H2:=hId (H1.o.trans (hb.mono H1.o.size));have ad:Hd (Blk B w.heap.size [.slice (some ⟨b,J,none⟩) n D] 23):=(hb.block _ bi.o).trans bh.o;have ab:=hId ad.o.lt;have a5:=hId (bm.o.below H2.o);have be:=hId (bf.o.below H2.o);have cb:=hId (Blk.new B [.int .i64 0] 3);have c9:Hd (Below B.heap.size B (B.alloc (.cells #[.int .i64 0] 3))):=(VE _ _).alloc (UZ _) _;clear hb CF bh bi bm bf;go_wp2
 go_loopw [9,21] (fun mv i wr=>∃k:Nat,k<=n'/\i=.int .i64 k/\JP B mv (Ac.mk l ((M.map PV.pt).take k)) wr) (fun _ i _=>n'-(intOf i).toNat)
 case atStart=>exact⟨0,VN _,rfl,XM _ _ _ _,cb.o,c9.o,fun x hx=>absurd hx (by simp[Ac.mk])⟩
 case round=>
  obtain⟨k,hk,rfl,hI⟩:=hrel;have F:=hId hI;clear hI;by_cases am:k<n'
  ·obtain⟨pb,po,rfl,hG⟩:=be.o.get (by omega);have Z:k<M.length:=by rw[HN.o];exact am
   have Y:Hd (Ac.mk l ((M.map PV.pt).take (k+1))=Ac.vh l (Ac.mk l ((M.map PV.pt).take k)) M[k].pt):=by
    have:=Ac.FC l (M.map PV.pt) k (by rw[VH];exact Z);rw[List.getElem_map]at this;exact this
   have ap:=bc.o k;have L:=bc.o (k+1);rw[Y.o]at L;have V:=bu.o M[k] (WT Z);have X:=be.o.iE M[k] (WT Z);obtain⟨c0,c1,c2,c3,c4,c5,c6⟩:=(hG k Z).same (F.o.bf.block pb (gW (hG k Z).c0));clear hG;generalize Ac.mk l ((M.map PV.pt).take k)=s at*;generalize M[k]=v at*;obtain⟨a6,q,C,m,d,r,t,A,z,y⟩:=v;simp only at c0 c1 c2 c3 c4 c5 c6
   clear Z;obtain⟨p,f⟩:=s;by_cases h1:a6=1
   ·subst h1;obtain⟨b5,ba,al,ak⟩:=Ac.kY V rfl;change 1<=q at al;change q<=80 at ak;obtain⟨o,rfl⟩:∃o:Nat,q=o:=⟨q.toNat,by omega⟩;have O:Ac.vh l (p,f) (PV.pt ⟨1,o,C,m,d,r,t,A,z,y⟩)=(p++((l.drop f).take o).map (fun x=>Ac.change x ⟨t,A,z,y⟩),f+o):=rfl;rw[O]at Y L;have a0:(p++((l.drop f).take o).map (fun x=>Ac.change x ⟨t,A,z,y⟩)).length<=80:=L.2;rw[VI,VH]at a0;obtain⟨N,G⟩:∃N,p.length=N:=⟨_,rfl⟩;have az:=hId G;have bg:=F.o.lt;have aw:Hd (some wr.heap.size≠u9.ownBlock):=fun e=>by have:=(F.o.own.lt _ e.symm).2;omega
    have T:=ab.o;have W:Hd (bV (aH ⟨1,o,C,m,d,r,t,A,z,y⟩ wr) wr.heap.size 0 ⟨1,o,C,m,d,r,t,A,z,y⟩):=dS _ wr;have E:Below wr.heap.size wr (aH ⟨1,o,C,m,d,r,t,A,z,y⟩ wr):=aK _ wr;have K:=hId (F.o.bf.trans (E.mono (by omega)));have a4:Hd ((aH ⟨1,o,C,m,d,r,t,A,z,y⟩ wr).ownsRow (B.heap.size+1) 67 3 u9 N (aI p)):=by
     have:=ax F.o.own E;rw[G]at this;exact this
    have I:Hd (Blk (aH ⟨1,o,C,m,d,r,t,A,z,y⟩ wr) B.heap.size [.int .i64 f] 3):=(E.block _ F.o.JB.lt).trans F.o.JB;have ac:Hd (Blk (aH ⟨1,o,C,m,d,r,t,A,z,y⟩ wr) w.heap.size [.slice (some ⟨b,J,none⟩) n D] 23):=(K.o.block _ T).trans ad.o;have bk:=hId (a5.o.below K.o);have a1:0<o:=by omega
    have aj:f+o<=n:=L.1;have CN:Hd (Calls prog 66 #[.int .i64 o,.pointer (some ⟨B.heap.size,0,none⟩),.pointer (some ⟨w.heap.size,0,none⟩)] (aH ⟨1,o,C,m,d,r,t,A,z,y⟩ wr).drew fun e w'=>e=.returned (.slice (some ⟨b,J+f*3,none⟩) o (D-f))/\w'=(aH ⟨1,o,C,m,d,r,t,A,z,y⟩ wr).drew.setCell ⟨B.heap.size,0,none⟩ (.int .i64 ((f+o:Nat):Int))):=qC B.heap.size w.heap.size b J n D f o (f+o) _ I.o ac.o (by omega) rfl a1 aj a7 ag;have Q:Hd (Below B.heap.size B ((aH ⟨1,o,C,m,d,r,t,A,z,y⟩ wr).drew.setCell ⟨B.heap.size,0,none⟩ (.int .i64 ((f+o:Nat):Int)))):=K.o.drew.setCell (UZ _) _;have U:Hd (Blk ((aH ⟨1,o,C,m,d,r,t,A,z,y⟩ wr).drew.setCell ⟨B.heap.size,0,none⟩ (.int .i64 ((f+o:Nat):Int))) B.heap.size [.int .i64 ((f+o:Nat):Int)] 3):=I.o.set 0 _;have au:Hd (bV ((aH ⟨1,o,C,m,d,r,t,A,z,y⟩ wr).drew.setCell ⟨B.heap.size,0,none⟩ (.int .i64 ((f+o:Nat):Int))) wr.heap.size 0 ⟨1,o,C,m,d,r,t,A,z,y⟩):=W.o.same (XN (aH ⟨1,o,C,m,d,r,t,A,z,y⟩ wr).drew _ _ _ (by simp;omega));have av:Hd (((aH ⟨1,o,C,m,d,r,t,A,z,y⟩ wr).drew.setCell ⟨B.heap.size,0,none⟩ (.int .i64 ((f+o:Nat):Int))).ownsRow (B.heap.size+1) 67 3 u9 N (aI p)):=ownsRow_setCell_below a4.o (by simp) _;have bl:=hId (a5.o.below Q.o);generalize (aH ⟨1,o,C,m,d,r,t,A,z,y⟩ wr).drew.setCell ⟨B.heap.size,0,none⟩ (.int .i64 ((f+o:Nat):Int))=W1 at*;have a2:((l.drop f).take o).length=o:=by rw[List.length_take,XG,bz.o];omega
    have cc:=hId (nQ b (J+f*3) o (D-f) _ 1 o C m d r t A z y W1 (bl.o.part f o) a2 a1 (by omega) (FD bx.o _ _) b5 ba);have b0:Hd ((aI (((l.drop f).take o).map fun x=>Ac.change x ⟨t,A,z,y⟩)).length=o*3):=by show _=_;rw[dP,VH,a2]
    have b1:Hd (Fit (p++(((l.drop f).take o).map fun x=>Ac.change x ⟨t,A,z,y⟩))):=qY F.o.fit (pI (Ab bq.o _ _) _ X.fit);have br:N+o<=80:=by rw[a2]at a0;omega
    have ay:Hd ((p++(((l.drop f).take o).map fun x=>Ac.change x ⟨t,A,z,y⟩)).length=N+o):=by show _=_;rw[VI,VH,a2,G]
    clear O ap L a0 G a2 E V b5 ba X;generalize (((l.drop f).take o).map fun x=>Ac.change x ⟨t,A,z,y⟩)=ch at*;go_upto_region 12 with fail
    change Code.wp prog _ _ _ (aH ⟨1,o,C,m,d,r,t,A,z,y⟩ wr);generalize (aH ⟨1,o,C,m,d,r,t,A,z,y⟩ wr)=W5 at*;clear c0 c1 c2 c3 c4 c5 c6;obtain⟨d0,d1,d2,d3,d4,d5,d6⟩:=W.o;obtain⟨x0,x1,x2,x3,x4,x5,x6⟩:=au.o;simp only[VR]at d0 d1 d2 d3 d4 d5 d6 x0 x1 x2 x3 x4 x5 x6
    go_region_held3 (fun w'=>w'.cell? ⟨wr.heap.size,0,none⟩=some (.int .i64 1)/\w'.cell? ⟨wr.heap.size,1,none⟩=some (.int .i64 o)/\w'.cell? ⟨wr.heap.size,2,none⟩=some (.slice C m d)/\w'.cell? ⟨wr.heap.size,3,none⟩=some (.int .i64 t)/\w'.cell? ⟨wr.heap.size,4,none⟩=some (.int .i64 A)/\w'.cell? ⟨wr.heap.size,5,none⟩=some (.bool z)/\w'.cell? ⟨wr.heap.size,6,none⟩=some (.string y)) (first|exact⟨d0,d1,d2,d3,d4,d5,d6⟩|exact⟨x0,x1,x2,x3,x4,x5,x6⟩|exact⟨y0,y1,y2,y3,y4,y5,y6⟩|exact⟨z0,z1,z2,z3,z4,z5,z6⟩) (first|(go_at_call 66;refine CN.o.mono ?_;rintro e w6⟨rfl,rfl⟩)|(go_at_call 67;refine cc.o.mono ?_;rintro e w7⟨⟨g,cg,rfl,ho⟩,hb⟩;have ar:Hd (bV w7 wr.heap.size 0 ⟨1,o,C,m,d,r,t,A,z,y⟩):=au.o.below hb;obtain⟨y0,y1,y2,y3,y4,y5,y6⟩:=ar.o;simp only[VR]at y0 y1 y2 y3 y4 y5 y6;have bv:Hd (w7.ownsRow (B.heap.size+1) 67 3 u9 N (aI p)):=ax av.o hb;have bw:Hd (∀j u,(aI ch)[j]?=some u->w7.cell? ((⟨g,0,none⟩:Addr).add j)=some u):=ho.cells rfl;have ah:Hd (Blk w7 B.heap.size [.int .i64 ((f+o:Nat):Int)] 3):=(hb.block _ U.o.lt).trans U.o;have ca:Hd (Below B.heap.size B w7):=Q.o.trans (hb.mono (YB U.o.lt));have bn:B.heap.size+1<=w7.heap.size:=ah.o.lt;clear ho hb)|(refine kN _ rfl (.tmp 29) (.tmp 35) 23 22 67 rfl underlying22 (B.heap.size+1) 67 i0 (.agg #[.int .u8 0,.int .i64 0,.string ⟨#[]⟩]) 3 32 underlying23 hi b4 b3 b2 rfl (by decide) u9 N (aI p) rfl bv.o ⟨g,0,none⟩ o cg (aI ch) rfl b0.o bw.o (bR _) a1 (by unfold maxLen;omega) (by omega) bn _ rfl ?_;intro g2 a8 w8 P H an am;obtain⟨z0,z1,z2,z3,z4,z5,z6⟩:=ar.o.same (H.block _ (gW ar.o.c0) aw.o);simp only[VR]at z0 z1 z2 z3 z4 z5 z6;have S:Hd (JP B (.slice (some ⟨g2,0,none⟩) (N+o) a8) (p++ch,f+o) w8):=F.o.push ah.o ca.o (by rw[fb,ay.o];exact P) H b1.o;clear P H an am))
    go_wp2
    go_roundw
    case rel=>exact⟨k+1,by omega,by go_num,by rw[Y.o];exact S.o⟩
    case measure=>simp[intOf];omega
   ·by_cases h2:a6=2
    ·subst h2;obtain⟨b8,b7,-⟩:=Ac.jT V rfl;change 1<=r.length at b8;change r.length<=80 at b7;have a3:r.length=m:=X.jd.len;have O:Ac.vh l (p,f) (PV.pt ⟨2,q,C,m,d,r,t,A,z,y⟩)=(p++r,f):=rfl;rw[O]at Y L;have a0:(p++r).length<=80:=L.2;rw[VI,a3]at a0;rw[a3]at b8 b7;obtain⟨N,G⟩:∃N,p.length=N:=⟨_,rfl⟩;have az:=hId G;have bg:=F.o.lt;have aw:Hd (some wr.heap.size≠u9.ownBlock):=fun e=>by have:=(F.o.own.lt _ e.symm).2;omega
     have T:=ab.o;have W:Hd (bV (aH ⟨2,q,C,m,d,r,t,A,z,y⟩ wr) wr.heap.size 0 ⟨2,q,C,m,d,r,t,A,z,y⟩):=dS _ wr;have E:Below wr.heap.size wr (aH ⟨2,q,C,m,d,r,t,A,z,y⟩ wr):=aK _ wr;have K:=hId (F.o.bf.trans (E.mono (by omega)));have a4:Hd ((aH ⟨2,q,C,m,d,r,t,A,z,y⟩ wr).ownsRow (B.heap.size+1) 67 3 u9 N (aI p)):=by
      have:=ax F.o.own E;rw[G]at this;exact this
     have I:Hd (Blk (aH ⟨2,q,C,m,d,r,t,A,z,y⟩ wr) B.heap.size [.int .i64 f] 3):=(E.block _ F.o.JB.lt).trans F.o.JB;have ac:Hd (Blk (aH ⟨2,q,C,m,d,r,t,A,z,y⟩ wr) w.heap.size [.slice (some ⟨b,J,none⟩) n D] 23):=(K.o.block _ T).trans ad.o;have bk:=hId (a5.o.below K.o);obtain⟨ib,io,rfl,bb⟩:=X.jd.bH (by change m≠0;omega);have c8:Hd (∀j u,(aI r)[j]?=some u->(aH ⟨2,q,some ⟨ib,io,none⟩,m,d,r,t,A,z,y⟩ wr).cell? ((⟨ib,io,none⟩:Addr).add j)=some u):=lW (bb.below K.o);have b0:Hd ((aI r).length=m*3):=by show _=_;rw[dP,a3]
     have b1:Hd (Fit (p++r)):=qY F.o.fit X.jd.fit;have br:N+m<=80:=by omega
     have ay:Hd ((p++r).length=N+m):=by show _=_;rw[VI,a3,G]
     have bo:B.heap.size+1<=(aH ⟨2,q,some ⟨ib,io,none⟩,m,d,r,t,A,z,y⟩ wr).heap.size:=I.o.lt;clear O ap L a0 G E V X bb a3;go_upto_region 13 with fail
     change Code.wp prog _ _ _ (aH ⟨2,q,some ⟨ib,io,none⟩,m,d,r,t,A,z,y⟩ wr);generalize aH ⟨2,q,some ⟨ib,io,none⟩,m,d,r,t,A,z,y⟩ wr=W5 at*;clear c0 c1 c2 c3 c4 c5 c6;obtain⟨d0,d1,d2,d3,d4,d5,d6⟩:=W.o;simp only[VR]at d0 d1 d2 d3 d4 d5 d6
     go_wp2_with (at_builtin;refine jO _ rfl (.tmp 39) (.tmp 41) 23 22 67 rfl underlying22 (B.heap.size+1) 67 i0 (.agg #[.int .u8 0,.int .i64 0,.string ⟨#[]⟩]) 3 32 underlying23 hi b4 b3 b2 rfl (by decide) u9 N (aI p) rfl a4.o ⟨ib,io,none⟩ m d (aI r) rfl b0.o c8.o (bR _) (by omega) (by unfold maxLen;omega) (by omega) bo _ rfl ?c7)
     case c7=>
      intro g2 a8 w8 P H an bp;have S:Hd (JP B (.slice (some ⟨g2,0,none⟩) (N+m) a8) (p++r,f) w8):=F.o.push I.o K.o (by rw[fb,ay.o];exact P) H b1.o;clear P H an bp;go_wp2
      go_roundw
      case rel=>exact⟨k+1,by omega,by go_num,by rw[Y.o];exact S.o⟩
      case measure=>simp[intOf];omega
    ·by_cases h3:a6=3
     ·subst h3;obtain⟨al,ak⟩:=Ac.Ay V rfl;change 1<=q at al;change q<=80 at ak;obtain⟨o,rfl⟩:∃o:Nat,q=o:=⟨q.toNat,by omega⟩;have O:Ac.vh l (p,f) (PV.pt ⟨3,o,C,m,d,r,t,A,z,y⟩)=(p,f+o):=rfl;rw[O]at Y L;obtain⟨N,G⟩:∃N,p.length=N:=⟨_,rfl⟩;have az:=hId G;have bg:=F.o.lt;have aw:Hd (some wr.heap.size≠u9.ownBlock):=fun e=>by have:=(F.o.own.lt _ e.symm).2;omega
      have T:=ab.o;have W:Hd (bV (aH ⟨3,o,C,m,d,r,t,A,z,y⟩ wr) wr.heap.size 0 ⟨3,o,C,m,d,r,t,A,z,y⟩):=dS _ wr;have E:Below wr.heap.size wr (aH ⟨3,o,C,m,d,r,t,A,z,y⟩ wr):=aK _ wr;have K:=hId (F.o.bf.trans (E.mono (by omega)));have a4:Hd ((aH ⟨3,o,C,m,d,r,t,A,z,y⟩ wr).ownsRow (B.heap.size+1) 67 3 u9 N (aI p)):=by
       have:=ax F.o.own E;rw[G]at this;exact this
      have I:Hd (Blk (aH ⟨3,o,C,m,d,r,t,A,z,y⟩ wr) B.heap.size [.int .i64 f] 3):=(E.block _ F.o.JB.lt).trans F.o.JB;have ac:Hd (Blk (aH ⟨3,o,C,m,d,r,t,A,z,y⟩ wr) w.heap.size [.slice (some ⟨b,J,none⟩) n D] 23):=(K.o.block _ T).trans ad.o;have bk:=hId (a5.o.below K.o);have a1:0<o:=by omega
      have aj:f+o<=n:=L.1;have CN:=hId (qC B.heap.size w.heap.size b J n D f o (f+o) _ I.o ac.o (by omega) rfl a1 aj a7 ag);have Q:Hd (Below B.heap.size B ((aH ⟨3,o,C,m,d,r,t,A,z,y⟩ wr).setCell ⟨B.heap.size,0,none⟩ (.int .i64 ((f+o:Nat):Int)))):=K.o.setCell (UZ _) _;have U:Hd (Blk ((aH ⟨3,o,C,m,d,r,t,A,z,y⟩ wr).setCell ⟨B.heap.size,0,none⟩ (.int .i64 ((f+o:Nat):Int))) B.heap.size [.int .i64 ((f+o:Nat):Int)] 3):=I.o.set 0 _;have au:Hd (bV ((aH ⟨3,o,C,m,d,r,t,A,z,y⟩ wr).setCell ⟨B.heap.size,0,none⟩ (.int .i64 ((f+o:Nat):Int))) wr.heap.size 0 ⟨3,o,C,m,d,r,t,A,z,y⟩):=W.o.same (XN (aH ⟨3,o,C,m,d,r,t,A,z,y⟩ wr) _ _ _ (by simp;omega));have av:Hd (((aH ⟨3,o,C,m,d,r,t,A,z,y⟩ wr).setCell ⟨B.heap.size,0,none⟩ (.int .i64 ((f+o:Nat):Int))).ownsRow (B.heap.size+1) 67 3 u9 N (aI p)):=ownsRow_setCell_below a4.o (by simp) _;have bl:=hId (a5.o.below Q.o);have S:Hd (JP B u9 (p,f+o) ((aH ⟨3,o,C,m,d,r,t,A,z,y⟩ wr).setCell ⟨B.heap.size,0,none⟩ (.int .i64 ((f+o:Nat):Int)))):=⟨by rw[az.o];exact av.o,U.o,Q.o,F.o.fit⟩;clear O ap L G E V X;go_upto_region 13 with fail
      change Code.wp prog _ _ _ (aH ⟨3,o,C,m,d,r,t,A,z,y⟩ wr);generalize aH ⟨3,o,C,m,d,r,t,A,z,y⟩ wr=W5 at*;clear c0 c1 c2 c3 c4 c5 c6;obtain⟨d0,d1,d2,d3,d4,d5,d6⟩:=W.o;simp only[VR]at d0 d1 d2 d3 d4 d5 d6
      go_wp2_with fail
      refine CN.o.mono ?_
      rintro e w6⟨rfl,rfl⟩;go_wp2
      go_roundw
      case rel=>exact⟨k+1,by omega,by go_num,by rw[Y.o];exact S.o⟩
      case measure=>simp[intOf];omega
     ·exact absurd (Ac.cz V) (fun h=>h.elim h1 (fun h=>h.elim h2 h3))
  ·have bt:k=n':=by omega
   have hm:Ac.mk l ((M.map PV.pt).take k)=Ac.mk l (M.map PV.pt):=by rw[XD (by rw[VH,HN.o];omega)]
   rw[hm]at F;obtain⟨a,c,hv,hd⟩:=sW F.o.own F.o.fit rfl;rw[HR.o]at hv hd;have HB:=hId (H2.o.trans (F.o.bf.mono (YB ab.o)));have bj:=hId hd;obtain⟨rl,ai⟩:∃rl,R.length=rl:=⟨_,rfl⟩;rw[ai]at hv bj;have bd:=hId ai;subst hv bt;clear hm hd ai;go_wp2
   go_ret2
   exact⟨⟨a,c,by rw[bd.o];rfl,by rw[bd.o];exact bj.o⟩,HB.o⟩
def re (v:PV) (x:Value):Prop:=∀ a:Addr,v.m≠0->v.ao=some a->some a.block≠x.ownBlock
theorem Ad(v:PV){x:Value}(h:x.ownBlock=none):re v x:=fun a _ _ e=>by rw[h]at e;cases e
theorem qZ{v:PV}(h:v.m=0)(x:Value):re v x:=fun _ a _=>absurd h a
theorem dV.bH{w:World}{v:PV}(h:dV w v){a:Addr}(c:v.m≠0)(d:v.ao=some a):a.block<w.heap.size:=by
 obtain⟨b,g,e,f⟩:=h.jd.bH c;rw[d]at e
 cases e
 exact gW (f.c 0 (by rw[h.jd.len];omega))
theorem dV.kept{w w':World}{v:PV}{S:List Nat}(h:dV w v)(m:Kept w w' S)(l:∀a:Addr,v.m≠0->v.ao=some a->a.block∉S):dV w' v:=by
 refine⟨⟨h.jd.fit,h.jd.len,h.jd.room,h.jd.fg,fun k=>?_⟩,h.fit⟩
 obtain⟨b,g,e,d⟩:=h.jd.bH k;have n:b<w.heap.size:=gW (d.c 0 (by rw[h.jd.len];omega));have f:=m.block b n (l _ k e);exact⟨b,g,e,fun i c=>(WC (w:=w) f).trans (d.c i c),fun i c=>(WC (w:=w) f).trans (d.m i c),fun i c=>(WC (w:=w) f).trans (d.l i c)⟩
def rZ (B:Nat) (v:PV):Prop:=∀ a:Addr,v.m≠0->v.ao=some a->B<=a.block
theorem rO{v:PV}(h:v.m=0)(B:Nat):rZ B v:=fun _ a _=>absurd h a
structure eD (w:World) (B:Nat) (tv:Value) (out:List PV):Prop where
 own:w.ownsRow B 100 7 tv out.length (aG out)
 iE:∀ v ∈ out,dV w v
 cu:∀ v ∈ out,re v tv
 hi:∀ v ∈ out,rZ B v
theorem eD.nil(w:World)(B:Nat):eD w B (.slice none 0 0) []:=⟨XM _ _ _ _,fun v a=>absurd a (by simp),fun v a=>absurd a (by simp),fun v a=>absurd a (by simp)⟩
theorem fu{w w':World}{B n sz:Nat}{e:TypeId}{v:Value}{xs:List Value}{S:List Nat}(h:w.ownsRow B e sz v n xs)(k:Kept w w' S)(f:∀x∈S,v.ownBlock≠some x):w'.ownsRow B e sz v n xs:=by
 refine⟨h.1,?_⟩
 rcases h.2 with m|⟨g,b,a,c,l,d,r⟩
 ·exact .inl m
 ·exact .inr ⟨g,b,a,c,l,(k.block g (WE.1 d).1 (fun i=>f g i (by rw[c];rfl))).trans d,r⟩
theorem eD.kept{w w':World}{B:Nat}{c:Value}{b:List PV}{S:List Nat}(h:eD w B c b)(e:Kept w w' S)(f:∀x∈S,c.ownBlock≠some x)(g:∀v∈b,∀a:Addr,v.m≠0->v.ao=some a->a.block∉S):eD w' B c b:=
 ⟨fu h.own e f,fun v d=>(h.iE v d).kept e (g v d),h.cu,h.hi⟩
theorem dH{w w':World}(h:Below w.heap.size w w'):Kept w w' []:=⟨h.os,h.tape,h.output,h.size,fun k a _=>h.block k a⟩
theorem eD.under{w w':World}{B:Nat}{d:Value}{b:List PV}(h:eD w B d b)(e:Below w.heap.size w w'):eD w' B d b:=
 h.kept (dH e) (fun x c=>by cases c) (fun v _ a _ _ c=>by cases c)
theorem eD.push{w p k:World}{B g i:Nat}{f:Value}{c:List PV}{v:PV}(h:eD w B f c)(y:dV w v)(d:re v f)(s:rZ B v)(l:Below w.heap.size w p)
  (m:k.ownsRow B 100 7 (.slice (some ⟨g,0,none⟩) (c.length+1) i) (c.length+1) (aG c++iD v))(E:p.grownBy k f.ownBlock)(t:f.ownBlock=some g\/g=p.heap.size):
  eD k B (.slice (some ⟨g,0,none⟩) (c.length+1) i) (c++[v])/\Kept w k (ob f):=by
 have C:=((dH l).mono (fun x q=>by cases q)).trans (gh E);have A:∀u:PV,dV w u->re u f->dV k u:=fun u b r=>b.kept C (fun a n o q=>r a n o (cE q).symm);have z:∀u:PV,dV w u->re u f->re u (.slice (some ⟨g,0,none⟩) (c.length+1) i):=fun u b r a n o e=>by
  have F:=b.bH n o;rcases t with D|D
  ·exact r a n o (by rw[D];exact e)
  ·have:a.block=g:=by simpa[Value.ownBlock]using e
   have:=l.size;omega
 refine⟨⟨by rw[VI,jB,bq];exact m,fun u b=>?_,fun u b=>?_,fun u b=>?_⟩,C⟩
 ·rcases VW.1 b with b|b
  ·exact A u (h.iE u b) (h.cu u b)
  ·rw[UY.1 b];exact A v y d
 ·rcases VW.1 b with b|b
  ·exact z u (h.iE u b) (h.cu u b)
  ·rw[UY.1 b];exact z v y d
 ·rcases VW.1 b with b|b
  ·exact h.hi u b
  ·rw[UY.1 b];exact s
structure vS (w1:World) (tv pv:Value) (out:List PV) (put:List It) (cut:Nat) (w:World):Prop where
 bf:Below w1.heap.size w1 w
 tb:Blk w w1.heap.size [tv] 32
 pb:Blk w (w1.heap.size+1) [pv] 22
 cb:Blk w (w1.heap.size+2) [.int .i64 cut] 3
 jL:eD w (w1.heap.size+3) tv out
 Hj:w.ownsRow (w1.heap.size+3) 67 3 pv put.length (aI put)
 NO:Fit put
 NP:∀ v ∈ out,re v pv
 apart:∀ k,tv.ownBlock=some k->pv.ownBlock≠some k
theorem vS.under{e w w':World}{f g:Value}{c:List PV}{b:List It}{d:Nat}(h:vS e f g c b d w)(a:Below w.heap.size w w'):vS e f g c b d w':=
 ⟨h.bf.trans (a.mono h.bf.size),(a.block _ h.tb.lt).trans h.tb,(a.block _ h.pb.lt).trans h.pb,(a.block _ h.cb.lt).trans h.cb,h.jL.under a,ax h.Hj a,h.NO,h.NP,h.apart⟩
theorem eD.var{w d:World}{T:Nat}{f b:Value}{c:List PV}(h:eD d (T+3) b c)(l:Kept w d (T::ob f))(m:Blk d T [f] 32):
  eD (d.setCell ⟨T,0,none⟩ b) (T+3) b c/\Kept w (d.setCell ⟨T,0,none⟩ b) (T::ob f)/\Blk (d.setCell ⟨T,0,none⟩ b) T [b] 32:=by
 refine⟨h.kept (dX d T 0 b [T] (UY.2 rfl)) (fun x g e=>?_) (fun v i a k n g=>?_),l.setCell _ _ (.inl (VK ..)),m.set 0 b⟩
 ·have:=aS h.own x e;rw[UY]at g;omega
 ·have:=h.hi v i a k n;rw[UY]at g;omega
theorem nq{w w':World}{S:List Nat}(h:Kept w w' S)(x:Nat):Kept w w' (x::S):=h.mono (fun _ a=>VP _ a)
theorem vS.settled{c w f:World}{o y g:Value}{r d:List PV}{q:List It}{u:Nat}(h:vS c o y r q u w)(p:eD f (c.heap.size+3) g d)(n:Kept w f (c.heap.size::ob o))(B:Blk f c.heap.size [g] 32):
  vS c g (.slice none 0 0) d [] 0 ((f.setCell ⟨c.heap.size+1,0,none⟩ (.slice none 0 0)).setCell ⟨c.heap.size+2,0,none⟩ (.int .i64 0)):=by
 have i:∀x∈c.heap.size::ob o,x=c.heap.size\/c.heap.size+3<=x:=fun x b=>by
  rcases WG.1 b with rfl|b
  ·exact .inl rfl
  ·exact .inr (aS h.jL.own x (cE b))
 have s:=n.aM h.pb (fun b=>by have:=i _ b;omega);have t:=n.aM h.cb (fun b=>by have:=i _ b;omega);have l:Kept f ((f.setCell ⟨c.heap.size+1,0,none⟩ (.slice none 0 0)).setCell ⟨c.heap.size+2,0,none⟩ (.int .i64 0)) [c.heap.size+1,c.heap.size+2]:=
  ((Kept.refl f _).setCell _ _ (.inl (by simp))).setCell _ _ (.inl (by simp))
 have m:=aS p.own;refine⟨?_,l.aM B (by simp),?_,?_,?_,XM _ _ _ _,fun x b=>absurd b (by simp),fun v _=>Ad v rfl,fun k _ e=>by cases e⟩
 ·refine(h.bf.trans (n.below h.bf.size (fun x b=>by rcases i x b with h|h<;>omega))).trans (l.below (VX h.bf.size n.size) (fun x b=>by simp at b;omega))
 ·exact(s.set 0 (.slice none 0 0)).other _ _ (by simp)
 ·exact(t.other ⟨c.heap.size+1,0,none⟩ _ (by simp)).set 0 (.int .i64 0)
 ·refine p.kept l (fun x b e=>?_) (fun v z a A C b=>?_)
  ·have:=m x e;simp at b
   omega
  ·have:=p.hi v z a A C;simp at b
   omega
theorem jZ{w b:World}{T:Nat}{c:Value}(h:Kept w b (T::ob c)):Kept w ((b.setCell ⟨T+1,0,none⟩ (.slice none 0 0)).setCell ⟨T+2,0,none⟩ (.int .i64 0)) (T::(T+1)::(T+2)::ob c):=
 ((h.mono (fun x a=>by rcases WG.1 a with rfl|a;exact VK ..;exact VP _ (VP _ (VP _ a)))).setCell _ _ (.inl (by simp))).setCell _ _ (.inl (by simp))
theorem LK{w h g:World}{T:Nat}{c a:Value}(f:Kept w h (T::ob c))(i:a.ownBlock=c.ownBlock\/∀k,a.ownBlock=some k->w.heap.size<=k)(d:Kept h g (T::ob a)):Kept w g (T::ob c):=
 f.bZ d (fun x b=>by
  rcases WG.1 b with rfl|b
  ·exact .inl (VK ..)
  ·rcases i with e|e
   ·left
    refine VP _ ?_
    unfold ob at b⊢;rw[<-e];exact b
   ·exact .inr (e x (cE b)))
theorem vS.KF{a w r g:World}{i s d c:Value}{m b:List PV}{l:List It}{q:Nat}(h:vS a i s m l q w)(o:Kept w r (a.heap.size::ob i))(t:d.ownBlock=i.ownBlock\/∀k,d.ownBlock=some k->w.heap.size<=k)
  (u:eD g (a.heap.size+3) c b)(n:Kept r g (a.heap.size::ob d))(p:Blk g a.heap.size [c] 32):
  vS a c (.slice none 0 0) b [] 0 ((g.setCell ⟨a.heap.size+1,0,none⟩ (.slice none 0 0)).setCell ⟨a.heap.size+2,0,none⟩ (.int .i64 0)):=by
 refine h.settled u (o.bZ n (fun x f=>?_)) p
 rcases WG.1 f with rfl|f
 ·exact .inl (VK ..)
 ·rcases t with e|e
  ·left
   refine VP _ ?_
   unfold ob at f⊢;rw[<-e];exact f
  ·exact .inr (e x (cE f))
theorem ti(l w:World)(tv pv:Value)(i:List PV)(c:List It)(d:Nat)(M:vS l tv pv i c d w)(hp:c.length<=100000)(ho:i.length<=100000)(hc:d<=1000000):
  Calls prog 150 #[.pointer (some ⟨l.heap.size+1,0,none⟩),.pointer (some ⟨l.heap.size,0,none⟩),.pointer (some ⟨l.heap.size+2,0,none⟩)] w fun e w'=>e=.returned (.tuple #[])/\∃ap Y,vS l ap (.slice none 0 0) Y [] 0 w'/\Y.map PV.pt=i.map PV.pt++Ac.bL c d/\Y.length<=i.length+2/\Kept w w' (l.heap.size::(l.heap.size+1)::(l.heap.size+2)::ob tv):=by
 obtain⟨i0,hi,a6,a5,a4⟩:=info_parts Tryz.vj;obtain⟨f,b,a0,aj⟩:=sW M.Hj M.NO rfl;obtain⟨o,a1⟩:∃o,c.length=o:=⟨_,rfl⟩;have t:=hId M;have al:=hId a1;have ax:Hd (cy w f o b c):=by rw[<-a1];exact aj
 rw[a1]at a0 hp;have T:=hId a0;have t0:=ja M.tb;have p0:w.cell? ⟨l.heap.size+1,0,none⟩=some (.slice f o b):=by rw[<-a0];exact M.pb.cell 0
 have k0:=ja M.cb;have pz:=M.pb.frozen 0;have kz:=M.cb.frozen 0;obtain⟨r,a2⟩:∃r,i.length=r:=⟨_,rfl⟩;have U:=hId a2;rw[a2]at ho;have ad:Hd (w.ownsRow (l.heap.size+3) 100 7 tv r (aG i)):=by have:=M.jL.own;rw[a2]at this;exact this
 have ar:l.heap.size+3<=w.heap.size:=M.cb.lt;obtain⟨z,p,aq,-⟩:=bg ad.o;clear M a1 a2 aj a0;subst aq;have ao:Hd (0<o->dV w ⟨2,0,f,o,b,c,0,0,false,⟨#[]⟩⟩/\re ⟨2,0,f,o,b,c,0,0,false,⟨#[]⟩⟩ (.slice z r p)/\rZ (l.heap.size+3) ⟨2,0,f,o,b,c,0,0,false,⟨#[]⟩⟩):=fun _=>by
  refine⟨⟨ax.o,VN _⟩,fun a _ ha e=>?_,fun a _ ha=>?_⟩
  ·have e2:pv.ownBlock=some a.block:=by
    rw[T.o];change f=some a at ha;rw[ha];rfl
   exact t.o.apart a.block e.symm e2
  ·refine aS t.o.Hj a.block ?_
   rw[T.o];change f=some a at ha;rw[ha];rfl
 by_cases a9:o=0
 ·have W:Hd (Ac.bL c d=if d=0 then[]else[Ac.Dt d]):=by
   have:c=[]:=VS.1 (al.o.trans a9);show _=_
   unfold Ac.bL;rw[this];rfl
  subst a9;by_cases I:d=0
  ·subst I;have HS:=hId (t.o.settled t.o.jL (Kept.refl _ _) t.o.tb);have J:Hd (Kept w ((w.setCell ⟨l.heap.size+1,0,none⟩ (.slice none 0 0)).setCell ⟨l.heap.size+2,0,none⟩ (.int .i64 0)) (l.heap.size::(l.heap.size+1)::(l.heap.size+2)::ob (.slice z r p))):=jZ (Kept.refl _ _);go_enter func150,ntmps150
   go_wp2
   go_end0
   exact⟨rfl,_,i,HS.o,by rw[W.o];simp,by omega,J.o⟩
  ·have aw:=Nat.pos_of_ne_zero I;go_enter func150,ntmps150
   go_wp2_with (at_builtin;refine wpList_append_lies _ rfl (.tmp 13) (.tmp 16) 32 rfl (l.heap.size+3) 100 i0 (.agg #[.int .i64 0,.int .i64 0,.slice none 0 0,.int .i64 0,.int .i64 0,.bool false,.string ⟨#[]⟩]) 7 80 underlying32 hi a6 a5 a4 rfl (by decide) _ r (aG i) rfl ?c1 ⟨w.heap.size,0,none⟩ 1 1 [.int .i64 3,.int .i64 d,.slice none 0 0,.int .i64 0,.int .i64 0,.bool false,.string ⟨#[]⟩] rfl rfl ?c2 ?c3 (by decide) ?c4 ?c5 ?c6 _ rfl ?c7)
   case c1=>exact ad.o.alloc _
   case c2=>exact World.news_of_block (cs:=#[.int .i64 3,.int .i64 d,.slice none 0 0,.int .i64 0,.int .i64 0,.bool false,.string ⟨#[]⟩]) (heap_alloc_new w _)
   case c3=>exact aY [⟨3,d,none,0,0,[],0,0,false,⟨#[]⟩⟩]
   case c4=>unfold maxLen;omega
   case c5=>omega
   case c6=>first|omega|(simp;omega)
   case c7=>
    intro g n w3 q m y O;have C:Below w.heap.size w (w.alloc (.cells #[.int .i64 3,.int .i64 d,.slice none 0 0,.int .i64 0,.int .i64 0,.bool false,.string ⟨#[]⟩] 100)):=(VE _ _).alloc (UZ _) _;obtain⟨F,H⟩:=t.o.jL.push (v:=⟨3,d,none,0,0,[],0,0,false,⟨#[]⟩⟩) ⟨cf w,VN _⟩ (qZ rfl _) (rO rfl _) C (by rw[U.o];exact q) m (by rcases y with h|h;exact .inl h;exact .inr (h.trans (WO ..).symm));rw[U.o]at F;have HK:Hd (Kept w w3 (l.heap.size::ob (.slice z r p))):=nq H _;have u:=H.aM t.o.tb (fun s=>by have:=aS t.o.jL.own _ (cE s);omega);obtain⟨N,L,Q⟩:=F.var HK.o u;have HS:=hId (t.o.settled N L Q);have J:=hId (jZ L);have r0:=ja u;have r1:=u.frozen 0;have G:∀x∈l.heap.size::ob (.slice z r p),x=l.heap.size\/l.heap.size+3<=x:=fun x s=>by
     rcases WG.1 s with rfl|s
     ·exact .inl rfl
     ·exact .inr (aS t.o.jL.own x (cE s))
    have A:=HK.o.aM t.o.pb (fun s=>by have:=G _ s;omega);have B:=HK.o.aM t.o.cb (fun s=>by have:=G _ s;omega);have u1:w3.cell? ⟨l.heap.size+1,0,none⟩=some (.slice f 0 b):=by rw[<-T.o];exact A.cell 0
    have u2:=ja B;have y1:=A.frozen 0;have y2:=B.frozen 0;clear F H u N L Q q m y O C A B G;have E:Hd ((i++[(⟨3,d,none,0,0,[],0,0,false,⟨#[]⟩⟩:PV)]).map PV.pt=i.map PV.pt++Ac.bL c d):=by show _=_;rw[W.o,VD I,WN];rfl
    have D:Hd ((i++[(⟨3,d,none,0,0,[],0,0,false,⟨#[]⟩⟩:PV)]).length<=i.length+2):=by show _<=_;simp
    go_wp2
    go_end0
    exact⟨rfl,_,_,HS.o,E.o,D.o,J.o⟩
 ·have av:=Nat.pos_of_ne_zero a9;obtain⟨ah,ag,af⟩:=ao.o av;have HV:Hd (dV w ⟨2,0,f,o,b,c,0,0,false,⟨#[]⟩⟩/\re ⟨2,0,f,o,b,c,0,0,false,⟨#[]⟩⟩ (.slice z r p)/\rZ (l.heap.size+3) ⟨2,0,f,o,b,c,0,0,false,⟨#[]⟩⟩):=⟨ah,ag,af⟩;clear ah ag af;have W:Hd (Ac.bL c d=Ac.iW c::(if d=0 then[]else[Ac.Dt d])):=by
   have:c.isEmpty=false:=by
    cases hq:c
    ·have:=al.o;rw[hq]at this;simp at this;omega
    ·rfl
   show _=_
   unfold Ac.bL;rw[this];rfl
  have az:=hId hc;go_enter func150,ntmps150
  go_wp2_with (at_builtin;refine wpList_append_lies _ rfl (.tmp 6) (.tmp 9) 32 rfl (l.heap.size+3) 100 i0 (.agg #[.int .i64 0,.int .i64 0,.slice none 0 0,.int .i64 0,.int .i64 0,.bool false,.string ⟨#[]⟩]) 7 80 underlying32 hi a6 a5 a4 rfl (by decide) _ r (aG i) rfl ?c1 ⟨w.heap.size,0,none⟩ 1 1 [.int .i64 2,.int .i64 0,.slice f o b,.int .i64 0,.int .i64 0,.bool false,.string ⟨#[]⟩] rfl rfl ?c2 ?c3 (by decide) ?c4 ?c5 ?c6 _ rfl ?c7)
  case c1=>exact ad.o.alloc _
  case c2=>exact World.news_of_block (cs:=#[.int .i64 2,.int .i64 0,.slice f o b,.int .i64 0,.int .i64 0,.bool false,.string ⟨#[]⟩]) (heap_alloc_new w _)
  case c3=>exact aY [⟨2,0,f,o,b,c,0,0,false,⟨#[]⟩⟩]
  case c4=>unfold maxLen;omega
  case c5=>omega
  case c6=>first|omega|(simp;omega)
  case c7=>
   intro g n w3 q m y O;have C:Below w.heap.size w (w.alloc (.cells #[.int .i64 2,.int .i64 0,.slice f o b,.int .i64 0,.int .i64 0,.bool false,.string ⟨#[]⟩] 100)):=(VE _ _).alloc (UZ _) _;obtain⟨F,H⟩:=t.o.jL.push (v:=⟨2,0,f,o,b,c,0,0,false,⟨#[]⟩⟩) HV.o.1 HV.o.2.1 HV.o.2.2 C (by rw[U.o];exact q) m (by rcases y with h|h;exact .inl h;exact .inr (h.trans (WO ..).symm));rw[U.o]at F;have HK:Hd (Kept w w3 (l.heap.size::ob (.slice z r p))):=nq H _;have u:=H.aM t.o.tb (fun s=>by have:=aS t.o.jL.own _ (cE s);omega);obtain⟨N,L,Q⟩:=F.var HK.o u;have r0:=ja u;have r1:=u.frozen 0;have G:∀x∈l.heap.size::ob (.slice z r p),x=l.heap.size\/l.heap.size+3<=x:=fun x s=>by
    rcases WG.1 s with rfl|s
    ·exact .inl rfl
    ·exact .inr (aS t.o.jL.own x (cE s))
   have A:=HK.o.aM t.o.pb (fun s=>by have:=G _ s;omega);have B:=HK.o.aM t.o.cb (fun s=>by have:=G _ s;omega);have u1:w3.cell? ⟨l.heap.size+1,0,none⟩=some (.slice f o b):=by rw[<-T.o];exact A.cell 0
   have u2:=ja B;have y1:=A.frozen 0;have y2:=B.frozen 0;have S:=hId N;have K:=hId L;have X:=hId Q;have Z:Hd ((i++[(⟨2,0,f,o,b,c,0,0,false,⟨#[]⟩⟩:PV)]).length=r+1):=by show _=_;rw[VI,U.o];rfl
   have an:Hd (Value.ownBlock (.slice (some ⟨g,0,none⟩) (r+1) n)=Value.ownBlock (.slice z r p)\/∀k,Value.ownBlock (.slice (some ⟨g,0,none⟩) (r+1) n)=some k->w.heap.size<=k):=by rcases y with h|h;exact .inl h.symm;exact .inr (fun k hk=>by simp[Value.ownBlock]at hk;omega)
   have ac:Hd (Blk (w3.setCell ⟨l.heap.size,0,none⟩ (.slice (some ⟨g,0,none⟩) (r+1) n)) (l.heap.size+1) [.slice f o b] 22):=by have:=A.other ⟨l.heap.size,0,none⟩ (.slice (some ⟨g,0,none⟩) (r+1) n) (by simp);rw[T.o]at this;exact this
   have ae:=hId (B.other ⟨l.heap.size,0,none⟩ (.slice (some ⟨g,0,none⟩) (r+1) n) (by simp));clear F H u N L Q q m y O C A B G t0 p0 k0 pz kz;go_upto_region 2 with fail
   change Code.wp prog _ _ _ (w3.setCell ⟨l.heap.size,0,none⟩ (.slice (some ⟨g,0,none⟩) (r+1) n));generalize (w3.setCell ⟨l.heap.size,0,none⟩ (.slice (some ⟨g,0,none⟩) (r+1) n))=W4 at*;clear r0 r1 u1 u2 y1 y2;have r0:=ja X.o;have u1:=ja ac.o;have u2:=ja ae.o;have y1:=ac.o.frozen 0;have y2:=ae.o.frozen 0;by_cases I:d=0
   ·subst I;have HS:=hId (t.o.settled S.o K.o X.o);have J:=hId (jZ K.o);have E:Hd ((i++[(⟨2,0,f,o,b,c,0,0,false,⟨#[]⟩⟩:PV)]).map PV.pt=i.map PV.pt++Ac.bL c 0):=by show _=_;rw[W.o,WN];rfl
    have D:Hd ((i++[(⟨2,0,f,o,b,c,0,0,false,⟨#[]⟩⟩:PV)]).length<=i.length+2):=by show _<=_;simp
    clear S K X;go_wp2
    go_end0
    exact⟨rfl,_,_,HS.o,E.o,D.o,J.o⟩
   ·have aw:=Nat.pos_of_ne_zero I;have V:Hd (W4.ownsRow (l.heap.size+3) 100 7 (.slice (some ⟨g,0,none⟩) (r+1) n) (r+1) (aG (i++[⟨2,0,f,o,b,c,0,0,false,⟨#[]⟩⟩]))):=by have:=S.o.own;rw[Z.o]at this;exact this
    have au:=VX ar K.o.size;go_wp2_with (at_builtin;refine wpList_append_lies _ rfl (.tmp 13) (.tmp 16) 32 rfl (l.heap.size+3) 100 i0 (.agg #[.int .i64 0,.int .i64 0,.slice none 0 0,.int .i64 0,.int .i64 0,.bool false,.string ⟨#[]⟩]) 7 80 underlying32 hi a6 a5 a4 rfl (by decide) _ (r+1) (aG (i++[⟨2,0,f,o,b,c,0,0,false,⟨#[]⟩⟩])) rfl ?e1 ⟨W4.heap.size,0,none⟩ 1 1 [.int .i64 3,.int .i64 d,.slice none 0 0,.int .i64 0,.int .i64 0,.bool false,.string ⟨#[]⟩] rfl rfl ?e2 ?e3 (by decide) ?e4 ?e5 ?e6 _ rfl ?e7)
    case e1=>exact V.o.alloc _
    case e2=>exact World.news_of_block (cs:=#[.int .i64 3,.int .i64 d,.slice none 0 0,.int .i64 0,.int .i64 0,.bool false,.string ⟨#[]⟩]) (heap_alloc_new W4 _)
    case e3=>exact aY [⟨3,d,none,0,0,[],0,0,false,⟨#[]⟩⟩]
    case e4=>unfold maxLen;omega
    case e5=>omega
    case e6=>first|omega|(simp;omega)|(have:=au;simp at this⊢;omega)
    case e7=>
     intro g5 ay w5 q m y O;have C:Below W4.heap.size W4 (W4.alloc (.cells #[.int .i64 3,.int .i64 d,.slice none 0 0,.int .i64 0,.int .i64 0,.bool false,.string ⟨#[]⟩] 100)):=(VE _ _).alloc (UZ _) _;obtain⟨a7,P⟩:=S.o.push (v:=⟨3,d,none,0,0,[],0,0,false,⟨#[]⟩⟩) ⟨cf _,VN _⟩ (qZ rfl _) (rO rfl _) C (by rw[Z.o];exact q) m (by rcases y with h|h;exact .inl h;exact .inr (h.trans (by simp)));rw[Z.o]at a7;have am:Kept W4 w5 (l.heap.size::ob (.slice (some ⟨g,0,none⟩) (r+1) n)):=nq P _;have a3:=P.aM X.o (fun s=>by have:=aS V.o _ (cE s);omega);have a8:=P.aM ac.o (fun s=>by have:=aS V.o _ (cE s);omega);have ab:=P.aM ae.o (fun s=>by have:=aS V.o _ (cE s);omega);obtain⟨ai,aa,ak⟩:=a7.var am a3;have HS:=hId (t.o.KF K.o an.o ai aa ak);have J:=hId (jZ (LK K.o an.o aa));have E:Hd (((i++[(⟨2,0,f,o,b,c,0,0,false,⟨#[]⟩⟩:PV)])++[(⟨3,d,none,0,0,[],0,0,false,⟨#[]⟩⟩:PV)]).map PV.pt=i.map PV.pt++Ac.bL c d):=by show _=_;rw[W.o,VD I,WN,WN,VT];rfl
     have D:Hd (((i++[(⟨2,0,f,o,b,c,0,0,false,⟨#[]⟩⟩:PV)])++[(⟨3,d,none,0,0,[],0,0,false,⟨#[]⟩⟩:PV)]).length<=i.length+2):=by show _<=_;simp
     have v0:=ja a3;have v1:=a3.frozen 0;have x1:=ja a8;have x2:=ja ab;have z1:=a8.frozen 0;have z2:=ab.frozen 0;clear S K X am a3 a8 ab a7 P ai aa ak q m y O C V;go_wp2
     go_end0
     exact⟨rfl,_,_,HS.o,E.o,D.o,J.o⟩
namespace Ac
def iw (o:List Pt) (p:Pt):List Pt:=match o.getLast? with
 | some q=>if q.kind=1/\mz q p=true then o.dropLast++[{ q with n:=q.n+p.n }] else o++[ez p]
 | none=>o++[ez p]
theorem qx(p:Pt):iw [] p=[ez p]:=rfl
theorem ic(o:List Pt)(q p:Pt):iw (o++[q]) p=if q.kind=1/\mz q p=true then o++[{q with n:=q.n+p.n}]else o++[q]++[ez p]:=by
 unfold iw;rw[List.getLast?_concat,List.dropLast_concat]
end Ac
theorem pw:∀(l:List PV)(v:PV)(y:Int),(aG (l++[v])).set (l.length*7+1) (.int .i64 y)=aG (l++[{v with n:=y}])
 |[],v,y=>rfl
 |x::l,v,y=>by
  have:=pw l v y;rw[VF,iN,VG,show(l.length+1)*7+1=l.length*7+1+1+1+1+1+1+1+1 by omega];simp only[VA]
  rw[this];rfl
theorem bV.drew{w:World}{b a:Nat}{v:PV}(h:bV w b a v):bV w.drew b a v:=⟨h.c0,h.c1,h.c2,h.c3,h.c4,h.c5,h.c6⟩
structure mT (w:World) (B:Nat) (tv:Value) (out:List PV) (p:PV) (w':World) (tv':Value) (out':List PV):Prop where
 jL:eD w' B tv' out'
 pt:out'.map PV.pt=Ac.iw (out.map PV.pt) p.pt
 kept:Kept w w' (ob tv)
 own:tv'.ownBlock=tv.ownBlock\/∀ k,tv'.ownBlock=some k->w.heap.size<=k
theorem qy(w r:World)(B:Nat)(c:Option Addr)(d a:Nat)(b:List PV)(p:PV)(A:eD w B (.slice c d a) b)(m:b.length=d)(C:dV w (an p))(E:re (an p) (.slice c d a))(D:rZ B (an p))(i:Below w.heap.size w r)(t:World)(u:Below r.heap.size r t)(g e:Nat)(s:World)
  (x:(b++[an p]).map PV.pt=Ac.iw (b.map PV.pt) p.pt)
  (q:s.ownsRow B 100 7 (.slice (some ⟨g,0,none⟩) (d+1) e) (d+1) (aG b++iD (an p)))(f:t.grownBy s (Value.slice c d a).ownBlock)(n:(Value.slice c d a).ownBlock=some g\/g=t.heap.size):
  mT w B (.slice c d a) b p s (.slice (some ⟨g,0,none⟩) (d+1) e) (b++[an p]):=by
 have o:=i.trans (u.mono i.size);obtain⟨l,y⟩:=A.push (v:=an p) C E D o (by rw[m];exact q) f n;rw[m]at l;refine⟨l,x,y,?_⟩
 rcases n with h|h
 ·exact .inl h.symm
 ·refine .inr (fun k z=>?_)
  have:=o.size;simp[Value.ownBlock]at z
  omega
theorem Ja(w i:World)(B e c j:Nat)(b:List PV)(q p:PV)(d:eD w B (.slice (some ⟨e,0,none⟩) (j+1) c) (b++[q]))(l:b.length=j)(v:Below w.heap.size w i)
  (o:(b++[{q with n:=q.n+p.n}]).map PV.pt=Ac.iw ((b++[q]).map PV.pt) p.pt):
  mT w B (.slice (some ⟨e,0,none⟩) (j+1) c) (b++[q]) p (i.setCell ⟨e,j*7+1,none⟩ (.int .i64 (q.n+p.n))).drew (.slice (some ⟨e,0,none⟩) (j+1) c) (b++[{q with n:=q.n+p.n}]):=by
 have t:Kept w (i.setCell ⟨e,j*7+1,none⟩ (.int .i64 (q.n+p.n))).drew (ob (.slice (some ⟨e,0,none⟩) (j+1) c)):=
  (((dH v).mono (fun x m=>by cases m)).setCell _ _ (.inl (by simp[ob,Value.ownBlock]))).drew
 have z:(b++[q]).length=j+1:=by rw[VI,l];rfl
 have s:=(d.under v).own;rw[z]at s;have g:=(s.stored (j*7+1) (.int .i64 (q.n+p.n))).1;rw[<-l,pw,l]at g;have r:∀u:PV,dV w u->re u (.slice (some ⟨e,0,none⟩) (j+1) c)->dV (i.setCell ⟨e,j*7+1,none⟩ (.int .i64 (q.n+p.n))).drew u:=fun u f A=>f.kept t (fun a y C m=>A a y C (cE m).symm);have k:q∈b++[q]:=by simp
 refine⟨⟨?_,fun u f=>?_,fun u f=>?_,fun u f=>?_⟩,o,t,.inl rfl⟩
 ·rw[VI,l];exact g.drew
 ·rcases VW.1 f with h|h
  ·exact r u (d.iE u (List.mem_append_left _ h)) (d.cu u (List.mem_append_left _ h))
  ·rw[UY.1 h];have:=r q (d.iE q k) (d.cu q k);exact⟨this.jd,this.fit⟩
 ·rcases VW.1 f with h|h
  ·exact d.cu u (List.mem_append_left _ h)
  ·rw[UY.1 h];exact d.cu q k
 ·rcases VW.1 f with h|h
  ·exact d.hi u (List.mem_append_left _ h)
  ·rw[UY.1 h];exact d.hi q k
theorem PX(w:World)(B:Nat)(v:Value)(p:PV)(x:eD w B v ([]:List PV))(hB:B<=w.heap.size)(Z:([]:List PV).length<=100000)(Q:dV w p)(T:re (an p) v)(S:rZ B (an p))(_hn:∀z∈([]:List PV),0<=z.n/\z.n<=100000)(F:0<=p.n/\p.n<=100000):
  Calls prog 151 #[v,.agg #[.int .i64 p.kind,.int .i64 p.n,.slice p.ao p.m p.cap,.int .i64 p.set,.int .i64 p.bm,.bool p.goes,.string p.link]] w fun e w'=>∃m s,e=.returned m/\mT w B v ([]:List PV) p w' m s:=by
 obtain⟨X,hi,E,D,C⟩:=info_parts Tryz.vj;obtain⟨n,c,o,d⟩:=bg x.own;obtain⟨l,a⟩:∃l,([]:List PV).length=l:=⟨_,rfl⟩;have r:=hId a;rw[a]at o Z;have k:=d.room;rw[a]at k;subst o;have HT:=hId x;have y:Hd (Below w.heap.size w (aH p w)):=aK _ w;have I:Hd (bV (aH p w) w.heap.size 0 p):=dS _ w;have J:=hId (nW Q);have O:=hId T;have N:=hId S;have H:=hId (pU p);have CU:=hId (fun w'=>pT p w');obtain⟨V,U⟩:=F;have L:Hd (w.ownsRow B 100 7 (.slice n l c) l (aG [])):=by have:=x.own;rw[a]at this;exact this
 clear x Q T S _hn a d;obtain rfl:l=0:=r.o.symm;have K:Hd (([]++[an p]:List PV).map PV.pt=Ac.iw (([]:List PV).map PV.pt) p.pt):=by show[(an p).pt]=_;rw[H.o];rfl
 go_enter func151,ntmps151
 go_upto_region 2 with fail
 change Code.wp prog _ _ _ (aH p w);generalize aH p w=W5 at*;obtain⟨d0,d1,d2,d3,d4,d5,d6⟩:=I.o;simp only[VR]at d0 d1 d2 d3 d4 d5 d6
 go_quiet (fail)
 go_wp2_with fail
 refine(CU.o _).mono ?_
 rintro e A⟨rfl,P⟩;have i:=hId ((y.o.trans ((bJ _ _).mono y.o.size)).trans (P.mono (y.o.trans ((bJ _ _).mono y.o.size)).size));have M:=hId (ax L.o i.o);have a0:=VX hB i.o.size;clear P;go_wp2_with (at_builtin;refine wpList_append_lies _ rfl (.tmp 38) (.tmp 41) 32 rfl B 100 X (.agg #[.int .i64 0,.int .i64 0,.slice none 0 0,.int .i64 0,.int .i64 0,.bool false,.string ⟨#[]⟩]) 7 80 underlying32 hi E D C rfl (by decide) _ 0 (aG []) rfl ?c1 ⟨A.heap.size,0,none⟩ 1 1 (iD (an p)) rfl rfl ?c2 ?c3 (by decide) ?c4 ?c5 ?c6 _ rfl ?c7)
 case c1=>exact M.o.alloc _
 case c2=>exact World.news_of_block (cs:=(iD (an p)).toArray) (heap_alloc_new A _)
 case c3=>exact fun u Y=>aY [an p] u (by rw[bq];exact Y)
 case c4=>unfold maxLen;omega
 case c5=>omega
 case c6=>first|omega|(simp;omega)
 case c7=>
  intro g t W f b q G;have HW:=hId (qy w A B n 0 c [] p HT.o r.o J.o O.o N.o i.o _ ((VE _ _).alloc (UZ _) _) g t W K.o f b (by rcases q with h|h;exact .inl h;exact .inr (h.trans (WO ..).symm)));clear f b q G;go_wp2
  go_ret
  exact⟨_,_,rfl,HW.o⟩
theorem Jb(w:World)(B:Nat)(I:Value)(a:List PV)(q:PV)(y:¬q.kind=1)(p:PV)(K:eD w B I (a++[q]))(hB:B<=w.heap.size)(ho:((a++[q])).length<=100000)(hP:dV w p)(hF:re (an p) I)(hH:rZ B (an p))(_hn:∀z∈(a++[q]),0<=z.n/\z.n<=100000)(Y:0<=p.n/\p.n<=100000):
  Calls prog 151 #[I,.agg #[.int .i64 p.kind,.int .i64 p.n,.slice p.ao p.m p.cap,.int .i64 p.set,.int .i64 p.bm,.bool p.goes,.string p.link]] w fun e w'=>∃x F,e=.returned x/\mT w B I (a++[q]) p w' x F:=by
 obtain⟨i0,hi,X,W,V⟩:=info_parts Tryz.vj;obtain⟨U,k,b,l⟩:=bg K.own;obtain⟨t,c⟩:∃t,((a++[q])).length=t:=⟨_,rfl⟩;have E:=hId c;rw[c]at b ho;have s:=l.room;rw[c]at s;subst b;have HT:=hId K;have v:Hd (Below w.heap.size w (aH p w)):=aK _ w;have a1:Hd (bV (aH p w) w.heap.size 0 p):=dS _ w;have a2:=hId (nW hP);have a6:=hId hF;have a5:=hId hH;have a0:=hId (pU p);have CU:=hId (fun w'=>pT p w');obtain⟨a8,a7⟩:=Y;have o:Hd (w.ownsRow B 100 7 (.slice U t k) t (aG (a++[q]))):=by have:=K.own;rw[c]at this;exact this
 clear K hP hF hH _hn c l;obtain⟨j,J⟩:∃j,a.length=j:=⟨_,rfl⟩;obtain rfl:t=j+1:=by rw[<-E.o,VI,J];rfl
 obtain⟨T,aa,b,-,ac⟩:=o.o.form (Nat.succ_pos j);simp only[Value.slice.injEq,true_and]at b
 obtain⟨rfl,-⟩:=b;have A:j<(a++[q]).length:=by rw[VI,J];simp
 obtain⟨k0,S,Q,P,O,N,M⟩:=ga (a++[q]) j A;have C:(a++[q])[j]=q:=by simp[<-J]
 rw[C]at k0 S Q P O N M;have f:∀i u,i<7->(aG (a++[q]))[j*7+i]?=some u->w.cell? ⟨T,j*7+i,none⟩=some u:=fun i u hi h=>(o.o.cellAt (j*7+i) (by omega)).trans h;have SQ:bV w T (j*7) q:=⟨f 0 _ (by omega) k0,f 1 _ (by omega) S,f 2 _ (by omega) Q,f 3 _ (by omega) P,f 4 _ (by omega) O,f 5 _ (by omega) N,f 6 _ (by omega) M⟩;have H:=hId (SQ.below v.o);have q1:(0:Int)<=(j:Int):=by omega
 have q2:(j:Int)<(j:Int)+1:=by omega
 have n:(a++[q]).map PV.pt=a.map PV.pt++[q.pt]:=by rw[WN];rfl
 clear f k0 S Q P O N M C A J SQ;have a9:(q.kind==1)=false:=by simp[y]
 have a3:Hd (((a++[q])++[an p]).map PV.pt=Ac.iw ((a++[q]).map PV.pt) p.pt):=by
  show _=_
  rw[WN,n,Ac.ic,VD (fun h=>y h.1)];show _++[(an p).pt]=_
  rw[a0.o]
 clear n;go_enter func151,ntmps151
 go_upto_region 2 with fail
 change Code.wp prog _ _ _ (aH p w);generalize aH p w=W5 at*;obtain⟨d0,d1,d2,d3,d4,d5,d6⟩:=a1.o;simp only[VR]at d0 d1 d2 d3 d4 d5 d6
 obtain⟨b0,b1,b2,b3,b4,b5,b6⟩:=H.o;go_quiet (fail)
 go_wp2_with fail
 refine(CU.o _).mono ?_
 rintro e L⟨rfl,hb⟩;have r:=hId ((v.o.trans ((bJ _ _).mono v.o.size)).trans (hb.mono (v.o.trans ((bJ _ _).mono v.o.size)).size));have a4:=hId (ax o.o r.o);have ab:=VX hB r.o.size;clear hb;go_wp2_with (at_builtin;refine wpList_append_lies _ rfl (.tmp 38) (.tmp 41) 32 rfl B 100 i0 (.agg #[.int .i64 0,.int .i64 0,.slice none 0 0,.int .i64 0,.int .i64 0,.bool false,.string ⟨#[]⟩]) 7 80 underlying32 hi X W V rfl (by decide) _ (j+1) (aG (a++[q])) rfl ?c1 ⟨L.heap.size,0,none⟩ 1 1 (iD (an p)) rfl rfl ?c2 ?c3 (by decide) ?c4 ?c5 ?c6 _ rfl ?c7)
 case c1=>exact a4.o.alloc _
 case c2=>exact World.news_of_block (cs:=(iD (an p)).toArray) (heap_alloc_new L _)
 case c3=>exact fun u hu=>aY [an p] u (by rw[bq];exact hu)
 case c4=>unfold maxLen;omega
 case c5=>omega
 case c6=>first|omega|(simp;omega)
 case c7=>
  intro g G w3 m d D Z;have HW:=hId (qy w L B (some ⟨T,0,none⟩) (j+1) k (a++[q]) p HT.o E.o a2.o a6.o a5.o r.o _ ((VE _ _).alloc (UZ _) _) g G w3 a3.o m d (by rcases D with h|h;exact .inl h;exact .inr (h.trans (WO ..).symm)));clear m d D Z;go_wp2
  go_ret
  exact⟨_,_,rfl,HW.o⟩
