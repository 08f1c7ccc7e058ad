/- A part. -/
import Derived.Test.YthddphjghgdalaaGreatDoorP24
import Derived.Test.YthddphjghgdalaaGreatDoorP27
set_option maxRecDepth 100000
set_option maxHeartbeats 6400000
namespace Go.Proofs.YthddphjghgdalaaGreatDoor
open Go.RowKit Go.Proofs.Tryz
def cm (b:Nat) (w:World):World:=w.alloc (.cells #[.pointer (some ⟨b,0,none⟩)] 59)
theorem gz(b:Nat)(w:World):Below w.heap.size w (cm b w):=(VE _ _).alloc (UZ _) _
theorem mN(b:Nat)(w:World):(cm b w).heap.size=w.heap.size+1:=WO ..
theorem oE(b:Nat)(w:World):Blk (cm b w) w.heap.size [.pointer (some ⟨b,0,none⟩)] 59:=Blk.new w _ _
def iA (k:Nat) (w:World):World:=w.alloc (.cells #[.int .i64 k] 3)
theorem sG(k:Nat)(w:World):Below w.heap.size w (iA k w):=(VE _ _).alloc (UZ _) _
theorem xR(k:Nat)(w:World):Blk (iA k w) w.heap.size [.int .i64 k] 3:=Blk.new w _ _
def JnS (b h2 gc k:Nat) (la:Option Addr) (ln lc:Nat) (rev:Int) (w:World):Prop:=w.cell? ⟨h2,0,none⟩=some (.pointer (some ⟨b,0,none⟩))/\w.cell? ⟨b,1,none⟩=some (.slice la ln lc)/\w.cell? ⟨gc,k*7,none⟩=some (.int .i64 rev)
structure JnI (B X b n k h2 h3:Nat) (v:WV) (w:World) (r j:Nat) (wr:World):Prop where
 le:r<=j
 at_:∃ v',eR B X wr b v'/\v'.w=Wo.put v.w k (((Wo.news v.w.s.log r).take (j - r)).foldl (fun a m=>Wo.bb m a) (Wo.vw v.w k))/\Fr b v v' w wr/\v'.s=v.s
 below:Below B w wr
theorem Gq(B X b n k t q:Nat)(v:WV)(r:Nat)(w:World)(h:eR B X w b v)(z:Wo.gi v.w n)(x:k<n)(P:X≠2*k+6)(Q:Sv.dL v.w.s=0)(Z:w.cell? ⟨t,0,none⟩=some (.pointer (some ⟨b,0,none⟩)))(Y:w.cell? ⟨q,0,none⟩=some (.int .i64 k))(J:∀s,bk b v s≠some t)(I:∀s,bk b v s≠some q):
  Calls prog 80 #[.slice v.s.la v.s.ln v.s.lc,.int .i64 r,.func (.func 83) #[] #[.pointer (some ⟨t,0,none⟩),.pointer (some ⟨q,0,none⟩)]] w fun e w'=>e=.returned (.tuple #[])/\vr B X b v w (Wo.put v.w k ((Wo.news v.w.s.log r).foldl (fun a m=>Wo.bb m a) (Wo.vw v.w k))) w':=by
 have G:=h.eF.log.len;have C:v.w.s.log.length=v.s.ln:=by show(v.s.log.map EV.en).length=_;rw[VH];exact G
 obtain⟨_,f,_⟩:=Sv.mW Q;refine(If _ _ v.s.la v.s.ln v.s.lc v.s.log r (JnI B X b n k t q v w r) w h.eF.log.row.room h.eF.log.row.fg G (fun j wr c=>?_) ⟨UZ _,⟨v,h,?_,Fr.below (VE _ _),rfl⟩,VE _ _⟩ (fun j y wr c=>?_)).mono ?_
 ·obtain⟨g,p,o,l,i⟩:=c.at_;have:=p.eF.log;rw[i]at this;exact this
 ·rw[Nat.sub_self,List.take_zero];exact(Wo.jC z x).symm
 ·obtain⟨g,p,o,l,i⟩:=c.at_;have d:Wo.gi g.w n:=by rw[o];exact z.put k _
  have A:Wo.vw g.w k=((Wo.news v.w.s.log r).take (j-r)).foldl (fun a m=>Wo.bb m a) (Wo.vw v.w k):=by rw[o,Wo.iG z x]
  have u:ae wr v.s.log[j].ao v.s.log[j].n v.s.log[j].cap v.s.log[j].vs:=by
   have:=p.eF.log.ops;rw[i]at this;exact this _ (WT y)
  have E:Ac.gC (v.s.log[j].vs.map PV.pt)=0:=qf (nP f v.s.log[j].en (XI.2 ⟨_,WT y,rfl⟩));obtain⟨_,T,S⟩:=jV u E;have W:=l.cell Z J;have e3:=l.cell Y I;refine(IQ B X b n k t q g ⟨((j+1:Nat):Int),v.s.log[j]⟩ wr p d x P u ⟨T,S⟩ W e3).mono ?_
  rintro e w'⟨rfl,⟨H,O,N,M,L⟩,K⟩;refine⟨rfl,by have:=c.le;omega,⟨H,O,?_,l.trans M,L.trans i⟩,c.below.trans K⟩
  have D:j<v.w.s.log.length:=by omega
  rw[N,A,o,Wo.l6,Wo.AB v.w.s.log r j c.le D,XC];have V:(v.s.log.map EV.en)[j]'(by rw[VH];exact y)=v.s.log[j].en:=List.getElem_map _;have U:MV.mg ⟨((j+1:Nat):Int),v.s.log[j]⟩=⟨((j+1:Nat):Int),v.w.s.log[j]⟩:=VQ (Wo.Mg.mk _) V.symm;rw[U];rfl
 ·rintro e w'⟨rfl,j,_,h1,F,c⟩;obtain⟨g,p,o,l,i⟩:=c.at_;exact⟨rfl,⟨g,p,by rw[o,Wo.AD _ _ _ (by rw[C];exact F)],l,i⟩,c.below⟩
theorem Wo.M0{a:Wo.Vw}(m:Wo.Mg)(b:Kl.Rc a.c):Kl.Rc (Wo.bb m a).c:=by
 rcases Wo.tR m a with e|e
 ·rw[e];exact b
 ·rw[e];exact Wo.Ba b false
theorem Wo.zJ:∀(b:List Wo.Mg)(a:Wo.Vw),Kl.Rc a.c->Kl.Rc (b.foldl (fun a m=>Wo.bb m a) a).c
 |[],_,c=>c
 |m::b,_,c=>Wo.zJ b _ (Wo.M0 m c)
theorem LO(B b n k:Nat)(v:WV)(w:World)(h:eR B 0 w b v)(l:Wo.gi v.w n)(o:k<n)(g:(Wo.vw v.w k).c.jo=true):
  Calls prog 51 #[.pointer (some ⟨b,0,none⟩),.int .i64 k] w fun e w'=>e=.returned (.int .i64 7)/\Below B w w':=by
 have z:=h.lo 0 b rfl;have y:=h.hi 0 b rfl;have a:=(gz b w).trans ((sG k _).mono (gz b w).size);have x:Hd (Below B w (iA k (cm b w))):=a.mono (by omega);have t:Hd (Blk (iA k (cm b w)) w.heap.size [.pointer (some ⟨b,0,none⟩)] 59):=(oE b w).alloc _;have u:Hd (Blk (iA k (cm b w)) (w.heap.size+1) [.int .i64 k] 3):=by have:=xR k (cm b w);rw[mN]at this;exact this
 obtain⟨p,H,I,F,D,E,c,q,r,d⟩:=h.at l o;have i:=d.below a;have m:=h.below a;have f:c.jo=true:=by rw[d.cl]at g;exact g
 have G:=i.p3 m;have s:(iA k (cm b w)).cell? ⟨p,k*7+6,none⟩=some (.bool c.jo):=i.cell 6 (by decide);rw[f]at s;clear h l g m i d f;go_enter func51,ntmps51
 go_upto_region 1 with fail
 change Code.wp prog _ _ _ (iA k (cm b w));generalize iA k (cm b w)=W at*;have C:=ja t.o;have A:=ja u.o;go_region
 all_goals
  go_wp2
  go_ret
  exact⟨rfl,x.o.drew⟩
theorem IN(B b n k:Nat)(v:WV)(w:World)(h:eR B 0 w b v)(Y:Wo.gi v.w n)(J:k<n)(hj:(Wo.vw v.w k).c.jo=false)(hE:Sv.dL v.w.s=0)(hC:Kl.Rc (Wo.vw v.w k).c):
  Calls prog 51 #[.pointer (some ⟨b,0,none⟩),.int .i64 k] w fun e w'=>e=.returned (.int .i64 0)/\jg B b w 0 (Wo.put v.w k (Wo.JS k v.w.s.log (Wo.vw v.w k))) w':=by
 have aj:=h.lo 0 b rfl;have ai:=h.hi 0 b rfl;have N:=(gz b w).trans ((sG k _).mono (gz b w).size);have HB:Hd (Below B w (iA k (cm b w))):=N.mono (by omega);have HP:Hd (Blk (iA k (cm b w)) w.heap.size [.pointer (some ⟨b,0,none⟩)] 59):=(oE b w).alloc _;have HK:Hd (Blk (iA k (cm b w)) (w.heap.size+1) [.int .i64 k] 3):=by have:=xR k (cm b w);rw[mN]at this;exact this
 obtain⟨o,gu,gd,sc,su,sd,c,q,r,t⟩:=h.at Y J;have Z:=t.below N;have h1:=h.below N;have F:(Wo.vw v.w k).c=c.cl:=by rw[t.cl]
 have a2:c.jo=false:=by rw[F]at hj;exact hj
 have M:Kl.Rc c.cl:=by rw[<-F];exact hC
 have p3:=Z.p3 h1;have c6:(iA k (cm b w)).cell? ⟨o,k*7+6,none⟩=some (.bool c.jo):=Z.cell 6 (by decide);rw[a2]at c6;have f6:(iA k (cm b w)).frozen? ⟨o,k*7+6,none⟩=false:=Z.bc.frozen _;obtain⟨z,a1⟩:∃z:Nat,c.rev=z:=⟨c.rev.toNat,by have:(0:Int)<=c.rev:=M.lo;omega⟩;have P:∀x,w.heap.size<=x->∀s,bk b v s≠some x:=fun x hx s e=>by have:=h.hi s x e;omega
 obtain⟨h2,i2⟩:=Z.Ov h1 true;have ad:=hId (h.lo 1 o (by show v.ca.map _=_;rw[t.ca];rfl));have ah:=h.hi 1 o (by show v.ca.map _=_;rw[t.ca];rfl);obtain⟨d,p⟩:∃d,{v with cs:=v.cs.set k {c with jo:=true}}=d:=⟨_,rfl⟩;have L:d.s=v.s:=by rw[<-p]
 have E:d.w=Wo.put v.w k ⟨Wo.jo c.cl true,(Wo.vw v.w k).u,(Wo.vw v.w k).d⟩:=by rw[<-p];exact WV.KH Y J _
 have G:Hd (Wo.gi d.w n):=by show Wo.gi _ _;rw[E];exact Y.put k _
 have O:∀s,bk b d s=bk b v s:=fun s=>by rw[<-p];exact Fm _ s
 rw[p]at h2 i2;have Q:=hId h2;have a8:Hd (((iA k (cm b w)).setCell ⟨o,k*7+6,none⟩ (.bool true)).cell? ⟨o,k*7,none⟩=some (.int .i64 z)):=by have:=i2.cell 0 (by decide);rw[<-a1];exact this
 have ab:Hd (((iA k (cm b w)).setCell ⟨o,k*7+6,none⟩ (.bool true)).cell? ⟨b,1,none⟩=some (.slice d.s.la d.s.ln d.s.lc)):=h2.aM.cell 1;have aa:Hd (Blk ((iA k (cm b w)).setCell ⟨o,k*7+6,none⟩ (.bool true)) w.heap.size [.pointer (some ⟨b,0,none⟩)] 59):=(aP _ o (k*7+6) _).aM HP.o (by simp;omega);have ac:Hd (Blk ((iA k (cm b w)).setCell ⟨o,k*7+6,none⟩ (.bool true)) (w.heap.size+1) [.int .i64 k] 3):=(aP _ o (k*7+6) _).aM HK.o (by simp;omega);have ag:Hd (Below B w ((iA k (cm b w)).setCell ⟨o,k*7+6,none⟩ (.bool true))):=HB.o.setCell ad.o _;obtain⟨V,hV⟩:∃V,Wo.put v.w k (Wo.JS k v.w.s.log (Wo.vw v.w k))=V:=⟨_,rfl⟩;have I:d.w.s.log=v.w.s.log:=by show d.s.se.log=v.s.se.log;rw[L]
 have ae:Hd (Sv.dL d.w.s=0):=by show Sv.dL d.s.se=0;rw[L];exact hE
 have y:Wo.vw d.w k=⟨Wo.jo c.cl true,(Wo.vw v.w k).u,(Wo.vw v.w k).d⟩:=by rw[E,Wo.iG Y J]
 have HV:Hd (Wo.put d.w k (Wo.vP k ((Wo.news d.w.s.log z).foldl (fun a m=>Wo.bb m a) (Wo.vw d.w k)))=V):=by
  show _=V
  rw[I,y,E,Wo.l6,<-hV];congr 1
  unfold Wo.JS;rw[F,show c.cl.rev.toNat=z by show c.rev.toNat=z;omega]
 have a9:Hd (∀w',∀H,eR B 0 w' b H->H.w=Wo.put d.w k ((Wo.news d.w.s.log z).foldl (fun a m=>Wo.bb m a) (Wo.vw d.w k))->∀U,H.cs[k]?=some U->tF U.sn U.aJ):=fun w' H g1 T U a3=>by
  have a6:=g1.cl U (WQ a3);refine ug a6 ?_
  have e1:(Wo.vw H.w k).c=U.cl:=by
   show(H.cs.map CV.cl).getD k Kl.none=_
   rw[WM,List.getElem?_map,a3];rfl
  rw[<-e1,T,Wo.iG G.o J];exact Wo.zJ _ _ (by rw[y];exact Wo.Ba M true)
 have a5:Hd (∀s,bk b d s≠some w.heap.size):=fun s=>by rw[O];exact P _ (UZ _) s
 have a4:Hd (∀s,bk b d s≠some (w.heap.size+1)):=fun s=>by rw[O];exact P _ (by omega) s
 rw[hV];clear h Y hj h1 Z t a2 F M hE hC h2 i2 hV I y E P a1 O p L;go_enter func51,ntmps51
 go_upto_region 1 with fail
 change Code.wp prog _ _ _ (iA k (cm b w));generalize iA k (cm b w)=W at*;have y2:=ja HP.o;have y3:=ja HK.o;go_region
 go_upto_region 5 with fail
 change Code.wp prog _ _ _ (W.setCell ⟨o,k*7+6,none⟩ (.bool true)).drew;clear y2 y3 p3 c6 f6;have HD:Hd (Below (W.setCell ⟨o,k*7+6,none⟩ (.bool true)).heap.size (W.setCell ⟨o,k*7+6,none⟩ (.bool true)) (W.setCell ⟨o,k*7+6,none⟩ (.bool true)).drew.drew):=((VE _ _).drew).drew;generalize W.setCell ⟨o,k*7+6,none⟩ (.bool true)=W2 at*;have d2:=aa.o.cell 0;have d3:=ac.o.cell 0;have g:JnS b w.heap.size o k d.s.la d.s.ln d.s.lc z W2.drew.drew:=⟨d2,ab.o,a8.o⟩;have CT:=hId (Gq B 0 b n k w.heap.size (w.heap.size+1) d z _ (Q.o.below HD.o) G.o J (by omega) ae.o d2 d3 a5.o a4.o);refine gj (S:=JnS b w.heap.size o k d.s.la d.s.ln d.s.lc z) (f:=fun j=>j !=10) (by kernel_rfl) ?_
 refine aT (i:=0) (v:=?vv0) rfl (by kernel_rfl) (fun _ _ _ h=>h) (Or.inl ⟨by rfl,fun u l=>?hy0⟩) g ?rest0
 case hy0=>obtain⟨D,C,A⟩:=l;go_simp;try with_reducible rfl
 try simp only[Act.put,UX]
 refine aT (i:=1) (v:=?vv1) rfl (by kernel_rfl) (fun _ _ _ h=>h) (Or.inl ⟨by rfl,fun u l=>?hy1⟩) g ?rest1
 case hy1=>obtain⟨D,C,A⟩:=l;go_simp;try with_reducible rfl
 try simp only[Act.put]
 refine aT (i:=2) (v:=?vv2) rfl (by kernel_rfl) (fun _ _ _ h=>h) (Or.inl ⟨by rfl,fun u l=>?hy2⟩) g ?rest2
 case hy2=>obtain⟨D,C,A⟩:=l;go_simp;try with_reducible rfl
 try simp only[Act.put]
 refine aT (i:=3) (v:=?vv3) rfl (by kernel_rfl) (fun _ _ _ h=>h) (Or.inl ⟨by rfl,fun u l=>?hy3⟩) g ?rest3
 case hy3=>obtain⟨D,C,A⟩:=l;go_simp;try with_reducible rfl
 try simp only[Act.put]
 refine aT (i:=4) (v:=?vv4) rfl (by kernel_rfl) (fun _ _ _ h=>h) (Or.inl ⟨by rfl,fun u l=>?hy4⟩) g ?rest4
 case hy4=>obtain⟨D,C,A⟩:=l;go_simp;try with_reducible rfl
 try simp only[Act.put]
 refine aT (i:=5) (v:=?vv5) rfl (by kernel_rfl) (fun _ _ _ h=>h) (Or.inl ⟨by rfl,fun u l=>?hy5⟩) g ?rest5
 case hy5=>obtain⟨D,C,A⟩:=l;go_simp;try with_reducible rfl
 try simp only[Act.put]
 refine aT (i:=6) (v:=?vv6) rfl (by kernel_rfl) (fun _ _ _ h=>h) (Or.inl ⟨by rfl,fun u l=>?hy6⟩) g ?rest6
 case hy6=>obtain⟨D,C,A⟩:=l;go_simp;try with_reducible rfl
 try simp only[Act.put]
 refine aT (i:=7) (v:=?vv7) rfl (by kernel_rfl) (fun _ _ _ h=>h) (Or.inl ⟨by rfl,fun u l=>?hy7⟩) g ?rest7
 case hy7=>obtain⟨D,C,A⟩:=l;go_simp;try with_reducible rfl
 try simp only[Act.put]
 refine aT (i:=8) (v:=?vv8) rfl (by kernel_rfl) (fun _ _ _ h=>h) (Or.inl ⟨by rfl,fun u l=>?hy8⟩) g ?rest8
 case hy8=>obtain⟨D,C,A⟩:=l;go_simp;try with_reducible rfl
 try simp only[Act.put]
 refine aT (i:=9) (v:=?vv9) rfl (by kernel_rfl) (fun _ _ _ h=>h) (Or.inl ⟨by rfl,fun u l=>?hy9⟩) g ?rest9
 case hy9=>obtain⟨D,C,A⟩:=l;go_simp;try with_reducible rfl
 try simp only[Act.put]
 refine ar (i:=10) (by kernel_rfl) rfl (fun K hK=>?_)
 go_simp
 refine CT.o.mono ?_
 rintro e w3⟨rfl,⟨v2,g1,T,g3,_⟩,X⟩;have CG:=hId (uR B 0 b n k v2 w3 g1 (by rw[T];exact G.o.put k _) J (by omega) (a9.o w3 v2 g1 T));have a7:Hd (Wo.put v2.w k (Wo.vP k (Wo.vw v2.w k))=V):=by
  show _=V
  rw[<-HV.o,T,Wo.iG G.o J,Wo.l6]
 have k2:=g3.cell (w:=W2.drew.drew) d2 a5.o;have k3:=g3.cell (w:=W2.drew.drew) d3 a4.o;have af:=hId ((ag.o.trans (HD.o.mono (by have:=Q.o.lo 0 b rfl;have:=Q.o.hi 0 b rfl;omega))).trans X);rw[a7.o]at CG;refine hK.out _ _ (fun h=>by cases h) ?_
 clear hK K g1 T g3 X d2 d3 g CT;refine et (by kernel_rfl) ?_ _
 go_wp2_with fail
 refine CG.o.mono ?_
 rintro e w4⟨rfl,⟨H,p,a0⟩,X⟩;have H6:Hd (jg B b w 0 V w4):=⟨af.o.trans X,fun _=>⟨_,H,p,a0⟩⟩;clear p a0 X CG k2 k3;go_wp2
 go_ret
 exact⟨rfl,H6.o⟩
def TZ (c:UInt8):List Ac.Pt:=[⟨1,1,[],0,0,false,⟨#[]⟩⟩,⟨2,0,[⟨c,0,⟨#[]⟩⟩],0,0,false,⟨#[]⟩⟩,⟨1,4,[],0,0,false,⟨#[]⟩⟩]
def tX:List Ac.Pt:=Ac.lZ (TZ 120) (TZ 121)
def tY:List Ac.Pt:=Ac.gY (TZ 120) (TZ 121)
theorem QC(f:Option Addr)(n a:Nat)(l:List It)(w:World)(i:cy w f n a l)(y:df w)(u:Dc.check l=0):
  Calls prog 52 #[.slice f n a] w fun e w'=>(∃t,e=.returned (.tuple #[SC t,.int .i64 0])/\nU w' t/\t.se=⟨l,[],l⟩)/\Below w.heap.size w w':=by
 have s:Hd (Below w.heap.size w (ai eP w)):=bM _ _;have z:Hd (Blk (ai eP w) w.heap.size (lA eP) 26):=fI _ _;have G:Hd (Calls prog 10 #[.slice f n a] (ai eP w) fun e w'=>e=.returned (.int .i64 0)/\Below (ai eP w).heap.size (ai eP w) w'):=by have:=iq f n a l (ai eP w) (i.below s.o) (y.below s.o);rw[u]at this;exact this
 have r:=Dc.eM u;rw[i.len]at r;have F:Hd (∀w',Below w.heap.size w w'->Calls prog 41 #[.agg #[.slice f n a,.slice none 0 0,.slice f n a]] w' fun e m=>(∃t,e=.returned (.agg #[.slice t.fa t.fn t.fc,.slice t.la t.ln t.lc,.slice t.na t.nn t.nc])/\Bc w'.heap.size m t/\t.se=⟨l,[],l⟩/\t.fn=n/\t.ln=0/\t.nn=n)/\Below w'.heap.size w' m):=fun w' c=>pJ ⟨f,n,a,l,none,0,0,[],f,n,a,l⟩ w' ⟨i.below c,fQ.nil w',i.below c⟩ r.2 r.2 (VN _) (fun v A=>absurd A (by simp));clear i y u r;go_enter func52,ntmps52
 go_upto_region 1 with fail
 change Code.wp prog _ _ _ (ai eP w);generalize ai eP w=W at*;go_wp2_with fail
 refine G.o.mono ?_
 rintro e h⟨rfl,c⟩;have E:Hd (Below W.heap.size W h):=c;have g:Hd (Below w.heap.size w h):=s.o.trans (c.mono s.o.size);clear c;go_wp2_with fail
 refine(F.o _ g.o).mono ?_
 rintro e q⟨⟨t,rfl,p,o,-,-,-⟩,c⟩;have d:Blk h w.heap.size (lA eP) 26:=(E.o.block _ z.o.lt).trans z.o;have b:Hd (Blk q w.heap.size (lA eP) 26):=(c.block _ d.lt).trans d;have C:Hd (Bc h.heap.size q t):=p;have x:Hd (t.se=⟨l,[],l⟩):=o;have H:w.heap.size<h.heap.size:=d.lt;have D:Hd (Below w.heap.size w q):=g.o.trans (c.mono g.o.size);clear p o c d;have K:=b.o.c0;have J:=b.o.c1;have I:=b.o.c2;have N:=b.o.frozen 0;have M:=b.o.frozen 1;have L:=b.o.frozen 2;go_wp2
 change bodyPost prog _ _ Exit.ret _ (fC q w.heap.size t);exact VL (iL (t:=t) rfl _ rfl rfl (dv b.o)) rfl ⟨⟨t,rfl,(C.o.kept (fs _ _ _) (fun k B=>by simp at B;omega)).eF,x.o⟩,D.o.trans (cP _ _ _)⟩
structure UQ (B X b n h2:Nat) (v:WV) (m:Wo.Mg) (w:World) (j:Nat) (wr:World):Prop where
 le:j<=n
 at_:∃ v',eR B X wr b v'/\v'.w=(List.range j).foldl (fun a k=>Wo.tell a m k) v.w/\Fr b v v' w wr/\v'.s=v.s
 below:Below B w wr
theorem Wo.wD(m:Wo.Mg):∀(j:Nat)(w:Wo.W)(n:Nat),Wo.gi w n->Wo.gi ((List.range j).foldl (fun a k=>Wo.tell a m k) w) n
 |0,_,_,h=>h
 |j+1,w,n,h=>by
  rw[List.range_succ,XC];exact(Wo.wD m j w n h).put j _
theorem Cp(B X b n r:Nat)(v:WV)(m:MV)(w:World)(h:eR B X w b v)(D:Wo.gi v.w n)(Q:∀j,j<n->X≠2*j+6)(T:ae w m.e.ao m.e.n m.e.cap m.e.vs)(I:tF m.e.n m.e.vs)(U:w.cell? ⟨r,0,none⟩=some (.pointer (some ⟨b,0,none⟩)))(P:∀s,bk b v s≠some r):
  Calls prog 81 #[.agg #[.int .i64 m.mr,.int .i64 m.e.aR,.int .i64 m.e.seq,.slice m.e.ao m.e.n m.e.cap],.pointer (some ⟨r,0,none⟩)] w fun e w'=>e=.returned (.tuple #[])/\vr B X b v w (Wo.dY v.w m.mg) w':=by
 have a3:=h.lo 0 b rfl;have a2:=h.hi 0 b rfl;have d:=ay m w;have O:Hd (Below B w (aj m w)):=d.mono (by omega);have M:Hd (Fr b v v w (aj m w)):=Fr.below d;have t:=h.below d;have G:=hId (dE m w);have HO:=hId (T.below d);have o:Hd (∀s,bk b v s≠some w.heap.size):=fun s e=>by have:=h.hi s _ e;omega
 have d2:=aA U d;have N:=hId d2;have K:=hId P;obtain⟨H,l2,l3⟩:=h.Sh D;have p3:(aj m w).cell? ⟨b,3,none⟩=some (.slice v.ca n v.cc):=by have:=t.aM.cell 3;rw[this];show some (Value.slice v.ca v.cn v.cc)=_;rw[H]
 have J:=t.cr.row.room;have a1:=t.cr.row.fg;rw[H]at J;have HL:=hId D;have HF:=hId I;have HX:=hId Q;have y:Hd ((List.range n).foldl (fun a k=>Wo.tell a m.mg k) v.w=Wo.dY v.w m.mg):=by unfold Wo.dY;show _=_;rw[D.c]
 obtain⟨V,S⟩:∃V,Wo.dY v.w m.mg=V:=⟨_,rfl⟩;rw[S]at y⊢;have L:Hd (UQ B X b n r v m.mg (aj m w) 0 (aj m w)):=⟨VN _,⟨v,t,rfl,Fr.below (VE _ _),rfl⟩,VE _ _⟩;have a0:n<=9223372036854775807:=by omega
 clear h t D T I Q S U P H l2 l3;go_enter func81,ntmps81
 go_upto_region 1 with fail
 change Code.wp prog _ _ _ (aj m w);generalize aj m w=W at*;go_wp2
 go_loopw [9] (fun i wr=>∃j:Nat,j<=n/\i=.int .i64 j/\UQ B X b n r v m.mg W j wr) (fun i _=>n-(intOf i).toNat)
 case atStart=>exact⟨0,VN _,rfl,L.o⟩
 case round=>
  obtain⟨j,hj,rfl,c⟩:=hrel;obtain⟨q,F,u,g,E⟩:=c.at_;have A:=hId c;by_cases l:j<n
  ·have f:Wo.gi q.w n:=by rw[u];exact Wo.wD m.mg j v.w n HL.o
   have p:=HO.o.text g;have Z:=hId (tT B X b n j q m wr F f l (HX.o j l) p HF.o);have k2:=g.cell N.o K.o;have x0:=g.cell (G.o.cell 0) o.o;have x1:=g.cell (G.o.cell 1) o.o;have x2:=g.cell (G.o.cell 2) o.o;have x3:=g.cell (G.o.cell 3) o.o;have z:Hd (∀w',vr B X b q wr (Wo.put q.w j (Wo.bb m.mg (Wo.vw q.w j))) w'->UQ B X b n r v m.mg W (j+1) w'):=fun w' C=>by
    obtain⟨⟨v2,q1,q2,q3,q4⟩,qb⟩:=C;refine⟨l,⟨v2,q1,?_,g.trans q3,q4.trans E⟩,A.o.below.trans qb⟩
    rw[q2,List.range_succ,XC,<-u];rfl
   clear F u g E c f p;go_wp2_with fail
   refine Z.o.mono ?_
   rintro e w1⟨rfl,C⟩;have HN:=hId (z.o w1 C);clear C Z z k2 x0 x1 x2 x3;go_wp2
   go_roundw
   case rel=>exact⟨j+1,l,by go_num,HN.o⟩
   case measure=>simp[intOf];omega
  ·have x:j=n:=by omega
   have I:decide ((j:Int)<(n:Int))=false:=by simp;omega
   have Y:Hd (q.w=V):=by show _=_;rw[u,x];exact y.o
   have H6:Hd (vr B X b v w V wr):=⟨⟨q,F,Y.o,M.o.trans g,E⟩,O.o.trans A.o.below⟩;clear F u g E c Y x;go_wp2
   go_end0
   exact⟨rfl,H6.o⟩
theorem zd(B b n k:Nat)(v:WV)(w:World)(h:eR B 0 w b v)(o:Wo.gi v.w n)(x:k<n)(l:(Wo.vw v.w k).u.length=0):
  Calls prog 48 #[.pointer (some ⟨b,0,none⟩),.int .i64 k] w fun e w'=>e=.returned (.int .i64 7)/\Below B w w':=by
 have C:=h.lo 0 b rfl;have A:=h.hi 0 b rfl;have a:=gz b w;have m:Hd (Below B w (cm b w)):=a.mono (by omega);obtain⟨H,p,G,F,D,E,c,q,r,d⟩:=(h.below a).at o x;have f:q.n=0:=by rw[d.cl]at l;exact(Ew ((h.below a).uq k q d.q)).1 l
 have u:=d.p4 (h.below a);have t:(cm b w).cell? ⟨w.heap.size,0,none⟩=some (.pointer (some ⟨b,0,none⟩)):=(oE b w).cell 0;have s:Hd (Calls prog 77 #[.pointer (some ⟨p,k,none⟩)] (cm b w) fun e w'=>e=.returned (.tuple #[.agg #[.int .i64 0,.int .i64 0,.int .i64 0,.slice none 0 0],.bool false])/\Below (cm b w).heap.size (cm b w) w'):=tW p k q _ d.Fh f;have z:=mN b w;clear h o d l f;go_enter func48,ntmps48
 go_upto_region 1 with fail
 change Code.wp prog _ _ _ (cm b w);generalize cm b w=W at*;go_wp2_with fail
 refine s.o.mono ?_
 rintro e g⟨rfl,i⟩;have y:=hId (m.o.trans ((i.mono (by omega)).trans ((ay pE g).mono (by have:=i.size;omega))));clear i s u t;go_upto_region 2 with fail
 change Code.wp prog _ _ _ (aj pE g);generalize aj pE g=W at*;go_wp2
 go_ret
 exact⟨rfl,y.o⟩
def SvS (b h2 h5 k:Nat) (s:SV) (m:MV) (w:World):Prop:=w.cell? ⟨h2,0,none⟩=some (.pointer (some ⟨b,0,none⟩))/\w.cell? ⟨b,0,none⟩=some (.slice s.fa s.fn s.fc)/\w.cell? ⟨b,1,none⟩=some (.slice s.la s.ln s.lc)/\w.cell? ⟨b,2,none⟩=some (.slice s.na s.nn s.nc)/\w.cell? ⟨h5,0,none⟩=some (.int .i64 m.mr)/\w.cell? ⟨h5,1,none⟩=some (.int .i64 k)/\w.cell? ⟨h5,2,none⟩=some (.int .i64 m.e.seq)/\w.cell? ⟨h5,3,none⟩=some (.slice m.e.ao m.e.n m.e.cap)
theorem El{w:World}{h:Nat}{s t:SV}(f:Blk w h (lA s) 26)(c:nU w t)(d:t.ln≠0->∀a:Addr,t.la=some a->a.block≠h):nU (fC w h t) t:=
 c.aw (fs w h t) (fun x b=>by rw[UY.1 b];exact NT.of f rfl) (fun g a e b=>d g a e (UY.1 b))
structure UP (W:World) (t:SV) (h:Nat) (wx:World):Prop where
 aM:Blk wx h (lA t) 26
 eF:nU wx t
 lo:∀ ad:Addr,t.ln≠0->t.la=some ad->W.heap.size<=ad.block
 below:Below W.heap.size W wx
 hi:W.heap.size<=h
structure EaI (B X b:Nat) (v:WV) (w:World) (r j:Nat) (wr:World):Prop where
 le:r<=j
 at_:∃ v',eR B X wr b v'/\v'.w=((Wo.news v.w.s.log r).take (j - r)).foldl Wo.dY v.w/\Fr b v v' w wr/\v'.s=v.s
 below:Below B w wr
theorem Wo.Fv:∀(a:List Wo.Mg)(w:Wo.W)(n:Nat),Wo.gi w n->Wo.gi (a.foldl Wo.dY w) n
 |[],_,_,h=>h
 |m::a,_,n,h=>Wo.Fv a _ n (Wo.ow h m).1
theorem Og(B X b n o:Nat)(v:WV)(r:Nat)(w:World)(h:eR B X w b v)(K:Wo.gi v.w n)(J:∀j,j<n->X≠2*j+6)(L:Sv.dL v.w.s=0)(C:w.cell? ⟨o,0,none⟩=some (.pointer (some ⟨b,0,none⟩)))(z:∀s,bk b v s≠some o):
  Calls prog 80 #[.slice v.s.la v.s.ln v.s.lc,.int .i64 r,.func (.func 81) #[] #[.pointer (some ⟨o,0,none⟩)]] w fun e w'=>e=.returned (.tuple #[])/\(∃c,eR B X w' b c/\c.w=(Wo.news v.w.s.log r).foldl Wo.dY v.w)/\Below B w w':=by
 have A:=h.eF.log.len;have t:v.w.s.log.length=v.s.ln:=by show(v.s.log.map EV.en).length=_;rw[VH];exact A
 obtain⟨_,f,_⟩:=Sv.mW L;refine(Ie _ v.s.la v.s.ln v.s.lc v.s.log r (EaI B X b v w r) w h.eF.log.row.room h.eF.log.row.fg A (fun j wr a=>?_) ⟨UZ _,⟨v,h,?_,Fr.below (VE _ _),rfl⟩,VE _ _⟩ (fun j p wr a=>?_)).mono ?_
 ·obtain⟨c,g,l,k,i⟩:=a.at_;have:=g.eF.log;rw[i]at this;exact this
 ·rw[Nat.sub_self,List.take_zero];rfl
 ·obtain⟨c,g,l,k,i⟩:=a.at_;have d:Wo.gi c.w n:=by rw[l];exact Wo.Fv _ _ _ K
  have m:ae wr v.s.log[j].ao v.s.log[j].n v.s.log[j].cap v.s.log[j].vs:=by
   have:=g.eF.log.ops;rw[i]at this;exact this _ (WT p)
  have x:Ac.gC (v.s.log[j].vs.map PV.pt)=0:=qf (nP f v.s.log[j].en (XI.2 ⟨_,WT p,rfl⟩));obtain⟨_,N,M⟩:=jV m x;have q:=k.off (WW _ _ C) z;refine(Cp B X b n o c ⟨((j+1:Nat):Int),v.s.log[j]⟩ wr g d J m ⟨N,M⟩ (k.cell C z) q).mono ?_
  rintro e w'⟨rfl,⟨D,I,H,G,F⟩,E⟩;refine⟨rfl,by have:=a.le;omega,⟨D,I,?_,k.trans G,F.trans i⟩,a.below.trans E⟩
  have u:j<v.w.s.log.length:=by omega
  have P:(v.s.log.map EV.en)[j]'(by rw[VH];exact p)=v.s.log[j].en:=List.getElem_map _;have O:MV.mg ⟨((j+1:Nat):Int),v.s.log[j]⟩=⟨((j+1:Nat):Int),v.w.s.log[j]⟩:=VQ (Wo.Mg.mk _) P.symm;rw[H,Wo.AB v.w.s.log r j a.le u,XC,<-l,O];rfl
 ·rintro e w'⟨rfl,j,_,Q,y,a⟩;obtain⟨c,g,l,k,i⟩:=a.at_;exact⟨rfl,⟨c,g,by rw[l,Wo.AD _ _ _ (by rw[t];exact y)]⟩,a.below⟩
theorem zb(B b n k:Nat)(v:WV)(w:World)(h:eR B 0 w b v)(hL:Wo.gi v.w n)(hk:k<n)(h0:(Wo.vw v.w k).u.length≠0)(hS:df w):
  Calls prog 48 #[.pointer (some ⟨b,0,none⟩),.int .i64 k] w fun e w'=>e=.returned (.int .i64 0)/\jg B b w 0 (Wo.zf v.w k) w':=by
 have bn:=h.lo 0 b rfl;have bm:=h.hi 0 b rfl;have af:=gz b w;have bi:=mN b w;have bc:Hd (Below B w (cm b w)):=af.mono (by omega);have X:=h.below af;obtain⟨gc,gu,gd,sc,su,sd,c,q,r,hI⟩:=X.at hL hk;obtain⟨m,ms,a6⟩:∃m ms,q.ms=m::ms:=by
  rw[hI.cl]at h0
  cases hr:q.ms with
  |nil=>
   have Y:q.eV.length≠0:=h0;unfold QV.eV at Y;rw[hr]at Y;exact absurd rfl Y
  |cons m ms=>exact⟨m,ms,rfl⟩
 have an:=hI.cl;have p4:=hI.p4 X;have ab:=X.uq k q hI.q;have CT:Hd (Calls prog 77 #[.pointer (some ⟨gu,k,none⟩)] (cm b w) fun e w'=>e=.returned (.tuple #[.agg #[.int .i64 m.mr,.int .i64 m.e.aR,.int .i64 m.e.seq,.slice m.e.ao m.e.n m.e.cap],.bool true])/\Kept (cm b w) w' [gu]/\(∀cs T,Blk (cm b w) gu cs T->Blk w' gu (cs.set k (.slice (jS q.a q.cap) (q.n-1) (q.cap-1))) T)):=tV gu k q m ms _ hI.Fh (hI.bu.frozen _) ab a6;have b4:=hId (X.lo 2 gu (by show v.ua.map _=_;rw[hI.ua];rfl));have bg:=h.hi 2 gu (by show v.ua.map _=_;rw[hI.ua];rfl);have ak:Hd (∀x∈[gu],NT (cm b w) x):=fun x hx=>by rw[UY.1 hx];exact X.ur.nt (by show v.ua.map _=_;rw[hI.ua];rfl)
 have b3:=hId (ab.ops m (by rw[a6];exact VK ..));have aw:=hId (hS.below af);have HP:=hId (oE b w);have HT:Hd (∀w',Kept (cm b w) w' [gu]->(∀cs T,Blk (cm b w) gu cs T->Blk w' gu (cs.set k (.slice (jS q.a q.cap) (q.n-1) (q.cap-1))) T)->eR B (2*k+5) w' b {v with up:=v.up.set k ⟨jS q.a q.cap,q.n-1,q.cap-1,ms⟩}):=fun w' Y h2=>hI.Rs X a6 Y h2;obtain⟨d,I⟩:∃d,{v with up:=v.up.set k ⟨jS q.a q.cap,q.n-1,q.cap-1,ms⟩}=d:=⟨_,rfl⟩;have a7:Hd (∀s,bk b d s≠some w.heap.size):=fun s e=>by
  rw[<-I,Fk (VO.1 hI.q).1]at e;by_cases g1:s=2*k+5
  ·rw[VC g1]at e;have e2:bk b v (2*k+5)=some w.heap.size:=by rw[<-fP hI.q,<-te q.a q.cap];exact e
   have:=h.hi _ _ e2;omega
  ·rw[VD g1]at e;have:=h.hi _ _ e;omega
 have ae:d.s=v.s:=by rw[<-I]
 have a8:d.w=⟨v.w.s,v.w.cs,v.w.up.set k (ms.map MV.mg),v.w.dn⟩:=by
  rw[<-I];show Wo.W.mk _ _ ((v.up.set k _).map QV.eV) _=_
  rw[List.map_set];rfl
 have bb:Hd (Wo.gi d.w n):=by show Wo.gi _ _;rw[a8];exact(Wo.ot hL hk v.w.s (ms.map MV.mg)).1
 obtain⟨V,hV⟩:∃V,Wo.zf v.w k=V:=⟨_,rfl⟩;have ac:Wo.vY v.w k=m.mg::ms.map MV.mg:=by
  have:Wo.vY v.w k=q.eV:=VQ Wo.Vw.u an;rw[this];unfold QV.eV;rw[a6];rfl
 have a9:d.s.se=v.w.s:=by rw[ae];rfl
 have av:Hd (Sv.iV d.s.se m.mr ⟨k,m.e.seq,m.e.vs.map PV.pt⟩≠0->Wo.put d.w k (Wo.bb ⟨0,⟨k,m.e.seq,[]⟩⟩ (Wo.vw d.w k))=V):=fun hE=>by
  show _=V
  rw[<-hV];unfold Wo.zf;rw[ac,a8];rw[a9]at hE;exact(VD hE).symm
 have au:Hd (∀(t:SV),Sv.iV d.s.se m.mr ⟨k,m.e.seq,m.e.vs.map PV.pt⟩=0->t.se=Sv.lj d.s.se m.mr ⟨k,m.e.seq,m.e.vs.map PV.pt⟩->(Wo.news (WV.w {d with s:=t}).s.log d.s.ln).foldl Wo.dY (WV.w {d with s:=t})=V/\Sv.dL (WV.w {d with s:=t}).s=0/\Wo.gi (WV.w {d with s:=t}) n):=fun t hE ht=>by
  have e1:WV.w {d with s:=t}=⟨Sv.lj v.w.s m.mr ⟨k,m.e.seq,m.e.vs.map PV.pt⟩,v.w.cs,v.w.up.set k (ms.map MV.mg),v.w.dn⟩:=by
   have e2:WV.w {d with s:=t}=⟨t.se,d.w.cs,d.w.up,d.w.dn⟩:=rfl;rw[e2,a8,ht,a9]
  have e3:d.s.ln=v.w.s.log.length:=by rw[ae];show _=(v.s.log.map EV.en).length;rw[VH];exact h.eF.log.len.symm
  rw[a9]at hE;refine⟨?_,by rw[e1];exact(Sv.PH hE).eF,by rw[e1];exact(Wo.ot hL hk _ (ms.map MV.mg)).1⟩
  rw[e1,e3,<-hV];unfold Wo.zf;rw[ac];exact(VC hE).symm
 rw[hV];rw[I]at HT;clear h hL hI an ab h0 hS a6 hV ac a8 I X ae a9;go_enter func48,ntmps48
 go_upto_region 1 with fail
 change Code.wp prog _ _ _ (cm b w);generalize cm b w=W0 at*;have y2:=ja HP.o;go_wp2_with fail
 refine CT.o.mono ?_
 rintro e P⟨rfl,a0,U⟩;have H1:=hId (HT.o P a0 U);have bf:=hId (bc.o.trans (a0.below (by omega) (fun x hx=>by rw[UY.1 hx];exact b4.o)));have ba:=hId (b3.o.aw a0 ak.o);have b9:=hId (aw.o.aw a0 ak.o);have az:=hId (a0.aM HP.o (by simp;omega));clear a0 U CT p4 y2 HT ak b3 aw b4 HP;have HM:=hId (dE m P);go_upto_region 2 with fail
 change Code.wp prog _ _ _ (aj m P);have O:Hd (Below P.heap.size P ((aj m P).setCell ⟨P.heap.size,1,none⟩ (.int .i64 k))):=(ay m P).setCell (UZ _) _;have aa:Hd (Blk ((aj m P).setCell ⟨P.heap.size,1,none⟩ (.int .i64 k)) P.heap.size (jX ⟨m.mr,⟨k,m.e.seq,m.e.ao,m.e.n,m.e.cap,m.e.vs⟩⟩) 114):=HM.o.set 1 _;have bl:=H1.o.hi 0 b rfl;generalize aj m P=W1 at*;have x1:=IK HM.o;have f1:=HM.o.frozen 1;go_upto_region 5 with fail
 change Code.wp prog _ _ _ (W1.setCell ⟨P.heap.size,1,none⟩ (.int .i64 k));clear x1 f1 HM;generalize W1.setCell ⟨P.heap.size,1,none⟩ (.int .i64 k)=W at*;have H2:=hId (H1.o.below O.o);have bd:=hId (bf.o.trans (O.o.mono (by omega)));have ax:Hd (Blk W w.heap.size [.pointer (some ⟨b,0,none⟩)] 59):=(O.o.block _ az.o.lt).trans az.o;have y2:=ja ax.o;obtain⟨b0,b1,b2⟩:=mi H2.o.aM;have m0:=aa.o.c0;have m1:=aa.o.c1;have m2:=aa.o.c2;have m3:=aa.o.c3;have D:Hd (∀w',Below W.heap.size W w'->SvS b w.heap.size P.heap.size k d.s m w'):=fun w' G=>⟨aA y2 G,aA b0 G,aA b1 G,aA b2 G,aA m0 G,aA m1 G,aA m2 G,aA m3 G⟩;have CK:Hd (∀w',Below W.heap.size W w'->Calls prog 78 #[.agg #[.slice d.s.fa d.s.fn d.s.fc,.slice d.s.la d.s.ln d.s.lc,.slice d.s.na d.s.nn d.s.nc],.int .i64 m.mr,.agg #[.int .i64 k,.int .i64 m.e.seq,.slice m.e.ao m.e.n m.e.cap]] w' fun e am=>(∃t:SV,e=.returned (.tuple #[.agg #[.slice t.fa t.fn t.fc,.slice t.la t.ln t.lc,.slice t.na t.nn t.nc],.int .i64 (Sv.iV d.s.se m.mr ⟨k,m.e.seq,m.e.vs.map PV.pt⟩)])/\qo w'.heap.size am t/\t.se=Sv.lj d.s.se m.mr ⟨k,m.e.seq,m.e.vs.map PV.pt⟩)/\Below w'.heap.size w' am):=fun w' G=>Gt d.s m.mr ⟨k,m.e.seq,m.e.ao,m.e.n,m.e.cap,m.e.vs⟩ w' (H2.o.eF.below G) ((ba.o.below O.o).below G) ((b9.o.below O.o).below G);generalize Sv.iV d.s.se m.mr ⟨k,m.e.seq,m.e.vs.map PV.pt⟩=E at*;generalize Sv.lj d.s.se m.mr ⟨k,m.e.seq,m.e.vs.map PV.pt⟩=SS at*;go_upto_region 6 with fail
 go_cut [8,9]from 31 to 42 (fun p s9 wx=>∃(h:Nat)(t:SV),p=.pointer (some ⟨h,0,none⟩)/\s9=.int .i64 E/\UP W t h wx/\t.se=SS)
 case first=>
  have o:=D.o _ (VE _ _).drew;refine gj (S:=SvS b w.heap.size P.heap.size k d.s m) (f:=fun _=>true) (by kernel_rfl) ?_
  refine aT (i:=0) (v:=?vv0) rfl (by kernel_rfl) (fun _ _ _ h=>h) (Or.inl ⟨by rfl,fun u z=>?hy0⟩) o ?rest0
  case hy0=>obtain⟨s0,s1,s2,s3,s4,s5,s6,Z⟩:=z;go_simp;try with_reducible rfl
  try simp only[Act.put,UX]
  refine aT (i:=1) (v:=?vv1) rfl (by kernel_rfl) (fun _ _ _ h=>h) (Or.inl ⟨by rfl,fun u z=>?hy1⟩) o ?rest1
  case hy1=>obtain⟨s0,s1,s2,s3,s4,s5,s6,Z⟩:=z;go_simp;try with_reducible rfl
  try simp only[Act.put]
  refine aT (i:=2) (v:=?vv2) rfl (by kernel_rfl) (fun _ _ _ h=>h) (Or.inl ⟨by rfl,fun u z=>?hy2⟩) o ?rest2
  case hy2=>obtain⟨s0,s1,s2,s3,s4,s5,s6,Z⟩:=z;go_simp;try with_reducible rfl
  try simp only[Act.put]
  refine aT (i:=3) (v:=?vv3) rfl (by kernel_rfl) (fun _ _ _ h=>h) (Or.inl ⟨by rfl,fun u z=>?hy3⟩) o ?rest3
  case hy3=>obtain⟨s0,s1,s2,s3,s4,s5,s6,Z⟩:=z;go_simp;try with_reducible rfl
  try simp only[Act.put]
  refine aT (i:=4) (v:=?vv4) rfl (by kernel_rfl) (fun _ _ _ h=>h) (Or.inl ⟨by rfl,fun u z=>?hy4⟩) o ?rest4
  case hy4=>obtain⟨s0,s1,s2,s3,s4,s5,s6,Z⟩:=z;go_simp;try with_reducible rfl
  try simp only[Act.put]
  refine aT (i:=5) (v:=?vv5) rfl (by kernel_rfl) (fun _ _ _ h=>h) (Or.inl ⟨by rfl,fun u z=>?hy5⟩) o ?rest5
  case hy5=>obtain⟨s0,s1,s2,s3,s4,s5,s6,Z⟩:=z;go_simp;try with_reducible rfl
  try simp only[Act.put]
  refine aT (i:=6) (v:=?vv6) rfl (by kernel_rfl) (fun _ _ _ h=>h) (Or.inl ⟨by rfl,fun u z=>?hy6⟩) o ?rest6
  case hy6=>obtain⟨s0,s1,s2,s3,s4,s5,s6,Z⟩:=z;go_simp;try with_reducible rfl
  try simp only[Act.put]
  refine aT (i:=7) (v:=?vv7) rfl (by kernel_rfl) (fun _ _ _ h=>h) (Or.inl ⟨by rfl,fun u z=>?hy7⟩) o ?rest7
  case hy7=>obtain⟨s0,s1,s2,s3,s4,s5,s6,Z⟩:=z;go_simp;try with_reducible rfl
  try simp only[Act.put]
  refine sR (i:=8) (j:=12) (by kernel_rfl) rfl rfl (fun K H=>?_) (fun K H=>?_)
  ·go_simp
   refine(CK.o _ (VE _ _).drew).mono ?_
   rintro e F⟨⟨t,rfl,ht,a5⟩,G⟩;have N:=hId (cT G);have HT:Hd (qo W.heap.size F t):=by rw[XE]at ht;exact ht
   have ah:=hId a5;clear ht a5 G o CK;have o:=D.o _ N.o;refine H.out _ _ (fun _=>o) ?_
   clear H K;try simp only[Act.put,UX,VA,VB]
   refine aT (i:=9) (v:=?vv9) rfl (by kernel_rfl) (fun _ _ _ h=>h) (Or.inl ⟨by rfl,fun u z=>?hy9⟩) o ?rest9
   case hy9=>obtain⟨s0,s1,s2,s3,s4,s5,s6,Z⟩:=z;go_simp;try with_reducible rfl
   try simp only[Act.put,UX]
   refine aT (i:=10) (v:=?vv10) rfl (by kernel_rfl) (fun _ _ _ h=>h) (Or.inl ⟨by rfl,fun u z=>?hy10⟩) o ?rest10
   case hy10=>obtain⟨s0,s1,s2,s3,s4,s5,s6,Z⟩:=z;go_simp;try with_reducible rfl
   try simp only[Act.put]
   refine aT (i:=11) (v:=?vv11) rfl (by kernel_rfl) (fun _ _ _ h=>h) (Or.inl ⟨by rfl,fun u z=>?hy11⟩) o ?rest11
   case hy11=>obtain⟨s0,s1,s2,s3,s4,s5,s6,Z⟩:=z;go_simp;try with_reducible rfl
   try simp only[Act.put]
   have L:=hId (N.o.trans ((bM eP F).mono N.o.size));have A:=hId (fI eP F);have J:=D.o _ L.o;refine ar (i:=12) (by kernel_rfl) rfl (fun K H=>?_)
   go_simp
   refine H.out _ (ai eP F) (fun _=>J) ?_
   clear H K;try simp only[Act.put,UX,VA,VB]
   have a3:Hd (Below W.heap.size W (fC (ai eP F) F.heap.size t)):=L.o.trans ((cP _ _ _).mono N.o.size);have a2:=D.o _ a3.o;have C:Hd (UP W t F.heap.size (fC (ai eP F) F.heap.size t)):=⟨dv A.o,El A.o (HT.o.eF.below (bM eP F)) (fun Y ad h2=>by
    obtain⟨g,b6,e1,hc⟩:=HT.o.eF.log.row.bH Y;rw[h2]at e1
    cases e1
    have Q:=HT.o.eF.log.len;match hl:t.log,Q with
    |[],Q=>exact absurd Q.symm Y
    |y::l,_=>
     have:=WW _ _ (hc 0 (.int .i64 y.aR) (by rw[hl];rfl));have h3:g<F.heap.size:=this;show g≠_
     omega),HT.o.lo,a3.o,N.o.size⟩
   have z0:(ai eP F).cell? ⟨F.heap.size,0,none⟩=some (.slice none 0 0):=A.o.cell 0;have g0:=A.o.frozen 0;have z1:(ai eP F).cell? ⟨F.heap.size,1,none⟩=some (.slice none 0 0):=A.o.cell 1;have g1:=A.o.frozen 1;have z2:(ai eP F).cell? ⟨F.heap.size,2,none⟩=some (.slice none 0 0):=A.o.cell 2;have g2:=A.o.frozen 2;refine ar (i:=13) (by kernel_rfl) rfl (fun K H=>?_)
   generalize ai eP F=W5 at L A J a3 a2 C z0 g0 z1 g1 z2 g2 H⊢;go_simp
   refine H.out _ (fC W5 F.heap.size t) (fun _=>a2) ?_
   clear H K;try simp only[Act.put,UX,VA,VB]
   refine ar (i:=14) (by kernel_rfl) rfl (fun K H=>?_)
   go_simp
   refine H.out _ _ (fun _=>a2) ?_
   clear H K;refine et (by kernel_rfl) ?_ _
   go_wp2_with fail
   go_meet
   case rel=>exact⟨_,t,rfl,rfl,C.o,ah.o⟩
  ·have L:Hd (Below W.heap.size W (ai eP W.drew)):=((VE _ _).drew).trans ((bM eP W.drew).mono (by simp));have A:Hd (Blk (ai eP W.drew) W.heap.size (lA eP) 26):=fI eP W.drew;have aq:Hd ((ai eP W.drew).heap.size=W.heap.size+1):=fN eP W.drew;have J:=D.o _ L.o;go_simp
   refine H.out _ (ai eP W.drew) (fun _=>J) ?_
   clear H K;try simp only[Act.put,UX,VA,VB]
   refine ar (i:=8) (by kernel_rfl) rfl (fun K H=>?_)
   generalize ai eP W.drew=W4 at L A aq J H⊢;go_simp
   refine(CK.o _ L.o).mono ?_
   rintro e F⟨⟨t,rfl,ht,a5⟩,G⟩;have N:=hId (L.o.trans (G.mono L.o.size));have M:Hd (Blk F W.heap.size (lA eP) 26):=(G.block _ A.o.lt).trans A.o;have HT:Hd (qo (W.heap.size+1) F t):=by rw[aq.o]at ht;exact ht
   have ah:=hId a5;clear ht a5 G o CK J;have o:=D.o _ N.o;refine H.out _ _ (fun _=>o) ?_
   clear H K;try simp only[Act.put,UX,VA,VB]
   refine aT (i:=9) (v:=?vv9b) rfl (by kernel_rfl) (fun _ _ _ h=>h) (Or.inl ⟨by rfl,fun u z=>?hy9b⟩) o ?rest9b
   case hy9b=>obtain⟨s0,s1,s2,s3,s4,s5,s6,Z⟩:=z;go_simp;try with_reducible rfl
   try simp only[Act.put,UX]
   refine aT (i:=10) (v:=?vv10b) rfl (by kernel_rfl) (fun _ _ _ h=>h) (Or.inl ⟨by rfl,fun u z=>?hy10b⟩) o ?rest10b
   case hy10b=>obtain⟨s0,s1,s2,s3,s4,s5,s6,Z⟩:=z;go_simp;try with_reducible rfl
   try simp only[Act.put]
   refine aT (i:=11) (v:=?vv11b) rfl (by kernel_rfl) (fun _ _ _ h=>h) (Or.inl ⟨by rfl,fun u z=>?hy11b⟩) o ?rest11b
   case hy11b=>obtain⟨s0,s1,s2,s3,s4,s5,s6,Z⟩:=z;go_simp;try with_reducible rfl
   try simp only[Act.put]
   have a3:Hd (Below W.heap.size W (fC F W.heap.size t)):=N.o.trans (cP _ _ _);have a2:=D.o _ a3.o;have C:Hd (UP W t W.heap.size (fC F W.heap.size t)):=⟨dv M.o,El M.o HT.o.eF (fun Y ad h2=>by have:=HT.o.lo ad Y h2;omega),fun ad Y h2=>by have:=HT.o.lo ad Y h2;omega,a3.o,UZ _⟩;have z0:=M.o.c0;have g0:=M.o.frozen 0;have z1:=M.o.c1;have g1:=M.o.frozen 1;have z2:=M.o.c2;have g2:=M.o.frozen 2;refine ar (i:=13) (by kernel_rfl) rfl (fun K H=>?_)
   go_simp
   refine H.out _ (fC F W.heap.size t) (fun _=>a2) ?_
   clear H K;try simp only[Act.put,UX,VA,VB]
   refine ar (i:=14) (by kernel_rfl) rfl (fun K H=>?_)
   go_simp
   refine H.out _ _ (fun _=>a2) ?_
   clear H K;refine et (by kernel_rfl) ?_ _
   go_wp2_with fail
   go_meet
   case rel=>exact⟨_,t,rfl,rfl,C.o,ah.o⟩
 case rest=>
  obtain⟨h,t,rfl,rfl,a1,ao⟩:=hcut;have C:=hId a1;have b8:=hId ao;have ag:=hId (H2.o.below a1.below);have b7:B<=W.heap.size:=by have:=H2.o.hi 0 b rfl;have:=H2.o.lo 0 b rfl;omega
  have b5:=hId (bd.o.trans (a1.below.mono b7));have c2:=aA y2 a1.below;have n2:=aA m2 a1.below;have bh:=ax.o.lt;clear a1 ao y2 b0 b1 b2 m0 m1 m2 m3 CK D;by_cases hz:E=0
  ·obtain⟨u1,u2,u3⟩:=au.o t hz b8.o;subst hz;have U:=ag.o.aM;obtain⟨b0,b1,b2⟩:=mi U;obtain⟨f0,f1,f2⟩:=IR U;obtain⟨t0,t1,t2⟩:=mi C.o.aM;have bj:=H2.o.hi 0 b rfl;have ap:h≠b:=by have:=C.o.hi;omega
   have h4:eR B (2*k+5) (fC wc b t) b {d with s:=t}:=ag.o.Tr (fs wc b t) t (((U.set 0 (.slice t.fa t.fn t.fc)).set 1 (.slice t.la t.ln t.lc)).set 2 (.slice t.na t.nn t.nc)) C.o.eF (fun h0 ad e=>by
    have Y:=C.o.lo ad h0 e;refine⟨by omega,?_,fun s _ e2=>by have:=H2.o.hi s _ e2;omega⟩
    obtain⟨g,b6,e1,hc⟩:=C.o.eF.log.row.bH h0;rw[e]at e1
    cases e1
    have Q:=C.o.eF.log.len;match hl:t.log,Q with
    |[],Q=>exact absurd Q.symm h0
    |y::l,_=>exact WW _ _ (hc 0 (.int .i64 y.aR) (by rw[hl];rfl)))
   have be:=hId (b5.o.trans ((cP wc b t).mono (H2.o.lo 0 b rfl)));have al:=fs wc b t;have c5:(fC wc b t).cell? ⟨w.heap.size,0,none⟩=some (.pointer (some ⟨b,0,none⟩)):=(WC (w:=wc) (a:=⟨w.heap.size,0,none⟩) (al.block w.heap.size (WW _ _ c2) (by simp;omega))).trans c2;have t5:(fC wc b t).cell? ⟨h,1,none⟩=some (.slice t.la t.ln t.lc):=(al.aM C.o.aM (by simpa using ap)).cell 1;have CE:Hd (Calls prog 80 #[.slice t.la t.ln t.lc,.int .i64 d.s.ln,.func (.func 81) #[] #[.pointer (some ⟨w.heap.size,0,none⟩)]] (fC wc b t) fun e w'=>e=.returned (.tuple #[])/\(∃v',eR B (2*k+5) w' b v'/\v'.w=(Wo.news (WV.w {d with s:=t}).s.log d.s.ln).foldl Wo.dY (WV.w {d with s:=t}))/\Below B (fC wc b t) w'):=Og B (2*k+5) b n w.heap.size {d with s:=t} d.s.ln (fC wc b t) h4 u3 (fun j _=>by omega) u2 c5 (fun s e=>by
    match s,e with
    |0,e=>exact a7.o 0 e
    |1,e=>exact a7.o 1 e
    |2,e=>exact a7.o 2 e
    |3,e=>exact a7.o 3 e
    |4,e=>
     have e2:(if t.ln=0 then none else t.la.map (·.block))=some w.heap.size:=e;by_cases h0:t.ln=0
     ·rw[VC h0]at e2;cases e2
     ·rw[VD h0]at e2
      cases ha:t.la with
      |none=>rw[ha]at e2;cases e2
      |some ad=>
       rw[ha]at e2;have Y:=C.o.lo ad h0 ha;have h3:ad.block=w.heap.size:=WU e2;omega
    |j+5,e=>exact a7.o (j+5) e)
   rw[u1]at CE;clear u1 u2 u3 U h4 al au av;go_upto_region 11 with fail
   change Code.wp prog _ _ _ (fC wc b t);clear b0 b1 b2 f0 f1 f2 t0 t1 t2 c2 n2;generalize fC wc b t=W6 at*;go_wp2_with fail
   refine CE.o.mono ?_
   rintro e w4⟨rfl,⟨v',I,a4⟩,G⟩;have H6:Hd (jg B b w 0 V w4):=⟨be.o.trans G,fun _=>⟨_,v',I,a4⟩⟩;clear I a4 G CE;go_wp2
   go_ret
   exact⟨rfl,H6.o⟩
  ·have ap:(E !=0)=true:=by simp[hz]
   have CT:Hd (Calls prog 79 #[.pointer (some ⟨b,0,none⟩),.int .i64 k,.agg #[.int .i64 0,.int .i64 k,.int .i64 m.e.seq,.slice none 0 0]] wc fun e w'=>e=.returned (.tuple #[])/\vr B (2*k+5) b d wc (Wo.put d.w k (Wo.bb ⟨0,⟨k,m.e.seq,[]⟩⟩ (Wo.vw d.w k))) w'):=tT B (2*k+5) b n k d ⟨0,⟨k,m.e.seq,none,0,0,[]⟩⟩ wc ag.o bb.o hk (by omega) (jU _) ⟨VN _,fun u z=>by cases z⟩;rw[av.o hz]at CT;go_wp2_with fail
   refine CT.o.mono ?_
   rintro e w4⟨rfl,⟨v',I,a4,-⟩,G⟩;have H6:Hd (jg B b w 0 V w4):=⟨b5.o.trans G,fun _=>⟨_,v',I,a4⟩⟩;clear I a4 G CT;go_wp2
   go_ret
   exact⟨rfl,H6.o⟩
end Go.Proofs.YthddphjghgdalaaGreatDoor
namespace Go.Proofs.YthddphjghgdalaaGreatDoor.Esc
def TC (c:UInt8):List UInt8 :=
 if c=38 then [38,97,109,112,59] else if c=60 then [38,108,116,59] else if c=62 then [38,103,116,59] else if c=34 then [38,113,117,111,116,59] else [c]
def wr (l:List UInt8):List UInt8:=l.flatMap TC
def iF (l:List UInt8):UInt8 × Nat :=
 if ([38,97,109,112,59]:List UInt8).isPrefixOf l then (38,5) else if ([38,108,116,59]:List UInt8).isPrefixOf l then (60,4)
 else if ([38,103,116,59]:List UInt8).isPrefixOf l then (62,4) else if ([38,113,117,111,116,59]:List UInt8).isPrefixOf l then (34,6) else (l.headD 0,1)
def RZ:Nat->List UInt8->List UInt8
 | 0,_=>[]
 | _+1,[]=>[]
 | n+1,c :: t=>(iF (c :: t)).1 :: RZ n ((c :: t).drop (iF (c :: t)).2)
def rd (l:List UInt8):List UInt8:=RZ l.length l
theorem qX(l:List UInt8):1<=(iF l).2/\(iF l).2<=6:=by
 unfold iF;split
 ·simp
 split
 ·simp
 split
 ·simp
 split<;>simp
theorem ji{p l:List UInt8}(h:p.isPrefixOf l=true):p.length<=l.length:=(List.isPrefixOf_iff_prefix.1 h).length_le
theorem FP(l:List UInt8)(h:l≠[]):(iF l).2<=l.length:=by
 have a:1<=l.length:=by cases l with|nil=>exact absurd rfl h|cons=>simp
 unfold iF;split
 ·rename_i g;simpa using ji g
 split
 ·rename_i g;simpa using ji g
 split
 ·rename_i g;simpa using ji g
 split
 ·rename_i g;simpa using ji g
 ·exact a
theorem zj:∀(n m:Nat)(l:List UInt8),l.length<=n->l.length<=m->RZ n l=RZ m l
 |n,m,[],_,_=>by cases n<;>cases m<;>rfl
 |0,_,_::_,h,_=>by simp at h
 |_+1,0,_::_,_,h=>by simp at h
 |n+1,m+1,c::t,b,a=>by
  simp only[RZ]
  congr 1
  have:=qX (c::t);apply zj<;>simp at b a⊢<;>omega
theorem KU:rd []=[]:=rfl
theorem Ev(l:List UInt8)(h:l≠[]):rd l=(iF l).1::rd (l.drop (iF l).2):=by
 cases l with
 |nil=>exact absurd rfl h
 |cons c t=>
  have:=qX (c::t);unfold rd;simp only[VG,RZ]
  congr 1
  apply zj<;>simp<;>omega
theorem Pu (l:List UInt8):(rd l).length<=l.length:=by
 generalize hn:l.length=n;induction n using Nat.strongRecOn generalizing l with
 | ind n ih =>
  by_cases h:l=[]
  ·subst h;simp[KU]
  ·rw[Ev l h];have h1:=qX l;have h2:=FP l h;have:=ih (l.drop (iF l).2).length (by simp;omega) _ rfl;simp at this ⊢
   omega
end Go.Proofs.YthddphjghgdalaaGreatDoor.Esc
namespace Go.Proofs.YthddphjghgdalaaGreatDoor
open Go.RowKit Go.Proofs.Tryz
namespace Pg
abbrev Nm:=Bool × Bool × Bool
namespace Nm
abbrev p:Nm:=(false,false,false)
abbrev h1:Nm:=(false,false,true)
abbrev li:Nm:=(false,true,false)
abbrev h2:Nm:=(false,true,true)
abbrev ul:Nm:=(true,false,false)
abbrev b:Nm:=(true,false,true)
abbrev i:Nm:=(true,true,false)
abbrev a:Nm:=(true,true,true)
end Nm
abbrev Tok:=(Nm ⊕ Nm) ⊕ (List UInt8 ⊕ UInt8)
namespace Tok
abbrev op (n:Nm):Tok:=.inl (.inl n)
abbrev cl (n:Nm):Tok:=.inl (.inr n)
abbrev a (l:List UInt8):Tok:=.inr (.inl l)
abbrev ch (c:UInt8):Tok:=.inr (.inr c)
end Tok
def name:Nm->List UInt8
 | (false,false,false)=>[112]
 | (false,false,true)=>[104,49]
 | (false,true,false)=>[108,105]
 | (false,true,true)=>[104,50]
 | (true,false,false)=>[117,108]
 | (true,false,true)=>[98]
 | (true,true,false)=>[105]
 | (true,true,true)=>[97]
def UH:List UInt8:=[60,97,32,104,114,101,102,61,34]
def enc:Tok->List UInt8
 | .inl (.inl n)=>60 :: (name n++[62])
 | .inl (.inr n)=>60 :: 47 :: (name n++[62])
 | .inr (.inl l)=>UH++(Esc.wr l++[34,62])
 | .inr (.inr c)=>Esc.TC c
def bytes (t:List Tok):List UInt8:=t.flatMap enc
theorem tw(p:UInt8->Bool)(x:UInt8)(r:List UInt8)(b:p x=false):∀l:List UInt8,(∀y∈l,p y=true)->(l++x::r).takeWhile p=l/\(l++x::r).dropWhile p=x::r
 |[],_=>by simp[b]
 |y::l,h=>by
  have a:=h y (by simp);obtain⟨e,d⟩:=tw p x r b l (fun z c=>h z (by simp[c]));exact⟨by rw[VF,XK,a,e];rfl,by rw[VF,WS,a,d];rfl⟩
structure St where
 rJ:List Tok
 ins:List Tok
 text:List UInt8
 last:It
 list:Bool
def kind (m:Int):Nm:=if m=0 then .p else if m=1 then .h1 else if m=2 then .li else .h2
def wrap (b:Bool) (n:Nm) (s:List Tok):List Tok:=if b then .op n :: (s++[.cl n]) else s
def Gu (m:Int) (s:List Tok):List Tok:=wrap (m % 2 == 1) .b (wrap (decide (2<=m)) .i s)
def linked (l:ByteArray) (s:List Tok):List Tok:=if l.toList.isEmpty then s else .a l.data.toList :: (s++[.cl .a])
def Po (x:It) (t:List UInt8):List Tok:=linked x.l (Gu x.m (t.map .ch))
def none:It:=⟨0,0,⟨#[]⟩⟩
def tail (x:It) (t:List UInt8):List Tok:=if t.isEmpty then [] else Po x t
def flush (s:St):St:={ s with ins:=s.ins++tail s.last s.text,text:=[],last:=none }
def lists (o n:Bool):List Tok:=if n&&!o then [.op .ul] else if !n&&o then [.cl .ul] else []
def Q2 (s:St) (m:Int):St:={ s with rJ:=s.rJ++lists s.list (m == 2)++.op (kind m) :: (s.ins++[.cl (kind m)]),ins:=[],list:=m == 2 }
def diff (a x:It):Bool:=(x.m != a.m) || !(x.l.toList == a.l.toList)
def step (s:St) (x:It):St :=
 if Dc.ends x then Q2 (flush s) x.m
 else if !s.text.isEmpty&&diff s.last x then { flush s with text:=[x.c],last:=x }
 else { s with text:=s.text++[x.c],last:=x }
def st0:St:=⟨[],[],[],none,false⟩
def run (l:List It):St:=l.foldl step st0
def fin (s:St):List Tok:=s.rJ++lists s.list false
def eA (l:List It):List Tok:=fin (run l)
def rJ (l:List It):List UInt8:=bytes (eA l)
theorem KK(l:List It)(x:It):run (l++[x])=step (run l) x:=by simp[run]
theorem dT(s:St):(flush s).text=[]:=by
 rfl
structure De where
 m:Int
 l:List UInt8
 o:List It
def mk (m:Int) (l:ByteArray) (c:UInt8):It:=⟨c,m,l⟩
def FX (d:De):Tok->De
 | .inl (.inl (true,false,true))=>{ d with m:=d.m+1 }
 | .inl (.inr (true,false,true))=>{ d with m:=d.m - 1 }
 | .inl (.inl (true,true,false))=>{ d with m:=d.m+2 }
 | .inl (.inr (true,true,false))=>{ d with m:=d.m - 2 }
 | .inr (.inl l)=>{ d with l:=l }
 | .inl (.inr (true,true,true))=>{ d with l:=[] }
 | .inr (.inr c)=>{ d with o:=d.o++[mk d.m (B d.l) c] }
 | .inl (.inr (false,false,false))=>{ d with o:=d.o++[⟨10,0,B []⟩] }
 | .inl (.inr (false,false,true))=>{ d with o:=d.o++[⟨10,1,B []⟩] }
 | .inl (.inr (false,true,false))=>{ d with o:=d.o++[⟨10,2,B []⟩] }
 | .inl (.inr (false,true,true))=>{ d with o:=d.o++[⟨10,3,B []⟩] }
 | _=>d
def dec (o:De) (t:List Tok):De:=t.foldl FX o
theorem eB(o:De)(s t:List Tok):dec o (s++t)=dec (dec o s) t:=by simp[dec]
theorem j8(o:De)(x:Tok)(t:List Tok):dec o (x::t)=dec (FX o x) t:=rfl
theorem Fa(o:De):dec o []=o:=rfl
theorem lR(m:Int)(l:List UInt8):∀(t:List UInt8)(o:List It),dec ⟨m,l,o⟩ (t.map .ch)=⟨m,l,o++t.map (mk m (B l))⟩
 |[],o=>by simp[dec]
 |c::t,o=>by
  rw[XA,j8];show dec ⟨m,l,o++[mk m (B l) c]⟩ _=_
  rw[lR m l t,XA,VT];rfl
theorem Av(m:Int)(c:0<=m)(b:m<=3)(l t:List UInt8)(o:List It):dec ⟨0,l,o⟩ (Gu m (t.map .ch))=⟨0,l,o++t.map (mk m (B l))⟩:=by
 have a:m=0\/m=1\/m=2\/m=3:=by omega
 rcases a with rfl|rfl|rfl|rfl
 ·show dec ⟨0,l,o⟩ (t.map .ch)=_
  exact lR 0 l t o
 ·show dec ⟨0,l,o⟩ (.op .b::(t.map .ch++[.cl .b]))=_
  rw[j8,eB];show dec (dec ⟨1,l,o⟩ _) _=_
  rw[lR];rfl
 ·show dec ⟨0,l,o⟩ (.op .i::(t.map .ch++[.cl .i]))=_
  rw[j8,eB];show dec (dec ⟨2,l,o⟩ _) _=_
  rw[lR];rfl
 ·show dec ⟨0,l,o⟩ (.op .b::((.op .i::(t.map .ch++[.cl .i]))++[.cl .b]))=_
  rw[j8,eB];show dec (dec ⟨3,l,o⟩ (t.map .ch++[.cl .i])) [.cl .b]=_
  rw[eB,lR];rfl
theorem OM(x:It)(b:0<=x.m)(a:x.m<=3)(t:List UInt8)(o:List It):dec ⟨0,[],o⟩ (Po x t)=⟨0,[],o++t.map (mk x.m x.l)⟩:=by
 unfold Po linked
 cases h:x.l.toList.isEmpty
 ·show dec ⟨0,[],o⟩ (.a x.l.data.toList::(Gu x.m (t.map .ch)++[.cl .a]))=_
  rw[j8,eB];show dec (dec ⟨0,x.l.data.toList,o⟩ _) _=_
  rw[Av x.m b a,RY];rfl
 ·rw[VC rfl,Av x.m b a];have:x.l=B []:=by
   rw[Lib.toList_data]at h;apply iP
   rw[eO];simpa using h
  rw[<-this]
structure Inv (s:St) (l:List It):Prop where
 back:∃ o,dec ⟨0,[],[]⟩ (s.rJ++s.ins)=⟨0,[],o⟩/\l=o++s.text.map (mk s.last.m s.last.l)
 ok:s.text≠[]->0<=s.last.m/\s.last.m<=3
theorem Inv.flush{s:St}{l:List It}(h:Inv s l):Inv (flush s) l:=by
 obtain⟨⟨o,e,c⟩,d⟩:=h;refine⟨⟨l,?_,by simp[Pg.flush]⟩,fun h=>absurd rfl h⟩
 show dec _ (s.rJ++(s.ins++tail s.last s.text))=_
 rw[<-VT,eB,e];unfold tail;split
 ·rename_i b;have a:s.text=[]:=by simpa using b
  rw[a]at c;rw[c,Fa];simp
 ·rename_i b;have a:s.text≠[]:=by simpa using b
  obtain⟨g,f⟩:=d a;rw[OM _ g f,c]
theorem Ij(d:De)(a b:Bool):dec d (lists a b)=d:=by cases a<;>cases b<;>rfl
theorem Aw(d:De)(m:Int)(c:0<=m)(b:m<=3):FX d (.op (kind m))=d/\FX d (.cl (kind m))={d with o:=d.o++[⟨10,m,B []⟩]}:=by
 have a:m=0\/m=1\/m=2\/m=3:=by omega
 rcases a with rfl|rfl|rfl|rfl<;>exact⟨rfl,rfl⟩
def Ok (x:It):Prop:=0<=x.m/\x.m<=3/\(Dc.ends x=true->x.l=B [])
theorem yV{x:It}(h:Dc.ends x=true):x.c=10:=by
 unfold Dc.ends at h;have:(x.c.toNat:Int)=10:=by simpa using h
 exact UInt8.toNat_inj.1 (by show x.c.toNat=10;omega)
theorem zz{a x:It}(h:diff a x=false):x.m=a.m/\x.l=a.l:=by
 unfold diff at h;rw[Bool.or_eq_false_iff,Bool.not_eq_false',Lib.toList_data,Lib.toList_data]at h;exact⟨by simpa using h.1,iP (by simpa using h.2)⟩
theorem Inv.step{s:St}{l:List It}{x:It}(h:Inv s l)(g:Ok x):Inv (step s x) (l++[x]):=by
 obtain⟨x0,x3,f⟩:=g;unfold Pg.step
 cases d:Dc.ends x
 ·simp only[YA,if_false]
  cases i:(!s.text.isEmpty&&diff s.last x)
  ·simp only[YA,if_false]
   obtain⟨⟨o,b,a⟩,e⟩:=h;refine⟨⟨o,b,?_⟩,fun _=>⟨x0,x3⟩⟩
   show l++[x]=o++(s.text++[x.c]).map (Pg.mk x.m x.l)
   rw[WN,<-VT,a];congr 2
   by_cases c:s.text=[]
   ·rw[c];rfl
   ·have:diff s.last x=false:=by simpa[c]using i
    obtain⟨m,k⟩:=zz this;rw[m,k]
  ·simp only[if_true]
   obtain⟨⟨o,b,a⟩,e⟩:=h.flush;refine⟨⟨o,b,?_⟩,fun _=>⟨x0,x3⟩⟩
   rw[dT]at a;rw[a];simp
   rfl
 ·simp only[if_true]
  obtain⟨⟨o,b,a⟩,e⟩:=h.flush;refine⟨⟨l++[x],?_,?_⟩,fun c=>absurd (dT s) c⟩
  ·show dec _ ((((Pg.flush s).rJ++lists (Pg.flush s).list (x.m==2))++Tok.op (kind x.m)::((Pg.flush s).ins++[Tok.cl (kind x.m)]))++[])=_
   rw[VY,eB,eB,Ij,j8,(Aw _ x.m x0 x3).1,<-eB,<-VT,eB,b,j8,(Aw _ x.m x0 x3).2,Fa];rw[dT]at a;have:x=⟨10,x.m,B []⟩:=by rw[<-f d,<-yV d]
   rw[a,<-this];simp
  ·show l++[x]=(l++[x])++(Pg.flush s).text.map _
   rw[dT];simp
def pre (P:List Tok) (s:St):St:={ s with rJ:=P++s.rJ }
end Pg
namespace Pg
theorem cz{m:Int}(c:0<=m)(b:m<=3):(m==2)=false->kind m=.p\/kind m=.h1\/kind m=.h2:=by
 have a:m=0\/m=1\/m=2\/m=3:=by omega
 rcases a with rfl|rfl|rfl|rfl<;>decide
def from_ (l:List It) (n q:Nat):List Nat:=(List.range' q (n - q)).filter (Dc.Cx l)
theorem IV(l:List It)(n q:Nat)(h:q<n):from_ l n q=if Dc.Cx l q then q::from_ l n (q+1)else from_ l n (q+1):=by
 unfold from_;obtain⟨d,a⟩:∃d,n-q=d+1:=⟨n-q-1,by omega⟩;rw[a,List.range'_succ,show n-(q+1)=d by omega,List.filter_cons]
theorem next(l:List It)(n:Nat):∀d q,n-q=d->q<=n->∃a,q<=a/\a<=n/\(a=n\/Dc.Cx l a=true)/\(∀j,q<=j->j<a->Dc.Cx l j=false)/\from_ l n q=from_ l n a
 |0,q,i,b=>⟨q,UZ _,b,.inl (by omega),fun j e c=>by omega,rfl⟩
 |d+1,q,i,b=>by
  cases h:Dc.Cx l q
  ·obtain⟨a,e,c,o,m,k⟩:=next l n d (q+1) (by omega) (by omega);refine⟨a,by omega,c,o,fun j p f=>?_,?_⟩
   ·by_cases g:j=q
    ·rw[g];exact h
    ·exact m j (by omega) f
   ·rw[IV l n q (by omega),h];exact k
  ·exact⟨q,UZ _,b,.inr h,fun j e c=>by omega,rfl⟩
theorem Gi(a x:It):Dc.turns a x=false↔Dc.ends a=false/\Dc.ends x=false/\diff a x=false:=by
 unfold Dc.turns diff
 cases Dc.ends a<;>cases Dc.ends x<;>simp
theorem Cv(s:St)(x:It)(m:Int)(l:ByteArray)(o:x.m=m)(p:x.l=l):∀(t:List It)(u:List UInt8)(y:It),u≠[]->y.m=m->y.l=l->(∀z∈t,Dc.ends z=false/\z.m=m/\z.l=l)->
  ∃a,a.m=m/\a.l=l/\t.foldl step {s with text:=u,last:=y}={s with text:=u++t.map It.c,last:=a}
 |[],u,y,_,c,b,_=>⟨y,c,b,by simp⟩
 |z::t,u,y,v,c,b,h=>by
  obtain⟨r,e,d⟩:=h z (by simp);have n:step {s with text:=u,last:=y} z={s with text:=u++[z.c],last:=z}:=by
   have q:diff y z=false:=by unfold diff;rw[e,d,c,b];simp
   unfold step;simp[r,q]
  obtain⟨a,i,g,f⟩:=Cv s x m l o p t (u++[z.c]) z (by simp) e d (fun w k=>h w (by simp[k]));exact⟨a,i,g,by rw[List.foldl_cons,n,f];simp⟩
theorem N2:∀(l:List It)(x:It),(∃s,run (l++[x])=Q2 s x.m/\s.text=[]/\Dc.ends x=true)\/(Dc.ends x=false/\(run (l++[x])).last=x):=by
 intro l x;rw[KK];unfold step
 cases a:Dc.ends x
 ·refine .inr ⟨rfl,?_⟩
  simp only[YA,if_false]
  split<;>rfl
 ·exact .inl ⟨_,rfl,rfl,rfl⟩
theorem UG(l:List It)(q:Nat)(h:q<l.length)(a:Dc.Cx l q=true)(b:Dc.ends l[q]=false):(run (l.take q)).text=[]\/diff (run (l.take q)).last l[q]=true:=by
 match q,h,a,b with
 |0,h,a,b=>exact .inl rfl
 |j+1,h,a,b=>
  rw[Dc.G9 h]at a;have e:j<l.length:=by omega
  rw[WY e];rcases N2 (l.take j) l[j]with⟨s,d,c,_⟩|⟨i,g⟩
  ·rw[d];exact .inl c
  ·rw[g];right
   cases f:diff l[j] l[j+1]
   ·rw[(Gi _ _).2 ⟨i,b,f⟩]at a;cases a
   ·rfl
end Pg
namespace Pg
end Pg
