/- A part. -/
import Derived.Test.YtbhcklkbckacpaaGreatDoorYt1
import Derived.Test.YtbhcklkbckacpaaGreatDoorYt2
import Derived.Test.YtbhcklkbckacpaaGreatDoorYt3
import Derived.Test.YtbhcklkbckacpaaGreatDoorYt4
import Derived.Test.YtbhcklkbckacpaaGreatDoorYs
import Derived.Test.YtbhcklkbckacpaaGreatDoorYj
namespace Go.Proofs.YtbhcklkbckacpaaGreatDoor
open Go.RowKit
theorem q9k (c:CV) (who:Int) (m:MV) (w:World) (hC:Cli w c) (hO:Ops w m.e.ao m.e.n m.e.cap m.e.vs) (hR:Kl.Rc c.cl) (hmr:-9223372036854775808≤m.mr∧m.mr≤9223372036854775807) :
  Calls Tryz.prog 42 #[.agg #[.int .i64 c.rev,.slice c.ba c.bn c.bc,.slice c.na c.nn c.nc,.int .i64 c.seq,.slice c.sa c.sn c.sc,.slice c.ha c.hn c.hc,.bool c.jo],.int .i64 who,.agg #[.int .i64 m.mr,.int .i64 m.e.who,.int .i64 m.e.seq,.slice m.e.ao m.e.n m.e.cap]] w fun e w' => Ans (Kl.heE c.cl who m.mr m.e.en) (if Kl.heE c.cl who m.mr m.e.en=0 then Kl.heS c.cl who m.mr m.e.en else false) (if Kl.heE c.cl who m.mr m.e.en=0 then Kl.heC c.cl who m.mr m.e.en else Kl.none) e w' ∧ Below w.heap.size w w' := by
 by_cases hc:¬ m.e.n=0∧Ac.chk (m.e.vs.map PV.pt)=0∧m.mr=c.rev+1∧¬ c.rev=60∧Kl.isOwn c.cl who m.e.en=false
 ·obtain ⟨h0,hx,hrev,h60,hown⟩:=hc
  have hml:m.e.en.o.length=m.e.n:=zm hO
  have hno:¬ (m.mr≠c.cl.rev+1∨c.cl.rev=60):=fun h=>h.elim (fun h1=>h1 hrev) h60
  have hE:Kl.heE c.cl who m.mr m.e.en=0:=by unfold Kl.heE;rw[hml,if_neg h0,if_pos (show Ac.chk m.e.en.o=0 from hx),if_neg hno,hown,if_neg Bool.false_ne_true]
  have hS:Kl.heS c.cl who m.mr m.e.en=false:=by unfold Kl.heS;rw[hml,if_neg h0,if_neg hno,hown,if_neg Bool.false_ne_true]
  have hCC:Kl.heC c.cl who m.mr m.e.en=Kl.othC c.cl (m.e.vs.map PV.pt):=by unfold Kl.heC;rw[hml,if_neg h0,if_neg hno,hown,if_neg Bool.false_ne_true];rfl
  rw[hE,if_pos rfl,if_pos rfl,hS,hCC]
  by_cases hF:Ac.fitE c.base (m.e.vs.map PV.pt)=0
  ·by_cases hs:c.sn=0
   ·exact q7z c who m w hC hO hR h0 hx hrev h60 hown hF hs
   ·by_cases hh:c.hn=0
    ·exact q7y c who m w hC hO hR h0 hx hrev h60 hown hF hs hh
    ·exact q80 c who m w hC hO hR h0 hx hrev h60 hown hF hs hh
  ·exact q9j c who m w hC hO hR h0 hx hrev h60 hown _ rfl hF
 ·exact q81 c who m w hC hO hR hmr hc
theorem qbf (ao:Option Addr) (n cap:Nat) (l:List It) (w:World) (hD:Doc w ao n cap l) (hS:Sch w) :
  Calls Tryz.prog 33 #[.slice ao n cap] w fun e w' => (∃ t,e=.returned (.tuple #[.agg #[.int .i64 t.rev,.slice t.ba t.bn t.bc,.slice t.na t.nn t.nc,.int .i64 t.seq,.slice t.sa t.sn t.sc,.slice t.ha t.hn t.hc,.bool t.jo],.int .i64 (Dc.check l)])∧Cli w' t∧t.cl=(if Dc.check l=0 then ⟨0,l,l,0,[],[],true⟩ else Kl.none))∧Below w.heap.size w w' := by
 by_cases h:Dc.check l=0
 ·rw[if_pos h,h]
  exact q95 ao n cap l w hD hS h
 ·rw[if_neg h]
  exact qbe ao n cap l w hD hS h
theorem yt {w:World} {a b:CV} (ha:Cli w a) (hb:Cli w b) (e:a.cl=b.cl):Calls Tryz.prog 40 #[.agg #[.int .i64 a.rev,.slice a.ba a.bn a.bc,.slice a.na a.nn a.nc,.int .i64 a.seq,.slice a.sa a.sn a.sc,.slice a.ha a.hn a.hc,.bool a.jo],.agg #[.int .i64 b.rev,.slice b.ba b.bn b.bc,.slice b.na b.nn b.nc,.int .i64 b.seq,.slice b.sa b.sn b.sc,.slice b.ha b.hn b.hc,.bool b.jo]] w fun e w' => e=.returned (.bool true)∧Below w.heap.size w w' := by
 have:=q7r a b w ha hb
 rw[e,Kl.same_self] at this
 exact this
structure CwS (c:CV) (m:MV) (n x y:CV) (b0 bm nb xb yb zb:Nat) (wx:World):Prop where
 blc:Blk wx b0 (cvC c) 60
 blm:Blk wx bm (mgC m) 62
 bln:Blk wx nb (cvC n) 60
 blx:Blk wx xb (cvC x) 60
 bly:Blk wx yb (cvC y) 60
 blz:Blk wx zb (cvC cv0) 60
 cc:Cli wx c
 cn:Cli wx n
 cx:Cli wx x
 cy:Cli wx y
theorem CwS.below {c:CV} {m:MV} {n x y:CV} {b0 bm nb xb yb zb:Nat} {wx wy:World} (h:CwS c m n x y b0 bm nb xb yb zb wx) (hb:Below wx.heap.size wx wy):CwS c m n x y b0 bm nb xb yb zb wy :=
 ⟨(hb.block _ h.blc.lt).trans h.blc,(hb.block _ h.blm.lt).trans h.blm,(hb.block _ h.bln.lt).trans h.bln,(hb.block _ h.blx.lt).trans h.blx,(hb.block _ h.bly.lt).trans h.bly,(hb.block _ h.blz.lt).trans h.blz,h.cc.below hb,h.cn.below hb,h.cx.below hb,h.cy.below hb⟩
set_option maxRecDepth 100000 in
set_option maxHeartbeats 12800000 in
theorem q9q (da:Option Addr) (dn dc:Nat) (d:List It) (c:CV) (oa:Option Addr) (on oc:Nat) (os:List PV) (who:Int) (m:MV) (w:World) (hD:Doc w da dn dc d) (hC:Cli w c) (hO:Ops w oa on oc os) (hM:(-9223372036854775808≤m.mr∧m.mr≤9223372036854775807)∧Ops w m.e.ao m.e.n m.e.cap m.e.vs) (hS:Sch w) :
  Calls Tryz.prog 6 #[.slice da dn dc,.agg #[.int .i64 c.rev,.slice c.ba c.bn c.bc,.slice c.na c.nn c.nc,.int .i64 c.seq,.slice c.sa c.sn c.sc,.slice c.ha c.hn c.hc,.bool c.jo],.slice oa on oc,.int .i64 who,.agg #[.int .i64 m.mr,.int .i64 m.e.who,.int .i64 m.e.seq,.slice m.e.ao m.e.n m.e.cap]] w fun e w' => e=.returned (.bool true)∧Below w.heap.size w w' := by
 have h3:Below w.heap.size w (qw m (boxk c w)):=(qe c w).trans ((j2 m _).mono (qe c w).size)
 have HV:=hId h3
 have HBC:Hid (Blk (qw m (boxk c w)) (w.heap.size) (cvC c) 60):=(qx c w).alloc _
 have HBM:Hid (Blk (qw m (boxk c w)) (w.heap.size+1) (mgC m) 62):=by have:=xi m (boxk c w);rw[zl] at this;exact this
 have HCC:Hid (∀ w',Below (qw m (boxk c w)).heap.size (qw m (boxk c w)) w' → Cli w' c):=fun w' hb=>(hC.below h3).below hb
 have HOO:Hid (∀ w',Below (qw m (boxk c w)).heap.size (qw m (boxk c w)) w' → Ops w' oa on oc os):=fun w' hb=>(hO.below h3).below hb
 have HMO:Hid (∀ w',Below (qw m (boxk c w)).heap.size (qw m (boxk c w)) w' → Ops w' m.e.ao m.e.n m.e.cap m.e.vs):=fun w' hb=>(hM.2.below h3).below hb
 have HDD:Hid (∀ w',Below (qw m (boxk c w)).heap.size (qw m (boxk c w)) w' → Doc w' da dn dc d):=fun w' hb=>(hD.below h3).below hb
 have HSC:Hid (∀ w',Below (qw m (boxk c w)).heap.size (qw m (boxk c w)) w' → Sch w'):=fun w' hb=>(hS.below h3).below hb
 have HMR:Hid (-9223372036854775808≤m.mr∧m.mr≤9223372036854775807):=hM.1
 clear hD hC hO hM hS h3
 obtain ⟨K,hK⟩:∃ K,Dc.check d=K:=⟨_,rfl⟩
 have HK:Hid (Dc.check d=K):=hK
 obtain ⟨E1,hE1⟩:∃ E,Kl.DoE c.cl (os.map PV.pt)=E:=⟨_,rfl⟩
 obtain ⟨S1,hS1⟩:∃ S,Kl.DoS c.cl (os.map PV.pt)=S:=⟨_,rfl⟩
 have HE1:Hid (Kl.DoE c.cl (os.map PV.pt)=E1):=hE1
 have HS1:Hid (Kl.DoS c.cl (os.map PV.pt)=S1):=hS1
 obtain ⟨E2,hE2⟩:∃ E,Kl.HearE c.cl who m.mr m.e.en=E:=⟨_,rfl⟩
 obtain ⟨S2,hS2⟩:∃ S,Kl.HearS c.cl who m.mr m.e.en=S:=⟨_,rfl⟩
 have HE2:Hid (Kl.HearE c.cl who m.mr m.e.en=E2):=hE2
 have HS2:Hid (Kl.HearS c.cl who m.mr m.e.en=S2):=hS2
 obtain ⟨B,hB⟩:∃ B,Kl.cliE c.cl=B:=⟨_,rfl⟩
 have HBB:Hid (Kl.cliE c.cl=B):=hB
 have C1:Hid (Calls Tryz.prog 33 #[.slice da dn dc] (qw m (boxk c w)) fun e w' => (∃ t,e=.returned (.tuple #[.agg #[.int .i64 t.rev,.slice t.ba t.bn t.bc,.slice t.na t.nn t.nc,.int .i64 t.seq,.slice t.sa t.sn t.sc,.slice t.ha t.hn t.hc,.bool t.jo],.int .i64 K])∧Cli w' t∧t.cl=(if K=0 then ⟨0,d,d,0,[],[],true⟩ else Kl.none))∧Below (qw m (boxk c w)).heap.size (qw m (boxk c w)) w'):=by have:=qbf da dn dc d (qw m (boxk c w)) (HDD.out _ (Below.refl _ _)) (HSC.out _ (Below.refl _ _));rw[hK] at this;exact this
 have C2:Hid (∀ w',Below (qw m (boxk c w)).heap.size (qw m (boxk c w)) w' → Calls Tryz.prog 34 #[.agg #[.int .i64 c.rev,.slice c.ba c.bn c.bc,.slice c.na c.nn c.nc,.int .i64 c.seq,.slice c.sa c.sn c.sc,.slice c.ha c.hn c.hc,.bool c.jo],.slice oa on oc] w' fun e w'' => (∃ q,e=.returned (.tuple #[.agg #[.int .i64 q.rev,.slice q.ba q.bn q.bc,.slice q.na q.nn q.nc,.int .i64 q.seq,.slice q.sa q.sn q.sc,.slice q.ha q.hn q.hc,.bool q.jo],.bool S1,.int .i64 E1])∧Cli w'' q∧q.cl=Kl.DoC c.cl (os.map PV.pt))∧Below w'.heap.size w' w''):=fun w' hb=>by have:=qcx c oa on oc os w' (HCC.out _ hb) (HOO.out _ hb) (HSC.out _ hb);rw[hE1,hS1] at this;exact this
 have C3:Hid (∀ w',Below (qw m (boxk c w)).heap.size (qw m (boxk c w)) w' → Calls Tryz.prog 35 #[.agg #[.int .i64 c.rev,.slice c.ba c.bn c.bc,.slice c.na c.nn c.nc,.int .i64 c.seq,.slice c.sa c.sn c.sc,.slice c.ha c.hn c.hc,.bool c.jo],.int .i64 who,.agg #[.int .i64 m.mr,.int .i64 m.e.who,.int .i64 m.e.seq,.slice m.e.ao m.e.n m.e.cap]] w' fun e w'' => (∃ q,e=.returned (.tuple #[.agg #[.int .i64 q.rev,.slice q.ba q.bn q.bc,.slice q.na q.nn q.nc,.int .i64 q.seq,.slice q.sa q.sn q.sc,.slice q.ha q.hn q.hc,.bool q.jo],.bool S2,.int .i64 E2])∧Cli w'' q∧q.cl=Kl.HearC c.cl who m.mr m.e.en)∧Below w'.heap.size w' w''):=fun w' hb=>by have:=q4j c who m w' (HCC.out _ hb) (HMO.out _ hb) (HSC.out _ hb);rw[hE2,hS2] at this;exact this
 have C5:Hid (∀ w',Below (qw m (boxk c w)).heap.size (qw m (boxk c w)) w' → Calls Tryz.prog 36 #[.agg #[.int .i64 c.rev,.slice c.ba c.bn c.bc,.slice c.na c.nn c.nc,.int .i64 c.seq,.slice c.sa c.sn c.sc,.slice c.ha c.hn c.hc,.bool c.jo]] w' fun e w'' => e=.returned (.int .i64 B)∧Below w'.heap.size w' w''):=fun w' hb=>by have:=qc9 c w' (HCC.out _ hb);rw[hB] at this;exact this
 have C6:Hid (∀ w',Below (qw m (boxk c w)).heap.size (qw m (boxk c w)) w' → Calls Tryz.prog 37 #[] w' fun e w'' => e=.returned (.bool true)∧Below w'.heap.size w' w''):=fun w' hb=>q9l w' (HSC.out _ hb)
 have C7:Hid (∀ w',Below (qw m (boxk c w)).heap.size (qw m (boxk c w)) w' → Calls Tryz.prog 38 #[.agg #[.int .i64 c.rev,.slice c.ba c.bn c.bc,.slice c.na c.nn c.nc,.int .i64 c.seq,.slice c.sa c.sn c.sc,.slice c.ha c.hn c.hc,.bool c.jo]] w' fun e w'' => e=.returned (.int .i64 B)∧Below w'.heap.size w' w''):=fun w' hb=>by have:=q49 c w' (HCC.out _ hb) (HSC.out _ hb);rw[hB] at this;exact this
 have C8:Hid (∀ w',Below (qw m (boxk c w)).heap.size (qw m (boxk c w)) w' → Calls Tryz.prog 39 #[.agg #[.int .i64 c.rev,.slice c.ba c.bn c.bc,.slice c.na c.nn c.nc,.int .i64 c.seq,.slice c.sa c.sn c.sc,.slice c.ha c.hn c.hc,.bool c.jo],.agg #[.int .i64 c.rev,.slice c.ba c.bn c.bc,.slice c.na c.nn c.nc,.int .i64 c.seq,.slice c.sa c.sn c.sc,.slice c.ha c.hn c.hc,.bool c.jo]] w' fun e w'' => e=.returned (.bool true)∧Below w'.heap.size w' w''):=fun w' hb=>by have:=q8u c c w' (HCC.out _ hb) (HCC.out _ hb);rw[Kl.same_self] at this;exact this
 have C9:Hid (∀ w',Below (qw m (boxk c w)).heap.size (qw m (boxk c w)) w' → Calls Tryz.prog 27 #[.slice da dn dc] w' fun e w'' => e=.returned (.int .i64 K)∧Below w'.heap.size w' w''):=fun w' hb=>by have:=kj da dn dc d w' (HDD.out _ hb);rw[hK] at this;exact this
 clear hK hE1 hS1 hE2 hS2 hB
 go_enter Tryz.func6,Tryz.ntmps6
 go_upto_region 1 with fail
 change Code.wp Tryz.prog _ _ _ (qw m (boxk c w))
 generalize (qw m (boxk c w))=V at *
 go_wp2_with fail
 refine C1.out.mono ?_
 rintro e w1 ⟨⟨n,rfl,hn,hns⟩,hb⟩
 have hb1:Below V.heap.size V (boxk n w1):=hb.trans ((qe n w1).mono hb.size)
 have HB1:=hId hb1
 have HN1:Hid (Cli (boxk n w1) n):=hn.below (qe n w1)
 have HNS:Hid (n.cl=(if K=0 then ⟨0,d,d,0,[],[],true⟩ else Kl.none)):=hns
 have HBN:Hid (Blk (boxk n w1) w1.heap.size (cvC n) 60):=qx n w1
 have HBC1:Hid (Blk (boxk n w1) (w.heap.size) (cvC c) 60):=(hb1.block _ HBC.out.lt).trans HBC.out
 have HBM1:Hid (Blk (boxk n w1) (w.heap.size+1) (mgC m) 62):=(hb1.block _ HBM.out.lt).trans HBM.out
 clear hn hns hb hb1 C1 HBC HBM
 go_upto_region 2 with fail
 change Code.wp Tryz.prog _ _ _ (boxk n w1)
 generalize boxk n w1=W1 at *
 generalize w1.heap.size=nb at *
 have p0:W1.cell? ⟨w.heap.size,0,none⟩=some (.int .i64 c.rev):=HBC1.out.cell 0
 have p1:W1.cell? ⟨w.heap.size,1,none⟩=some (.slice c.ba c.bn c.bc):=HBC1.out.cell 1
 have p2:W1.cell? ⟨w.heap.size,2,none⟩=some (.slice c.na c.nn c.nc):=HBC1.out.cell 2
 have p3:W1.cell? ⟨w.heap.size,3,none⟩=some (.int .i64 c.seq):=HBC1.out.cell 3
 have p4:W1.cell? ⟨w.heap.size,4,none⟩=some (.slice c.sa c.sn c.sc):=HBC1.out.cell 4
 have p5:W1.cell? ⟨w.heap.size,5,none⟩=some (.slice c.ha c.hn c.hc):=HBC1.out.cell 5
 have p6:W1.cell? ⟨w.heap.size,6,none⟩=some (.bool c.jo):=HBC1.out.cell 6
 go_wp2_with fail
 refine (C2.out _ HB1.out).mono ?_
 rintro e w2 ⟨⟨x,rfl,hx,hxc⟩,hb⟩
 have hb2:Below W1.heap.size W1 (boxk x w2):=hb.trans ((qe x w2).mono hb.size)
 have HB2:Hid (Below V.heap.size V (boxk x w2)):=HB1.out.trans (hb2.mono HB1.out.size)
 have HX2:Hid (Cli (boxk x w2) x):=hx.below (qe x w2)
 have HXC:Hid (x.cl=Kl.DoC c.cl (os.map PV.pt)):=hxc
 have HN2:Hid (Cli (boxk x w2) n):=HN1.out.below hb2
 have HBX:Hid (Blk (boxk x w2) w2.heap.size (cvC x) 60):=qx x w2
 have HBN2:Hid (Blk (boxk x w2) nb (cvC n) 60):=(hb2.block _ HBN.out.lt).trans HBN.out
 have HBC2:Hid (Blk (boxk x w2) (w.heap.size) (cvC c) 60):=(hb2.block _ HBC1.out.lt).trans HBC1.out
 have HBM2:Hid (Blk (boxk x w2) (w.heap.size+1) (mgC m) 62):=(hb2.block _ HBM1.out.lt).trans HBM1.out
 clear hx hxc hb hb2 HN1 HBN HBC1 HBM1 HB1
 clear p0 p1 p2 p3 p4 p5 p6
 go_upto_region 3 with fail
 change Code.wp Tryz.prog _ _ _ (boxk x w2)
 generalize boxk x w2=W2 at *
 generalize w2.heap.size=xb at *
 have p0:W2.cell? ⟨w.heap.size,0,none⟩=some (.int .i64 c.rev):=HBC2.out.cell 0
 have p1:W2.cell? ⟨w.heap.size,1,none⟩=some (.slice c.ba c.bn c.bc):=HBC2.out.cell 1
 have p2:W2.cell? ⟨w.heap.size,2,none⟩=some (.slice c.na c.nn c.nc):=HBC2.out.cell 2
 have p3:W2.cell? ⟨w.heap.size,3,none⟩=some (.int .i64 c.seq):=HBC2.out.cell 3
 have p4:W2.cell? ⟨w.heap.size,4,none⟩=some (.slice c.sa c.sn c.sc):=HBC2.out.cell 4
 have p5:W2.cell? ⟨w.heap.size,5,none⟩=some (.slice c.ha c.hn c.hc):=HBC2.out.cell 5
 have p6:W2.cell? ⟨w.heap.size,6,none⟩=some (.bool c.jo):=HBC2.out.cell 6
 have q0:W2.cell? ⟨w.heap.size+1,0,none⟩=some (.int .i64 m.mr):=HBM2.out.cell 0
 have q1:W2.cell? ⟨w.heap.size+1,1,none⟩=some (.int .i64 m.e.who):=HBM2.out.cell 1
 have q2:W2.cell? ⟨w.heap.size+1,2,none⟩=some (.int .i64 m.e.seq):=HBM2.out.cell 2
 have q3:W2.cell? ⟨w.heap.size+1,3,none⟩=some (.slice m.e.ao m.e.n m.e.cap):=HBM2.out.cell 3
 go_wp2_with fail
 refine (C3.out _ HB2.out).mono ?_
 rintro e w3 ⟨⟨y,rfl,hy,hyc⟩,hb⟩
 have hb3:Below W2.heap.size W2 (boxk y w3):=hb.trans ((qe y w3).mono hb.size)
 have hb4:Below W2.heap.size W2 (boxk cv0 (boxk y w3)):=hb3.trans ((qe cv0 _).mono hb3.size)
 have HB4:Hid (Below V.heap.size V (boxk cv0 (boxk y w3))):=HB2.out.trans (hb4.mono HB2.out.size)
 have HYC:Hid (y.cl=Kl.HearC c.cl who m.mr m.e.en):=hyc
 have hcw:CwS c m n x y (w.heap.size) (w.heap.size+1) nb xb w3.heap.size (w3.heap.size+1) (boxk cv0 (boxk y w3)):=⟨(hb4.block _ HBC2.out.lt).trans HBC2.out,(hb4.block _ HBM2.out.lt).trans HBM2.out,(hb4.block _ HBN2.out.lt).trans HBN2.out,(hb4.block _ HBX.out.lt).trans HBX.out,(qx y w3).alloc _,by have:=qx cv0 (boxk y w3);rw[zl] at this;exact this,HCC.out _ HB4.out,HN2.out.below hb4,HX2.out.below hb4,(hy.below (qe y w3)).below (qe cv0 _)⟩
 have HA0:=hId hcw
 clear hy hyc hb hb3 hb4 hcw HN2 HX2 HBX HBN2 HBC2 HBM2 HB2
 clear p0 p1 p2 p3 p4 p5 p6
 clear q0 q1 q2 q3
 go_upto_region 5 with fail
 change Code.wp Tryz.prog _ _ _ (boxk cv0 (boxk y w3))
 generalize boxk cv0 (boxk y w3)=W4 at *
 generalize w3.heap.size+1=zb at *
 generalize w3.heap.size=yb at *
 have HA:Hid (∀ w',Below W4.heap.size W4 w' → CwS c m n x y (w.heap.size) (w.heap.size+1) nb xb yb zb w'):=fun w' hb=>HA0.out.below hb
 have HVV:Hid (∀ w',Below W4.heap.size W4 w' → Below V.heap.size V w'):=fun w' hb=>HB4.out.trans (hb.mono HB4.out.size)
 have HFIN:Hid (∀ w',Below W4.heap.size W4 w' → Below w.heap.size w w'):=fun w' hb=>HV.out.trans ((HVV.out _ hb).mono HV.out.size)
 clear HA0
 have hA:=HA.out W4 (Below.refl _ _)
 have p0:W4.cell? ⟨w.heap.size,0,none⟩=some (.int .i64 c.rev):=hA.blc.cell 0
 have p1:W4.cell? ⟨w.heap.size,1,none⟩=some (.slice c.ba c.bn c.bc):=hA.blc.cell 1
 have p2:W4.cell? ⟨w.heap.size,2,none⟩=some (.slice c.na c.nn c.nc):=hA.blc.cell 2
 have p3:W4.cell? ⟨w.heap.size,3,none⟩=some (.int .i64 c.seq):=hA.blc.cell 3
 have p4:W4.cell? ⟨w.heap.size,4,none⟩=some (.slice c.sa c.sn c.sc):=hA.blc.cell 4
 have p5:W4.cell? ⟨w.heap.size,5,none⟩=some (.slice c.ha c.hn c.hc):=hA.blc.cell 5
 have p6:W4.cell? ⟨w.heap.size,6,none⟩=some (.bool c.jo):=hA.blc.cell 6
 clear hA
 go_wp2_with fail
 refine (C5.out _ HB4.out).mono ?_
 rintro e w5 ⟨rfl,hb⟩
 have HB5:=hId hb
 clear hb
 clear p0 p1 p2 p3 p4 p5 p6
 go_wp2_with fail
 refine (C6.out _ (HVV.out _ HB5.out)).mono ?_
 rintro e w6 ⟨rfl,hb⟩
 have HB6:Hid (Below W4.heap.size W4 w6):=HB5.out.trans (hb.mono HB5.out.size)
 clear hb
 have hA:=HA.out w6 HB6.out
 have p0:w6.cell? ⟨w.heap.size,0,none⟩=some (.int .i64 c.rev):=hA.blc.cell 0
 have p1:w6.cell? ⟨w.heap.size,1,none⟩=some (.slice c.ba c.bn c.bc):=hA.blc.cell 1
 have p2:w6.cell? ⟨w.heap.size,2,none⟩=some (.slice c.na c.nn c.nc):=hA.blc.cell 2
 have p3:w6.cell? ⟨w.heap.size,3,none⟩=some (.int .i64 c.seq):=hA.blc.cell 3
 have p4:w6.cell? ⟨w.heap.size,4,none⟩=some (.slice c.sa c.sn c.sc):=hA.blc.cell 4
 have p5:w6.cell? ⟨w.heap.size,5,none⟩=some (.slice c.ha c.hn c.hc):=hA.blc.cell 5
 have p6:w6.cell? ⟨w.heap.size,6,none⟩=some (.bool c.jo):=hA.blc.cell 6
 clear hA
 go_wp2_with fail
 refine (C7.out _ (HVV.out _ HB6.out)).mono ?_
 rintro e w7 ⟨rfl,hb⟩
 have HB7:Hid (Below W4.heap.size W4 w7):=HB6.out.trans (hb.mono HB6.out.size)
 clear hb
 clear p0 p1 p2 p3 p4 p5 p6
 have hA:=HA.out w7 HB7.out
 have p0:w7.cell? ⟨w.heap.size,0,none⟩=some (.int .i64 c.rev):=hA.blc.cell 0
 have p1:w7.cell? ⟨w.heap.size,1,none⟩=some (.slice c.ba c.bn c.bc):=hA.blc.cell 1
 have p2:w7.cell? ⟨w.heap.size,2,none⟩=some (.slice c.na c.nn c.nc):=hA.blc.cell 2
 have p3:w7.cell? ⟨w.heap.size,3,none⟩=some (.int .i64 c.seq):=hA.blc.cell 3
 have p4:w7.cell? ⟨w.heap.size,4,none⟩=some (.slice c.sa c.sn c.sc):=hA.blc.cell 4
 have p5:w7.cell? ⟨w.heap.size,5,none⟩=some (.slice c.ha c.hn c.hc):=hA.blc.cell 5
 have p6:w7.cell? ⟨w.heap.size,6,none⟩=some (.bool c.jo):=hA.blc.cell 6
 clear hA
 have hbb:(B != B)=false:=by simp
 go_wp2_with fail
 refine (C8.out _ (HVV.out _ HB7.out)).mono ?_
 rintro e w8 ⟨rfl,hb⟩
 have HB8:Hid (Below W4.heap.size W4 w8):=HB7.out.trans (hb.mono HB7.out.size)
 clear hb
 clear p0 p1 p2 p3 p4 p5 p6
 go_wp2_with fail
 refine (C9.out _ (HVV.out _ HB8.out)).mono ?_
 rintro e w9 ⟨rfl,hb⟩
 have HB9:Hid (Below W4.heap.size W4 w9):=HB8.out.trans (hb.mono HB8.out.size)
 clear hb
 have hA:=HA.out w9 HB9.out
 have p0:w9.cell? ⟨nb,0,none⟩=some (.int .i64 n.rev):=hA.bln.cell 0
 have p1:w9.cell? ⟨nb,1,none⟩=some (.slice n.ba n.bn n.bc):=hA.bln.cell 1
 have p2:w9.cell? ⟨nb,2,none⟩=some (.slice n.na n.nn n.nc):=hA.bln.cell 2
 have p3:w9.cell? ⟨nb,3,none⟩=some (.int .i64 n.seq):=hA.bln.cell 3
 have p4:w9.cell? ⟨nb,4,none⟩=some (.slice n.sa n.sn n.sc):=hA.bln.cell 4
 have p5:w9.cell? ⟨nb,5,none⟩=some (.slice n.ha n.hn n.hc):=hA.bln.cell 5
 have p6:w9.cell? ⟨nb,6,none⟩=some (.bool n.jo):=hA.bln.cell 6
 have z0:w9.cell? ⟨zb,0,none⟩=some (.int .i64 0):=hA.blz.cell 0
 have z1:w9.cell? ⟨zb,1,none⟩=some (.slice none 0 0):=hA.blz.cell 1
 have z2:w9.cell? ⟨zb,2,none⟩=some (.slice none 0 0):=hA.blz.cell 2
 have z3:w9.cell? ⟨zb,3,none⟩=some (.int .i64 0):=hA.blz.cell 3
 have z4:w9.cell? ⟨zb,4,none⟩=some (.slice none 0 0):=hA.blz.cell 4
 have z5:w9.cell? ⟨zb,5,none⟩=some (.slice none 0 0):=hA.blz.cell 5
 have z6:w9.cell? ⟨zb,6,none⟩=some (.bool false):=hA.blz.cell 6
 clear hA
 have hkk:(K != K)=false:=by simp
 go_upto_region 9 with fail
 go_cut [91] from 67 to 91 (fun v wx=>v=.bool false∧Below w9.heap.size w9 wx)
 case first =>
  by_cases hk:K=0
  ·have CS:Calls Tryz.prog 40 #[.agg #[.int .i64 n.rev,.slice n.ba n.bn n.bc,.slice n.na n.nn n.nc,.int .i64 n.seq,.slice n.sa n.sn n.sc,.slice n.ha n.hn n.hc,.bool n.jo],.agg #[.int .i64 0,.slice da dn dc,.slice da dn dc,.int .i64 0,.slice none 0 0,.slice none 0 0,.bool true]] w9 fun e w' => e=.returned (.bool true)∧Below w9.heap.size w9 w' := yt (a:=n) (b:=⟨0,da,dn,dc,d,da,dn,dc,d,0,none,0,0,[],none,0,0,[],true⟩) (HA.out _ HB9.out).cn ⟨HDD.out _ (HVV.out _ HB9.out),HDD.out _ (HVV.out _ HB9.out),jy _,jy _⟩ (by rw[HNS.out,if_pos hk];rfl)
   have hk1:(K == 0)=true:=by simp[hk]
   have hk2:(K != 0)=false:=by simp[hk]
   clear hk
   go_wp2_with fail
   refine CS.mono ?_
   rintro e wa ⟨rfl,hb⟩
   go_wp2_with fail
   go_meet
   exact ⟨rfl,hb⟩
  ·have CS:Calls Tryz.prog 40 #[.agg #[.int .i64 n.rev,.slice n.ba n.bn n.bc,.slice n.na n.nn n.nc,.int .i64 n.seq,.slice n.sa n.sn n.sc,.slice n.ha n.hn n.hc,.bool n.jo],.agg #[.int .i64 0,.slice none 0 0,.slice none 0 0,.int .i64 0,.slice none 0 0,.slice none 0 0,.bool false]] w9 fun e w' => e=.returned (.bool true)∧Below w9.heap.size w9 w' := yt (a:=n) (b:=cv0) (HA.out _ HB9.out).cn (Cli.nil _) (by rw[HNS.out,if_neg hk];rfl)
   have hk1:(K == 0)=false:=by simp[hk]
   have hk2:(K != 0)=true:=by simp[hk]
   clear hk
   go_wp2_with fail
   refine CS.mono ?_
   rintro e wa ⟨rfl,hb⟩
   go_wp2_with fail
   go_meet
   exact ⟨rfl,hb⟩
 case rest =>
  obtain ⟨rfl,hba⟩:=hcut
  generalize wc=wa at *
  have HBA:Hid (Below W4.heap.size W4 wa):=HB9.out.trans (hba.mono HB9.out.size)
  clear hba
  clear p0 p1 p2 p3 p4 p5 p6
  clear z0 z1 z2 z3 z4 z5 z6
  by_cases hB:B=0
  ·have HR:Hid (Kl.Rc c.cl):=Kl.cli_0 (HBB.out.trans hB)
   have hd1:Kl.DoE c.cl (os.map PV.pt)=Kl.doE c.cl (os.map PV.pt):=if_pos (HBB.out.trans hB)
   have hd2:(if Kl.doE c.cl (os.map PV.pt)=0 then Kl.doS c.cl else false)=S1:=by rw[← HS1.out];unfold Kl.DoS;rw[hd1]
   have hd3:(if Kl.doE c.cl (os.map PV.pt)=0 then Kl.doC c.cl (os.map PV.pt) else Kl.none)=Kl.DoC c.cl (os.map PV.pt):=by unfold Kl.DoC;rw[hd1]
   have hg1:Kl.HearE c.cl who m.mr m.e.en=Kl.heE c.cl who m.mr m.e.en:=if_pos (HBB.out.trans hB)
   have hg2:(if Kl.heE c.cl who m.mr m.e.en=0 then Kl.heS c.cl who m.mr m.e.en else false)=S2:=by rw[← HS2.out];unfold Kl.HearS;rw[hg1]
   have hg3:(if Kl.heE c.cl who m.mr m.e.en=0 then Kl.heC c.cl who m.mr m.e.en else Kl.none)=Kl.HearC c.cl who m.mr m.e.en:=by unfold Kl.HearC;rw[hg1]
   have D1:Hid (∀ w',Below W4.heap.size W4 w' → Calls Tryz.prog 41 #[.agg #[.int .i64 c.rev,.slice c.ba c.bn c.bc,.slice c.na c.nn c.nc,.int .i64 c.seq,.slice c.sa c.sn c.sc,.slice c.ha c.hn c.hc,.bool c.jo],.slice oa on oc] w' fun e w'' => (∃ q,e=.returned (.tuple #[.agg #[.int .i64 q.rev,.slice q.ba q.bn q.bc,.slice q.na q.nn q.nc,.int .i64 q.seq,.slice q.sa q.sn q.sc,.slice q.ha q.hn q.hc,.bool q.jo],.bool S1,.int .i64 E1])∧Cli w'' q∧q.cl=Kl.DoC c.cl (os.map PV.pt))∧Below w'.heap.size w' w''):=fun w' hb=>by
    have:=q9p c oa on oc os w' (HA.out _ hb).cc (HOO.out _ (HVV.out _ hb)) HR.out.qlo HR.out.qhi
    rw[hd2,hd3,← hd1,HE1.out] at this
    exact this
   have D2:Hid (∀ w',Below W4.heap.size W4 w' → Calls Tryz.prog 42 #[.agg #[.int .i64 c.rev,.slice c.ba c.bn c.bc,.slice c.na c.nn c.nc,.int .i64 c.seq,.slice c.sa c.sn c.sc,.slice c.ha c.hn c.hc,.bool c.jo],.int .i64 who,.agg #[.int .i64 m.mr,.int .i64 m.e.who,.int .i64 m.e.seq,.slice m.e.ao m.e.n m.e.cap]] w' fun e w'' => (∃ q,e=.returned (.tuple #[.agg #[.int .i64 q.rev,.slice q.ba q.bn q.bc,.slice q.na q.nn q.nc,.int .i64 q.seq,.slice q.sa q.sn q.sc,.slice q.ha q.hn q.hc,.bool q.jo],.bool S2,.int .i64 E2])∧Cli w'' q∧q.cl=Kl.HearC c.cl who m.mr m.e.en)∧Below w'.heap.size w' w''):=fun w' hb=>by
    have:=q9k c who m w' (HA.out _ hb).cc (HMO.out _ (HVV.out _ hb)) HR.out HMR.out
    rw[hg2,hg3,← hg1,HE2.out] at this
    exact this
   subst hB
   clear hd1 hd2 hd3 hg1 hg2 hg3
   have hA:=HA.out wa HBA.out
   have p0:wa.cell? ⟨w.heap.size,0,none⟩=some (.int .i64 c.rev):=hA.blc.cell 0
   have p1:wa.cell? ⟨w.heap.size,1,none⟩=some (.slice c.ba c.bn c.bc):=hA.blc.cell 1
   have p2:wa.cell? ⟨w.heap.size,2,none⟩=some (.slice c.na c.nn c.nc):=hA.blc.cell 2
   have p3:wa.cell? ⟨w.heap.size,3,none⟩=some (.int .i64 c.seq):=hA.blc.cell 3
   have p4:wa.cell? ⟨w.heap.size,4,none⟩=some (.slice c.sa c.sn c.sc):=hA.blc.cell 4
   have p5:wa.cell? ⟨w.heap.size,5,none⟩=some (.slice c.ha c.hn c.hc):=hA.blc.cell 5
   have p6:wa.cell? ⟨w.heap.size,6,none⟩=some (.bool c.jo):=hA.blc.cell 6
   clear hA
   go_wp2_with fail
   refine (D1.out _ HBA.out).mono ?_
   rintro e wb ⟨⟨X,rfl,hX,hXC⟩,hb⟩
   have hbb2:Below wa.heap.size wa (boxk X wb):=hb.trans ((qe X wb).mono hb.size)
   have HBB2:Hid (Below W4.heap.size W4 (boxk X wb)):=HBA.out.trans (hbb2.mono HBA.out.size)
   have HX1:Hid (Cli (boxk X wb) X):=hX.below (qe X wb)
   have HXE:Hid (x.cl=X.cl):=HXC.out.trans hXC.symm
   have HBXX:Hid (Blk (boxk X wb) wb.heap.size (cvC X) 60):=qx X wb
   clear hX hXC hb hbb2
   clear p0 p1 p2 p3 p4 p5 p6
   go_upto_region 14 with fail
   change Code.wp Tryz.prog _ _ _ (boxk X wb)
   generalize boxk X wb=WB at *
   generalize wb.heap.size=Xb at *
   have hA:=HA.out WB HBB2.out
   have p0:WB.cell? ⟨w.heap.size,0,none⟩=some (.int .i64 c.rev):=hA.blc.cell 0
   have p1:WB.cell? ⟨w.heap.size,1,none⟩=some (.slice c.ba c.bn c.bc):=hA.blc.cell 1
   have p2:WB.cell? ⟨w.heap.size,2,none⟩=some (.slice c.na c.nn c.nc):=hA.blc.cell 2
   have p3:WB.cell? ⟨w.heap.size,3,none⟩=some (.int .i64 c.seq):=hA.blc.cell 3
   have p4:WB.cell? ⟨w.heap.size,4,none⟩=some (.slice c.sa c.sn c.sc):=hA.blc.cell 4
   have p5:WB.cell? ⟨w.heap.size,5,none⟩=some (.slice c.ha c.hn c.hc):=hA.blc.cell 5
   have p6:WB.cell? ⟨w.heap.size,6,none⟩=some (.bool c.jo):=hA.blc.cell 6
   have q0:WB.cell? ⟨w.heap.size+1,0,none⟩=some (.int .i64 m.mr):=hA.blm.cell 0
   have q1:WB.cell? ⟨w.heap.size+1,1,none⟩=some (.int .i64 m.e.who):=hA.blm.cell 1
   have q2:WB.cell? ⟨w.heap.size+1,2,none⟩=some (.int .i64 m.e.seq):=hA.blm.cell 2
   have q3:WB.cell? ⟨w.heap.size+1,3,none⟩=some (.slice m.e.ao m.e.n m.e.cap):=hA.blm.cell 3
   clear hA
   go_wp2_with fail
   refine (D2.out _ HBB2.out).mono ?_
   rintro e we ⟨⟨Y,rfl,hY,hYC⟩,hb⟩
   have hbb3:Below WB.heap.size WB (boxk Y we):=hb.trans ((qe Y we).mono hb.size)
   have HBE:Hid (Below W4.heap.size W4 (boxk Y we)):=HBB2.out.trans (hbb3.mono HBB2.out.size)
   have HY1:Hid (Cli (boxk Y we) Y):=hY.below (qe Y we)
   have HYE:Hid (y.cl=Y.cl):=HYC.out.trans hYC.symm
   have HBYY:Hid (Blk (boxk Y we) we.heap.size (cvC Y) 60):=qx Y we
   have HX3:Hid (Cli (boxk Y we) X):=HX1.out.below hbb3
   have HBX3:Hid (Blk (boxk Y we) Xb (cvC X) 60):=(hbb3.block _ HBXX.out.lt).trans HBXX.out
   clear hY hYC hb hbb3 HX1 HBXX
   clear p0 p1 p2 p3 p4 p5 p6
   clear q0 q1 q2 q3
   go_upto_region 15 with fail
   change Code.wp Tryz.prog _ _ _ (boxk Y we)
   generalize boxk Y we=WE at *
   generalize we.heap.size=Yb at *
   have hA:=HA.out WE HBE.out
   have p0:WE.cell? ⟨xb,0,none⟩=some (.int .i64 x.rev):=hA.blx.cell 0
   have p1:WE.cell? ⟨xb,1,none⟩=some (.slice x.ba x.bn x.bc):=hA.blx.cell 1
   have p2:WE.cell? ⟨xb,2,none⟩=some (.slice x.na x.nn x.nc):=hA.blx.cell 2
   have p3:WE.cell? ⟨xb,3,none⟩=some (.int .i64 x.seq):=hA.blx.cell 3
   have p4:WE.cell? ⟨xb,4,none⟩=some (.slice x.sa x.sn x.sc):=hA.blx.cell 4
   have p5:WE.cell? ⟨xb,5,none⟩=some (.slice x.ha x.hn x.hc):=hA.blx.cell 5
   have p6:WE.cell? ⟨xb,6,none⟩=some (.bool x.jo):=hA.blx.cell 6
   clear hA
   have z0:WE.cell? ⟨Xb,0,none⟩=some (.int .i64 X.rev):=HBX3.out.cell 0
   have z1:WE.cell? ⟨Xb,1,none⟩=some (.slice X.ba X.bn X.bc):=HBX3.out.cell 1
   have z2:WE.cell? ⟨Xb,2,none⟩=some (.slice X.na X.nn X.nc):=HBX3.out.cell 2
   have z3:WE.cell? ⟨Xb,3,none⟩=some (.int .i64 X.seq):=HBX3.out.cell 3
   have z4:WE.cell? ⟨Xb,4,none⟩=some (.slice X.sa X.sn X.sc):=HBX3.out.cell 4
   have z5:WE.cell? ⟨Xb,5,none⟩=some (.slice X.ha X.hn X.hc):=HBX3.out.cell 5
   have z6:WE.cell? ⟨Xb,6,none⟩=some (.bool X.jo):=HBX3.out.cell 6
   have e1:(E1 == E1)=true:=by simp
   have e2:(S1 == S1)=true:=by simp
   have e3:(E2 == E2)=true:=by simp
   have e4:(S2 == S2)=true:=by simp
   have CS1:Hid (Calls Tryz.prog 40 #[.agg #[.int .i64 x.rev,.slice x.ba x.bn x.bc,.slice x.na x.nn x.nc,.int .i64 x.seq,.slice x.sa x.sn x.sc,.slice x.ha x.hn x.hc,.bool x.jo],.agg #[.int .i64 X.rev,.slice X.ba X.bn X.bc,.slice X.na X.nn X.nc,.int .i64 X.seq,.slice X.sa X.sn X.sc,.slice X.ha X.hn X.hc,.bool X.jo]] WE fun e w' => e=.returned (.bool true)∧Below WE.heap.size WE w'):=yt (HA.out _ HBE.out).cx HX3.out HXE.out
   go_wp2_with fail
   refine CS1.out.mono ?_
   rintro e wf ⟨rfl,hb⟩
   have HBF:Hid (Below W4.heap.size W4 wf):=HBE.out.trans (hb.mono HBE.out.size)
   have hbY:Blk wf Yb (cvC Y) 60:=(hb.block _ HBYY.out.lt).trans HBYY.out
   have CS2:Hid (Calls Tryz.prog 40 #[.agg #[.int .i64 y.rev,.slice y.ba y.bn y.bc,.slice y.na y.nn y.nc,.int .i64 y.seq,.slice y.sa y.sn y.sc,.slice y.ha y.hn y.hc,.bool y.jo],.agg #[.int .i64 Y.rev,.slice Y.ba Y.bn Y.bc,.slice Y.na Y.nn Y.nc,.int .i64 Y.seq,.slice Y.sa Y.sn Y.sc,.slice Y.ha Y.hn Y.hc,.bool Y.jo]] wf fun e w' => e=.returned (.bool true)∧Below wf.heap.size wf w'):=yt (HA.out _ HBF.out).cy (HY1.out.below hb) HYE.out
   clear hb CS1
   clear p0 p1 p2 p3 p4 p5 p6
   clear z0 z1 z2 z3 z4 z5 z6
   have hA:=HA.out wf HBF.out
   have p0:wf.cell? ⟨yb,0,none⟩=some (.int .i64 y.rev):=hA.bly.cell 0
   have p1:wf.cell? ⟨yb,1,none⟩=some (.slice y.ba y.bn y.bc):=hA.bly.cell 1
   have p2:wf.cell? ⟨yb,2,none⟩=some (.slice y.na y.nn y.nc):=hA.bly.cell 2
   have p3:wf.cell? ⟨yb,3,none⟩=some (.int .i64 y.seq):=hA.bly.cell 3
   have p4:wf.cell? ⟨yb,4,none⟩=some (.slice y.sa y.sn y.sc):=hA.bly.cell 4
   have p5:wf.cell? ⟨yb,5,none⟩=some (.slice y.ha y.hn y.hc):=hA.bly.cell 5
   have p6:wf.cell? ⟨yb,6,none⟩=some (.bool y.jo):=hA.bly.cell 6
   clear hA
   have z0:wf.cell? ⟨Yb,0,none⟩=some (.int .i64 Y.rev):=hbY.cell 0
   have z1:wf.cell? ⟨Yb,1,none⟩=some (.slice Y.ba Y.bn Y.bc):=hbY.cell 1
   have z2:wf.cell? ⟨Yb,2,none⟩=some (.slice Y.na Y.nn Y.nc):=hbY.cell 2
   have z3:wf.cell? ⟨Yb,3,none⟩=some (.int .i64 Y.seq):=hbY.cell 3
   have z4:wf.cell? ⟨Yb,4,none⟩=some (.slice Y.sa Y.sn Y.sc):=hbY.cell 4
   have z5:wf.cell? ⟨Yb,5,none⟩=some (.slice Y.ha Y.hn Y.hc):=hbY.cell 5
   have z6:wf.cell? ⟨Yb,6,none⟩=some (.bool Y.jo):=hbY.cell 6
   clear hbY
   go_wp2_with fail
   refine CS2.out.mono ?_
   rintro e wg ⟨rfl,hb⟩
   have HBG:Hid (Below W4.heap.size W4 wg):=HBF.out.trans (hb.mono HBF.out.size)
   clear hb CS2
   go_wp2
   go_ret
   exact ⟨rfl,HFIN.out _ HBG.out⟩
  ·have hne:(B != 0)=true:=by simp[hB]
   have hc0:¬ Kl.cliE c.cl=0:=by rw[HBB.out];exact hB
   have hd1:Kl.DoE c.cl (os.map PV.pt)=Kl.cliE c.cl:=if_neg hc0
   have hg1:Kl.HearE c.cl who m.mr m.e.en=Kl.cliE c.cl:=if_neg hc0
   obtain rfl:E1=B:=HE1.out.symm.trans (hd1.trans HBB.out)
   obtain rfl:E2=E1:=HE2.out.symm.trans (hg1.trans HBB.out)
   obtain rfl:S1=false:=by rw[← HS1.out];unfold Kl.DoS;rw[hd1,if_neg hc0]
   obtain rfl:S2=false:=by rw[← HS2.out];unfold Kl.HearS;rw[hg1,if_neg hc0]
   have HXE:Hid (x.cl=cv0.cl):=by rw[HXC.out];unfold Kl.DoC;rw[hd1,if_neg hc0];exact rfl
   have HYE:Hid (y.cl=cv0.cl):=by rw[HYC.out];unfold Kl.HearC;rw[hg1,if_neg hc0];exact rfl
   clear hc0 hd1 hg1
   have e1:(E2 == E2)=true:=by simp
   have hA:=HA.out wa HBA.out
   have p0:wa.cell? ⟨xb,0,none⟩=some (.int .i64 x.rev):=hA.blx.cell 0
   have p1:wa.cell? ⟨xb,1,none⟩=some (.slice x.ba x.bn x.bc):=hA.blx.cell 1
   have p2:wa.cell? ⟨xb,2,none⟩=some (.slice x.na x.nn x.nc):=hA.blx.cell 2
   have p3:wa.cell? ⟨xb,3,none⟩=some (.int .i64 x.seq):=hA.blx.cell 3
   have p4:wa.cell? ⟨xb,4,none⟩=some (.slice x.sa x.sn x.sc):=hA.blx.cell 4
   have p5:wa.cell? ⟨xb,5,none⟩=some (.slice x.ha x.hn x.hc):=hA.blx.cell 5
   have p6:wa.cell? ⟨xb,6,none⟩=some (.bool x.jo):=hA.blx.cell 6
   have z0:wa.cell? ⟨zb,0,none⟩=some (.int .i64 0):=hA.blz.cell 0
   have z1:wa.cell? ⟨zb,1,none⟩=some (.slice none 0 0):=hA.blz.cell 1
   have z2:wa.cell? ⟨zb,2,none⟩=some (.slice none 0 0):=hA.blz.cell 2
   have z3:wa.cell? ⟨zb,3,none⟩=some (.int .i64 0):=hA.blz.cell 3
   have z4:wa.cell? ⟨zb,4,none⟩=some (.slice none 0 0):=hA.blz.cell 4
   have z5:wa.cell? ⟨zb,5,none⟩=some (.slice none 0 0):=hA.blz.cell 5
   have z6:wa.cell? ⟨zb,6,none⟩=some (.bool false):=hA.blz.cell 6
   clear hA
   have CS1:Hid (Calls Tryz.prog 40 #[.agg #[.int .i64 x.rev,.slice x.ba x.bn x.bc,.slice x.na x.nn x.nc,.int .i64 x.seq,.slice x.sa x.sn x.sc,.slice x.ha x.hn x.hc,.bool x.jo],.agg #[.int .i64 0,.slice none 0 0,.slice none 0 0,.int .i64 0,.slice none 0 0,.slice none 0 0,.bool false]] wa fun e w' => e=.returned (.bool true)∧Below wa.heap.size wa w'):=yt (a:=x) (b:=cv0) (HA.out _ HBA.out).cx (Cli.nil _) HXE.out
   go_wp2_with fail
   refine CS1.out.mono ?_
   rintro e wb ⟨rfl,hb⟩
   have HBB2:Hid (Below W4.heap.size W4 wb):=HBA.out.trans (hb.mono HBA.out.size)
   have CS2:Hid (Calls Tryz.prog 40 #[.agg #[.int .i64 y.rev,.slice y.ba y.bn y.bc,.slice y.na y.nn y.nc,.int .i64 y.seq,.slice y.sa y.sn y.sc,.slice y.ha y.hn y.hc,.bool y.jo],.agg #[.int .i64 0,.slice none 0 0,.slice none 0 0,.int .i64 0,.slice none 0 0,.slice none 0 0,.bool false]] wb fun e w' => e=.returned (.bool true)∧Below wb.heap.size wb w'):=yt (a:=y) (b:=cv0) (HA.out _ HBB2.out).cy (Cli.nil _) HYE.out
   clear hb CS1
   clear p0 p1 p2 p3 p4 p5 p6
   clear z0 z1 z2 z3 z4 z5 z6
   have hA:=HA.out wb HBB2.out
   have p0:wb.cell? ⟨yb,0,none⟩=some (.int .i64 y.rev):=hA.bly.cell 0
   have p1:wb.cell? ⟨yb,1,none⟩=some (.slice y.ba y.bn y.bc):=hA.bly.cell 1
   have p2:wb.cell? ⟨yb,2,none⟩=some (.slice y.na y.nn y.nc):=hA.bly.cell 2
   have p3:wb.cell? ⟨yb,3,none⟩=some (.int .i64 y.seq):=hA.bly.cell 3
   have p4:wb.cell? ⟨yb,4,none⟩=some (.slice y.sa y.sn y.sc):=hA.bly.cell 4
   have p5:wb.cell? ⟨yb,5,none⟩=some (.slice y.ha y.hn y.hc):=hA.bly.cell 5
   have p6:wb.cell? ⟨yb,6,none⟩=some (.bool y.jo):=hA.bly.cell 6
   have z0:wb.cell? ⟨zb,0,none⟩=some (.int .i64 0):=hA.blz.cell 0
   have z1:wb.cell? ⟨zb,1,none⟩=some (.slice none 0 0):=hA.blz.cell 1
   have z2:wb.cell? ⟨zb,2,none⟩=some (.slice none 0 0):=hA.blz.cell 2
   have z3:wb.cell? ⟨zb,3,none⟩=some (.int .i64 0):=hA.blz.cell 3
   have z4:wb.cell? ⟨zb,4,none⟩=some (.slice none 0 0):=hA.blz.cell 4
   have z5:wb.cell? ⟨zb,5,none⟩=some (.slice none 0 0):=hA.blz.cell 5
   have z6:wb.cell? ⟨zb,6,none⟩=some (.bool false):=hA.blz.cell 6
   clear hA
   go_wp2_with fail
   refine CS2.out.mono ?_
   rintro e we ⟨rfl,hb⟩
   have HBE:Hid (Below W4.heap.size W4 we):=HBB2.out.trans (hb.mono HBB2.out.size)
   clear hb CS2
   go_wp2
   go_ret
   exact ⟨rfl,HFIN.out _ HBE.out⟩
end Go.Proofs.YtbhcklkbckacpaaGreatDoor
