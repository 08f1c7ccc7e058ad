/- A part. -/
import Derived.Test.YtbhcklkbckacpaaGreatDoorYt0
import Derived.Test.YtbhcklkbckacpaaGreatDoorYi
namespace Go.Proofs.YtbhcklkbckacpaaGreatDoor
open Go.RowKit
set_option maxRecDepth 100000 in
set_option maxHeartbeats 12800000 in
theorem q81 (c:CV) (who:Int) (m:MV) (w:World) (hC:Cli w c) (hO:Ops w m.e.ao m.e.n m.e.cap m.e.vs) (hR:Kl.Rc c.cl) (hmr:-9223372036854775808≤m.mr∧m.mr≤9223372036854775807) (hnot:¬ (¬ m.e.n=0∧Ac.chk (m.e.vs.map PV.pt)=0∧m.mr=c.rev+1∧¬ c.rev=60∧Kl.isOwn c.cl who m.e.en=false)) :
  Calls Tryz.prog 42 #[.agg #[.int .i64 c.rev,.slice c.ba c.bn c.bc,.slice c.na c.nn c.nc,.int .i64 c.seq,.slice c.sa c.sn c.sc,.slice c.ha c.hn c.hc,.bool c.jo],.int .i64 who,.agg #[.int .i64 m.mr,.int .i64 m.e.who,.int .i64 m.e.seq,.slice m.e.ao m.e.n m.e.cap]] w fun e w' => Ans (Kl.heE c.cl who m.mr m.e.en) (if Kl.heE c.cl who m.mr m.e.en=0 then Kl.heS c.cl who m.mr m.e.en else false) (if Kl.heE c.cl who m.mr m.e.en=0 then Kl.heC c.cl who m.mr m.e.en else Kl.none) e w' ∧ Below w.heap.size w w' := by
 have hA:Below w.heap.size w (qw m (boxk c w)):=(qe c w).trans ((j2 m _).mono (qe c w).size)
 have h1:Below w.heap.size w (boxk cv0 (qw m (boxk c w))):=hA.trans ((qe cv0 _).mono hA.size)
 have H0:Hid (HrR w c m (boxk cv0 (qw m (boxk c w)))):=⟨⟨((qx c w).alloc _).alloc _,hC.below h1⟩,by have:=(xi m (boxk c w)).alloc (.cells #[.int .i64 0,.slice none 0 0,.slice none 0 0,.int .i64 0,.slice none 0 0,.slice none 0 0,.bool false] 60);rw[zl] at this;exact this,by have:=qx cv0 (qw m (boxk c w));rw[xp,zl] at this;exact this,hO.below h1,h1⟩
 have hsl:(c.sent.map PV.pt).length=c.sn:=zm hC.sent
 have hhl:(c.held.map PV.pt).length=c.hn:=zm hC.held
 have hml:m.e.en.o.length=m.e.n:=zm hO
 have HR:=hId hR
 have HMR:Hid (-9223372036854775808≤m.mr∧m.mr≤9223372036854775807):=hmr
 clear hmr
 have HNO:Hid (¬ (¬ m.e.n=0∧Ac.chk (m.e.vs.map PV.pt)=0∧m.mr=c.rev+1∧¬ c.rev=60∧Kl.isOwn c.cl who m.e.en=false)):=hnot
 clear hnot
 have r3:(0:Int)≤c.rev:=hR.lo
 have r4:c.rev≤60:=hR.hi
 have r5:(0:Int)≤c.seq:=hR.qlo
 have r6:c.seq≤10000:=hR.qhi
 have HOW:Hid (Kl.isOwn c.cl who m.e.en=((m.e.who == who)&&((m.e.seq == c.seq)&&decide (0<c.sn)))):=q3i c who m.e hsl
 clear hC hO hA h1 hR
 obtain ⟨E,hE⟩:∃ E,Kl.heE c.cl who m.mr m.e.en=E:=⟨_,rfl⟩
 obtain ⟨S,hS⟩:∃ S,Kl.heS c.cl who m.mr m.e.en=S:=⟨_,rfl⟩
 obtain ⟨C,hC⟩:∃ C,Kl.heC c.cl who m.mr m.e.en=C:=⟨_,rfl⟩
 rw[hE,hS,hC]
 obtain ⟨S0,hS0⟩:∃ S0,(if E=0 then S else false)=S0:=⟨_,rfl⟩
 obtain ⟨C0,hC0⟩:∃ C0,(if E=0 then C else Kl.none)=C0:=⟨_,rfl⟩
 rw[hS0,hC0]
 have HS0:Hid ((if E=0 then S else false)=S0):=hS0
 have HC0:Hid ((if E=0 then C else Kl.none)=C0):=hC0
 unfold Kl.heE at hE
 unfold Kl.heS at hS
 unfold Kl.heC at hC
 obtain ⟨O,hO⟩:∃ O,Kl.isOwn c.cl who m.e.en=O:=⟨_,rfl⟩
 rw[hO] at hE hS hC
 have HO1:Hid (Kl.isOwn c.cl who m.e.en=O):=hO
 rw[hml] at hE hS hC
 have HE:Hid ((if m.e.n=0 then (0:Int) else if Ac.chk (m.e.vs.map PV.pt)=0 then (if m.mr≠c.rev+1∨c.rev=60 then 0 else if O=true then Ac.fitE c.base (m.e.vs.map PV.pt) else 0) else Ac.chk (m.e.vs.map PV.pt))=E):=hE
 have HS:Hid ((if m.e.n=0 then false else if m.mr≠c.rev+1∨c.rev=60 then false else if O=true then Kl.canB c.cl (m.e.vs.map PV.pt) else false)=S):=hS
 have HC:Hid ((if m.e.n=0 then (if O=true then Kl.gv c.cl else c.cl) else if m.mr≠c.rev+1∨c.rev=60 then c.cl else if O=true then Kl.ownC c.cl (m.e.vs.map PV.pt) else Kl.othC c.cl (m.e.vs.map PV.pt))=C):=hC
 have HOO:Hid (O=((m.e.who == who)&&((m.e.seq == c.seq)&&decide (0<c.sn)))):=hO.symm.trans HOW.out
 clear hE hS hC hO hS0 hC0 HOW hml
 go_enter Tryz.func42,Tryz.ntmps42
 go_upto_region 1 with fail
 change Code.wp Tryz.prog _ _ _ (boxk cv0 (qw m (boxk c w)))
 generalize (boxk cv0 (qw m (boxk c w)))=V at *
 have q0:V.cell? ⟨w.heap.size+1,0,none⟩=some (.int .i64 m.mr):=H0.out.b.cell 0
 have q1:V.cell? ⟨w.heap.size+1,1,none⟩=some (.int .i64 m.e.who):=H0.out.b.cell 1
 have q2:V.cell? ⟨w.heap.size+1,2,none⟩=some (.int .i64 m.e.seq):=H0.out.b.cell 2
 have q3:V.cell? ⟨w.heap.size+1,3,none⟩=some (.slice m.e.ao m.e.n m.e.cap):=H0.out.b.cell 3
 have p0:V.cell? ⟨w.heap.size,0,none⟩=some (.int .i64 c.rev):=H0.out.k.blk.cell 0
 have p1:V.cell? ⟨w.heap.size,1,none⟩=some (.slice c.ba c.bn c.bc):=H0.out.k.blk.cell 1
 have p2:V.cell? ⟨w.heap.size,2,none⟩=some (.slice c.na c.nn c.nc):=H0.out.k.blk.cell 2
 have p3:V.cell? ⟨w.heap.size,3,none⟩=some (.int .i64 c.seq):=H0.out.k.blk.cell 3
 have p4:V.cell? ⟨w.heap.size,4,none⟩=some (.slice c.sa c.sn c.sc):=H0.out.k.blk.cell 4
 have p5:V.cell? ⟨w.heap.size,5,none⟩=some (.slice c.ha c.hn c.hc):=H0.out.k.blk.cell 5
 have p6:V.cell? ⟨w.heap.size,6,none⟩=some (.bool c.jo):=H0.out.k.blk.cell 6
 obtain ⟨b1,hb1⟩:∃ b,(m.e.who == who)=b:=⟨_,rfl⟩
 obtain ⟨b2,hb2⟩:∃ b,(m.e.seq == c.seq)=b:=⟨_,rfl⟩
 obtain ⟨b3,hb3⟩:∃ b,decide (0<c.sn)=b:=⟨_,rfl⟩
 have hb4:decide ((0:Int)<(c.sn:Int))=b3:=by rw[← hb3];simp
 rw[hb1,hb2,hb3] at HOO
 go_cut [9] from 18 to 36 (fun v wx=>v=.bool O∧wx=V)
 case first =>
  cases b3
  ·obtain rfl:O=false:=by rw[HOO.out];simp
   go_wp2_with fail
   go_meet
   exact ⟨rfl,rfl⟩
  ·cases b1
   ·obtain rfl:O=false:=HOO.out
    go_wp2_with fail
    go_meet
    exact ⟨rfl,rfl⟩
   ·obtain rfl:O=b2:=by rw[HOO.out];simp
    go_wp2_with fail
    go_meet
    exact ⟨rfl,rfl⟩
 case rest =>
  obtain ⟨rfl,rfl⟩:=hcut
  generalize wc=V at *
  clear HOO hb1 hb2 hb3 hb4
  by_cases h0:m.e.n=0
  ·obtain rfl:E=0:=by rw[← HE.out,if_pos h0]
   obtain rfl:S=false:=by rw[← HS.out,if_pos h0]
   obtain rfl:S0=false:=by rw[← HS0.out,if_pos rfl]
   have HCF:Hid ((if O=true then Kl.gv c.cl else c.cl)=C0):=by have:=HC.out;rw[if_pos h0] at this;have h2:=HC0.out;rw[if_pos rfl] at h2;exact this.trans h2
   have hn1:((m.e.n:Int) == 0)=true:=by simp[h0]
   have hn2:(m.e.n == 0)=true:=by simp[h0]
   clear HE HS HC HS0 HC0 h0
   cases O
   ·have HCG:Hid (c.cl=C0):=HCF.out
    go_upto_region 5 with fail
    clear p0 p1 p2 p3 p4 p5 p6 q0 q1 q2 q3
    have HTT:Hid (Cli V c):=H0.out.k.cli
    have p0:V.cell? ⟨w.heap.size,0,none⟩=some (.int .i64 c.rev):=H0.out.k.blk.cell 0
    have p1:V.cell? ⟨w.heap.size,1,none⟩=some (.slice c.ba c.bn c.bc):=H0.out.k.blk.cell 1
    have p2:V.cell? ⟨w.heap.size,2,none⟩=some (.slice c.na c.nn c.nc):=H0.out.k.blk.cell 2
    have p3:V.cell? ⟨w.heap.size,3,none⟩=some (.int .i64 c.seq):=H0.out.k.blk.cell 3
    have p4:V.cell? ⟨w.heap.size,4,none⟩=some (.slice c.sa c.sn c.sc):=H0.out.k.blk.cell 4
    have p5:V.cell? ⟨w.heap.size,5,none⟩=some (.slice c.ha c.hn c.hc):=H0.out.k.blk.cell 5
    have p6:V.cell? ⟨w.heap.size,6,none⟩=some (.bool c.jo):=H0.out.k.blk.cell 6
    have q0:V.cell? ⟨w.heap.size+2,0,none⟩=some (.int .i64 0):=H0.out.r.cell 0
    have q1:V.cell? ⟨w.heap.size+2,1,none⟩=some (.slice none 0 0):=H0.out.r.cell 1
    have q2:V.cell? ⟨w.heap.size+2,2,none⟩=some (.slice none 0 0):=H0.out.r.cell 2
    have q3:V.cell? ⟨w.heap.size+2,3,none⟩=some (.int .i64 0):=H0.out.r.cell 3
    have q4:V.cell? ⟨w.heap.size+2,4,none⟩=some (.slice none 0 0):=H0.out.r.cell 4
    have q5:V.cell? ⟨w.heap.size+2,5,none⟩=some (.slice none 0 0):=H0.out.r.cell 5
    have q6:V.cell? ⟨w.heap.size+2,6,none⟩=some (.bool false):=H0.out.r.cell 6
    have g0:=H0.out.r.frozen 0
    have g1:=H0.out.r.frozen 1
    have g2:=H0.out.r.frozen 2
    have g3:=H0.out.r.frozen 3
    have g4:=H0.out.r.frozen 4
    have g5:=H0.out.r.frozen 5
    have g6:=H0.out.r.frozen 6
    go_wp2
    change bodyPost Tryz.prog _ _ Exit.ret _ (putK V (w.heap.size+2) c)
    exact bodyPost_ret (za (t:=c) rfl _ rfl rfl rfl (H0.out.fin (t:=c) HTT.out).2.1) rfl ⟨⟨c,rfl,(H0.out.fin (t:=c) HTT.out).1,HCG.out⟩,(H0.out.fin (t:=c) HTT.out).2.2⟩
   ·have HCG:Hid (Kl.gv c.cl=C0):=HCF.out
    have CG:Hid (Calls Tryz.prog 101 #[.agg #[.int .i64 c.rev,.slice c.ba c.bn c.bc,.slice c.na c.nn c.nc,.int .i64 c.seq,.slice c.sa c.sn c.sc,.slice c.ha c.hn c.hc,.bool c.jo]] V fun e w' => (∃ t,e=.returned (.agg #[.int .i64 t.rev,.slice t.ba t.bn t.bc,.slice t.na t.nn t.nc,.int .i64 t.seq,.slice t.sa t.sn t.sc,.slice t.ha t.hn t.hc,.bool t.jo])∧Cli w' t∧t.cl=Kl.gv c.cl)∧Below V.heap.size V w'):=zk c V H0.out.k.cli
    go_wp2_with fail
    refine CG.out.mono ?_
    rintro e wg ⟨⟨tg,rfl,htg,htc⟩,hb⟩
    have HG:Hid (HrR w c m wg):=H0.out.under hb
    have HTG:=hId htg
    have HTC:Hid (tg.cl=C0):=htc.trans HCG.out
    have HG2:Hid (HrR w tg m (putK wg (w.heap.size) tg)):=HG.out.put htg
    clear hb htg htc CG p0 p1 p2 p3 p4 p5 p6 q0 q1 q2 q3
    have p0:wg.cell? ⟨w.heap.size,0,none⟩=some (.int .i64 c.rev):=HG.out.k.blk.cell 0
    have p1:wg.cell? ⟨w.heap.size,1,none⟩=some (.slice c.ba c.bn c.bc):=HG.out.k.blk.cell 1
    have p2:wg.cell? ⟨w.heap.size,2,none⟩=some (.slice c.na c.nn c.nc):=HG.out.k.blk.cell 2
    have p3:wg.cell? ⟨w.heap.size,3,none⟩=some (.int .i64 c.seq):=HG.out.k.blk.cell 3
    have p4:wg.cell? ⟨w.heap.size,4,none⟩=some (.slice c.sa c.sn c.sc):=HG.out.k.blk.cell 4
    have p5:wg.cell? ⟨w.heap.size,5,none⟩=some (.slice c.ha c.hn c.hc):=HG.out.k.blk.cell 5
    have p6:wg.cell? ⟨w.heap.size,6,none⟩=some (.bool c.jo):=HG.out.k.blk.cell 6
    have f0:=HG.out.k.blk.frozen 0
    have f1:=HG.out.k.blk.frozen 1
    have f2:=HG.out.k.blk.frozen 2
    have f3:=HG.out.k.blk.frozen 3
    have f4:=HG.out.k.blk.frozen 4
    have f5:=HG.out.k.blk.frozen 5
    have f6:=HG.out.k.blk.frozen 6
    go_upto_region 5 with fail
    change Code.wp Tryz.prog _ _ _ (putK wg (w.heap.size) tg)
    generalize putK wg (w.heap.size) tg=WG at *
    clear p0 p1 p2 p3 p4 p5 p6 f0 f1 f2 f3 f4 f5 f6
    have HTT:Hid (Cli WG tg):=HG2.out.k.cli
    have p0:WG.cell? ⟨w.heap.size,0,none⟩=some (.int .i64 tg.rev):=HG2.out.k.blk.cell 0
    have p1:WG.cell? ⟨w.heap.size,1,none⟩=some (.slice tg.ba tg.bn tg.bc):=HG2.out.k.blk.cell 1
    have p2:WG.cell? ⟨w.heap.size,2,none⟩=some (.slice tg.na tg.nn tg.nc):=HG2.out.k.blk.cell 2
    have p3:WG.cell? ⟨w.heap.size,3,none⟩=some (.int .i64 tg.seq):=HG2.out.k.blk.cell 3
    have p4:WG.cell? ⟨w.heap.size,4,none⟩=some (.slice tg.sa tg.sn tg.sc):=HG2.out.k.blk.cell 4
    have p5:WG.cell? ⟨w.heap.size,5,none⟩=some (.slice tg.ha tg.hn tg.hc):=HG2.out.k.blk.cell 5
    have p6:WG.cell? ⟨w.heap.size,6,none⟩=some (.bool tg.jo):=HG2.out.k.blk.cell 6
    have q0:WG.cell? ⟨w.heap.size+2,0,none⟩=some (.int .i64 0):=HG2.out.r.cell 0
    have q1:WG.cell? ⟨w.heap.size+2,1,none⟩=some (.slice none 0 0):=HG2.out.r.cell 1
    have q2:WG.cell? ⟨w.heap.size+2,2,none⟩=some (.slice none 0 0):=HG2.out.r.cell 2
    have q3:WG.cell? ⟨w.heap.size+2,3,none⟩=some (.int .i64 0):=HG2.out.r.cell 3
    have q4:WG.cell? ⟨w.heap.size+2,4,none⟩=some (.slice none 0 0):=HG2.out.r.cell 4
    have q5:WG.cell? ⟨w.heap.size+2,5,none⟩=some (.slice none 0 0):=HG2.out.r.cell 5
    have q6:WG.cell? ⟨w.heap.size+2,6,none⟩=some (.bool false):=HG2.out.r.cell 6
    have g0:=HG2.out.r.frozen 0
    have g1:=HG2.out.r.frozen 1
    have g2:=HG2.out.r.frozen 2
    have g3:=HG2.out.r.frozen 3
    have g4:=HG2.out.r.frozen 4
    have g5:=HG2.out.r.frozen 5
    have g6:=HG2.out.r.frozen 6
    go_wp2
    change bodyPost Tryz.prog _ _ Exit.ret _ (putK WG (w.heap.size+2) tg)
    exact bodyPost_ret (za (t:=tg) rfl _ rfl rfl rfl (HG2.out.fin (t:=tg) HTT.out).2.1) rfl ⟨⟨tg,rfl,(HG2.out.fin (t:=tg) HTT.out).1,HTC.out⟩,(HG2.out.fin (t:=tg) HTT.out).2.2⟩
  ·have HE1:Hid ((if Ac.chk (m.e.vs.map PV.pt)=0 then (if m.mr≠c.rev+1∨c.rev=60 then 0 else if O=true then Ac.fitE c.base (m.e.vs.map PV.pt) else 0) else Ac.chk (m.e.vs.map PV.pt))=E):=by have:=HE.out;rw[if_neg h0] at this;exact this
   have HS1:Hid ((if m.mr≠c.rev+1∨c.rev=60 then false else if O=true then Kl.canB c.cl (m.e.vs.map PV.pt) else false)=S):=by have:=HS.out;rw[if_neg h0] at this;exact this
   have HC1:Hid ((if m.mr≠c.rev+1∨c.rev=60 then c.cl else if O=true then Kl.ownC c.cl (m.e.vs.map PV.pt) else Kl.othC c.cl (m.e.vs.map PV.pt))=C):=by have:=HC.out;rw[if_neg h0] at this;exact this
   have hn1:((m.e.n:Int) == 0)=false:=by simp[h0]
   have hn2:(m.e.n == 0)=false:=by simp[h0]
   have CC:Hid (Calls Tryz.prog 102 #[.slice m.e.ao m.e.n m.e.cap] V fun e w'' => e=.returned (.int .i64 (Ac.chk (m.e.vs.map PV.pt)))∧Below V.heap.size V w''):=qy _ _ _ _ _ H0.out.o
   have HN0:Hid (¬ m.e.n=0):=h0
   clear HE HS HC h0
   obtain ⟨x,hx⟩:∃ x,Ac.chk (m.e.vs.map PV.pt)=x:=⟨_,rfl⟩
   rw[hx] at CC HE1
   have HX0:Hid (Ac.chk (m.e.vs.map PV.pt)=x):=hx
   clear hx
   go_wp2_with fail
   refine CC.out.mono ?_
   rintro e w2 ⟨rfl,hb⟩
   have H2:Hid (HrR w c m w2):=H0.out.under hb
   clear hb CC p0 p1 p2 p3 p4 p5 p6 q0 q1 q2 q3 H0
   by_cases hx:x=0
   ·have HE2:Hid ((if m.mr≠c.rev+1∨c.rev=60 then 0 else if O=true then Ac.fitE c.base (m.e.vs.map PV.pt) else 0)=E):=by have:=HE1.out;rw[if_pos hx] at this;exact this
    clear HE1
    subst hx
    obtain ⟨u,hu⟩:∃ u,IntKind.i64.wrap (m.mr - 1)=u:=⟨_,rfl⟩
    have hu2:wrap64 (m.mr - 1)=u:=by rw[← hu,IntWalk.i64_left]
    obtain ⟨T,hT⟩:∃ T,((c.rev == 60) || (u != c.rev))=T:=⟨_,rfl⟩
    have HT:Hid (((c.rev == 60) || (u != c.rev))=T):=hT
    have HTI:Hid ((m.mr≠c.rev+1∨c.rev=60) ↔ T=true):=by
     show _ ↔ _
     have hmr:=HMR.out
     rw[← hT,← hu2]
     unfold wrap64
     simp only[Bool.or_eq_true,beq_iff_eq,bne_iff_ne,ne_eq]
     omega
    clear hT
    have q0:w2.cell? ⟨w.heap.size+1,0,none⟩=some (.int .i64 m.mr):=H2.out.b.cell 0
    have q1:w2.cell? ⟨w.heap.size+1,1,none⟩=some (.int .i64 m.e.who):=H2.out.b.cell 1
    have q2:w2.cell? ⟨w.heap.size+1,2,none⟩=some (.int .i64 m.e.seq):=H2.out.b.cell 2
    have q3:w2.cell? ⟨w.heap.size+1,3,none⟩=some (.slice m.e.ao m.e.n m.e.cap):=H2.out.b.cell 3
    have p0:w2.cell? ⟨w.heap.size,0,none⟩=some (.int .i64 c.rev):=H2.out.k.blk.cell 0
    have p1:w2.cell? ⟨w.heap.size,1,none⟩=some (.slice c.ba c.bn c.bc):=H2.out.k.blk.cell 1
    have p2:w2.cell? ⟨w.heap.size,2,none⟩=some (.slice c.na c.nn c.nc):=H2.out.k.blk.cell 2
    have p3:w2.cell? ⟨w.heap.size,3,none⟩=some (.int .i64 c.seq):=H2.out.k.blk.cell 3
    have p4:w2.cell? ⟨w.heap.size,4,none⟩=some (.slice c.sa c.sn c.sc):=H2.out.k.blk.cell 4
    have p5:w2.cell? ⟨w.heap.size,5,none⟩=some (.slice c.ha c.hn c.hc):=H2.out.k.blk.cell 5
    have p6:w2.cell? ⟨w.heap.size,6,none⟩=some (.bool c.jo):=H2.out.k.blk.cell 6
    go_upto_region 9 with fail
    go_cut [64] from 54 to 64 (fun v wx=>v=.bool T∧wx=w2)
    case first =>
     cases h1:(c.rev == 60)
     ·obtain rfl:T=(u != c.rev):=by rw[← HT.out,h1];rfl
      go_wp2_with fail
      go_meet
      exact ⟨rfl,rfl⟩
     ·obtain rfl:T=true:=by rw[← HT.out,h1];rfl
      go_wp2_with fail
      go_meet
      exact ⟨rfl,rfl⟩
    case rest =>
     obtain ⟨rfl,rfl⟩:=hcut
     generalize wc=w2 at *
     clear HT hu hu2
     cases T
     ·have hno:¬ (m.mr≠c.rev+1∨c.rev=60):=fun h=>Bool.false_ne_true (HTI.out.1 h)
      have h60:¬ c.rev=60:=fun h=>hno (Or.inr h)
      have HE3:Hid ((if O=true then Ac.fitE c.base (m.e.vs.map PV.pt) else 0)=E):=by have:=HE2.out;rw[if_neg hno] at this;exact this
      have HS3:Hid ((if O=true then Kl.canB c.cl (m.e.vs.map PV.pt) else false)=S):=by have:=HS1.out;rw[if_neg hno] at this;exact this
      have HC3:Hid ((if O=true then Kl.ownC c.cl (m.e.vs.map PV.pt) else Kl.othC c.cl (m.e.vs.map PV.pt))=C):=by have:=HC1.out;rw[if_neg hno] at this;exact this
      have HNN:Hid (¬ (m.mr≠c.rev+1∨c.rev=60)):=hno
      clear hno HE2 HS1 HC1 HTI
      have CA:Hid (Calls Tryz.prog 82 #[.slice c.ba c.bn c.bc,.slice m.e.ao m.e.n m.e.cap] w2 fun e w' => (∃ a' n' c',e=.returned (.tuple #[.slice a' n' c',.int .i64 (Ac.fitE c.base (m.e.vs.map PV.pt))])∧Doc w' a' n' c' (Ac.done c.base (m.e.vs.map PV.pt)))∧Below w2.heap.size w2 w'):=(zh _ _ _ _ _ _ _ _ _ H2.out.k.cli.base H2.out.o).mono fun e w' ⟨⟨a',c',h1,h2⟩,hb⟩=>⟨⟨a',_,c',h1,h2⟩,hb⟩
      obtain ⟨D,hD⟩:∃ D,Ac.done c.base (m.e.vs.map PV.pt)=D:=⟨_,rfl⟩
      have HDN:Hid (Ac.done c.base (m.e.vs.map PV.pt)=D):=hD
      obtain ⟨F,hF⟩:∃ F,Ac.fitE c.base (m.e.vs.map PV.pt)=F:=⟨_,rfl⟩
      have HFF:Hid (Ac.fitE c.base (m.e.vs.map PV.pt)=F):=hF
      rw[hD,hF] at CA
      rw[hF] at HE3
      clear hD hF
      go_wp2_with fail
      refine CA.out.mono ?_
      rintro e w3 ⟨⟨ba,bn,bc,rfl,hdd⟩,hb⟩
      have H3:Hid (HrR w c m w3):=H2.out.under hb
      have HDD0:=hId hdd
      clear hdd hb CA p0 p1 p2 p3 p4 p5 p6 q0 q1 q2 q3 H2
      have HOM:Hid (Ops w3 m.e.ao m.e.n m.e.cap m.e.vs):=H3.out.o
      cases O
      ·obtain rfl:E=0:=HE3.out.symm
       obtain rfl:S=false:=HS3.out.symm
       obtain rfl:S0=false:=by rw[← HS0.out,if_pos rfl]
       obtain rfl:C0=C:=by rw[← HC0.out,if_pos rfl]
       have HCO:Hid (Kl.othC c.cl (m.e.vs.map PV.pt)=C0):=HC3.out
       clear HE3 HS3 HC3 HS0 HC0
       exact absurd ⟨HN0.out,HX0.out,by have:=HNN.out;omega,by have:=HNN.out;omega,HO1.out⟩ HNO.out
      ·have hO:True:=trivial
       have HE4:Hid (F=E):=HE3.out
       have HSB:Hid (Kl.canB c.cl (m.e.vs.map PV.pt)=S):=HS3.out
       have HCO:Hid (Kl.ownC c.cl (m.e.vs.map PV.pt)=C):=HC3.out
       clear HE3 HS3 HC3
       by_cases hz:F=0
       ·obtain rfl:E=0:=HE4.out.symm.trans hz
        obtain rfl:S0=S:=by rw[← HS0.out,if_pos rfl]
        obtain rfl:C0=C:=by rw[← HC0.out,if_pos rfl]
        subst hz
        clear HE4 HS0 HC0
        have hw1:wrap64 (c.rev+1)=c.rev+1:=by unfold wrap64;omega
        have hw2:IntKind.i64.wrap (c.rev+1)=c.rev+1:=IntWalk.i64_in _ ⟨by omega,by omega⟩
        have hw3:wrap64 (c.seq+1)=c.seq+1:=by unfold wrap64;omega
        have hw4:IntKind.i64.wrap (c.seq+1)=c.seq+1:=IntWalk.i64_in _ ⟨by omega,by omega⟩
        have HD4:Hid (Doc (w3.setCell ⟨w.heap.size,0,none⟩ (.int .i64 (c.rev+1))) ba bn bc D):=HDD0.out.keptK H3.out.k.blk (qh ..)
        have H4:Hid (HrR w (c.toRev (c.rev+1)) m (w3.setCell ⟨w.heap.size,0,none⟩ (.int .i64 (c.rev+1)))):=H3.out.set (H3.out.k.toRev _)
        have p0:w3.cell? ⟨w.heap.size,0,none⟩=some (.int .i64 c.rev):=H3.out.k.blk.cell 0
        have f0:=H3.out.k.blk.frozen 0
        go_upto_region 16 with fail
        change Code.wp Tryz.prog _ _ _ (w3.setCell ⟨w.heap.size,0,none⟩ (.int .i64 (c.rev+1)))
        generalize w3.setCell ⟨w.heap.size,0,none⟩ (.int .i64 (c.rev+1))=W4 at *
        clear p0 f0
        obtain ⟨c4,hc4⟩:∃ c4,c.toRev (c.rev+1)=c4:=⟨_,rfl⟩
        rw[hc4] at H4
        have HC4:Hid (c.toRev (c.rev+1)=c4):=hc4
        clear hc4
        have h41:=H4.out.set (H4.out.k.toBase ba bn bc D HD4.out)
        have h42:=h41.set (h41.k.toSent c4.ha c4.hn c4.hc c4.held (H4.out.k.cli.held.keptK H4.out.k.blk (qh ..)))
        have H5:Hid (HrR w (((c4.toBase ba bn bc D).toSent c4.ha c4.hn c4.hc c4.held).toHeld none 0 0 []) m (((W4.setCell ⟨w.heap.size,1,none⟩ (.slice ba bn bc)).setCell ⟨w.heap.size,4,none⟩ (.slice c4.ha c4.hn c4.hc)).setCell ⟨w.heap.size,5,none⟩ (.slice none 0 0))):=h42.set (h42.k.toHeld none 0 0 [] (jy _))
        have p1:W4.cell? ⟨w.heap.size,1,none⟩=some (.slice c4.ba c4.bn c4.bc):=H4.out.k.blk.cell 1
        have p4:W4.cell? ⟨w.heap.size,4,none⟩=some (.slice c4.sa c4.sn c4.sc):=H4.out.k.blk.cell 4
        have p5:W4.cell? ⟨w.heap.size,5,none⟩=some (.slice c4.ha c4.hn c4.hc):=H4.out.k.blk.cell 5
        have f1:=H4.out.k.blk.frozen 1
        have f4:=H4.out.k.blk.frozen 4
        have f5:=H4.out.k.blk.frozen 5
        clear h41 h42
        go_upto_region 17 with fail
        change Code.wp Tryz.prog _ _ _ (((W4.setCell ⟨w.heap.size,1,none⟩ (.slice ba bn bc)).setCell ⟨w.heap.size,4,none⟩ (.slice c4.ha c4.hn c4.hc)).setCell ⟨w.heap.size,5,none⟩ (.slice none 0 0))
        have HD5:Hid (Doc (((W4.setCell ⟨w.heap.size,1,none⟩ (.slice ba bn bc)).setCell ⟨w.heap.size,4,none⟩ (.slice c4.ha c4.hn c4.hc)).setCell ⟨w.heap.size,5,none⟩ (.slice none 0 0)) ba bn bc D):=H5.out.k.cli.base
        generalize ((W4.setCell ⟨w.heap.size,1,none⟩ (.slice ba bn bc)).setCell ⟨w.heap.size,4,none⟩ (.slice c4.ha c4.hn c4.hc)).setCell ⟨w.heap.size,5,none⟩ (.slice none 0 0)=W5 at *
        clear p1 p4 p5 f1 f4 f5
        obtain ⟨c5,hc5⟩:∃ c5,((c4.toBase ba bn bc D).toSent c4.ha c4.hn c4.hc c4.held).toHeld none 0 0 []=c5:=⟨_,rfl⟩
        have HF5:Hid (c5.rev=c.rev+1∧c5.base=D∧c5.seq=c.seq∧c5.sent.map PV.pt=c.held.map PV.pt∧c5.held.map PV.pt=[]∧c5.jo=c.jo∧c5.sn=c.hn):=by rw[← hc5,← HC4.out];exact ⟨rfl,rfl,rfl,rfl,rfl,rfl,rfl⟩
        rw[hc5] at H5
        clear hc5 HC4 H4 HD4
        have HGV:Hid (Kl.gv c5.cl=Kl.gv (Kl.adv c.cl (m.e.vs.map PV.pt))):=by
         obtain ⟨i1,i2,i3,i4,i5,i6,i7⟩:=HF5.out
         show (⟨c5.rev,c5.base,c5.base,c5.seq,[],[],c5.jo⟩:Kl.Cl)=⟨c.rev+1,Ac.done c.base (m.e.vs.map PV.pt),Ac.done c.base (m.e.vs.map PV.pt),c.seq,[],[],c.jo⟩
         rw[i1,i2,i3,i6,HDN.out]
        have p4:W5.cell? ⟨w.heap.size,4,none⟩=some (.slice c5.sa c5.sn c5.sc):=H5.out.k.blk.cell 4
        by_cases h0:c.hn=0
        ·have hs0:c5.sn=0:=HF5.out.2.2.2.2.2.2.trans h0
         have hn1:((c5.sn:Int) == 0)=true:=by simp[hs0]
         have hn2:(c5.sn == 0)=true:=by simp[hs0]
         have hcb:Kl.canB c.cl (m.e.vs.map PV.pt)=false:=by unfold Kl.canB;rw[show c.cl.held.length=c.hn from hhl,h0];rfl
         obtain rfl:S0=false:=HSB.out.symm.trans hcb
         have HCF:Hid (Kl.gv (Kl.adv c.cl (m.e.vs.map PV.pt))=C0):=by have:=HCO.out;unfold Kl.ownC at this;rw[hcb,if_neg Bool.false_ne_true] at this;exact this
         clear hs0 hcb h0 p4
         have CG:Hid (Calls Tryz.prog 101 #[.agg #[.int .i64 c5.rev,.slice c5.ba c5.bn c5.bc,.slice c5.na c5.nn c5.nc,.int .i64 c5.seq,.slice c5.sa c5.sn c5.sc,.slice c5.ha c5.hn c5.hc,.bool c5.jo]] W5 fun e w' => (∃ t,e=.returned (.agg #[.int .i64 t.rev,.slice t.ba t.bn t.bc,.slice t.na t.nn t.nc,.int .i64 t.seq,.slice t.sa t.sn t.sc,.slice t.ha t.hn t.hc,.bool t.jo])∧Cli w' t∧t.cl=Kl.gv c5.cl)∧Below W5.heap.size W5 w'):=zk c5 W5 H5.out.k.cli
         have p0:W5.cell? ⟨w.heap.size,0,none⟩=some (.int .i64 c5.rev):=H5.out.k.blk.cell 0
         have p1:W5.cell? ⟨w.heap.size,1,none⟩=some (.slice c5.ba c5.bn c5.bc):=H5.out.k.blk.cell 1
         have p2:W5.cell? ⟨w.heap.size,2,none⟩=some (.slice c5.na c5.nn c5.nc):=H5.out.k.blk.cell 2
         have p3:W5.cell? ⟨w.heap.size,3,none⟩=some (.int .i64 c5.seq):=H5.out.k.blk.cell 3
         have p4:W5.cell? ⟨w.heap.size,4,none⟩=some (.slice c5.sa c5.sn c5.sc):=H5.out.k.blk.cell 4
         have p5:W5.cell? ⟨w.heap.size,5,none⟩=some (.slice c5.ha c5.hn c5.hc):=H5.out.k.blk.cell 5
         have p6:W5.cell? ⟨w.heap.size,6,none⟩=some (.bool c5.jo):=H5.out.k.blk.cell 6
         go_wp2_with fail
         refine CG.out.mono ?_
         rintro e wg ⟨⟨tg,rfl,htg,htc⟩,hb⟩
         have HG:Hid (HrR w c5 m wg):=H5.out.under hb
         have HTT:=hId htg
         have HTC:Hid (tg.cl=C0):=htc.trans (HGV.out.trans HCF.out)
         clear hb htg htc CG p0 p1 p2 p3 p4 p5 p6
         have q0:wg.cell? ⟨w.heap.size+2,0,none⟩=some (.int .i64 0):=HG.out.r.cell 0
         have q1:wg.cell? ⟨w.heap.size+2,1,none⟩=some (.slice none 0 0):=HG.out.r.cell 1
         have q2:wg.cell? ⟨w.heap.size+2,2,none⟩=some (.slice none 0 0):=HG.out.r.cell 2
         have q3:wg.cell? ⟨w.heap.size+2,3,none⟩=some (.int .i64 0):=HG.out.r.cell 3
         have q4:wg.cell? ⟨w.heap.size+2,4,none⟩=some (.slice none 0 0):=HG.out.r.cell 4
         have q5:wg.cell? ⟨w.heap.size+2,5,none⟩=some (.slice none 0 0):=HG.out.r.cell 5
         have q6:wg.cell? ⟨w.heap.size+2,6,none⟩=some (.bool false):=HG.out.r.cell 6
         have g0:=HG.out.r.frozen 0
         have g1:=HG.out.r.frozen 1
         have g2:=HG.out.r.frozen 2
         have g3:=HG.out.r.frozen 3
         have g4:=HG.out.r.frozen 4
         have g5:=HG.out.r.frozen 5
         have g6:=HG.out.r.frozen 6
         go_wp2
         change bodyPost Tryz.prog _ _ Exit.ret _ (putK wg (w.heap.size+2) tg)
         exact bodyPost_ret (za (t:=tg) rfl _ rfl rfl rfl (HG.out.fin (t:=tg) HTT.out).2.1) rfl ⟨⟨tg,rfl,(HG.out.fin (t:=tg) HTT.out).1,HTC.out⟩,(HG.out.fin (t:=tg) HTT.out).2.2⟩
        ·have hs0:¬ c5.sn=0:=fun h=>h0 (HF5.out.2.2.2.2.2.2.symm.trans h)
         have hn1:((c5.sn:Int) == 0)=false:=by simp[hs0]
         have hn2:(c5.sn == 0)=false:=by simp[hs0]
         have HCB:Hid (Kl.canB c.cl (m.e.vs.map PV.pt)=(decide (Ac.fitE D (c.held.map PV.pt)=0)&&!decide (c.seq=10000))):=by
          show _=_
          unfold Kl.canB
          rw[show c.cl.held.length=c.hn from hhl,decide_eq_true (show 0<c.hn by omega),Bool.true_and]
          show (decide (Ac.fitE (Ac.done c.base (m.e.vs.map PV.pt)) (c.held.map PV.pt)=0)&&_)=_
          rw[HDN.out]
          rfl
         have CA2:Hid (Calls Tryz.prog 82 #[.slice ba bn bc,.slice c5.sa c5.sn c5.sc] W5 fun e w' => (∃ a' n' c',e=.returned (.tuple #[.slice a' n' c',.int .i64 (Ac.fitE D (c.held.map PV.pt))])∧Doc w' a' n' c' (Ac.done D (c.held.map PV.pt)))∧Below W5.heap.size W5 w'):=by
          have:=zh _ _ _ _ _ _ _ _ _ HD5.out H5.out.k.cli.sent
          rw[HF5.out.2.2.2.1] at this
          exact this.mono fun e w' ⟨⟨a',c',h1,h2⟩,hb⟩=>⟨⟨a',_,c',h1,h2⟩,hb⟩
         clear hs0 h0
         obtain ⟨G,hG⟩:∃ G,Ac.fitE D (c.held.map PV.pt)=G:=⟨_,rfl⟩
         obtain ⟨N,hN⟩:∃ N,Ac.done D (c.held.map PV.pt)=N:=⟨_,rfl⟩
         rw[hG] at CA2 HCB
         have HNN:Hid (Ac.done D (c.held.map PV.pt)=N):=hN
         rw[hN] at CA2
         clear hG hN
         go_wp2_with fail
         refine CA2.out.mono ?_
         rintro e W6 ⟨⟨na,nn,nc,rfl,hdn⟩,hb⟩
         have H6:Hid (HrR w c5 m W6):=H5.out.under hb
         have HD6:=hId hdn
         clear hdn hb CA2 p4 HD5
         have p3:W6.cell? ⟨w.heap.size,3,none⟩=some (.int .i64 c5.seq):=H6.out.k.blk.cell 3
         by_cases h10:c.seq=10000
         ·have hb1:(c5.seq == 10000)=true:=by rw[HF5.out.2.2.1];simp[h10]
          have hcb:Kl.canB c.cl (m.e.vs.map PV.pt)=false:=by rw[HCB.out,decide_eq_true h10];simp
          obtain rfl:S0=false:=HSB.out.symm.trans hcb
          have HCF:Hid (Kl.gv (Kl.adv c.cl (m.e.vs.map PV.pt))=C0):=by have:=HCO.out;unfold Kl.ownC at this;rw[hcb,if_neg Bool.false_ne_true] at this;exact this
          clear hcb h10 p3
          have p3:W6.cell? ⟨w.heap.size,3,none⟩=some (.int .i64 c5.seq):=H6.out.k.blk.cell 3
          have CG:Hid (Calls Tryz.prog 101 #[.agg #[.int .i64 c5.rev,.slice c5.ba c5.bn c5.bc,.slice c5.na c5.nn c5.nc,.int .i64 c5.seq,.slice c5.sa c5.sn c5.sc,.slice c5.ha c5.hn c5.hc,.bool c5.jo]] W6 fun e w' => (∃ t,e=.returned (.agg #[.int .i64 t.rev,.slice t.ba t.bn t.bc,.slice t.na t.nn t.nc,.int .i64 t.seq,.slice t.sa t.sn t.sc,.slice t.ha t.hn t.hc,.bool t.jo])∧Cli w' t∧t.cl=Kl.gv c5.cl)∧Below W6.heap.size W6 w'):=zk c5 W6 H6.out.k.cli
          have p0:W6.cell? ⟨w.heap.size,0,none⟩=some (.int .i64 c5.rev):=H6.out.k.blk.cell 0
          have p1:W6.cell? ⟨w.heap.size,1,none⟩=some (.slice c5.ba c5.bn c5.bc):=H6.out.k.blk.cell 1
          have p2:W6.cell? ⟨w.heap.size,2,none⟩=some (.slice c5.na c5.nn c5.nc):=H6.out.k.blk.cell 2
          have p3:W6.cell? ⟨w.heap.size,3,none⟩=some (.int .i64 c5.seq):=H6.out.k.blk.cell 3
          have p4:W6.cell? ⟨w.heap.size,4,none⟩=some (.slice c5.sa c5.sn c5.sc):=H6.out.k.blk.cell 4
          have p5:W6.cell? ⟨w.heap.size,5,none⟩=some (.slice c5.ha c5.hn c5.hc):=H6.out.k.blk.cell 5
          have p6:W6.cell? ⟨w.heap.size,6,none⟩=some (.bool c5.jo):=H6.out.k.blk.cell 6
          go_wp2_with fail
          refine CG.out.mono ?_
          rintro e wg ⟨⟨tg,rfl,htg,htc⟩,hb⟩
          have HG:Hid (HrR w c5 m wg):=H6.out.under hb
          have HTT:=hId htg
          have HTC:Hid (tg.cl=C0):=htc.trans (HGV.out.trans HCF.out)
          clear hb htg htc CG p0 p1 p2 p3 p4 p5 p6
          have q0:wg.cell? ⟨w.heap.size+2,0,none⟩=some (.int .i64 0):=HG.out.r.cell 0
          have q1:wg.cell? ⟨w.heap.size+2,1,none⟩=some (.slice none 0 0):=HG.out.r.cell 1
          have q2:wg.cell? ⟨w.heap.size+2,2,none⟩=some (.slice none 0 0):=HG.out.r.cell 2
          have q3:wg.cell? ⟨w.heap.size+2,3,none⟩=some (.int .i64 0):=HG.out.r.cell 3
          have q4:wg.cell? ⟨w.heap.size+2,4,none⟩=some (.slice none 0 0):=HG.out.r.cell 4
          have q5:wg.cell? ⟨w.heap.size+2,5,none⟩=some (.slice none 0 0):=HG.out.r.cell 5
          have q6:wg.cell? ⟨w.heap.size+2,6,none⟩=some (.bool false):=HG.out.r.cell 6
          have g0:=HG.out.r.frozen 0
          have g1:=HG.out.r.frozen 1
          have g2:=HG.out.r.frozen 2
          have g3:=HG.out.r.frozen 3
          have g4:=HG.out.r.frozen 4
          have g5:=HG.out.r.frozen 5
          have g6:=HG.out.r.frozen 6
          go_wp2
          change bodyPost Tryz.prog _ _ Exit.ret _ (putK wg (w.heap.size+2) tg)
          exact bodyPost_ret (za (t:=tg) rfl _ rfl rfl rfl (HG.out.fin (t:=tg) HTT.out).2.1) rfl ⟨⟨tg,rfl,(HG.out.fin (t:=tg) HTT.out).1,HTC.out⟩,(HG.out.fin (t:=tg) HTT.out).2.2⟩
         ·have hb1:(c5.seq == 10000)=false:=by rw[HF5.out.2.2.1];simp[h10]
          by_cases hG:G=0
          ·have hcb:Kl.canB c.cl (m.e.vs.map PV.pt)=true:=by rw[HCB.out,decide_eq_true hG,decide_eq_false h10];rfl
           obtain rfl:S0=true:=HSB.out.symm.trans hcb
           have HCF:Hid ((⟨c.rev+1,D,N,c.seq+1,c.held.map PV.pt,[],c.jo⟩:Kl.Cl)=C0):=by
            have:=HCO.out
            unfold Kl.ownC at this
            rw[hcb,if_pos rfl] at this
            rw[← this]
            show _=(⟨c.rev+1,Ac.done c.base (m.e.vs.map PV.pt),Ac.done (Ac.done c.base (m.e.vs.map PV.pt)) (c.held.map PV.pt),c.seq+1,c.held.map PV.pt,[],c.jo⟩:Kl.Cl)
            rw[HDN.out,HNN.out]
           subst hG
           have hsq:c5.seq=c.seq:=HF5.out.2.2.1
           have hw5:wrap64 (c5.seq+1)=c5.seq+1:=by unfold wrap64;omega
           have hw6:IntKind.i64.wrap (c5.seq+1)=c5.seq+1:=IntWalk.i64_in _ ⟨by omega,by omega⟩
           have HSQ:Hid (c5.seq=c.seq):=hsq
           clear hcb h10 hsq hw1 hw2 hw3 hw4
           have H7:Hid (HrR w (c5.toNow na nn nc N) m (W6.setCell ⟨w.heap.size,2,none⟩ (.slice na nn nc))):=H6.out.set (H6.out.k.toNow na nn nc N HD6.out)
           have p2:W6.cell? ⟨w.heap.size,2,none⟩=some (.slice c5.na c5.nn c5.nc):=H6.out.k.blk.cell 2
           have f2:=H6.out.k.blk.frozen 2
           go_upto_region 23 with fail
           change Code.wp Tryz.prog _ _ _ (W6.setCell ⟨w.heap.size,2,none⟩ (.slice na nn nc))
           generalize W6.setCell ⟨w.heap.size,2,none⟩ (.slice na nn nc)=W7 at *
           clear p2 f2
           clear p3
           have H8:Hid (HrR w ((c5.toNow na nn nc N).toSeq (c5.seq+1)) m (W7.setCell ⟨w.heap.size,3,none⟩ (.int .i64 (c5.seq+1)))):=H7.out.set (H7.out.k.toSeq _)
           have p3:W7.cell? ⟨w.heap.size,3,none⟩=some (.int .i64 c5.seq):=H7.out.k.blk.cell 3
           have f3:=H7.out.k.blk.frozen 3
           go_upto_region 24 with fail
           change Code.wp Tryz.prog _ _ _ (W7.setCell ⟨w.heap.size,3,none⟩ (.int .i64 (c5.seq+1)))
           generalize W7.setCell ⟨w.heap.size,3,none⟩ (.int .i64 (c5.seq+1))=W8 at *
           clear p3 f3
           obtain ⟨c8,hc8⟩:∃ c8,(c5.toNow na nn nc N).toSeq (c5.seq+1)=c8:=⟨_,rfl⟩
           have HTC:Hid (c8.cl=C0):=by
            obtain ⟨i1,i2,i3,i4,i5,i6,i7⟩:=HF5.out
            rw[← HCF.out,← hc8]
            show (⟨c5.rev,c5.base,N,c5.seq+1,c5.sent.map PV.pt,c5.held.map PV.pt,c5.jo⟩:Kl.Cl)=_
            rw[i1,i2,i3,i4,i5,i6]
           rw[hc8] at H8
           clear hc8
           have HTT:Hid (Cli W8 c8):=H8.out.k.cli
           have p0:W8.cell? ⟨w.heap.size,0,none⟩=some (.int .i64 c8.rev):=H8.out.k.blk.cell 0
           have p1:W8.cell? ⟨w.heap.size,1,none⟩=some (.slice c8.ba c8.bn c8.bc):=H8.out.k.blk.cell 1
           have p2:W8.cell? ⟨w.heap.size,2,none⟩=some (.slice c8.na c8.nn c8.nc):=H8.out.k.blk.cell 2
           have p3:W8.cell? ⟨w.heap.size,3,none⟩=some (.int .i64 c8.seq):=H8.out.k.blk.cell 3
           have p4:W8.cell? ⟨w.heap.size,4,none⟩=some (.slice c8.sa c8.sn c8.sc):=H8.out.k.blk.cell 4
           have p5:W8.cell? ⟨w.heap.size,5,none⟩=some (.slice c8.ha c8.hn c8.hc):=H8.out.k.blk.cell 5
           have p6:W8.cell? ⟨w.heap.size,6,none⟩=some (.bool c8.jo):=H8.out.k.blk.cell 6
           have q0:W8.cell? ⟨w.heap.size+2,0,none⟩=some (.int .i64 0):=H8.out.r.cell 0
           have q1:W8.cell? ⟨w.heap.size+2,1,none⟩=some (.slice none 0 0):=H8.out.r.cell 1
           have q2:W8.cell? ⟨w.heap.size+2,2,none⟩=some (.slice none 0 0):=H8.out.r.cell 2
           have q3:W8.cell? ⟨w.heap.size+2,3,none⟩=some (.int .i64 0):=H8.out.r.cell 3
           have q4:W8.cell? ⟨w.heap.size+2,4,none⟩=some (.slice none 0 0):=H8.out.r.cell 4
           have q5:W8.cell? ⟨w.heap.size+2,5,none⟩=some (.slice none 0 0):=H8.out.r.cell 5
           have q6:W8.cell? ⟨w.heap.size+2,6,none⟩=some (.bool false):=H8.out.r.cell 6
           have g0:=H8.out.r.frozen 0
           have g1:=H8.out.r.frozen 1
           have g2:=H8.out.r.frozen 2
           have g3:=H8.out.r.frozen 3
           have g4:=H8.out.r.frozen 4
           have g5:=H8.out.r.frozen 5
           have g6:=H8.out.r.frozen 6
           go_wp2
           change bodyPost Tryz.prog _ _ Exit.ret _ (putK W8 (w.heap.size+2) c8)
           exact bodyPost_ret (za (t:=c8) rfl _ rfl rfl rfl (H8.out.fin (t:=c8) HTT.out).2.1) rfl ⟨⟨c8,rfl,(H8.out.fin (t:=c8) HTT.out).1,HTC.out⟩,(H8.out.fin (t:=c8) HTT.out).2.2⟩
          ·have hne:(G != 0)=true:=by simp[hG]
           have hcb:Kl.canB c.cl (m.e.vs.map PV.pt)=false:=by rw[HCB.out,decide_eq_false hG];rfl
           obtain rfl:S0=false:=HSB.out.symm.trans hcb
           have HCF:Hid (Kl.gv (Kl.adv c.cl (m.e.vs.map PV.pt))=C0):=by have:=HCO.out;unfold Kl.ownC at this;rw[hcb,if_neg Bool.false_ne_true] at this;exact this
           clear hcb h10
           have CG:Hid (Calls Tryz.prog 101 #[.agg #[.int .i64 c5.rev,.slice c5.ba c5.bn c5.bc,.slice c5.na c5.nn c5.nc,.int .i64 c5.seq,.slice c5.sa c5.sn c5.sc,.slice c5.ha c5.hn c5.hc,.bool c5.jo]] W6 fun e w' => (∃ t,e=.returned (.agg #[.int .i64 t.rev,.slice t.ba t.bn t.bc,.slice t.na t.nn t.nc,.int .i64 t.seq,.slice t.sa t.sn t.sc,.slice t.ha t.hn t.hc,.bool t.jo])∧Cli w' t∧t.cl=Kl.gv c5.cl)∧Below W6.heap.size W6 w'):=zk c5 W6 H6.out.k.cli
           have p0:W6.cell? ⟨w.heap.size,0,none⟩=some (.int .i64 c5.rev):=H6.out.k.blk.cell 0
           have p1:W6.cell? ⟨w.heap.size,1,none⟩=some (.slice c5.ba c5.bn c5.bc):=H6.out.k.blk.cell 1
           have p2:W6.cell? ⟨w.heap.size,2,none⟩=some (.slice c5.na c5.nn c5.nc):=H6.out.k.blk.cell 2
           try clear p3
           have p3:W6.cell? ⟨w.heap.size,3,none⟩=some (.int .i64 c5.seq):=H6.out.k.blk.cell 3
           have p4:W6.cell? ⟨w.heap.size,4,none⟩=some (.slice c5.sa c5.sn c5.sc):=H6.out.k.blk.cell 4
           have p5:W6.cell? ⟨w.heap.size,5,none⟩=some (.slice c5.ha c5.hn c5.hc):=H6.out.k.blk.cell 5
           have p6:W6.cell? ⟨w.heap.size,6,none⟩=some (.bool c5.jo):=H6.out.k.blk.cell 6
           go_wp2_with fail
           refine CG.out.mono ?_
           rintro e wg ⟨⟨tg,rfl,htg,htc⟩,hb⟩
           have HG:Hid (HrR w c5 m wg):=H6.out.under hb
           have HTT:=hId htg
           have HTC:Hid (tg.cl=C0):=htc.trans (HGV.out.trans HCF.out)
           clear hb htg htc CG p0 p1 p2 p3 p4 p5 p6
           have q0:wg.cell? ⟨w.heap.size+2,0,none⟩=some (.int .i64 0):=HG.out.r.cell 0
           have q1:wg.cell? ⟨w.heap.size+2,1,none⟩=some (.slice none 0 0):=HG.out.r.cell 1
           have q2:wg.cell? ⟨w.heap.size+2,2,none⟩=some (.slice none 0 0):=HG.out.r.cell 2
           have q3:wg.cell? ⟨w.heap.size+2,3,none⟩=some (.int .i64 0):=HG.out.r.cell 3
           have q4:wg.cell? ⟨w.heap.size+2,4,none⟩=some (.slice none 0 0):=HG.out.r.cell 4
           have q5:wg.cell? ⟨w.heap.size+2,5,none⟩=some (.slice none 0 0):=HG.out.r.cell 5
           have q6:wg.cell? ⟨w.heap.size+2,6,none⟩=some (.bool false):=HG.out.r.cell 6
           have g0:=HG.out.r.frozen 0
           have g1:=HG.out.r.frozen 1
           have g2:=HG.out.r.frozen 2
           have g3:=HG.out.r.frozen 3
           have g4:=HG.out.r.frozen 4
           have g5:=HG.out.r.frozen 5
           have g6:=HG.out.r.frozen 6
           go_wp2
           change bodyPost Tryz.prog _ _ Exit.ret _ (putK wg (w.heap.size+2) tg)
           exact bodyPost_ret (za (t:=tg) rfl _ rfl rfl rfl (HG.out.fin (t:=tg) HTT.out).2.1) rfl ⟨⟨tg,rfl,(HG.out.fin (t:=tg) HTT.out).1,HTC.out⟩,(HG.out.fin (t:=tg) HTT.out).2.2⟩
       ·obtain rfl:E=F:=HE4.out.symm
        have hne:(E != 0)=true:=by simp[hz]
        obtain rfl:S0=false:=by rw[← HS0.out,if_neg hz]
        obtain rfl:C0=Kl.none:=by rw[← HC0.out,if_neg hz]
        have HTT:Hid (Cli w3 cv0):=Cli.nil _
        have q0:w3.cell? ⟨w.heap.size+2,0,none⟩=some (.int .i64 0):=H3.out.r.cell 0
        have q1:w3.cell? ⟨w.heap.size+2,1,none⟩=some (.slice none 0 0):=H3.out.r.cell 1
        have q2:w3.cell? ⟨w.heap.size+2,2,none⟩=some (.slice none 0 0):=H3.out.r.cell 2
        have q3:w3.cell? ⟨w.heap.size+2,3,none⟩=some (.int .i64 0):=H3.out.r.cell 3
        have q4:w3.cell? ⟨w.heap.size+2,4,none⟩=some (.slice none 0 0):=H3.out.r.cell 4
        have q5:w3.cell? ⟨w.heap.size+2,5,none⟩=some (.slice none 0 0):=H3.out.r.cell 5
        have q6:w3.cell? ⟨w.heap.size+2,6,none⟩=some (.bool false):=H3.out.r.cell 6
        have g0:=H3.out.r.frozen 0
        have g1:=H3.out.r.frozen 1
        have g2:=H3.out.r.frozen 2
        have g3:=H3.out.r.frozen 3
        have g4:=H3.out.r.frozen 4
        have g5:=H3.out.r.frozen 5
        have g6:=H3.out.r.frozen 6
        go_wp2
        change bodyPost Tryz.prog _ _ Exit.ret _ (putK w3 (w.heap.size+2) cv0)
        exact bodyPost_ret (za (t:=cv0) rfl _ rfl rfl rfl (H3.out.fin (t:=cv0) HTT.out).2.1) rfl ⟨⟨cv0,rfl,(H3.out.fin (t:=cv0) HTT.out).1,rfl⟩,(H3.out.fin (t:=cv0) HTT.out).2.2⟩
     ·have hyes:(m.mr≠c.rev+1∨c.rev=60):=HTI.out.2 rfl
      obtain rfl:E=0:=by rw[← HE2.out,if_pos hyes]
      obtain rfl:S=false:=by rw[← HS1.out,if_pos hyes]
      obtain rfl:S0=false:=by rw[← HS0.out,if_pos rfl]
      have HCF:Hid (c.cl=C0):=by have:=HC1.out;rw[if_pos hyes] at this;have h2:=HC0.out;rw[if_pos rfl] at h2;exact this.trans h2
      clear hyes HE2 HS1 HC1 HTI HS0 HC0 p0 p1 p2 p3 p4 p5 p6 q0 q1 q2 q3
      go_upto_region 10 with fail
      have HTT:Hid (Cli w2 c):=H2.out.k.cli
      have p0:w2.cell? ⟨w.heap.size,0,none⟩=some (.int .i64 c.rev):=H2.out.k.blk.cell 0
      have p1:w2.cell? ⟨w.heap.size,1,none⟩=some (.slice c.ba c.bn c.bc):=H2.out.k.blk.cell 1
      have p2:w2.cell? ⟨w.heap.size,2,none⟩=some (.slice c.na c.nn c.nc):=H2.out.k.blk.cell 2
      have p3:w2.cell? ⟨w.heap.size,3,none⟩=some (.int .i64 c.seq):=H2.out.k.blk.cell 3
      have p4:w2.cell? ⟨w.heap.size,4,none⟩=some (.slice c.sa c.sn c.sc):=H2.out.k.blk.cell 4
      have p5:w2.cell? ⟨w.heap.size,5,none⟩=some (.slice c.ha c.hn c.hc):=H2.out.k.blk.cell 5
      have p6:w2.cell? ⟨w.heap.size,6,none⟩=some (.bool c.jo):=H2.out.k.blk.cell 6
      have q0:w2.cell? ⟨w.heap.size+2,0,none⟩=some (.int .i64 0):=H2.out.r.cell 0
      have q1:w2.cell? ⟨w.heap.size+2,1,none⟩=some (.slice none 0 0):=H2.out.r.cell 1
      have q2:w2.cell? ⟨w.heap.size+2,2,none⟩=some (.slice none 0 0):=H2.out.r.cell 2
      have q3:w2.cell? ⟨w.heap.size+2,3,none⟩=some (.int .i64 0):=H2.out.r.cell 3
      have q4:w2.cell? ⟨w.heap.size+2,4,none⟩=some (.slice none 0 0):=H2.out.r.cell 4
      have q5:w2.cell? ⟨w.heap.size+2,5,none⟩=some (.slice none 0 0):=H2.out.r.cell 5
      have q6:w2.cell? ⟨w.heap.size+2,6,none⟩=some (.bool false):=H2.out.r.cell 6
      have g0:=H2.out.r.frozen 0
      have g1:=H2.out.r.frozen 1
      have g2:=H2.out.r.frozen 2
      have g3:=H2.out.r.frozen 3
      have g4:=H2.out.r.frozen 4
      have g5:=H2.out.r.frozen 5
      have g6:=H2.out.r.frozen 6
      go_wp2
      change bodyPost Tryz.prog _ _ Exit.ret _ (putK w2 (w.heap.size+2) c)
      exact bodyPost_ret (za (t:=c) rfl _ rfl rfl rfl (H2.out.fin (t:=c) HTT.out).2.1) rfl ⟨⟨c,rfl,(H2.out.fin (t:=c) HTT.out).1,HCF.out⟩,(H2.out.fin (t:=c) HTT.out).2.2⟩
   ·obtain rfl:E=x:=by have:=HE1.out;rw[if_neg hx] at this;exact this.symm
    have hne:(E != 0)=true:=by simp[hx]
    obtain rfl:S0=false:=by rw[← HS0.out,if_neg hx]
    obtain rfl:C0=Kl.none:=by rw[← HC0.out,if_neg hx]
    clear HE1 HS0 HC0
    have HTT:Hid (Cli w2 cv0):=Cli.nil _
    have q0:w2.cell? ⟨w.heap.size+2,0,none⟩=some (.int .i64 0):=H2.out.r.cell 0
    have q1:w2.cell? ⟨w.heap.size+2,1,none⟩=some (.slice none 0 0):=H2.out.r.cell 1
    have q2:w2.cell? ⟨w.heap.size+2,2,none⟩=some (.slice none 0 0):=H2.out.r.cell 2
    have q3:w2.cell? ⟨w.heap.size+2,3,none⟩=some (.int .i64 0):=H2.out.r.cell 3
    have q4:w2.cell? ⟨w.heap.size+2,4,none⟩=some (.slice none 0 0):=H2.out.r.cell 4
    have q5:w2.cell? ⟨w.heap.size+2,5,none⟩=some (.slice none 0 0):=H2.out.r.cell 5
    have q6:w2.cell? ⟨w.heap.size+2,6,none⟩=some (.bool false):=H2.out.r.cell 6
    have g0:=H2.out.r.frozen 0
    have g1:=H2.out.r.frozen 1
    have g2:=H2.out.r.frozen 2
    have g3:=H2.out.r.frozen 3
    have g4:=H2.out.r.frozen 4
    have g5:=H2.out.r.frozen 5
    have g6:=H2.out.r.frozen 6
    go_wp2
    change bodyPost Tryz.prog _ _ Exit.ret _ (putK w2 (w.heap.size+2) cv0)
    exact bodyPost_ret (za (t:=cv0) rfl _ rfl rfl rfl (H2.out.fin (t:=cv0) HTT.out).2.1) rfl ⟨⟨cv0,rfl,(H2.out.fin (t:=cv0) HTT.out).1,rfl⟩,(H2.out.fin (t:=cv0) HTT.out).2.2⟩
end Go.Proofs.YtbhcklkbckacpaaGreatDoor
