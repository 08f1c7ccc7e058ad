/- A part. -/
import Derived.Test.YtbhcklkbckacpaaGreatDoorYt0
import Derived.Test.YtbhcklkbckacpaaGreatDoorYi
namespace Go.Proofs.YtbhcklkbckacpaaGreatDoor
open Go.RowKit
set_option maxRecDepth 100000 in
set_option maxHeartbeats 12800000 in
theorem q9j (c:CV) (who:Int) (m:MV) (w:World) (hC:Cli w c) (hO:Ops w m.e.ao m.e.n m.e.cap m.e.vs) (hR:Kl.Rc c.cl) (h0:¬ m.e.n=0) (hx:Ac.chk (m.e.vs.map PV.pt)=0) (hrev:m.mr=c.rev+1) (h60:¬ c.rev=60) (hown:Kl.isOwn c.cl who m.e.en=false) (F:Int) (hFF:Ac.fitE c.base (m.e.vs.map PV.pt)=F) (hF:¬ F=0) :
  Calls Tryz.prog 42 #[.agg #[.int .i64 c.rev,.slice c.ba c.bn c.bc,.slice c.na c.nn c.nc,.int .i64 c.seq,.slice c.sa c.sn c.sc,.slice c.ha c.hn c.hc,.bool c.jo],.int .i64 who,.agg #[.int .i64 m.mr,.int .i64 m.e.who,.int .i64 m.e.seq,.slice m.e.ao m.e.n m.e.cap]] w fun e w' => Ans 0 false (Kl.othC c.cl (m.e.vs.map PV.pt)) e w' ∧ Below w.heap.size w w' := by
 have HFF:Hid (Ac.fitE c.base (m.e.vs.map PV.pt)=F):=hFF
 clear hFF
 have HFN:Hid (¬ F=0):=hF
 clear hF
 have hA:Below w.heap.size w (qw m (boxk c w)):=(qe c w).trans ((j2 m _).mono (qe c w).size)
 have h1:Below w.heap.size w (boxk cv0 (qw m (boxk c w))):=hA.trans ((qe cv0 _).mono hA.size)
 have H0:Hid (HrR w c m (boxk cv0 (qw m (boxk c w)))):=⟨⟨((qx c w).alloc _).alloc _,hC.below h1⟩,by have:=(xi m (boxk c w)).alloc (.cells #[.int .i64 0,.slice none 0 0,.slice none 0 0,.int .i64 0,.slice none 0 0,.slice none 0 0,.bool false] 60);rw[zl] at this;exact this,by have:=qx cv0 (qw m (boxk c w));rw[xp,zl] at this;exact this,hO.below h1,h1⟩
 have hsl:(c.sent.map PV.pt).length=c.sn:=zm hC.sent
 have hhl:(c.held.map PV.pt).length=c.hn:=zm hC.held
 have HR:=hId hR
 have r3:(0:Int)≤c.rev:=hR.lo
 have r4:c.rev≤60:=hR.hi
 have HOO:Hid (((m.e.who == who)&&((m.e.seq == c.seq)&&decide (0<c.sn)))=false):=(q3i c who m.e hsl).symm.trans hown
 have hn1:((m.e.n:Int) == 0)=false:=by simp[h0]
 have hn2:(m.e.n == 0)=false:=by simp[h0]
 have hu:IntKind.i64.wrap (m.mr - 1)=c.rev:=by rw[hrev,show c.rev+1 - 1=c.rev by omega];exact IntWalk.i64_in _ ⟨by omega,by omega⟩
 have hu2:wrap64 (m.mr - 1)=c.rev:=by rw[← IntWalk.i64_left];exact hu
 have hu3:(c.rev == 60)=false:=by simp[h60]
 have hu4:(c.rev != c.rev)=false:=by simp
 have HWR:Hid (wrap64 (c.rev+1)=c.rev+1∧IntKind.i64.wrap (c.rev+1)=c.rev+1):=⟨by unfold wrap64;omega,IntWalk.i64_in _ ⟨by omega,by omega⟩⟩
 have CC:Hid (Calls Tryz.prog 102 #[.slice m.e.ao m.e.n m.e.cap] (boxk cv0 (qw m (boxk c w))) fun e w'' => e=.returned (.int .i64 0)∧Below (boxk cv0 (qw m (boxk c w))).heap.size (boxk cv0 (qw m (boxk c w))) w''):=by have:=qy m.e.ao m.e.n m.e.cap m.e.vs (boxk cv0 (qw m (boxk c w))) H0.out.o;rw[hx] at this;exact this
 clear hC hO hA h1 hR h0 hx hrev h60 hown r3 r4
 obtain ⟨C0,hC0⟩:∃ C0,Kl.othC c.cl (m.e.vs.map PV.pt)=C0:=⟨_,rfl⟩
 have HCO:Hid (Kl.othC c.cl (m.e.vs.map PV.pt)=C0):=hC0
 rw[hC0]
 clear hC0
 obtain ⟨D,hD⟩:∃ D,Ac.done c.base (m.e.vs.map PV.pt)=D:=⟨_,rfl⟩
 have HDN:Hid (Ac.done c.base (m.e.vs.map PV.pt)=D):=hD
 clear hD
 go_enter Tryz.func42,Tryz.ntmps42
 go_upto_region 1 with fail
 change Code.wp Tryz.prog _ _ _ (boxk cv0 (qw m (boxk c w)))
 generalize (boxk cv0 (qw m (boxk c w)))=V at *
 have q0:V.cell? ⟨w.heap.size+1,0,none⟩=some (.int .i64 m.mr):=H0.out.b.cell 0
 have q1:V.cell? ⟨w.heap.size+1,1,none⟩=some (.int .i64 m.e.who):=H0.out.b.cell 1
 have q2:V.cell? ⟨w.heap.size+1,2,none⟩=some (.int .i64 m.e.seq):=H0.out.b.cell 2
 have q3:V.cell? ⟨w.heap.size+1,3,none⟩=some (.slice m.e.ao m.e.n m.e.cap):=H0.out.b.cell 3
 have p0:V.cell? ⟨w.heap.size,0,none⟩=some (.int .i64 c.rev):=H0.out.k.blk.cell 0
 have p1:V.cell? ⟨w.heap.size,1,none⟩=some (.slice c.ba c.bn c.bc):=H0.out.k.blk.cell 1
 have p2:V.cell? ⟨w.heap.size,2,none⟩=some (.slice c.na c.nn c.nc):=H0.out.k.blk.cell 2
 have p3:V.cell? ⟨w.heap.size,3,none⟩=some (.int .i64 c.seq):=H0.out.k.blk.cell 3
 have p4:V.cell? ⟨w.heap.size,4,none⟩=some (.slice c.sa c.sn c.sc):=H0.out.k.blk.cell 4
 have p5:V.cell? ⟨w.heap.size,5,none⟩=some (.slice c.ha c.hn c.hc):=H0.out.k.blk.cell 5
 have p6:V.cell? ⟨w.heap.size,6,none⟩=some (.bool c.jo):=H0.out.k.blk.cell 6
 obtain ⟨b1,hb1⟩:∃ b,(m.e.who == who)=b:=⟨_,rfl⟩
 obtain ⟨b2,hb2⟩:∃ b,(m.e.seq == c.seq)=b:=⟨_,rfl⟩
 obtain ⟨b3,hb3⟩:∃ b,decide (0<c.sn)=b:=⟨_,rfl⟩
 have hb4:decide ((0:Int)<(c.sn:Int))=b3:=by rw[← hb3];simp
 rw[hb1,hb2,hb3] at HOO
 go_cut [9] from 18 to 36 (fun v wx=>v=.bool false∧wx=V)
 case first =>
  cases b3
  ·go_wp2_with fail
   go_meet
   exact ⟨rfl,rfl⟩
  ·cases b1
   ·go_wp2_with fail
    go_meet
    exact ⟨rfl,rfl⟩
   ·obtain rfl:b2=false:=by have:=HOO.out;simpa using this
    go_wp2_with fail
    go_meet
    exact ⟨rfl,rfl⟩
 case rest =>
  obtain ⟨rfl,rfl⟩:=hcut
  generalize wc=V at *
  clear HOO hb1 hb2 hb3 hb4
  go_wp2_with fail
  refine CC.out.mono ?_
  rintro e w2 ⟨rfl,hb⟩
  have H2:Hid (HrR w c m w2):=H0.out.under hb
  clear hb CC p0 p1 p2 p3 p4 p5 p6 q0 q1 q2 q3 H0
  have CA:Hid (Calls Tryz.prog 82 #[.slice c.ba c.bn c.bc,.slice m.e.ao m.e.n m.e.cap] w2 fun e w' => (∃ a' n' c',e=.returned (.tuple #[.slice a' n' c',.int .i64 (Ac.fitE c.base (m.e.vs.map PV.pt))])∧Doc w' a' n' c' (Ac.done c.base (m.e.vs.map PV.pt)))∧Below w2.heap.size w2 w'):=(zh _ _ _ _ _ _ _ _ _ H2.out.k.cli.base H2.out.o).mono fun e w' ⟨⟨a',c',h1,h2⟩,hb⟩=>⟨⟨a',_,c',h1,h2⟩,hb⟩
  rw[HDN.out,HFF.out] at CA
  have q0:w2.cell? ⟨w.heap.size+1,0,none⟩=some (.int .i64 m.mr):=H2.out.b.cell 0
  have q1:w2.cell? ⟨w.heap.size+1,1,none⟩=some (.int .i64 m.e.who):=H2.out.b.cell 1
  have q2:w2.cell? ⟨w.heap.size+1,2,none⟩=some (.int .i64 m.e.seq):=H2.out.b.cell 2
  have q3:w2.cell? ⟨w.heap.size+1,3,none⟩=some (.slice m.e.ao m.e.n m.e.cap):=H2.out.b.cell 3
  have p0:w2.cell? ⟨w.heap.size,0,none⟩=some (.int .i64 c.rev):=H2.out.k.blk.cell 0
  have p1:w2.cell? ⟨w.heap.size,1,none⟩=some (.slice c.ba c.bn c.bc):=H2.out.k.blk.cell 1
  have p2:w2.cell? ⟨w.heap.size,2,none⟩=some (.slice c.na c.nn c.nc):=H2.out.k.blk.cell 2
  have p3:w2.cell? ⟨w.heap.size,3,none⟩=some (.int .i64 c.seq):=H2.out.k.blk.cell 3
  have p4:w2.cell? ⟨w.heap.size,4,none⟩=some (.slice c.sa c.sn c.sc):=H2.out.k.blk.cell 4
  have p5:w2.cell? ⟨w.heap.size,5,none⟩=some (.slice c.ha c.hn c.hc):=H2.out.k.blk.cell 5
  have p6:w2.cell? ⟨w.heap.size,6,none⟩=some (.bool c.jo):=H2.out.k.blk.cell 6
  go_wp2_with fail
  refine CA.out.mono ?_
  rintro e w3 ⟨⟨ba,bn,bc,rfl,hdd⟩,hb⟩
  have H3:Hid (HrR w c m w3):=H2.out.under hb
  have HDD0:=hId hdd
  clear hdd hb CA p0 p1 p2 p3 p4 p5 p6 q0 q1 q2 q3 H2 hu hu2 hu3 hu4 hn1 hn2
  have hF:=HFN.out
  have hne:(F != 0)=true:=by simp[hF]
  have HCF:Hid (c.cl=C0):=by have:=HCO.out;unfold Kl.othC at this;rw[if_neg (show ¬ Ac.fitE c.cl.base (m.e.vs.map PV.pt)=0 from fun h=>hF (HFF.out.symm.trans h))] at this;exact this
  clear hF
  go_upto_region 26 with fail
  have HTT:Hid (Cli w3 c):=H3.out.k.cli
  have p0:w3.cell? ⟨w.heap.size,0,none⟩=some (.int .i64 c.rev):=H3.out.k.blk.cell 0
  have p1:w3.cell? ⟨w.heap.size,1,none⟩=some (.slice c.ba c.bn c.bc):=H3.out.k.blk.cell 1
  have p2:w3.cell? ⟨w.heap.size,2,none⟩=some (.slice c.na c.nn c.nc):=H3.out.k.blk.cell 2
  have p3:w3.cell? ⟨w.heap.size,3,none⟩=some (.int .i64 c.seq):=H3.out.k.blk.cell 3
  have p4:w3.cell? ⟨w.heap.size,4,none⟩=some (.slice c.sa c.sn c.sc):=H3.out.k.blk.cell 4
  have p5:w3.cell? ⟨w.heap.size,5,none⟩=some (.slice c.ha c.hn c.hc):=H3.out.k.blk.cell 5
  have p6:w3.cell? ⟨w.heap.size,6,none⟩=some (.bool c.jo):=H3.out.k.blk.cell 6
  have q0:w3.cell? ⟨w.heap.size+2,0,none⟩=some (.int .i64 0):=H3.out.r.cell 0
  have q1:w3.cell? ⟨w.heap.size+2,1,none⟩=some (.slice none 0 0):=H3.out.r.cell 1
  have q2:w3.cell? ⟨w.heap.size+2,2,none⟩=some (.slice none 0 0):=H3.out.r.cell 2
  have q3:w3.cell? ⟨w.heap.size+2,3,none⟩=some (.int .i64 0):=H3.out.r.cell 3
  have q4:w3.cell? ⟨w.heap.size+2,4,none⟩=some (.slice none 0 0):=H3.out.r.cell 4
  have q5:w3.cell? ⟨w.heap.size+2,5,none⟩=some (.slice none 0 0):=H3.out.r.cell 5
  have q6:w3.cell? ⟨w.heap.size+2,6,none⟩=some (.bool false):=H3.out.r.cell 6
  have g0:=H3.out.r.frozen 0
  have g1:=H3.out.r.frozen 1
  have g2:=H3.out.r.frozen 2
  have g3:=H3.out.r.frozen 3
  have g4:=H3.out.r.frozen 4
  have g5:=H3.out.r.frozen 5
  have g6:=H3.out.r.frozen 6
  go_wp2
  change bodyPost Tryz.prog _ _ Exit.ret _ (putK w3 (w.heap.size+2) c)
  exact bodyPost_ret (za (t:=c) rfl _ rfl rfl rfl (H3.out.fin (t:=c) HTT.out).2.1) rfl ⟨⟨c,rfl,(H3.out.fin (t:=c) HTT.out).1,HCF.out⟩,(H3.out.fin (t:=c) HTT.out).2.2⟩
end Go.Proofs.YtbhcklkbckacpaaGreatDoor
