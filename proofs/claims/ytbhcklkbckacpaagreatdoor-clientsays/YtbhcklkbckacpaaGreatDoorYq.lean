/- A part. -/
import Derived.Test.YtbhcklkbckacpaaGreatDoorYf
import Derived.Test.YtbhcklkbckacpaaGreatDoorUr
import Derived.Test.YtbhcklkbckacpaaGreatDoorRb
import Derived.Test.YtbhcklkbckacpaaGreatDoorOt
import Derived.Test.YtbhcklkbckacpaaGreatDoorYc
set_option maxRecDepth 100000
set_option maxHeartbeats 6400000
namespace Go.Proofs.YtbhcklkbckacpaaGreatDoor
open Go.RowKit
theorem q8s (a b:List It):Dc.same a b=Dc.same b a:=by
 have h1:=q01 a b
 have h2:=q01 b a
 cases e1:Dc.same a b <;> cases e2:Dc.same b a
 ·rfl
 ·exact absurd (h1.2 (h2.1 e2).symm) (by rw[e1];exact Bool.false_ne_true)
 ·exact absurd (h2.2 (h1.1 e1).symm) (by rw[e2];exact Bool.false_ne_true)
 ·rfl
theorem q30 (E:Int) (w:World):Calls Tryz.prog 99 #[.int .i64 E] w fun e w' => e=.returned (.tuple #[.agg #[.int .i64 0,.slice none 0 0,.slice none 0 0,.int .i64 0,.slice none 0 0,.slice none 0 0,.bool false],.bool false,.int .i64 E])∧Below w.heap.size w w' := by
 have H1:Hid (Below w.heap.size w (boxk cv0 w)):=qe _ _
 have HR:Hid (Blk (boxk cv0 w) w.heap.size (cvC cv0) 60):=qx _ _
 go_enter Tryz.func99,Tryz.ntmps99
 go_upto_region 1 with fail
 change Code.wp Tryz.prog _ _ _ (boxk cv0 w)
 have r0:(boxk cv0 w).cell? ⟨w.heap.size,0,none⟩=some (.int .i64 0):=HR.out.cell 0
 have r1:(boxk cv0 w).cell? ⟨w.heap.size,1,none⟩=some (.slice none 0 0):=HR.out.cell 1
 have r2:(boxk cv0 w).cell? ⟨w.heap.size,2,none⟩=some (.slice none 0 0):=HR.out.cell 2
 have r3:(boxk cv0 w).cell? ⟨w.heap.size,3,none⟩=some (.int .i64 0):=HR.out.cell 3
 have r4:(boxk cv0 w).cell? ⟨w.heap.size,4,none⟩=some (.slice none 0 0):=HR.out.cell 4
 have r5:(boxk cv0 w).cell? ⟨w.heap.size,5,none⟩=some (.slice none 0 0):=HR.out.cell 5
 have r6:(boxk cv0 w).cell? ⟨w.heap.size,6,none⟩=some (.bool false):=HR.out.cell 6
 have g0:=HR.out.frozen 0
 have g1:=HR.out.frozen 1
 have g2:=HR.out.frozen 2
 have g3:=HR.out.frozen 3
 have g4:=HR.out.frozen 4
 have g5:=HR.out.frozen 5
 have g6:=HR.out.frozen 6
 generalize boxk cv0 w=W at *
 go_wp2
 change bodyPost Tryz.prog _ _ Exit.ret _ (putK W w.heap.size cv0)
 exact bodyPost_ret (za (t:=cv0) rfl _ rfl rfl rfl (zo HR.out)) rfl ⟨rfl,H1.out.trans ((qq W w.heap.size cv0).low (Nat.le_of_lt HR.out.lt))⟩
theorem zk (c:CV) (w:World) (hC:Cli w c) :
  Calls Tryz.prog 101 #[.agg #[.int .i64 c.rev,.slice c.ba c.bn c.bc,.slice c.na c.nn c.nc,.int .i64 c.seq,.slice c.sa c.sn c.sc,.slice c.ha c.hn c.hc,.bool c.jo]] w fun e w' => (∃ t,e=.returned (.agg #[.int .i64 t.rev,.slice t.ba t.bn t.bc,.slice t.na t.nn t.nc,.int .i64 t.seq,.slice t.sa t.sn t.sc,.slice t.ha t.hn t.hc,.bool t.jo])∧Cli w' t∧t.cl=Kl.gv c.cl)∧Below w.heap.size w w' := by
 have h1:Below w.heap.size w (boxk cv0 (boxk c w)):=(qe c w).trans ((qe cv0 _).mono (qe c w).size)
 have H1:=hId h1
 have HK:Hid (KAt (boxk cv0 (boxk c w)) (w.heap.size) c):=⟨(qx c w).alloc _,hC.below h1⟩
 have HQ:Hid (Blk (boxk cv0 (boxk c w)) (w.heap.size+1) (cvC cv0) 60):=by have:=qx cv0 (boxk c w);rw[zl] at this;exact this
 clear hC h1
 go_enter Tryz.func101,Tryz.ntmps101
 go_upto_region 1 with fail
 change Code.wp Tryz.prog _ _ _ (boxk cv0 (boxk c w))
 generalize boxk cv0 (boxk c w)=W at *
 have p0:W.cell? ⟨w.heap.size,0,none⟩=some (.int .i64 c.rev):=HK.out.blk.cell 0
 have p1:W.cell? ⟨w.heap.size,1,none⟩=some (.slice c.ba c.bn c.bc):=HK.out.blk.cell 1
 have p2:W.cell? ⟨w.heap.size,2,none⟩=some (.slice c.na c.nn c.nc):=HK.out.blk.cell 2
 have p3:W.cell? ⟨w.heap.size,3,none⟩=some (.int .i64 c.seq):=HK.out.blk.cell 3
 have p4:W.cell? ⟨w.heap.size,4,none⟩=some (.slice c.sa c.sn c.sc):=HK.out.blk.cell 4
 have p5:W.cell? ⟨w.heap.size,5,none⟩=some (.slice c.ha c.hn c.hc):=HK.out.blk.cell 5
 have p6:W.cell? ⟨w.heap.size,6,none⟩=some (.bool c.jo):=HK.out.blk.cell 6
 have f0:=HK.out.blk.frozen 0
 have f1:=HK.out.blk.frozen 1
 have f2:=HK.out.blk.frozen 2
 have f3:=HK.out.blk.frozen 3
 have f4:=HK.out.blk.frozen 4
 have f5:=HK.out.blk.frozen 5
 have f6:=HK.out.blk.frozen 6
 have hs1:=HK.out.toSent none 0 0 [] (jy _)
 have hs2:=hs1.toHeld none 0 0 [] (jy _)
 have HK3:Hid (KAt (((W.setCell ⟨w.heap.size,4,none⟩ (.slice none 0 0)).setCell ⟨w.heap.size,5,none⟩ (.slice none 0 0)).setCell ⟨w.heap.size,2,none⟩ (.slice c.ba c.bn c.bc)) (w.heap.size) (((c.toSent none 0 0 []).toHeld none 0 0 []).toNow c.ba c.bn c.bc c.base)):=hs2.toNow c.ba c.bn c.bc c.base hs2.cli.base
 have hkp:Kept W (((W.setCell ⟨w.heap.size,4,none⟩ (.slice none 0 0)).setCell ⟨w.heap.size,5,none⟩ (.slice none 0 0)).setCell ⟨w.heap.size,2,none⟩ (.slice c.ba c.bn c.bc)) [w.heap.size]:=((qh ..).trans (qh ..)).trans (qh ..)
 have HQ3:Hid (Blk (((W.setCell ⟨w.heap.size,4,none⟩ (.slice none 0 0)).setCell ⟨w.heap.size,5,none⟩ (.slice none 0 0)).setCell ⟨w.heap.size,2,none⟩ (.slice c.ba c.bn c.bc)) (w.heap.size+1) (cvC cv0) 60):=hkp.blk HQ.out (by simp)
 have HW3:Hid (Below w.heap.size w (((W.setCell ⟨w.heap.size,4,none⟩ (.slice none 0 0)).setCell ⟨w.heap.size,5,none⟩ (.slice none 0 0)).setCell ⟨w.heap.size,2,none⟩ (.slice c.ba c.bn c.bc))):=H1.out.trans (hkp.low (by have:=HQ.out.lt;omega))
 clear hs1 hs2 hkp
 go_upto_region 2 with fail
 change Code.wp Tryz.prog _ _ _ (((W.setCell ⟨w.heap.size,4,none⟩ (.slice none 0 0)).setCell ⟨w.heap.size,5,none⟩ (.slice none 0 0)).setCell ⟨w.heap.size,2,none⟩ (.slice c.ba c.bn c.bc))
 generalize ((W.setCell ⟨w.heap.size,4,none⟩ (.slice none 0 0)).setCell ⟨w.heap.size,5,none⟩ (.slice none 0 0)).setCell ⟨w.heap.size,2,none⟩ (.slice c.ba c.bn c.bc)=W3 at *
 clear p0 p1 p2 p3 p4 p5 p6 f0 f1 f2 f3 f4 f5 f6
 obtain ⟨t,ht⟩:∃ t,((c.toSent none 0 0 []).toHeld none 0 0 []).toNow c.ba c.bn c.bc c.base=t:=⟨_,rfl⟩
 have HCL:Hid (t.cl=Kl.gv c.cl):=by rw[← ht];exact rfl
 rw[ht] at HK3
 clear ht
 have p0:W3.cell? ⟨w.heap.size,0,none⟩=some (.int .i64 t.rev):=HK3.out.blk.cell 0
 have p1:W3.cell? ⟨w.heap.size,1,none⟩=some (.slice t.ba t.bn t.bc):=HK3.out.blk.cell 1
 have p2:W3.cell? ⟨w.heap.size,2,none⟩=some (.slice t.na t.nn t.nc):=HK3.out.blk.cell 2
 have p3:W3.cell? ⟨w.heap.size,3,none⟩=some (.int .i64 t.seq):=HK3.out.blk.cell 3
 have p4:W3.cell? ⟨w.heap.size,4,none⟩=some (.slice t.sa t.sn t.sc):=HK3.out.blk.cell 4
 have p5:W3.cell? ⟨w.heap.size,5,none⟩=some (.slice t.ha t.hn t.hc):=HK3.out.blk.cell 5
 have p6:W3.cell? ⟨w.heap.size,6,none⟩=some (.bool t.jo):=HK3.out.blk.cell 6
 have q0:W3.cell? ⟨w.heap.size+1,0,none⟩=some (.int .i64 0):=HQ3.out.cell 0
 have q1:W3.cell? ⟨w.heap.size+1,1,none⟩=some (.slice none 0 0):=HQ3.out.cell 1
 have q2:W3.cell? ⟨w.heap.size+1,2,none⟩=some (.slice none 0 0):=HQ3.out.cell 2
 have q3:W3.cell? ⟨w.heap.size+1,3,none⟩=some (.int .i64 0):=HQ3.out.cell 3
 have q4:W3.cell? ⟨w.heap.size+1,4,none⟩=some (.slice none 0 0):=HQ3.out.cell 4
 have q5:W3.cell? ⟨w.heap.size+1,5,none⟩=some (.slice none 0 0):=HQ3.out.cell 5
 have q6:W3.cell? ⟨w.heap.size+1,6,none⟩=some (.bool false):=HQ3.out.cell 6
 have g0:=HQ3.out.frozen 0
 have g1:=HQ3.out.frozen 1
 have g2:=HQ3.out.frozen 2
 have g3:=HQ3.out.frozen 3
 have g4:=HQ3.out.frozen 4
 have g5:=HQ3.out.frozen 5
 have g6:=HQ3.out.frozen 6
 go_wp2
 change bodyPost Tryz.prog _ _ Exit.ret _ (putK W3 (w.heap.size+1) t)
 exact bodyPost_ret (q8v (t:=t) rfl _ rfl (zo HQ3.out)) rfl ⟨⟨t,rfl,HK3.out.cli.keptK HQ3.out (qq _ _ _),HCL.out⟩,HW3.out.trans (((qq W3 (w.heap.size+1) t).low (by have:=HQ3.out.lt;omega)).mono (by omega))⟩
theorem qc9 (c:CV) (w:World) (hC:Cli w c) :
  Calls Tryz.prog 36 #[.agg #[.int .i64 c.rev,.slice c.ba c.bn c.bc,.slice c.na c.nn c.nc,.int .i64 c.seq,.slice c.sa c.sn c.sc,.slice c.ha c.hn c.hc,.bool c.jo]] w fun e w' => e=.returned (.int .i64 (Kl.cliE c.cl))∧Below w.heap.size w w' := by
 have H1:Hid (Below w.heap.size w (boxk c w)):=qe c w
 have HK:Hid (KAt (boxk c w) (w.heap.size) c):=⟨qx c w,hC.below (qe c w)⟩
 have hsl:(c.sent.map PV.pt).length=c.sn:=zm hC.sent
 have hhl:(c.held.map PV.pt).length=c.hn:=zm hC.held
 have C1:Hid (Calls Tryz.prog 27 #[.slice c.ba c.bn c.bc] (boxk c w) fun e w' => e=.returned (.int .i64 (Dc.check c.base))∧Below (boxk c w).heap.size (boxk c w) w'):=kj _ _ _ _ _ (hC.base.below H1.out)
 clear hC
 obtain ⟨r,hr⟩:∃ r,Kl.cliE c.cl=r:=⟨_,rfl⟩
 rw[hr]
 change (if c.rev<0∨60<c.rev∨c.seq<0∨10000<c.seq then (3:Int) else if Dc.check c.base=0 then (if (0<(c.held.map PV.pt).length∧(c.sent.map PV.pt).length=0)∨(0<(c.sent.map PV.pt).length∧c.seq=0) then 4 else if Kl.dnE c.base (c.sent.map PV.pt) (c.held.map PV.pt)=0 then (if Dc.same c.now (Kl.dnD c.base (c.sent.map PV.pt) (c.held.map PV.pt))=true then 0 else 4) else Kl.dnE c.base (c.sent.map PV.pt) (c.held.map PV.pt)) else Dc.check c.base)=r at hr
 rw[hsl,hhl] at hr
 clear hsl hhl
 by_cases g1:c.rev<0
 ·obtain rfl:r=3:=by rw[← hr,if_pos (Or.inl g1)]
  clear hr
  go_enter Tryz.func36,Tryz.ntmps36
  go_upto_region 1 with fail
  change Code.wp Tryz.prog _ _ _ (boxk c w)
  generalize boxk c w=W at *
  have p0:W.cell? ⟨w.heap.size,0,none⟩=some (.int .i64 c.rev):=HK.out.blk.cell 0
  have p1:W.cell? ⟨w.heap.size,1,none⟩=some (.slice c.ba c.bn c.bc):=HK.out.blk.cell 1
  have p2:W.cell? ⟨w.heap.size,2,none⟩=some (.slice c.na c.nn c.nc):=HK.out.blk.cell 2
  have p3:W.cell? ⟨w.heap.size,3,none⟩=some (.int .i64 c.seq):=HK.out.blk.cell 3
  have p4:W.cell? ⟨w.heap.size,4,none⟩=some (.slice c.sa c.sn c.sc):=HK.out.blk.cell 4
  have p5:W.cell? ⟨w.heap.size,5,none⟩=some (.slice c.ha c.hn c.hc):=HK.out.blk.cell 5
  have p6:W.cell? ⟨w.heap.size,6,none⟩=some (.bool c.jo):=HK.out.blk.cell 6
  go_wp2
  go_ret
  exact ⟨rfl,H1.out⟩
 by_cases g2:60<c.rev
 ·obtain rfl:r=3:=by rw[← hr,if_pos (Or.inr (Or.inl g2))]
  clear hr
  go_enter Tryz.func36,Tryz.ntmps36
  go_upto_region 1 with fail
  change Code.wp Tryz.prog _ _ _ (boxk c w)
  generalize boxk c w=W at *
  have p0:W.cell? ⟨w.heap.size,0,none⟩=some (.int .i64 c.rev):=HK.out.blk.cell 0
  have p1:W.cell? ⟨w.heap.size,1,none⟩=some (.slice c.ba c.bn c.bc):=HK.out.blk.cell 1
  have p2:W.cell? ⟨w.heap.size,2,none⟩=some (.slice c.na c.nn c.nc):=HK.out.blk.cell 2
  have p3:W.cell? ⟨w.heap.size,3,none⟩=some (.int .i64 c.seq):=HK.out.blk.cell 3
  have p4:W.cell? ⟨w.heap.size,4,none⟩=some (.slice c.sa c.sn c.sc):=HK.out.blk.cell 4
  have p5:W.cell? ⟨w.heap.size,5,none⟩=some (.slice c.ha c.hn c.hc):=HK.out.blk.cell 5
  have p6:W.cell? ⟨w.heap.size,6,none⟩=some (.bool c.jo):=HK.out.blk.cell 6
  go_wp2
  go_ret
  exact ⟨rfl,H1.out⟩
 by_cases g3:c.seq<0
 ·obtain rfl:r=3:=by rw[← hr,if_pos (Or.inr (Or.inr (Or.inl g3)))]
  clear hr
  go_enter Tryz.func36,Tryz.ntmps36
  go_upto_region 1 with fail
  change Code.wp Tryz.prog _ _ _ (boxk c w)
  generalize boxk c w=W at *
  have p0:W.cell? ⟨w.heap.size,0,none⟩=some (.int .i64 c.rev):=HK.out.blk.cell 0
  have p1:W.cell? ⟨w.heap.size,1,none⟩=some (.slice c.ba c.bn c.bc):=HK.out.blk.cell 1
  have p2:W.cell? ⟨w.heap.size,2,none⟩=some (.slice c.na c.nn c.nc):=HK.out.blk.cell 2
  have p3:W.cell? ⟨w.heap.size,3,none⟩=some (.int .i64 c.seq):=HK.out.blk.cell 3
  have p4:W.cell? ⟨w.heap.size,4,none⟩=some (.slice c.sa c.sn c.sc):=HK.out.blk.cell 4
  have p5:W.cell? ⟨w.heap.size,5,none⟩=some (.slice c.ha c.hn c.hc):=HK.out.blk.cell 5
  have p6:W.cell? ⟨w.heap.size,6,none⟩=some (.bool c.jo):=HK.out.blk.cell 6
  go_wp2
  go_ret
  exact ⟨rfl,H1.out⟩
 by_cases g4:10000<c.seq
 ·obtain rfl:r=3:=by rw[← hr,if_pos (Or.inr (Or.inr (Or.inr g4)))]
  clear hr
  go_enter Tryz.func36,Tryz.ntmps36
  go_upto_region 1 with fail
  change Code.wp Tryz.prog _ _ _ (boxk c w)
  generalize boxk c w=W at *
  have p0:W.cell? ⟨w.heap.size,0,none⟩=some (.int .i64 c.rev):=HK.out.blk.cell 0
  have p1:W.cell? ⟨w.heap.size,1,none⟩=some (.slice c.ba c.bn c.bc):=HK.out.blk.cell 1
  have p2:W.cell? ⟨w.heap.size,2,none⟩=some (.slice c.na c.nn c.nc):=HK.out.blk.cell 2
  have p3:W.cell? ⟨w.heap.size,3,none⟩=some (.int .i64 c.seq):=HK.out.blk.cell 3
  have p4:W.cell? ⟨w.heap.size,4,none⟩=some (.slice c.sa c.sn c.sc):=HK.out.blk.cell 4
  have p5:W.cell? ⟨w.heap.size,5,none⟩=some (.slice c.ha c.hn c.hc):=HK.out.blk.cell 5
  have p6:W.cell? ⟨w.heap.size,6,none⟩=some (.bool c.jo):=HK.out.blk.cell 6
  go_wp2
  go_ret
  exact ⟨rfl,H1.out⟩
 rw[if_neg (show ¬ (c.rev<0∨60<c.rev∨c.seq<0∨10000<c.seq) by omega)] at hr
 have HR:Hid _:=hr
 clear hr
 obtain ⟨x,hx⟩:∃ x,Dc.check c.base=x:=⟨_,rfl⟩
 rw[hx] at C1 HR
 clear hx
 by_cases h2:x=0
 ·have HR2:Hid ((if (0<c.hn∧c.sn=0)∨(0<c.sn∧c.seq=0) then (4:Int) else if Kl.dnE c.base (c.sent.map PV.pt) (c.held.map PV.pt)=0 then (if Dc.same c.now (Kl.dnD c.base (c.sent.map PV.pt) (c.held.map PV.pt))=true then 0 else 4) else Kl.dnE c.base (c.sent.map PV.pt) (c.held.map PV.pt))=r):=by have:=HR.out;rw[if_pos h2] at this;exact this
  clear HR
  subst h2
  go_enter Tryz.func36,Tryz.ntmps36
  go_upto_region 1 with fail
  change Code.wp Tryz.prog _ _ _ (boxk c w)
  generalize boxk c w=W at *
  have p0:W.cell? ⟨w.heap.size,0,none⟩=some (.int .i64 c.rev):=HK.out.blk.cell 0
  have p1:W.cell? ⟨w.heap.size,1,none⟩=some (.slice c.ba c.bn c.bc):=HK.out.blk.cell 1
  have p2:W.cell? ⟨w.heap.size,2,none⟩=some (.slice c.na c.nn c.nc):=HK.out.blk.cell 2
  have p3:W.cell? ⟨w.heap.size,3,none⟩=some (.int .i64 c.seq):=HK.out.blk.cell 3
  have p4:W.cell? ⟨w.heap.size,4,none⟩=some (.slice c.sa c.sn c.sc):=HK.out.blk.cell 4
  have p5:W.cell? ⟨w.heap.size,5,none⟩=some (.slice c.ha c.hn c.hc):=HK.out.blk.cell 5
  have p6:W.cell? ⟨w.heap.size,6,none⟩=some (.bool c.jo):=HK.out.blk.cell 6
  go_wp2_with fail
  refine C1.out.mono ?_
  rintro e w1 ⟨rfl,hb⟩
  have HB1:=hId hb
  have HK1:Hid (KAt w1 (w.heap.size) c):=HK.out.below hb
  clear hb p0 p1 p2 p3 p4 p5 p6
  have p0:w1.cell? ⟨w.heap.size,0,none⟩=some (.int .i64 c.rev):=HK1.out.blk.cell 0
  have p1:w1.cell? ⟨w.heap.size,1,none⟩=some (.slice c.ba c.bn c.bc):=HK1.out.blk.cell 1
  have p2:w1.cell? ⟨w.heap.size,2,none⟩=some (.slice c.na c.nn c.nc):=HK1.out.blk.cell 2
  have p3:w1.cell? ⟨w.heap.size,3,none⟩=some (.int .i64 c.seq):=HK1.out.blk.cell 3
  have p4:w1.cell? ⟨w.heap.size,4,none⟩=some (.slice c.sa c.sn c.sc):=HK1.out.blk.cell 4
  have p5:w1.cell? ⟨w.heap.size,5,none⟩=some (.slice c.ha c.hn c.hc):=HK1.out.blk.cell 5
  have p6:w1.cell? ⟨w.heap.size,6,none⟩=some (.bool c.jo):=HK1.out.blk.cell 6
  obtain ⟨bh,hbh⟩:∃ b,decide (0<c.hn)=b:=⟨_,rfl⟩
  obtain ⟨bs,hbs⟩:∃ b,decide (0<c.sn)=b:=⟨_,rfl⟩
  obtain ⟨qz,hqz⟩:∃ b,(c.seq == 0)=b:=⟨_,rfl⟩
  have hbh1:decide ((0:Int)<(c.hn:Int))=bh:=by rw[← hbh];simp
  have hbs1:decide ((0:Int)<(c.sn:Int))=bs:=by rw[← hbs];simp
  have hbs2:((c.sn:Int) == 0)=!bs:=by rw[← hbs];cases hh:decide (0<c.sn) <;> simp at hh ⊢ <;> omega
  have hbs3:(c.sn == 0)=!bs:=by rw[← hbs];cases hh:decide (0<c.sn) <;> simp at hh ⊢ <;> omega
  have HTS:Hid (((0<c.hn∧c.sn=0)∨(0<c.sn∧c.seq=0)) ↔ ((bh&&!bs) || (bs&&qz))=true):=by
   show _ ↔ _
   rw[← hbh,← hbs,← hqz]
   simp only[Bool.or_eq_true,Bool.and_eq_true,decide_eq_true_eq,Bool.not_eq_true',decide_eq_false_iff_not,beq_iff_eq]
   omega
  go_upto_region 6 with fail
  go_cut [53] from 33 to 53 (fun v wx=>v=.bool ((bh&&!bs) || (bs&&qz))∧wx=w1)
  case first =>
   cases bh
   ·cases bs
    ·go_wp2_with fail
     go_meet
     exact ⟨rfl,rfl⟩
    ·cases qz
     ·go_wp2_with fail
      go_meet
      exact ⟨rfl,rfl⟩
     ·go_wp2_with fail
      go_meet
      exact ⟨rfl,rfl⟩
   ·cases bs
    ·go_wp2_with fail
     go_meet
     exact ⟨rfl,rfl⟩
    ·cases qz
     ·go_wp2_with fail
      go_meet
      exact ⟨rfl,rfl⟩
     ·go_wp2_with fail
      go_meet
      exact ⟨rfl,rfl⟩
  case rest =>
   obtain ⟨rfl,rfl⟩:=hcut
   generalize ((bh&&!bs) || (bs&&qz))=T at *
   clear hbh hbs hqz hbh1 hbs1 hbs2 hbs3
   cases T
   ·have HR3:Hid ((if Kl.dnE c.base (c.sent.map PV.pt) (c.held.map PV.pt)=0 then (if Dc.same c.now (Kl.dnD c.base (c.sent.map PV.pt) (c.held.map PV.pt))=true then (0:Int) else 4) else Kl.dnE c.base (c.sent.map PV.pt) (c.held.map PV.pt))=r):=by have:=HR2.out;rw[if_neg (fun h=>Bool.false_ne_true (HTS.out.1 h))] at this;exact this
    clear HR2 HTS
    have H4:Hid (Below wc.heap.size wc (wc.alloc (.cells #[.slice c.sa c.sn c.sc,.slice c.ha c.hn c.hc] 44))):=(Below.refl _ _).alloc (Nat.le_refl _) _
    have HL4:Hid (Blk (wc.alloc (.cells #[.slice c.sa c.sn c.sc,.slice c.ha c.hn c.hc] 44)) wc.heap.size [.slice c.sa c.sn c.sc,.slice c.ha c.hn c.hc] 44):=Blk.new wc _ _
    go_upto_region 10 with fail
    change Code.wp Tryz.prog _ _ _ (wc.alloc (.cells #[.slice c.sa c.sn c.sc,.slice c.ha c.hn c.hc] 44))
    generalize wc.alloc (.cells #[.slice c.sa c.sn c.sc,.slice c.ha c.hn c.hc] 44)=w4 at *
    have HK4:Hid (KAt w4 (w.heap.size) c):=HK1.out.below H4.out
    have HB4:Hid (Below W.heap.size W w4):=HB1.out.trans (H4.out.mono HB1.out.size)
    have HKR:Hid (∀ w',Below w4.heap.size w4 w' → KAt w' (w.heap.size) c):=fun w' hb=>HK4.out.below hb
    have HLR:Hid (∀ w',Below w4.heap.size w4 w' → Blk w' wc.heap.size [.slice c.sa c.sn c.sc,.slice c.ha c.hn c.hc] 44):=fun w' hb=>(hb.block _ HL4.out.lt).trans HL4.out
    have HWL:Hid (∀ w',Below w4.heap.size w4 w' → Below w.heap.size w w'):=fun w' hb=>H1.out.trans ((HB4.out.trans (hb.mono HB4.out.size)).mono H1.out.size)
    generalize wc.heap.size=lb at *
    clear p0 p1 p2 p3 p4 p5 p6
    go_loopw [62,4] (fun i v wr=>∃ k:Nat,k≤2∧i=.int .i64 k∧∃ a m q l,v=.slice a m q∧Doc wr a m q l∧Below w4.heap.size w4 wr∧Kl.DnI c.base (c.sent.map PV.pt) (c.held.map PV.pt) k l) (fun i _ _=>2 - (intOf i).toNat)
    case atStart=>exact ⟨0,by decide,rfl,c.ba,c.bn,c.bc,c.base,rfl,HK4.out.cli.base,Below.refl _ _,.inl ⟨rfl,rfl⟩⟩
    case round =>
     obtain ⟨k,hk,rfl,a,m,q,l,rfl,hdl,hbr,hi⟩:=hrel
     have HDL:=hId hdl
     have HB:=hId hbr
     have HI:=hId hi
     have z0:wr.cell? ⟨lb,0,none⟩=some (.slice c.sa c.sn c.sc):=(HLR.out _ hbr).cell 0
     have z1:wr.cell? ⟨lb,1,none⟩=some (.slice c.ha c.hn c.hc):=(HLR.out _ hbr).cell 1
     clear hdl hbr hi
     obtain rfl | rfl | rfl:k=0∨k=1∨k=2:=by omega
     ·clear hk
      by_cases h0:c.sn=0
      ·have HL0:Hid ((c.sent.map PV.pt).length=0):=by show _=_;rw[zm (HKR.out _ HB.out).cli.sent];exact h0
       have hn1:decide ((0:Int)<(c.sn:Int))=false:=by simp[h0]
       have hn2:decide (0<c.sn)=false:=by simp[h0]
       clear h0
       go_wp2
       go_roundw
       case rel=>exact ⟨1,by decide,rfl,a,m,q,l,rfl,HDL.out,HB.out,HI.out.none0 HL0.out⟩
       case measure=>decide
      ·have HL0:Hid (0<(c.sent.map PV.pt).length):=by show 0<_;rw[zm (HKR.out _ HB.out).cli.sent];omega
       have hn1:decide ((0:Int)<(c.sn:Int))=true:=by simp;omega
       have hn2:decide (0<c.sn)=true:=by simp;omega
       have CA:Hid (Calls Tryz.prog 82 #[.slice a m q,.slice c.sa c.sn c.sc] wr fun e w' => (∃ a' c',e=.returned (.tuple #[.slice a' (Ac.done l (c.sent.map PV.pt)).length c',.int .i64 (Ac.fitE l (c.sent.map PV.pt))])∧Doc w' a' (Ac.done l (c.sent.map PV.pt)).length c' (Ac.done l (c.sent.map PV.pt)))∧Below wr.heap.size wr w'):=zh _ _ _ _ _ _ l c.sent wr HDL.out (HKR.out _ HB.out).cli.sent
       clear h0
       obtain ⟨D,hD⟩:∃ D,Ac.done l (c.sent.map PV.pt)=D:=⟨_,rfl⟩
       obtain ⟨E,hE⟩:∃ E,Ac.fitE l (c.sent.map PV.pt)=E:=⟨_,rfl⟩
       have HD1:Hid (Ac.done l (c.sent.map PV.pt)=D):=hD
       have HE1:Hid (Ac.fitE l (c.sent.map PV.pt)=E):=hE
       rw[hD,hE] at CA
       clear hD hE
       obtain ⟨z,hz0⟩:∃ z,D.length=z:=⟨_,rfl⟩
       rw[hz0] at CA
       clear hz0
       go_wp2_with fail
       refine CA.out.mono ?_
       rintro e w2 ⟨⟨a2,c2,rfl,hd2⟩,hb⟩
       have HD2:=hId hd2
       have HB2:Hid (Below w4.heap.size w4 w2):=HB.out.trans (hb.mono HB.out.size)
       clear hd2 hb
       by_cases hz:E=0
       ·have HN:=HI.out.some0 HL0.out (HE1.out.trans hz)
        subst hz
        go_wp2
        go_roundw
        case rel=>exact ⟨1,by decide,rfl,a2,z,c2,_,rfl,HD2.out,HB2.out,by rw[HD1.out] at HN;exact HN⟩
        case measure=>decide
       ·have hne:(E != 0)=true:=by simp[hz]
        have HN:Hid (Kl.dnE c.base (c.sent.map PV.pt) (c.held.map PV.pt)=E):=by have:=HI.out.bad0 HL0.out (by rw[HE1.out];exact hz);rw[HE1.out] at this;exact this
        obtain rfl:r=E:=by have:=HR3.out;rw[HN.out,if_neg hz] at this;exact this.symm
        clear HD2
        go_wp2
        go_ret
        exact ⟨rfl,HWL.out _ HB2.out⟩
     ·clear hk
      by_cases h0:c.hn=0
      ·have HL0:Hid ((c.held.map PV.pt).length=0):=by show _=_;rw[zm (HKR.out _ HB.out).cli.held];exact h0
       have hn1:decide ((0:Int)<(c.hn:Int))=false:=by simp[h0]
       have hn2:decide (0<c.hn)=false:=by simp[h0]
       clear h0
       go_wp2
       go_roundw
       case rel=>exact ⟨2,by decide,rfl,a,m,q,l,rfl,HDL.out,HB.out,HI.out.none1 HL0.out⟩
       case measure=>decide
      ·have HL0:Hid (0<(c.held.map PV.pt).length):=by show 0<_;rw[zm (HKR.out _ HB.out).cli.held];omega
       have hn1:decide ((0:Int)<(c.hn:Int))=true:=by simp;omega
       have hn2:decide (0<c.hn)=true:=by simp;omega
       have CA:Hid (Calls Tryz.prog 82 #[.slice a m q,.slice c.ha c.hn c.hc] wr fun e w' => (∃ a' c',e=.returned (.tuple #[.slice a' (Ac.done l (c.held.map PV.pt)).length c',.int .i64 (Ac.fitE l (c.held.map PV.pt))])∧Doc w' a' (Ac.done l (c.held.map PV.pt)).length c' (Ac.done l (c.held.map PV.pt)))∧Below wr.heap.size wr w'):=zh _ _ _ _ _ _ l c.held wr HDL.out (HKR.out _ HB.out).cli.held
       clear h0
       obtain ⟨D,hD⟩:∃ D,Ac.done l (c.held.map PV.pt)=D:=⟨_,rfl⟩
       obtain ⟨E,hE⟩:∃ E,Ac.fitE l (c.held.map PV.pt)=E:=⟨_,rfl⟩
       have HD1:Hid (Ac.done l (c.held.map PV.pt)=D):=hD
       have HE1:Hid (Ac.fitE l (c.held.map PV.pt)=E):=hE
       rw[hD,hE] at CA
       clear hD hE
       obtain ⟨z,hz0⟩:∃ z,D.length=z:=⟨_,rfl⟩
       rw[hz0] at CA
       clear hz0
       go_wp2_with fail
       refine CA.out.mono ?_
       rintro e w2 ⟨⟨a2,c2,rfl,hd2⟩,hb⟩
       have HD2:=hId hd2
       have HB2:Hid (Below w4.heap.size w4 w2):=HB.out.trans (hb.mono HB.out.size)
       clear hd2 hb
       by_cases hz:E=0
       ·have HN:=HI.out.some1 HL0.out (HE1.out.trans hz)
        subst hz
        go_wp2
        go_roundw
        case rel=>exact ⟨2,by decide,rfl,a2,z,c2,_,rfl,HD2.out,HB2.out,by rw[HD1.out] at HN;exact HN⟩
        case measure=>decide
       ·have hne:(E != 0)=true:=by simp[hz]
        have HN:Hid (Kl.dnE c.base (c.sent.map PV.pt) (c.held.map PV.pt)=E):=by have:=HI.out.bad1 HL0.out (by rw[HE1.out];exact hz);rw[HE1.out] at this;exact this
        obtain rfl:r=E:=by have:=HR3.out;rw[HN.out,if_neg hz] at this;exact this.symm
        clear HD2
        go_wp2
        go_ret
        exact ⟨rfl,HWL.out _ HB2.out⟩
     ·clear hk
      obtain ⟨e0,e1⟩:=HI.out.last
      have HR4:Hid ((if Dc.same c.now l=true then (0:Int) else 4)=r):=by have:=HR3.out;rw[if_pos e0,← e1] at this;exact this
      have CE:Hid (Calls Tryz.prog 16 #[.slice a m q,.slice c.na c.nn c.nc] wr fun e w' => e=.returned (.bool (Dc.same c.now l))∧Below wr.heap.size wr w'):=by
       have:=q1f a c.na m q c.nn c.nc l c.now wr HDL.out (HKR.out _ HB.out).cli.now
       rw[q8s] at this
       exact this.mono fun e w' ⟨h,n,hn⟩=>⟨h,by rw[hn];exact qr _ n⟩
      have p2:wr.cell? ⟨w.heap.size,2,none⟩=some (.slice c.na c.nn c.nc):=(HKR.out _ HB.out).blk.cell 2
      clear e0 e1 HR3
      generalize Dc.same c.now l=z at *
      go_wp2_with fail
      refine CE.out.mono ?_
      rintro e w5 ⟨rfl,hb⟩
      have HB5:Hid (Below w4.heap.size w4 w5):=HB.out.trans (hb.mono HB.out.size)
      clear hb p2 CE
      cases z
      ·obtain rfl:r=4:=HR4.out.symm
       go_wp2
       go_ret
       exact ⟨rfl,HWL.out _ HB5.out⟩
      ·obtain rfl:r=0:=HR4.out.symm
       go_wp2
       go_ret
       exact ⟨rfl,HWL.out _ HB5.out⟩
   ·obtain rfl:r=4:=by have:=HR2.out;rw[if_pos (HTS.out.2 rfl)] at this;exact this.symm
    clear HR2 HTS
    go_wp2
    go_ret
    exact ⟨rfl,H1.out.trans (HB1.out.mono H1.out.size)⟩
 ·obtain rfl:r=x:=by have:=HR.out;rw[if_neg h2] at this;exact this.symm
  have hne:(r != 0)=true:=by simp[h2]
  clear HR
  go_enter Tryz.func36,Tryz.ntmps36
  go_upto_region 1 with fail
  change Code.wp Tryz.prog _ _ _ (boxk c w)
  generalize boxk c w=W at *
  have p0:W.cell? ⟨w.heap.size,0,none⟩=some (.int .i64 c.rev):=HK.out.blk.cell 0
  have p1:W.cell? ⟨w.heap.size,1,none⟩=some (.slice c.ba c.bn c.bc):=HK.out.blk.cell 1
  have p2:W.cell? ⟨w.heap.size,2,none⟩=some (.slice c.na c.nn c.nc):=HK.out.blk.cell 2
  have p3:W.cell? ⟨w.heap.size,3,none⟩=some (.int .i64 c.seq):=HK.out.blk.cell 3
  have p4:W.cell? ⟨w.heap.size,4,none⟩=some (.slice c.sa c.sn c.sc):=HK.out.blk.cell 4
  have p5:W.cell? ⟨w.heap.size,5,none⟩=some (.slice c.ha c.hn c.hc):=HK.out.blk.cell 5
  have p6:W.cell? ⟨w.heap.size,6,none⟩=some (.bool c.jo):=HK.out.blk.cell 6
  go_wp2_with fail
  refine C1.out.mono ?_
  rintro e w1 ⟨rfl,hb⟩
  have HB1:=hId hb
  have HK1:Hid (KAt w1 (w.heap.size) c):=HK.out.below hb
  clear hb p0 p1 p2 p3 p4 p5 p6
  go_wp2
  go_ret
  exact ⟨rfl,H1.out.trans (HB1.out.mono H1.out.size)⟩
theorem q7r (c d:CV) (w:World) (hC:Cli w c) (hD:Cli w d) :
  Calls Tryz.prog 40 #[.agg #[.int .i64 c.rev,.slice c.ba c.bn c.bc,.slice c.na c.nn c.nc,.int .i64 c.seq,.slice c.sa c.sn c.sc,.slice c.ha c.hn c.hc,.bool c.jo],.agg #[.int .i64 d.rev,.slice d.ba d.bn d.bc,.slice d.na d.nn d.nc,.int .i64 d.seq,.slice d.sa d.sn d.sc,.slice d.ha d.hn d.hc,.bool d.jo]] w fun e w' => e=.returned (.bool (Kl.same c.cl d.cl))∧Below w.heap.size w w' := by
 have H1:Hid (Below w.heap.size w (boxk d (boxk c w))):=(qe c w).trans ((qe d _).mono (qe c w).size)
 have hP:Blk (boxk d (boxk c w)) (w.heap.size) (cvC c) 60:=(qx c w).alloc _
 have hQ:Blk (boxk d (boxk c w)) (w.heap.size+1) (cvC d) 60:=by have:=qx d (boxk c w);rw[zl] at this;exact this
 have hC1:=hC.below H1.out
 have hD1:=hD.below H1.out
 have HCL:Hid (∀ w',Below (boxk d (boxk c w)).heap.size (boxk d (boxk c w)) w' → w'.cell? ⟨w.heap.size,0,none⟩=some (.int .i64 c.rev)∧w'.cell? ⟨w.heap.size,1,none⟩=some (.slice c.ba c.bn c.bc)∧w'.cell? ⟨w.heap.size,2,none⟩=some (.slice c.na c.nn c.nc)∧w'.cell? ⟨w.heap.size,3,none⟩=some (.int .i64 c.seq)∧w'.cell? ⟨w.heap.size,4,none⟩=some (.slice c.sa c.sn c.sc)∧w'.cell? ⟨w.heap.size,5,none⟩=some (.slice c.ha c.hn c.hc)∧w'.cell? ⟨w.heap.size,6,none⟩=some (.bool c.jo)∧w'.cell? ⟨w.heap.size+1,0,none⟩=some (.int .i64 d.rev)∧w'.cell? ⟨w.heap.size+1,1,none⟩=some (.slice d.ba d.bn d.bc)∧w'.cell? ⟨w.heap.size+1,2,none⟩=some (.slice d.na d.nn d.nc)∧w'.cell? ⟨w.heap.size+1,3,none⟩=some (.int .i64 d.seq)∧w'.cell? ⟨w.heap.size+1,4,none⟩=some (.slice d.sa d.sn d.sc)∧w'.cell? ⟨w.heap.size+1,5,none⟩=some (.slice d.ha d.hn d.hc)∧w'.cell? ⟨w.heap.size+1,6,none⟩=some (.bool d.jo)):=fun w' hb=>by
  have h1:Blk w' (w.heap.size) (cvC c) 60:=(hb.block _ hP.lt).trans hP
  have h2:Blk w' (w.heap.size+1) (cvC d) 60:=(hb.block _ hQ.lt).trans hQ
  exact ⟨h1.cell 0,h1.cell 1,h1.cell 2,h1.cell 3,h1.cell 4,h1.cell 5,h1.cell 6,h2.cell 0,h2.cell 1,h2.cell 2,h2.cell 3,h2.cell 4,h2.cell 5,h2.cell 6⟩
 have C4:Hid (∀ w',Below (boxk d (boxk c w)).heap.size (boxk d (boxk c w)) w' → Calls Tryz.prog 16 #[.slice c.ba c.bn c.bc,.slice d.ba d.bn d.bc] w' fun e w'' => e=.returned (.bool (Dc.same c.base d.base))∧Below w'.heap.size w' w''):=fun w' hb=>(q1f _ _ _ _ _ _ _ _ _ (hC1.base.below hb) (hD1.base.below hb)).mono fun e w'' ⟨h,q,hq⟩=>⟨h,by rw[hq];exact qr _ q⟩
 have C5:Hid (∀ w',Below (boxk d (boxk c w)).heap.size (boxk d (boxk c w)) w' → Calls Tryz.prog 16 #[.slice c.na c.nn c.nc,.slice d.na d.nn d.nc] w' fun e w'' => e=.returned (.bool (Dc.same c.now d.now))∧Below w'.heap.size w' w''):=fun w' hb=>(q1f _ _ _ _ _ _ _ _ _ (hC1.now.below hb) (hD1.now.below hb)).mono fun e w'' ⟨h,q,hq⟩=>⟨h,by rw[hq];exact qr _ q⟩
 have C6:Hid (∀ w',Below (boxk d (boxk c w)).heap.size (boxk d (boxk c w)) w' → Calls Tryz.prog 88 #[.slice c.sa c.sn c.sc,.slice d.sa d.sn d.sc] w' fun e w'' => e=.returned (.bool (Ac.sameO (c.sent.map PV.pt) (d.sent.map PV.pt)))∧Below w'.heap.size w' w''):=fun w' hb=>q3s _ _ _ _ _ _ _ _ _ (hC1.sent.below hb) (hD1.sent.below hb)
 have C7:Hid (∀ w',Below (boxk d (boxk c w)).heap.size (boxk d (boxk c w)) w' → Calls Tryz.prog 88 #[.slice c.ha c.hn c.hc,.slice d.ha d.hn d.hc] w' fun e w'' => e=.returned (.bool (Ac.sameO (c.held.map PV.pt) (d.held.map PV.pt)))∧Below w'.heap.size w' w''):=fun w' hb=>q3s _ _ _ _ _ _ _ _ _ (hC1.held.below hb) (hD1.held.below hb)
 clear hC hD hC1 hD1 hP hQ
 obtain ⟨r,hr⟩:∃ r,Kl.same c.cl d.cl=r:=⟨_,rfl⟩
 rw[hr]
 change ((c.rev == d.rev)&&((c.seq == d.seq)&&((c.jo == d.jo)&&(Dc.same c.base d.base&&(Dc.same c.now d.now&&(Ac.sameO (c.sent.map PV.pt) (d.sent.map PV.pt)&&Ac.sameO (c.held.map PV.pt) (d.held.map PV.pt)))))))=r at hr
 generalize Dc.same c.base d.base=b4 at *
 generalize Dc.same c.now d.now=b5 at *
 generalize Ac.sameO (c.sent.map PV.pt) (d.sent.map PV.pt)=b6 at *
 generalize Ac.sameO (c.held.map PV.pt) (d.held.map PV.pt)=b7 at *
 cases h1:(c.rev == d.rev)
 ·obtain rfl:r=false:=by rw[← hr,h1];rfl
  clear hr
  go_enter Tryz.func40,Tryz.ntmps40
  go_upto_region 1 with fail
  change Code.wp Tryz.prog _ _ _ (boxk d (boxk c w))
  generalize (boxk d (boxk c w))=W at *
  obtain ⟨p0,p1,p2,p3,p4,p5,p6,r0,r1,r2,r3,r4,r5,r6⟩:=HCL.out W (Below.refl _ _)
  go_wp2
  go_ret
  exact ⟨rfl,H1.out.trans ((Below.refl W.heap.size W).mono H1.out.size)⟩
 cases h2:(c.seq == d.seq)
 ·obtain rfl:r=false:=by rw[← hr,h1,h2];rfl
  clear hr
  go_enter Tryz.func40,Tryz.ntmps40
  go_upto_region 1 with fail
  change Code.wp Tryz.prog _ _ _ (boxk d (boxk c w))
  generalize (boxk d (boxk c w))=W at *
  obtain ⟨p0,p1,p2,p3,p4,p5,p6,r0,r1,r2,r3,r4,r5,r6⟩:=HCL.out W (Below.refl _ _)
  go_wp2
  go_ret
  exact ⟨rfl,H1.out.trans ((Below.refl W.heap.size W).mono H1.out.size)⟩
 cases h3:(c.jo == d.jo)
 ·obtain rfl:r=false:=by rw[← hr,h1,h2,h3];rfl
  clear hr
  go_enter Tryz.func40,Tryz.ntmps40
  go_upto_region 1 with fail
  change Code.wp Tryz.prog _ _ _ (boxk d (boxk c w))
  generalize (boxk d (boxk c w))=W at *
  obtain ⟨p0,p1,p2,p3,p4,p5,p6,r0,r1,r2,r3,r4,r5,r6⟩:=HCL.out W (Below.refl _ _)
  go_wp2
  go_ret
  exact ⟨rfl,H1.out.trans ((Below.refl W.heap.size W).mono H1.out.size)⟩
 rw[h1,h2,h3] at hr
 cases b4
 ·obtain rfl:r=false:=hr.symm
  go_enter Tryz.func40,Tryz.ntmps40
  go_upto_region 1 with fail
  change Code.wp Tryz.prog _ _ _ (boxk d (boxk c w))
  generalize (boxk d (boxk c w))=W at *
  obtain ⟨p0,p1,p2,p3,p4,p5,p6,r0,r1,r2,r3,r4,r5,r6⟩:=HCL.out W (Below.refl _ _)
  go_wp2_with fail
  refine (C4.out _ (Below.refl W.heap.size W)).mono ?_
  rintro e w1 ⟨rfl,hb⟩
  have HB1:Hid (Below W.heap.size W w1):=(Below.refl W.heap.size W).trans (hb.mono (Below.refl W.heap.size W).size)
  clear hb
  clear p0 p1 p2 p3 p4 p5 p6 r0 r1 r2 r3 r4 r5 r6
  obtain ⟨p0,p1,p2,p3,p4,p5,p6,r0,r1,r2,r3,r4,r5,r6⟩:=HCL.out w1 HB1.out
  go_wp2
  go_ret
  exact ⟨rfl,H1.out.trans ((HB1.out).mono H1.out.size)⟩
 cases b5
 ·obtain rfl:r=false:=hr.symm
  go_enter Tryz.func40,Tryz.ntmps40
  go_upto_region 1 with fail
  change Code.wp Tryz.prog _ _ _ (boxk d (boxk c w))
  generalize (boxk d (boxk c w))=W at *
  obtain ⟨p0,p1,p2,p3,p4,p5,p6,r0,r1,r2,r3,r4,r5,r6⟩:=HCL.out W (Below.refl _ _)
  go_wp2_with fail
  refine (C4.out _ (Below.refl W.heap.size W)).mono ?_
  rintro e w1 ⟨rfl,hb⟩
  have HB1:Hid (Below W.heap.size W w1):=(Below.refl W.heap.size W).trans (hb.mono (Below.refl W.heap.size W).size)
  clear hb
  clear p0 p1 p2 p3 p4 p5 p6 r0 r1 r2 r3 r4 r5 r6
  obtain ⟨p0,p1,p2,p3,p4,p5,p6,r0,r1,r2,r3,r4,r5,r6⟩:=HCL.out w1 HB1.out
  go_wp2_with fail
  refine (C5.out _ (HB1.out)).mono ?_
  rintro e w2 ⟨rfl,hb⟩
  have HB2:Hid (Below W.heap.size W w2):=(HB1.out).trans (hb.mono (HB1.out).size)
  clear hb
  clear p0 p1 p2 p3 p4 p5 p6 r0 r1 r2 r3 r4 r5 r6
  obtain ⟨p0,p1,p2,p3,p4,p5,p6,r0,r1,r2,r3,r4,r5,r6⟩:=HCL.out w2 HB2.out
  go_wp2
  go_ret
  exact ⟨rfl,H1.out.trans ((HB2.out).mono H1.out.size)⟩
 cases b6
 ·obtain rfl:r=false:=hr.symm
  go_enter Tryz.func40,Tryz.ntmps40
  go_upto_region 1 with fail
  change Code.wp Tryz.prog _ _ _ (boxk d (boxk c w))
  generalize (boxk d (boxk c w))=W at *
  obtain ⟨p0,p1,p2,p3,p4,p5,p6,r0,r1,r2,r3,r4,r5,r6⟩:=HCL.out W (Below.refl _ _)
  go_wp2_with fail
  refine (C4.out _ (Below.refl W.heap.size W)).mono ?_
  rintro e w1 ⟨rfl,hb⟩
  have HB1:Hid (Below W.heap.size W w1):=(Below.refl W.heap.size W).trans (hb.mono (Below.refl W.heap.size W).size)
  clear hb
  clear p0 p1 p2 p3 p4 p5 p6 r0 r1 r2 r3 r4 r5 r6
  obtain ⟨p0,p1,p2,p3,p4,p5,p6,r0,r1,r2,r3,r4,r5,r6⟩:=HCL.out w1 HB1.out
  go_wp2_with fail
  refine (C5.out _ (HB1.out)).mono ?_
  rintro e w2 ⟨rfl,hb⟩
  have HB2:Hid (Below W.heap.size W w2):=(HB1.out).trans (hb.mono (HB1.out).size)
  clear hb
  clear p0 p1 p2 p3 p4 p5 p6 r0 r1 r2 r3 r4 r5 r6
  obtain ⟨p0,p1,p2,p3,p4,p5,p6,r0,r1,r2,r3,r4,r5,r6⟩:=HCL.out w2 HB2.out
  go_wp2_with fail
  refine (C6.out _ (HB2.out)).mono ?_
  rintro e w3 ⟨rfl,hb⟩
  have HB3:Hid (Below W.heap.size W w3):=(HB2.out).trans (hb.mono (HB2.out).size)
  clear hb
  clear p0 p1 p2 p3 p4 p5 p6 r0 r1 r2 r3 r4 r5 r6
  obtain ⟨p0,p1,p2,p3,p4,p5,p6,r0,r1,r2,r3,r4,r5,r6⟩:=HCL.out w3 HB3.out
  go_wp2
  go_ret
  exact ⟨rfl,H1.out.trans ((HB3.out).mono H1.out.size)⟩
 obtain rfl:r=b7:=hr.symm
 go_enter Tryz.func40,Tryz.ntmps40
 go_upto_region 1 with fail
 change Code.wp Tryz.prog _ _ _ (boxk d (boxk c w))
 generalize (boxk d (boxk c w))=W at *
 obtain ⟨p0,p1,p2,p3,p4,p5,p6,r0,r1,r2,r3,r4,r5,r6⟩:=HCL.out W (Below.refl _ _)
 go_wp2_with fail
 refine (C4.out _ (Below.refl W.heap.size W)).mono ?_
 rintro e w1 ⟨rfl,hb⟩
 have HB1:Hid (Below W.heap.size W w1):=(Below.refl W.heap.size W).trans (hb.mono (Below.refl W.heap.size W).size)
 clear hb
 clear p0 p1 p2 p3 p4 p5 p6 r0 r1 r2 r3 r4 r5 r6
 obtain ⟨p0,p1,p2,p3,p4,p5,p6,r0,r1,r2,r3,r4,r5,r6⟩:=HCL.out w1 HB1.out
 go_wp2_with fail
 refine (C5.out _ (HB1.out)).mono ?_
 rintro e w2 ⟨rfl,hb⟩
 have HB2:Hid (Below W.heap.size W w2):=(HB1.out).trans (hb.mono (HB1.out).size)
 clear hb
 clear p0 p1 p2 p3 p4 p5 p6 r0 r1 r2 r3 r4 r5 r6
 obtain ⟨p0,p1,p2,p3,p4,p5,p6,r0,r1,r2,r3,r4,r5,r6⟩:=HCL.out w2 HB2.out
 go_wp2_with fail
 refine (C6.out _ (HB2.out)).mono ?_
 rintro e w3 ⟨rfl,hb⟩
 have HB3:Hid (Below W.heap.size W w3):=(HB2.out).trans (hb.mono (HB2.out).size)
 clear hb
 clear p0 p1 p2 p3 p4 p5 p6 r0 r1 r2 r3 r4 r5 r6
 obtain ⟨p0,p1,p2,p3,p4,p5,p6,r0,r1,r2,r3,r4,r5,r6⟩:=HCL.out w3 HB3.out
 go_wp2_with fail
 refine (C7.out _ (HB3.out)).mono ?_
 rintro e w4 ⟨rfl,hb⟩
 have HB4:Hid (Below W.heap.size W w4):=(HB3.out).trans (hb.mono (HB3.out).size)
 clear hb
 clear p0 p1 p2 p3 p4 p5 p6 r0 r1 r2 r3 r4 r5 r6
 obtain ⟨p0,p1,p2,p3,p4,p5,p6,r0,r1,r2,r3,r4,r5,r6⟩:=HCL.out w4 HB4.out
 go_wp2
 go_ret
 exact ⟨rfl,H1.out.trans ((HB4.out).mono H1.out.size)⟩
theorem q9p (c:CV) (oa:Option Addr) (on oc:Nat) (us:List PV) (w:World) (hC:Cli w c) (hO:Ops w oa on oc us) (hq:0≤c.seq) (hq2:c.seq≤10000) :
  Calls Tryz.prog 41 #[.agg #[.int .i64 c.rev,.slice c.ba c.bn c.bc,.slice c.na c.nn c.nc,.int .i64 c.seq,.slice c.sa c.sn c.sc,.slice c.ha c.hn c.hc,.bool c.jo],.slice oa on oc] w fun e w' => Ans (Kl.doE c.cl (us.map PV.pt)) (if Kl.doE c.cl (us.map PV.pt)=0 then Kl.doS c.cl else false) (if Kl.doE c.cl (us.map PV.pt)=0 then Kl.doC c.cl (us.map PV.pt) else Kl.none) e w' ∧ Below w.heap.size w w' := by
 have h1:Below w.heap.size w (boxk cv0 (boxk c w)):=(qe c w).trans ((qe cv0 _).mono (qe c w).size)
 have H1:=hId h1
 have HK:Hid (KAt (boxk cv0 (boxk c w)) (w.heap.size) c):=⟨(qx c w).alloc _,hC.below h1⟩
 have HQ:Hid (Blk (boxk cv0 (boxk c w)) (w.heap.size+1) (cvC cv0) 60):=by have:=qx cv0 (boxk c w);rw[zl] at this;exact this
 have HO:Hid (Ops (boxk cv0 (boxk c w)) oa on oc us):=hO.below h1
 have hsl:(c.sent.map PV.pt).length=c.sn:=zm hC.sent
 have hhl:(c.held.map PV.pt).length=c.hn:=zm hC.held
 have CA:Hid (Calls Tryz.prog 82 #[.slice c.na c.nn c.nc,.slice oa on oc] (boxk cv0 (boxk c w)) fun e w' => (∃ a' c',e=.returned (.tuple #[.slice a' (Ac.done c.now (us.map PV.pt)).length c',.int .i64 (Ac.fitE c.now (us.map PV.pt))])∧Doc w' a' (Ac.done c.now (us.map PV.pt)).length c' (Ac.done c.now (us.map PV.pt)))∧Below (boxk cv0 (boxk c w)).heap.size (boxk cv0 (boxk c w)) w'):=zh _ _ _ _ _ _ _ _ _ (hC.now.below h1) (hO.below h1)
 clear hC hO h1
 obtain ⟨D,hD⟩:∃ D,Ac.done c.now (us.map PV.pt)=D:=⟨_,rfl⟩
 have HD1:Hid (Ac.done c.now (us.map PV.pt)=D):=hD
 rw[hD] at CA
 clear hD
 obtain ⟨q,hqq⟩:∃ q,D.length=q:=⟨_,rfl⟩
 rw[hqq] at CA
 clear hqq
 obtain ⟨F,hF⟩:∃ F,Ac.fitE c.now (us.map PV.pt)=F:=⟨_,rfl⟩
 have HF:Hid (Ac.fitE c.now (us.map PV.pt)=F):=hF
 rw[hF] at CA
 clear hF
 by_cases hz:F=0
 ·have HF0:Hid (Ac.fitE c.cl.now (us.map PV.pt)=0):=HF.out.trans hz
  subst hz
  by_cases hs:c.sn=0
  ·have HSL:Hid (c.cl.sent.length=0):=hsl.trans hs
   have hn1:((c.sn:Int) == 0)=true:=by simp[hs]
   have hn2:(c.sn == 0)=true:=by simp[hs]
   by_cases h10:c.seq=10000
   ·have hE:Kl.doE c.cl (us.map PV.pt)=2:=by unfold Kl.doE;rw[if_pos HF0.out,if_pos HSL.out,if_pos (show c.cl.seq=10000 from h10)]
    have hb1:(c.seq == 10000)=true:=by simp[h10]
    rw[hE,if_neg (by decide),if_neg (by decide)]
    clear hE hsl hhl h10 hs
    go_enter Tryz.func41,Tryz.ntmps41
    go_upto_region 2 with fail
    change Code.wp Tryz.prog _ _ _ (boxk cv0 (boxk c w))
    generalize (boxk cv0 (boxk c w))=W at *
    have p2:W.cell? ⟨w.heap.size,2,none⟩=some (.slice c.na c.nn c.nc):=HK.out.blk.cell 2
    go_wp2_with fail
    refine CA.out.mono ?_
    rintro e w1 ⟨⟨a1,c1,rfl,hd⟩,hb⟩
    have hw1:Below w.heap.size w w1:=H1.out.trans (hb.mono H1.out.size)
    have hk1:=HK.out.below hb
    have hq1:Blk w1 (w.heap.size+1) (cvC cv0) 60:=(hb.block _ HQ.out.lt).trans HQ.out
    have HK5:Hid (KAt (w1.setCell ⟨w.heap.size,2,none⟩ (.slice a1 q c1)) (w.heap.size) (c.toNow a1 q c1 D)):=hk1.toNow a1 q c1 D hd
    have HQ5:Hid (Blk (w1.setCell ⟨w.heap.size,2,none⟩ (.slice a1 q c1)) (w.heap.size+1) (cvC cv0) 60):=(qh w1 _ _ _).blk hq1 (by simp)
    have HW5:Hid (Below w.heap.size w (w1.setCell ⟨w.heap.size,2,none⟩ (.slice a1 q c1))):=hw1.setCell (Nat.le_refl _) _
    have HO5:Hid (Ops (w1.setCell ⟨w.heap.size,2,none⟩ (.slice a1 q c1)) oa on oc us):=(HO.out.below hb).keptK hk1.blk (qh ..)
    clear p2
    have p2:w1.cell? ⟨w.heap.size,2,none⟩=some (.slice c.na c.nn c.nc):=hk1.blk.cell 2
    have f2:=hk1.blk.frozen 2
    clear hd hb hw1 hk1 hq1 CA
    go_upto_region 6 with fail
    change Code.wp Tryz.prog _ _ _ (w1.setCell ⟨w.heap.size,2,none⟩ (.slice a1 q c1))
    generalize w1.setCell ⟨w.heap.size,2,none⟩ (.slice a1 q c1)=W5 at *
    clear p2 f2
    have p3:W5.cell? ⟨w.heap.size,3,none⟩=some (.int .i64 c.seq):=HK5.out.blk.cell 3
    have p4:W5.cell? ⟨w.heap.size,4,none⟩=some (.slice c.sa c.sn c.sc):=HK5.out.blk.cell 4
    go_wp2_with fail
    refine (q30 2 W5).mono ?_
    rintro e wf ⟨rfl,hb⟩
    have HQX:Hid (Blk wf (w.heap.size+1) (cvC cv0) 60):=(hb.block _ HQ5.out.lt).trans HQ5.out
    have HWX:Hid (Below w.heap.size w wf):=HW5.out.trans (hb.mono HW5.out.size)
    clear hb
    have q0:wf.cell? ⟨w.heap.size+1,0,none⟩=some (.int .i64 0):=HQX.out.cell 0
    have q1:wf.cell? ⟨w.heap.size+1,1,none⟩=some (.slice none 0 0):=HQX.out.cell 1
    have q2:wf.cell? ⟨w.heap.size+1,2,none⟩=some (.slice none 0 0):=HQX.out.cell 2
    have q3:wf.cell? ⟨w.heap.size+1,3,none⟩=some (.int .i64 0):=HQX.out.cell 3
    have q4:wf.cell? ⟨w.heap.size+1,4,none⟩=some (.slice none 0 0):=HQX.out.cell 4
    have q5:wf.cell? ⟨w.heap.size+1,5,none⟩=some (.slice none 0 0):=HQX.out.cell 5
    have q6:wf.cell? ⟨w.heap.size+1,6,none⟩=some (.bool false):=HQX.out.cell 6
    have g0:=HQX.out.frozen 0
    have g1:=HQX.out.frozen 1
    have g2:=HQX.out.frozen 2
    have g3:=HQX.out.frozen 3
    have g4:=HQX.out.frozen 4
    have g5:=HQX.out.frozen 5
    have g6:=HQX.out.frozen 6
    go_wp2
    change bodyPost Tryz.prog _ _ Exit.ret _ (putK wf (w.heap.size+1) cv0)
    exact bodyPost_ret (za (t:=cv0) rfl _ rfl rfl rfl (zo HQX.out)) rfl ⟨⟨cv0,rfl,Cli.nil _,rfl⟩,HWX.out.trans (((qq wf (w.heap.size+1) cv0).low (by have:=HQX.out.lt;omega)).mono (by omega))⟩
   ·have hE:Kl.doE c.cl (us.map PV.pt)=0:=by unfold Kl.doE;rw[if_pos HF0.out,if_pos HSL.out,if_neg (show ¬ c.cl.seq=10000 from h10)]
    have hC2:Kl.doC c.cl (us.map PV.pt)=⟨c.rev,c.base,Ac.done c.now (us.map PV.pt),c.seq+1,us.map PV.pt,c.held.map PV.pt,c.jo⟩:=by unfold Kl.doC;rw[if_pos HSL.out];rfl
    have hS2:Kl.doS c.cl=true:=by unfold Kl.doS;exact decide_eq_true HSL.out
    have hb1:(c.seq == 10000)=false:=by simp[h10]
    rw[hE,if_pos rfl,if_pos rfl,hC2,hS2]
    have hw1:wrap64 (c.seq+1)=c.seq+1:=by unfold wrap64;omega
    have hw2:IntKind.i64.wrap (c.seq+1)=c.seq+1:=IntWalk.i64_in _ ⟨by omega,by omega⟩
    clear hE hC2 hS2 hsl hhl h10 hs
    go_enter Tryz.func41,Tryz.ntmps41
    go_upto_region 2 with fail
    change Code.wp Tryz.prog _ _ _ (boxk cv0 (boxk c w))
    generalize (boxk cv0 (boxk c w))=W at *
    have p2:W.cell? ⟨w.heap.size,2,none⟩=some (.slice c.na c.nn c.nc):=HK.out.blk.cell 2
    go_wp2_with fail
    refine CA.out.mono ?_
    rintro e w1 ⟨⟨a1,c1,rfl,hd⟩,hb⟩
    have hw1:Below w.heap.size w w1:=H1.out.trans (hb.mono H1.out.size)
    have hk1:=HK.out.below hb
    have hq1:Blk w1 (w.heap.size+1) (cvC cv0) 60:=(hb.block _ HQ.out.lt).trans HQ.out
    have HK5:Hid (KAt (w1.setCell ⟨w.heap.size,2,none⟩ (.slice a1 q c1)) (w.heap.size) (c.toNow a1 q c1 D)):=hk1.toNow a1 q c1 D hd
    have HQ5:Hid (Blk (w1.setCell ⟨w.heap.size,2,none⟩ (.slice a1 q c1)) (w.heap.size+1) (cvC cv0) 60):=(qh w1 _ _ _).blk hq1 (by simp)
    have HW5:Hid (Below w.heap.size w (w1.setCell ⟨w.heap.size,2,none⟩ (.slice a1 q c1))):=hw1.setCell (Nat.le_refl _) _
    have HO5:Hid (Ops (w1.setCell ⟨w.heap.size,2,none⟩ (.slice a1 q c1)) oa on oc us):=(HO.out.below hb).keptK hk1.blk (qh ..)
    clear p2
    have p2:w1.cell? ⟨w.heap.size,2,none⟩=some (.slice c.na c.nn c.nc):=hk1.blk.cell 2
    have f2:=hk1.blk.frozen 2
    clear hd hb hw1 hk1 hq1 CA
    go_upto_region 6 with fail
    change Code.wp Tryz.prog _ _ _ (w1.setCell ⟨w.heap.size,2,none⟩ (.slice a1 q c1))
    generalize w1.setCell ⟨w.heap.size,2,none⟩ (.slice a1 q c1)=W5 at *
    clear p2 f2
    have p3:W5.cell? ⟨w.heap.size,3,none⟩=some (.int .i64 c.seq):=HK5.out.blk.cell 3
    have p4:W5.cell? ⟨w.heap.size,4,none⟩=some (.slice c.sa c.sn c.sc):=HK5.out.blk.cell 4
    have f3:=HK5.out.blk.frozen 3
    have f4:=HK5.out.blk.frozen 4
    have HK6:Hid (KAt (W5.setCell ⟨w.heap.size,4,none⟩ (.slice oa on oc)) (w.heap.size) ((c.toNow a1 q c1 D).toSent oa on oc us)):=HK5.out.toSent oa on oc us HO5.out
    have HQ6:Hid (Blk (W5.setCell ⟨w.heap.size,4,none⟩ (.slice oa on oc)) (w.heap.size+1) (cvC cv0) 60):=(qh W5 _ _ _).blk HQ5.out (by simp)
    have HW6:Hid (Below w.heap.size w (W5.setCell ⟨w.heap.size,4,none⟩ (.slice oa on oc))):=HW5.out.setCell (Nat.le_refl _) _
    go_upto_region 10 with fail
    change Code.wp Tryz.prog _ _ _ (W5.setCell ⟨w.heap.size,4,none⟩ (.slice oa on oc))
    generalize W5.setCell ⟨w.heap.size,4,none⟩ (.slice oa on oc)=W6 at *
    clear p3 p4 f3 f4
    have p3:W6.cell? ⟨w.heap.size,3,none⟩=some (.int .i64 c.seq):=HK6.out.blk.cell 3
    have f3:=HK6.out.blk.frozen 3
    have HK7:Hid (KAt (W6.setCell ⟨w.heap.size,3,none⟩ (.int .i64 (c.seq+1))) (w.heap.size) (((c.toNow a1 q c1 D).toSent oa on oc us).toSeq (c.seq+1))):=HK6.out.toSeq (c.seq+1)
    have HQ7:Hid (Blk (W6.setCell ⟨w.heap.size,3,none⟩ (.int .i64 (c.seq+1))) (w.heap.size+1) (cvC cv0) 60):=(qh W6 _ _ _).blk HQ6.out (by simp)
    have HW7:Hid (Below w.heap.size w (W6.setCell ⟨w.heap.size,3,none⟩ (.int .i64 (c.seq+1)))):=HW6.out.setCell (Nat.le_refl _) _
    go_upto_region 11 with fail
    change Code.wp Tryz.prog _ _ _ (W6.setCell ⟨w.heap.size,3,none⟩ (.int .i64 (c.seq+1)))
    generalize W6.setCell ⟨w.heap.size,3,none⟩ (.int .i64 (c.seq+1))=W7 at *
    clear p3 f3
    obtain ⟨t,ht⟩:∃ t,((c.toNow a1 q c1 D).toSent oa on oc us).toSeq (c.seq+1)=t:=⟨_,rfl⟩
    have HTC:Hid (t.cl=⟨c.rev,c.base,Ac.done c.now (us.map PV.pt),c.seq+1,us.map PV.pt,c.held.map PV.pt,c.jo⟩):=by rw[← ht,HD1.out];exact rfl
    rw[ht] at HK7
    clear ht
    have HKX:Hid (KAt W7 (w.heap.size) t):=HK7.out
    have HQX:Hid (Blk W7 (w.heap.size+1) (cvC cv0) 60):=HQ7.out
    have HWX:Hid (Below w.heap.size w W7):=HW7.out
    have p0:W7.cell? ⟨w.heap.size,0,none⟩=some (.int .i64 t.rev):=HKX.out.blk.cell 0
    have p1:W7.cell? ⟨w.heap.size,1,none⟩=some (.slice t.ba t.bn t.bc):=HKX.out.blk.cell 1
    have p2:W7.cell? ⟨w.heap.size,2,none⟩=some (.slice t.na t.nn t.nc):=HKX.out.blk.cell 2
    have p3:W7.cell? ⟨w.heap.size,3,none⟩=some (.int .i64 t.seq):=HKX.out.blk.cell 3
    have p4:W7.cell? ⟨w.heap.size,4,none⟩=some (.slice t.sa t.sn t.sc):=HKX.out.blk.cell 4
    have p5:W7.cell? ⟨w.heap.size,5,none⟩=some (.slice t.ha t.hn t.hc):=HKX.out.blk.cell 5
    have p6:W7.cell? ⟨w.heap.size,6,none⟩=some (.bool t.jo):=HKX.out.blk.cell 6
    have q0:W7.cell? ⟨w.heap.size+1,0,none⟩=some (.int .i64 0):=HQX.out.cell 0
    have q1:W7.cell? ⟨w.heap.size+1,1,none⟩=some (.slice none 0 0):=HQX.out.cell 1
    have q2:W7.cell? ⟨w.heap.size+1,2,none⟩=some (.slice none 0 0):=HQX.out.cell 2
    have q3:W7.cell? ⟨w.heap.size+1,3,none⟩=some (.int .i64 0):=HQX.out.cell 3
    have q4:W7.cell? ⟨w.heap.size+1,4,none⟩=some (.slice none 0 0):=HQX.out.cell 4
    have q5:W7.cell? ⟨w.heap.size+1,5,none⟩=some (.slice none 0 0):=HQX.out.cell 5
    have q6:W7.cell? ⟨w.heap.size+1,6,none⟩=some (.bool false):=HQX.out.cell 6
    have g0:=HQX.out.frozen 0
    have g1:=HQX.out.frozen 1
    have g2:=HQX.out.frozen 2
    have g3:=HQX.out.frozen 3
    have g4:=HQX.out.frozen 4
    have g5:=HQX.out.frozen 5
    have g6:=HQX.out.frozen 6
    go_wp2
    change bodyPost Tryz.prog _ _ Exit.ret _ (putK W7 (w.heap.size+1) t)
    exact bodyPost_ret (za (t:=t) rfl _ rfl rfl rfl (zo HQX.out)) rfl ⟨⟨t,rfl,HKX.out.cli.keptK HQX.out (qq _ _ _),HTC.out⟩,HWX.out.trans (((qq W7 (w.heap.size+1) t).low (by have:=HQX.out.lt;omega)).mono (by omega))⟩
  ·have HSL:Hid (¬ c.cl.sent.length=0):=fun h=>hs (hsl.symm.trans h)
   have hn1:((c.sn:Int) == 0)=false:=by simp[hs]
   have hn2:(c.sn == 0)=false:=by simp[hs]
   have hS2:Kl.doS c.cl=false:=by unfold Kl.doS;exact decide_eq_false HSL.out
   by_cases hh:c.hn=0
   ·have HHL:Hid (c.cl.held.length=0):=hhl.trans hh
    have hm1:((c.hn:Int) == 0)=true:=by simp[hh]
    have hm2:(c.hn == 0)=true:=by simp[hh]
    have hE:Kl.doE c.cl (us.map PV.pt)=0:=by unfold Kl.doE;rw[if_pos HF0.out,if_neg HSL.out,if_pos HHL.out]
    have hC2:Kl.doC c.cl (us.map PV.pt)=⟨c.rev,c.base,Ac.done c.now (us.map PV.pt),c.seq,c.sent.map PV.pt,us.map PV.pt,c.jo⟩:=by unfold Kl.doC;rw[if_neg HSL.out,if_pos HHL.out];rfl
    rw[hE,if_pos rfl,if_pos rfl,hC2,hS2]
    clear hE hC2 hS2 hsl hhl hs hh
    go_enter Tryz.func41,Tryz.ntmps41
    go_upto_region 2 with fail
    change Code.wp Tryz.prog _ _ _ (boxk cv0 (boxk c w))
    generalize (boxk cv0 (boxk c w))=W at *
    have p2:W.cell? ⟨w.heap.size,2,none⟩=some (.slice c.na c.nn c.nc):=HK.out.blk.cell 2
    go_wp2_with fail
    refine CA.out.mono ?_
    rintro e w1 ⟨⟨a1,c1,rfl,hd⟩,hb⟩
    have hw1:Below w.heap.size w w1:=H1.out.trans (hb.mono H1.out.size)
    have hk1:=HK.out.below hb
    have hq1:Blk w1 (w.heap.size+1) (cvC cv0) 60:=(hb.block _ HQ.out.lt).trans HQ.out
    have HK5:Hid (KAt (w1.setCell ⟨w.heap.size,2,none⟩ (.slice a1 q c1)) (w.heap.size) (c.toNow a1 q c1 D)):=hk1.toNow a1 q c1 D hd
    have HQ5:Hid (Blk (w1.setCell ⟨w.heap.size,2,none⟩ (.slice a1 q c1)) (w.heap.size+1) (cvC cv0) 60):=(qh w1 _ _ _).blk hq1 (by simp)
    have HW5:Hid (Below w.heap.size w (w1.setCell ⟨w.heap.size,2,none⟩ (.slice a1 q c1))):=hw1.setCell (Nat.le_refl _) _
    have HO5:Hid (Ops (w1.setCell ⟨w.heap.size,2,none⟩ (.slice a1 q c1)) oa on oc us):=(HO.out.below hb).keptK hk1.blk (qh ..)
    clear p2
    have p2:w1.cell? ⟨w.heap.size,2,none⟩=some (.slice c.na c.nn c.nc):=hk1.blk.cell 2
    have f2:=hk1.blk.frozen 2
    clear hd hb hw1 hk1 hq1 CA
    go_upto_region 6 with fail
    change Code.wp Tryz.prog _ _ _ (w1.setCell ⟨w.heap.size,2,none⟩ (.slice a1 q c1))
    generalize w1.setCell ⟨w.heap.size,2,none⟩ (.slice a1 q c1)=W5 at *
    clear p2 f2
    have p4:W5.cell? ⟨w.heap.size,4,none⟩=some (.slice c.sa c.sn c.sc):=HK5.out.blk.cell 4
    have p5:W5.cell? ⟨w.heap.size,5,none⟩=some (.slice c.ha c.hn c.hc):=HK5.out.blk.cell 5
    have f4:=HK5.out.blk.frozen 4
    have f5:=HK5.out.blk.frozen 5
    have HK6:Hid (KAt (W5.setCell ⟨w.heap.size,5,none⟩ (.slice oa on oc)) (w.heap.size) ((c.toNow a1 q c1 D).toHeld oa on oc us)):=HK5.out.toHeld oa on oc us HO5.out
    have HQ6:Hid (Blk (W5.setCell ⟨w.heap.size,5,none⟩ (.slice oa on oc)) (w.heap.size+1) (cvC cv0) 60):=(qh W5 _ _ _).blk HQ5.out (by simp)
    have HW6:Hid (Below w.heap.size w (W5.setCell ⟨w.heap.size,5,none⟩ (.slice oa on oc))):=HW5.out.setCell (Nat.le_refl _) _
    go_upto_region 14 with fail
    change Code.wp Tryz.prog _ _ _ (W5.setCell ⟨w.heap.size,5,none⟩ (.slice oa on oc))
    generalize W5.setCell ⟨w.heap.size,5,none⟩ (.slice oa on oc)=W6 at *
    clear p4 p5 f4 f5
    obtain ⟨t,ht⟩:∃ t,(c.toNow a1 q c1 D).toHeld oa on oc us=t:=⟨_,rfl⟩
    have HTC:Hid (t.cl=⟨c.rev,c.base,Ac.done c.now (us.map PV.pt),c.seq,c.sent.map PV.pt,us.map PV.pt,c.jo⟩):=by rw[← ht,HD1.out];exact rfl
    rw[ht] at HK6
    clear ht
    have HKX:Hid (KAt W6 (w.heap.size) t):=HK6.out
    have HQX:Hid (Blk W6 (w.heap.size+1) (cvC cv0) 60):=HQ6.out
    have HWX:Hid (Below w.heap.size w W6):=HW6.out
    have p0:W6.cell? ⟨w.heap.size,0,none⟩=some (.int .i64 t.rev):=HKX.out.blk.cell 0
    have p1:W6.cell? ⟨w.heap.size,1,none⟩=some (.slice t.ba t.bn t.bc):=HKX.out.blk.cell 1
    have p2:W6.cell? ⟨w.heap.size,2,none⟩=some (.slice t.na t.nn t.nc):=HKX.out.blk.cell 2
    have p3:W6.cell? ⟨w.heap.size,3,none⟩=some (.int .i64 t.seq):=HKX.out.blk.cell 3
    have p4:W6.cell? ⟨w.heap.size,4,none⟩=some (.slice t.sa t.sn t.sc):=HKX.out.blk.cell 4
    have p5:W6.cell? ⟨w.heap.size,5,none⟩=some (.slice t.ha t.hn t.hc):=HKX.out.blk.cell 5
    have p6:W6.cell? ⟨w.heap.size,6,none⟩=some (.bool t.jo):=HKX.out.blk.cell 6
    have q0:W6.cell? ⟨w.heap.size+1,0,none⟩=some (.int .i64 0):=HQX.out.cell 0
    have q1:W6.cell? ⟨w.heap.size+1,1,none⟩=some (.slice none 0 0):=HQX.out.cell 1
    have q2:W6.cell? ⟨w.heap.size+1,2,none⟩=some (.slice none 0 0):=HQX.out.cell 2
    have q3:W6.cell? ⟨w.heap.size+1,3,none⟩=some (.int .i64 0):=HQX.out.cell 3
    have q4:W6.cell? ⟨w.heap.size+1,4,none⟩=some (.slice none 0 0):=HQX.out.cell 4
    have q5:W6.cell? ⟨w.heap.size+1,5,none⟩=some (.slice none 0 0):=HQX.out.cell 5
    have q6:W6.cell? ⟨w.heap.size+1,6,none⟩=some (.bool false):=HQX.out.cell 6
    have g0:=HQX.out.frozen 0
    have g1:=HQX.out.frozen 1
    have g2:=HQX.out.frozen 2
    have g3:=HQX.out.frozen 3
    have g4:=HQX.out.frozen 4
    have g5:=HQX.out.frozen 5
    have g6:=HQX.out.frozen 6
    go_wp2
    change bodyPost Tryz.prog _ _ Exit.ret _ (putK W6 (w.heap.size+1) t)
    exact bodyPost_ret (za (t:=t) rfl _ rfl rfl rfl (zo HQX.out)) rfl ⟨⟨t,rfl,HKX.out.cli.keptK HQX.out (qq _ _ _),HTC.out⟩,HWX.out.trans (((qq W6 (w.heap.size+1) t).low (by have:=HQX.out.lt;omega)).mono (by omega))⟩
   ·have HHL:Hid (¬ c.cl.held.length=0):=fun h=>hh (hhl.symm.trans h)
    have hm1:((c.hn:Int) == 0)=false:=by simp[hh]
    have hm2:(c.hn == 0)=false:=by simp[hh]
    have hE:Kl.doE c.cl (us.map PV.pt)=Ac.jonE (c.held.map PV.pt) (us.map PV.pt):=by unfold Kl.doE;rw[if_pos HF0.out,if_neg HSL.out,if_neg HHL.out];rfl
    have hC2:Kl.doC c.cl (us.map PV.pt)=⟨c.rev,c.base,Ac.done c.now (us.map PV.pt),c.seq,c.sent.map PV.pt,Ac.jonX (c.held.map PV.pt) (us.map PV.pt),c.jo⟩:=by unfold Kl.doC;rw[if_neg HSL.out,if_neg HHL.out];rfl
    rw[hE,hC2,hS2]
    obtain ⟨X,hX⟩:∃ X,Ac.jonX (c.held.map PV.pt) (us.map PV.pt)=X:=⟨_,rfl⟩
    obtain ⟨E,hEE⟩:∃ E,Ac.jonE (c.held.map PV.pt) (us.map PV.pt)=E:=⟨_,rfl⟩
    have HXX:Hid (Ac.jonX (c.held.map PV.pt) (us.map PV.pt)=X):=hX
    have HEE:Hid (Ac.jonE (c.held.map PV.pt) (us.map PV.pt)=E):=hEE
    rw[hX,hEE]
    clear hE hC2 hS2 hsl hhl hs hh hX hEE
    by_cases hj:E=0
    ·rw[if_pos hj,if_pos hj]
     subst hj
     go_enter Tryz.func41,Tryz.ntmps41
     go_upto_region 2 with fail
     change Code.wp Tryz.prog _ _ _ (boxk cv0 (boxk c w))
     generalize (boxk cv0 (boxk c w))=W at *
     have p2:W.cell? ⟨w.heap.size,2,none⟩=some (.slice c.na c.nn c.nc):=HK.out.blk.cell 2
     go_wp2_with fail
     refine CA.out.mono ?_
     rintro e w1 ⟨⟨a1,c1,rfl,hd⟩,hb⟩
     have hw1:Below w.heap.size w w1:=H1.out.trans (hb.mono H1.out.size)
     have hk1:=HK.out.below hb
     have hq1:Blk w1 (w.heap.size+1) (cvC cv0) 60:=(hb.block _ HQ.out.lt).trans HQ.out
     have HK5:Hid (KAt (w1.setCell ⟨w.heap.size,2,none⟩ (.slice a1 q c1)) (w.heap.size) (c.toNow a1 q c1 D)):=hk1.toNow a1 q c1 D hd
     have HQ5:Hid (Blk (w1.setCell ⟨w.heap.size,2,none⟩ (.slice a1 q c1)) (w.heap.size+1) (cvC cv0) 60):=(qh w1 _ _ _).blk hq1 (by simp)
     have HW5:Hid (Below w.heap.size w (w1.setCell ⟨w.heap.size,2,none⟩ (.slice a1 q c1))):=hw1.setCell (Nat.le_refl _) _
     have HO5:Hid (Ops (w1.setCell ⟨w.heap.size,2,none⟩ (.slice a1 q c1)) oa on oc us):=(HO.out.below hb).keptK hk1.blk (qh ..)
     clear p2
     have p2:w1.cell? ⟨w.heap.size,2,none⟩=some (.slice c.na c.nn c.nc):=hk1.blk.cell 2
     have f2:=hk1.blk.frozen 2
     clear hd hb hw1 hk1 hq1 CA
     go_upto_region 6 with fail
     change Code.wp Tryz.prog _ _ _ (w1.setCell ⟨w.heap.size,2,none⟩ (.slice a1 q c1))
     generalize w1.setCell ⟨w.heap.size,2,none⟩ (.slice a1 q c1)=W5 at *
     clear p2 f2
     have p4:W5.cell? ⟨w.heap.size,4,none⟩=some (.slice c.sa c.sn c.sc):=HK5.out.blk.cell 4
     have p5:W5.cell? ⟨w.heap.size,5,none⟩=some (.slice c.ha c.hn c.hc):=HK5.out.blk.cell 5
     have CJ:Hid (Calls Tryz.prog 100 #[.slice c.ha c.hn c.hc,.slice oa on oc] W5 fun e w' => q4i (Ac.jonX (c.held.map PV.pt) (us.map PV.pt)) (Ac.jonE (c.held.map PV.pt) (us.map PV.pt)) e w' ∧ Below W5.heap.size W5 w'):=q2u _ _ _ _ _ _ _ _ _ HK5.out.cli.held HO5.out
     rw[HXX.out,HEE.out] at CJ
     go_wp2_with fail
     refine CJ.out.mono ?_
     rintro e w8 ⟨⟨a4,n4,c4,u4,rfl,ho4,hu4⟩,hb⟩
     have HK8:Hid (KAt w8 (w.heap.size) (c.toNow a1 q c1 D)):=HK5.out.below hb
     have HQ8:Hid (Blk w8 (w.heap.size+1) (cvC cv0) 60):=(hb.block _ HQ5.out.lt).trans HQ5.out
     have HW8:Hid (Below w.heap.size w w8):=HW5.out.trans (hb.mono HW5.out.size)
     have HO8:=hId ho4
     have HU8:Hid (u4.map PV.pt=X):=hu4
     clear ho4 hu4 hb CJ p4 p5
     have p5:w8.cell? ⟨w.heap.size,5,none⟩=some (.slice c.ha c.hn c.hc):=HK8.out.blk.cell 5
     have f5:=HK8.out.blk.frozen 5
     have HK9:Hid (KAt (w8.setCell ⟨w.heap.size,5,none⟩ (.slice a4 n4 c4)) (w.heap.size) ((c.toNow a1 q c1 D).toHeld a4 n4 c4 u4)):=HK8.out.toHeld a4 n4 c4 u4 HO8.out
     have HQ9:Hid (Blk (w8.setCell ⟨w.heap.size,5,none⟩ (.slice a4 n4 c4)) (w.heap.size+1) (cvC cv0) 60):=(qh w8 _ _ _).blk HQ8.out (by simp)
     have HW9:Hid (Below w.heap.size w (w8.setCell ⟨w.heap.size,5,none⟩ (.slice a4 n4 c4))):=HW8.out.setCell (Nat.le_refl _) _
     go_upto_region 16 with fail
     change Code.wp Tryz.prog _ _ _ (w8.setCell ⟨w.heap.size,5,none⟩ (.slice a4 n4 c4))
     generalize w8.setCell ⟨w.heap.size,5,none⟩ (.slice a4 n4 c4)=W9 at *
     clear p5 f5
     obtain ⟨t,ht⟩:∃ t,(c.toNow a1 q c1 D).toHeld a4 n4 c4 u4=t:=⟨_,rfl⟩
     have HTC:Hid (t.cl=⟨c.rev,c.base,Ac.done c.now (us.map PV.pt),c.seq,c.sent.map PV.pt,X,c.jo⟩):=by rw[← ht,HD1.out,← HU8.out];exact rfl
     rw[ht] at HK9
     clear ht
     have HKX:Hid (KAt W9 (w.heap.size) t):=HK9.out
     have HQX:Hid (Blk W9 (w.heap.size+1) (cvC cv0) 60):=HQ9.out
     have HWX:Hid (Below w.heap.size w W9):=HW9.out
     have p0:W9.cell? ⟨w.heap.size,0,none⟩=some (.int .i64 t.rev):=HKX.out.blk.cell 0
     have p1:W9.cell? ⟨w.heap.size,1,none⟩=some (.slice t.ba t.bn t.bc):=HKX.out.blk.cell 1
     have p2:W9.cell? ⟨w.heap.size,2,none⟩=some (.slice t.na t.nn t.nc):=HKX.out.blk.cell 2
     have p3:W9.cell? ⟨w.heap.size,3,none⟩=some (.int .i64 t.seq):=HKX.out.blk.cell 3
     have p4:W9.cell? ⟨w.heap.size,4,none⟩=some (.slice t.sa t.sn t.sc):=HKX.out.blk.cell 4
     have p5:W9.cell? ⟨w.heap.size,5,none⟩=some (.slice t.ha t.hn t.hc):=HKX.out.blk.cell 5
     have p6:W9.cell? ⟨w.heap.size,6,none⟩=some (.bool t.jo):=HKX.out.blk.cell 6
     have q0:W9.cell? ⟨w.heap.size+1,0,none⟩=some (.int .i64 0):=HQX.out.cell 0
     have q1:W9.cell? ⟨w.heap.size+1,1,none⟩=some (.slice none 0 0):=HQX.out.cell 1
     have q2:W9.cell? ⟨w.heap.size+1,2,none⟩=some (.slice none 0 0):=HQX.out.cell 2
     have q3:W9.cell? ⟨w.heap.size+1,3,none⟩=some (.int .i64 0):=HQX.out.cell 3
     have q4:W9.cell? ⟨w.heap.size+1,4,none⟩=some (.slice none 0 0):=HQX.out.cell 4
     have q5:W9.cell? ⟨w.heap.size+1,5,none⟩=some (.slice none 0 0):=HQX.out.cell 5
     have q6:W9.cell? ⟨w.heap.size+1,6,none⟩=some (.bool false):=HQX.out.cell 6
     have g0:=HQX.out.frozen 0
     have g1:=HQX.out.frozen 1
     have g2:=HQX.out.frozen 2
     have g3:=HQX.out.frozen 3
     have g4:=HQX.out.frozen 4
     have g5:=HQX.out.frozen 5
     have g6:=HQX.out.frozen 6
     go_wp2
     change bodyPost Tryz.prog _ _ Exit.ret _ (putK W9 (w.heap.size+1) t)
     exact bodyPost_ret (za (t:=t) rfl _ rfl rfl rfl (zo HQX.out)) rfl ⟨⟨t,rfl,HKX.out.cli.keptK HQX.out (qq _ _ _),HTC.out⟩,HWX.out.trans (((qq W9 (w.heap.size+1) t).low (by have:=HQX.out.lt;omega)).mono (by omega))⟩
    ·rw[if_neg hj,if_neg hj]
     have hne:(E != 0)=true:=by simp[hj]
     go_enter Tryz.func41,Tryz.ntmps41
     go_upto_region 2 with fail
     change Code.wp Tryz.prog _ _ _ (boxk cv0 (boxk c w))
     generalize (boxk cv0 (boxk c w))=W at *
     have p2:W.cell? ⟨w.heap.size,2,none⟩=some (.slice c.na c.nn c.nc):=HK.out.blk.cell 2
     go_wp2_with fail
     refine CA.out.mono ?_
     rintro e w1 ⟨⟨a1,c1,rfl,hd⟩,hb⟩
     have hw1:Below w.heap.size w w1:=H1.out.trans (hb.mono H1.out.size)
     have hk1:=HK.out.below hb
     have hq1:Blk w1 (w.heap.size+1) (cvC cv0) 60:=(hb.block _ HQ.out.lt).trans HQ.out
     have HK5:Hid (KAt (w1.setCell ⟨w.heap.size,2,none⟩ (.slice a1 q c1)) (w.heap.size) (c.toNow a1 q c1 D)):=hk1.toNow a1 q c1 D hd
     have HQ5:Hid (Blk (w1.setCell ⟨w.heap.size,2,none⟩ (.slice a1 q c1)) (w.heap.size+1) (cvC cv0) 60):=(qh w1 _ _ _).blk hq1 (by simp)
     have HW5:Hid (Below w.heap.size w (w1.setCell ⟨w.heap.size,2,none⟩ (.slice a1 q c1))):=hw1.setCell (Nat.le_refl _) _
     have HO5:Hid (Ops (w1.setCell ⟨w.heap.size,2,none⟩ (.slice a1 q c1)) oa on oc us):=(HO.out.below hb).keptK hk1.blk (qh ..)
     clear p2
     have p2:w1.cell? ⟨w.heap.size,2,none⟩=some (.slice c.na c.nn c.nc):=hk1.blk.cell 2
     have f2:=hk1.blk.frozen 2
     clear hd hb hw1 hk1 hq1 CA
     go_upto_region 6 with fail
     change Code.wp Tryz.prog _ _ _ (w1.setCell ⟨w.heap.size,2,none⟩ (.slice a1 q c1))
     generalize w1.setCell ⟨w.heap.size,2,none⟩ (.slice a1 q c1)=W5 at *
     clear p2 f2
     have p4:W5.cell? ⟨w.heap.size,4,none⟩=some (.slice c.sa c.sn c.sc):=HK5.out.blk.cell 4
     have p5:W5.cell? ⟨w.heap.size,5,none⟩=some (.slice c.ha c.hn c.hc):=HK5.out.blk.cell 5
     have CJ:Hid (Calls Tryz.prog 100 #[.slice c.ha c.hn c.hc,.slice oa on oc] W5 fun e w' => q4i (Ac.jonX (c.held.map PV.pt) (us.map PV.pt)) (Ac.jonE (c.held.map PV.pt) (us.map PV.pt)) e w' ∧ Below W5.heap.size W5 w'):=q2u _ _ _ _ _ _ _ _ _ HK5.out.cli.held HO5.out
     rw[HXX.out,HEE.out] at CJ
     go_wp2_with fail
     refine CJ.out.mono ?_
     rintro e w8 ⟨⟨a4,n4,c4,u4,rfl,ho4,hu4⟩,hb⟩
     have HK8:Hid (KAt w8 (w.heap.size) (c.toNow a1 q c1 D)):=HK5.out.below hb
     have HQ8:Hid (Blk w8 (w.heap.size+1) (cvC cv0) 60):=(hb.block _ HQ5.out.lt).trans HQ5.out
     have HW8:Hid (Below w.heap.size w w8):=HW5.out.trans (hb.mono HW5.out.size)
     have HO8:=hId ho4
     have HU8:Hid (u4.map PV.pt=X):=hu4
     clear ho4 hu4 hb CJ p4 p5
     have p5:w8.cell? ⟨w.heap.size,5,none⟩=some (.slice c.ha c.hn c.hc):=HK8.out.blk.cell 5
     have f5:=HK8.out.blk.frozen 5
     have HK9:Hid (KAt (w8.setCell ⟨w.heap.size,5,none⟩ (.slice a4 n4 c4)) (w.heap.size) ((c.toNow a1 q c1 D).toHeld a4 n4 c4 u4)):=HK8.out.toHeld a4 n4 c4 u4 HO8.out
     have HQ9:Hid (Blk (w8.setCell ⟨w.heap.size,5,none⟩ (.slice a4 n4 c4)) (w.heap.size+1) (cvC cv0) 60):=(qh w8 _ _ _).blk HQ8.out (by simp)
     have HW9:Hid (Below w.heap.size w (w8.setCell ⟨w.heap.size,5,none⟩ (.slice a4 n4 c4))):=HW8.out.setCell (Nat.le_refl _) _
     go_upto_region 16 with fail
     change Code.wp Tryz.prog _ _ _ (w8.setCell ⟨w.heap.size,5,none⟩ (.slice a4 n4 c4))
     generalize w8.setCell ⟨w.heap.size,5,none⟩ (.slice a4 n4 c4)=W9 at *
     clear p5 f5
     have HQ5x:Hid (Blk W9 (w.heap.size+1) (cvC cv0) 60):=HQ9.out
     clear HQ5 HW5
     have HQ5:Hid (Blk W9 (w.heap.size+1) (cvC cv0) 60):=HQ9.out
     have HW5:Hid (Below w.heap.size w W9):=HW9.out
     go_wp2_with fail
     refine (q30 E W9).mono ?_
     rintro e wf ⟨rfl,hb⟩
     have HQX:Hid (Blk wf (w.heap.size+1) (cvC cv0) 60):=(hb.block _ HQ5.out.lt).trans HQ5.out
     have HWX:Hid (Below w.heap.size w wf):=HW5.out.trans (hb.mono HW5.out.size)
     clear hb
     have q0:wf.cell? ⟨w.heap.size+1,0,none⟩=some (.int .i64 0):=HQX.out.cell 0
     have q1:wf.cell? ⟨w.heap.size+1,1,none⟩=some (.slice none 0 0):=HQX.out.cell 1
     have q2:wf.cell? ⟨w.heap.size+1,2,none⟩=some (.slice none 0 0):=HQX.out.cell 2
     have q3:wf.cell? ⟨w.heap.size+1,3,none⟩=some (.int .i64 0):=HQX.out.cell 3
     have q4:wf.cell? ⟨w.heap.size+1,4,none⟩=some (.slice none 0 0):=HQX.out.cell 4
     have q5:wf.cell? ⟨w.heap.size+1,5,none⟩=some (.slice none 0 0):=HQX.out.cell 5
     have q6:wf.cell? ⟨w.heap.size+1,6,none⟩=some (.bool false):=HQX.out.cell 6
     have g0:=HQX.out.frozen 0
     have g1:=HQX.out.frozen 1
     have g2:=HQX.out.frozen 2
     have g3:=HQX.out.frozen 3
     have g4:=HQX.out.frozen 4
     have g5:=HQX.out.frozen 5
     have g6:=HQX.out.frozen 6
     go_wp2
     change bodyPost Tryz.prog _ _ Exit.ret _ (putK wf (w.heap.size+1) cv0)
     exact bodyPost_ret (za (t:=cv0) rfl _ rfl rfl rfl (zo HQX.out)) rfl ⟨⟨cv0,rfl,Cli.nil _,rfl⟩,HWX.out.trans (((qq wf (w.heap.size+1) cv0).low (by have:=HQX.out.lt;omega)).mono (by omega))⟩
 ·have hE:Kl.doE c.cl (us.map PV.pt)=F:=by unfold Kl.doE;rw[if_neg (show ¬ Ac.fitE c.cl.now (us.map PV.pt)=0 from fun h=>hz (HF.out.symm.trans h))];exact HF.out
  rw[hE,if_neg hz,if_neg hz]
  have hne:(F != 0)=true:=by simp[hz]
  clear hE hsl hhl
  go_enter Tryz.func41,Tryz.ntmps41
  go_upto_region 2 with fail
  change Code.wp Tryz.prog _ _ _ (boxk cv0 (boxk c w))
  generalize (boxk cv0 (boxk c w))=W at *
  have p2:W.cell? ⟨w.heap.size,2,none⟩=some (.slice c.na c.nn c.nc):=HK.out.blk.cell 2
  go_wp2_with fail
  refine CA.out.mono ?_
  rintro e w1 ⟨⟨a1,c1,rfl,hd⟩,hb⟩
  have hw1:Below w.heap.size w w1:=H1.out.trans (hb.mono H1.out.size)
  have hk1:=HK.out.below hb
  have hq1:Blk w1 (w.heap.size+1) (cvC cv0) 60:=(hb.block _ HQ.out.lt).trans HQ.out
  have HQ5:=hId hq1
  have HW5:=hId hw1
  clear hd hb hw1 hk1 hq1 CA p2
  go_wp2_with fail
  refine (q30 F w1).mono ?_
  rintro e wf ⟨rfl,hb⟩
  have HQX:Hid (Blk wf (w.heap.size+1) (cvC cv0) 60):=(hb.block _ HQ5.out.lt).trans HQ5.out
  have HWX:Hid (Below w.heap.size w wf):=HW5.out.trans (hb.mono HW5.out.size)
  clear hb
  have q0:wf.cell? ⟨w.heap.size+1,0,none⟩=some (.int .i64 0):=HQX.out.cell 0
  have q1:wf.cell? ⟨w.heap.size+1,1,none⟩=some (.slice none 0 0):=HQX.out.cell 1
  have q2:wf.cell? ⟨w.heap.size+1,2,none⟩=some (.slice none 0 0):=HQX.out.cell 2
  have q3:wf.cell? ⟨w.heap.size+1,3,none⟩=some (.int .i64 0):=HQX.out.cell 3
  have q4:wf.cell? ⟨w.heap.size+1,4,none⟩=some (.slice none 0 0):=HQX.out.cell 4
  have q5:wf.cell? ⟨w.heap.size+1,5,none⟩=some (.slice none 0 0):=HQX.out.cell 5
  have q6:wf.cell? ⟨w.heap.size+1,6,none⟩=some (.bool false):=HQX.out.cell 6
  have g0:=HQX.out.frozen 0
  have g1:=HQX.out.frozen 1
  have g2:=HQX.out.frozen 2
  have g3:=HQX.out.frozen 3
  have g4:=HQX.out.frozen 4
  have g5:=HQX.out.frozen 5
  have g6:=HQX.out.frozen 6
  go_wp2
  change bodyPost Tryz.prog _ _ Exit.ret _ (putK wf (w.heap.size+1) cv0)
  exact bodyPost_ret (za (t:=cv0) rfl _ rfl rfl rfl (zo HQX.out)) rfl ⟨⟨cv0,rfl,Cli.nil _,rfl⟩,HWX.out.trans (((qq wf (w.heap.size+1) cv0).low (by have:=HQX.out.lt;omega)).mono (by omega))⟩
end Go.Proofs.YtbhcklkbckacpaaGreatDoor
