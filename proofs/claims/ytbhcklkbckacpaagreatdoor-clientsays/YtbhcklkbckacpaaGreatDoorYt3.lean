/- A part. -/
import Derived.Test.YtbhcklkbckacpaaGreatDoorYt0
import Derived.Test.YtbhcklkbckacpaaGreatDoorYi
namespace Go.Proofs.YtbhcklkbckacpaaGreatDoor
open Go.RowKit
set_option maxRecDepth 100000 in
set_option maxHeartbeats 12800000 in
theorem q7y (c:CV) (who:Int) (m:MV) (w:World) (hC:Cli w c) (hO:Ops w m.e.ao m.e.n m.e.cap m.e.vs) (hR:Kl.Rc c.cl) (h0:¬ m.e.n=0) (hx:Ac.chk (m.e.vs.map PV.pt)=0) (hrev:m.mr=c.rev+1) (h60:¬ c.rev=60) (hown:Kl.isOwn c.cl who m.e.en=false) (hF0:Ac.fitE c.base (m.e.vs.map PV.pt)=0) (hs0:¬ c.sn=0) (hh0:c.hn=0) :
  Calls Tryz.prog 42 #[.agg #[.int .i64 c.rev,.slice c.ba c.bn c.bc,.slice c.na c.nn c.nc,.int .i64 c.seq,.slice c.sa c.sn c.sc,.slice c.ha c.hn c.hc,.bool c.jo],.int .i64 who,.agg #[.int .i64 m.mr,.int .i64 m.e.who,.int .i64 m.e.seq,.slice m.e.ao m.e.n m.e.cap]] w fun e w' => Ans 0 false (Kl.othC c.cl (m.e.vs.map PV.pt)) e w' ∧ Below w.heap.size w w' := by
 have HFF:Hid (Ac.fitE c.base (m.e.vs.map PV.pt)=0):=hF0
 clear hF0
 have HSN:Hid (¬ c.sn=0):=hs0
 clear hs0
 have HHZ:Hid (c.hn=0):=hh0
 clear hh0
 have hA:Below w.heap.size w (qw m (boxk c w)):=(qe c w).trans ((j2 m _).mono (qe c w).size)
 have h1:Below w.heap.size w (boxk cv0 (qw m (boxk c w))):=hA.trans ((qe cv0 _).mono hA.size)
 have H0:Hid (HrR w c m (boxk cv0 (qw m (boxk c w)))):=⟨⟨((qx c w).alloc _).alloc _,hC.below h1⟩,by have:=(xi m (boxk c w)).alloc (.cells #[.int .i64 0,.slice none 0 0,.slice none 0 0,.int .i64 0,.slice none 0 0,.slice none 0 0,.bool false] 60);rw[zl] at this;exact this,by have:=qx cv0 (qw m (boxk c w));rw[xp,zl] at this;exact this,hO.below h1,h1⟩
 have hsl:(c.sent.map PV.pt).length=c.sn:=zm hC.sent
 have hhl:(c.held.map PV.pt).length=c.hn:=zm hC.held
 have HR:=hId hR
 have r3:(0:Int)≤c.rev:=hR.lo
 have r4:c.rev≤60:=hR.hi
 have HOO:Hid (((m.e.who == who)&&((m.e.seq == c.seq)&&decide (0<c.sn)))=false):=(q3i c who m.e hsl).symm.trans hown
 have hn1:((m.e.n:Int) == 0)=false:=by simp[h0]
 have hn2:(m.e.n == 0)=false:=by simp[h0]
 have hu:IntKind.i64.wrap (m.mr - 1)=c.rev:=by rw[hrev,show c.rev+1 - 1=c.rev by omega];exact IntWalk.i64_in _ ⟨by omega,by omega⟩
 have hu2:wrap64 (m.mr - 1)=c.rev:=by rw[← IntWalk.i64_left];exact hu
 have hu3:(c.rev == 60)=false:=by simp[h60]
 have hu4:(c.rev != c.rev)=false:=by simp
 have HWR:Hid (wrap64 (c.rev+1)=c.rev+1∧IntKind.i64.wrap (c.rev+1)=c.rev+1):=⟨by unfold wrap64;omega,IntWalk.i64_in _ ⟨by omega,by omega⟩⟩
 have CC:Hid (Calls Tryz.prog 102 #[.slice m.e.ao m.e.n m.e.cap] (boxk cv0 (qw m (boxk c w))) fun e w'' => e=.returned (.int .i64 0)∧Below (boxk cv0 (qw m (boxk c w))).heap.size (boxk cv0 (qw m (boxk c w))) w''):=by have:=qy m.e.ao m.e.n m.e.cap m.e.vs (boxk cv0 (qw m (boxk c w))) H0.out.o;rw[hx] at this;exact this
 clear hC hO hA h1 hR h0 hx hrev h60 hown r3 r4
 obtain ⟨C0,hC0⟩:∃ C0,Kl.othC c.cl (m.e.vs.map PV.pt)=C0:=⟨_,rfl⟩
 have HCO:Hid (Kl.othC c.cl (m.e.vs.map PV.pt)=C0):=hC0
 rw[hC0]
 clear hC0
 obtain ⟨D,hD⟩:∃ D,Ac.done c.base (m.e.vs.map PV.pt)=D:=⟨_,rfl⟩
 have HDN:Hid (Ac.done c.base (m.e.vs.map PV.pt)=D):=hD
 clear hD
 go_enter Tryz.func42,Tryz.ntmps42
 go_upto_region 1 with fail
 change Code.wp Tryz.prog _ _ _ (boxk cv0 (qw m (boxk c w)))
 generalize (boxk cv0 (qw m (boxk c w)))=V at *
 have q0:V.cell? ⟨w.heap.size+1,0,none⟩=some (.int .i64 m.mr):=H0.out.b.cell 0
 have q1:V.cell? ⟨w.heap.size+1,1,none⟩=some (.int .i64 m.e.who):=H0.out.b.cell 1
 have q2:V.cell? ⟨w.heap.size+1,2,none⟩=some (.int .i64 m.e.seq):=H0.out.b.cell 2
 have q3:V.cell? ⟨w.heap.size+1,3,none⟩=some (.slice m.e.ao m.e.n m.e.cap):=H0.out.b.cell 3
 have p0:V.cell? ⟨w.heap.size,0,none⟩=some (.int .i64 c.rev):=H0.out.k.blk.cell 0
 have p1:V.cell? ⟨w.heap.size,1,none⟩=some (.slice c.ba c.bn c.bc):=H0.out.k.blk.cell 1
 have p2:V.cell? ⟨w.heap.size,2,none⟩=some (.slice c.na c.nn c.nc):=H0.out.k.blk.cell 2
 have p3:V.cell? ⟨w.heap.size,3,none⟩=some (.int .i64 c.seq):=H0.out.k.blk.cell 3
 have p4:V.cell? ⟨w.heap.size,4,none⟩=some (.slice c.sa c.sn c.sc):=H0.out.k.blk.cell 4
 have p5:V.cell? ⟨w.heap.size,5,none⟩=some (.slice c.ha c.hn c.hc):=H0.out.k.blk.cell 5
 have p6:V.cell? ⟨w.heap.size,6,none⟩=some (.bool c.jo):=H0.out.k.blk.cell 6
 obtain ⟨b1,hb1⟩:∃ b,(m.e.who == who)=b:=⟨_,rfl⟩
 obtain ⟨b2,hb2⟩:∃ b,(m.e.seq == c.seq)=b:=⟨_,rfl⟩
 obtain ⟨b3,hb3⟩:∃ b,decide (0<c.sn)=b:=⟨_,rfl⟩
 have hb4:decide ((0:Int)<(c.sn:Int))=b3:=by rw[← hb3];simp
 rw[hb1,hb2,hb3] at HOO
 go_cut [9] from 18 to 36 (fun v wx=>v=.bool false∧wx=V)
 case first =>
  cases b3
  ·go_wp2_with fail
   go_meet
   exact ⟨rfl,rfl⟩
  ·cases b1
   ·go_wp2_with fail
    go_meet
    exact ⟨rfl,rfl⟩
   ·obtain rfl:b2=false:=by have:=HOO.out;simpa using this
    go_wp2_with fail
    go_meet
    exact ⟨rfl,rfl⟩
 case rest =>
  obtain ⟨rfl,rfl⟩:=hcut
  generalize wc=V at *
  clear HOO hb1 hb2 hb3 hb4
  go_wp2_with fail
  refine CC.out.mono ?_
  rintro e w2 ⟨rfl,hb⟩
  have H2:Hid (HrR w c m w2):=H0.out.under hb
  clear hb CC p0 p1 p2 p3 p4 p5 p6 q0 q1 q2 q3 H0
  have CA:Hid (Calls Tryz.prog 82 #[.slice c.ba c.bn c.bc,.slice m.e.ao m.e.n m.e.cap] w2 fun e w' => (∃ a' n' c',e=.returned (.tuple #[.slice a' n' c',.int .i64 (Ac.fitE c.base (m.e.vs.map PV.pt))])∧Doc w' a' n' c' (Ac.done c.base (m.e.vs.map PV.pt)))∧Below w2.heap.size w2 w'):=(zh _ _ _ _ _ _ _ _ _ H2.out.k.cli.base H2.out.o).mono fun e w' ⟨⟨a',c',h1,h2⟩,hb⟩=>⟨⟨a',_,c',h1,h2⟩,hb⟩
  rw[HDN.out,HFF.out] at CA
  have q0:w2.cell? ⟨w.heap.size+1,0,none⟩=some (.int .i64 m.mr):=H2.out.b.cell 0
  have q1:w2.cell? ⟨w.heap.size+1,1,none⟩=some (.int .i64 m.e.who):=H2.out.b.cell 1
  have q2:w2.cell? ⟨w.heap.size+1,2,none⟩=some (.int .i64 m.e.seq):=H2.out.b.cell 2
  have q3:w2.cell? ⟨w.heap.size+1,3,none⟩=some (.slice m.e.ao m.e.n m.e.cap):=H2.out.b.cell 3
  have p0:w2.cell? ⟨w.heap.size,0,none⟩=some (.int .i64 c.rev):=H2.out.k.blk.cell 0
  have p1:w2.cell? ⟨w.heap.size,1,none⟩=some (.slice c.ba c.bn c.bc):=H2.out.k.blk.cell 1
  have p2:w2.cell? ⟨w.heap.size,2,none⟩=some (.slice c.na c.nn c.nc):=H2.out.k.blk.cell 2
  have p3:w2.cell? ⟨w.heap.size,3,none⟩=some (.int .i64 c.seq):=H2.out.k.blk.cell 3
  have p4:w2.cell? ⟨w.heap.size,4,none⟩=some (.slice c.sa c.sn c.sc):=H2.out.k.blk.cell 4
  have p5:w2.cell? ⟨w.heap.size,5,none⟩=some (.slice c.ha c.hn c.hc):=H2.out.k.blk.cell 5
  have p6:w2.cell? ⟨w.heap.size,6,none⟩=some (.bool c.jo):=H2.out.k.blk.cell 6
  go_wp2_with fail
  refine CA.out.mono ?_
  rintro e w3 ⟨⟨ba,bn,bc,rfl,hdd⟩,hb⟩
  have H3:Hid (HrR w c m w3):=H2.out.under hb
  have HDD0:=hId hdd
  clear hdd hb CA p0 p1 p2 p3 p4 p5 p6 q0 q1 q2 q3 H2 hu hu2 hu3 hu4 hn1 hn2
  have HBC:Hid ((if Kl.bhE (m.e.vs.map PV.pt) (c.sent.map PV.pt) (c.held.map PV.pt)=0 then (if Kl.dnE D (Kl.tY (m.e.vs.map PV.pt) (c.sent.map PV.pt)) (Kl.bhH (m.e.vs.map PV.pt) (c.sent.map PV.pt) (c.held.map PV.pt))=0 then (⟨c.rev+1,D,Kl.dnD D (Kl.tY (m.e.vs.map PV.pt) (c.sent.map PV.pt)) (Kl.bhH (m.e.vs.map PV.pt) (c.sent.map PV.pt) (c.held.map PV.pt)),c.seq,Kl.tY (m.e.vs.map PV.pt) (c.sent.map PV.pt),Kl.bhH (m.e.vs.map PV.pt) (c.sent.map PV.pt) (c.held.map PV.pt),c.jo⟩:Kl.Cl) else Kl.gv (Kl.adv c.cl (m.e.vs.map PV.pt))) else Kl.gv (Kl.adv c.cl (m.e.vs.map PV.pt)))=C0):=by
   have:=HCO.out
   unfold Kl.othC at this
   rw[if_pos (show Ac.fitE c.cl.base (m.e.vs.map PV.pt)=0 from HFF.out)] at this
   rw[show Ac.done c.cl.base (m.e.vs.map PV.pt)=D from HDN.out] at this
   exact this
  have hw1:=HWR.out.1
  have hw2:=HWR.out.2
  clear HCO
  have HD4:Hid (Doc (w3.setCell ⟨w.heap.size,0,none⟩ (.int .i64 (c.rev+1))) ba bn bc D):=HDD0.out.keptK H3.out.k.blk (qh ..)
  have H4:Hid (HrR w (c.toRev (c.rev+1)) m (w3.setCell ⟨w.heap.size,0,none⟩ (.int .i64 (c.rev+1)))):=H3.out.set (H3.out.k.toRev _)
  have p0:w3.cell? ⟨w.heap.size,0,none⟩=some (.int .i64 c.rev):=H3.out.k.blk.cell 0
  have f0:=H3.out.k.blk.frozen 0
  go_upto_region 28 with fail
  change Code.wp Tryz.prog _ _ _ (w3.setCell ⟨w.heap.size,0,none⟩ (.int .i64 (c.rev+1)))
  generalize w3.setCell ⟨w.heap.size,0,none⟩ (.int .i64 (c.rev+1))=W4 at *
  clear p0 f0
  have H5:Hid (HrR w ((c.toRev (c.rev+1)).toBase ba bn bc D) m (W4.setCell ⟨w.heap.size,1,none⟩ (.slice ba bn bc))):=H4.out.set (H4.out.k.toBase ba bn bc D HD4.out)
  have p1:W4.cell? ⟨w.heap.size,1,none⟩=some (.slice c.ba c.bn c.bc):=H4.out.k.blk.cell 1
  have f1:=H4.out.k.blk.frozen 1
  go_upto_region 29 with fail
  change Code.wp Tryz.prog _ _ _ (W4.setCell ⟨w.heap.size,1,none⟩ (.slice ba bn bc))
  generalize W4.setCell ⟨w.heap.size,1,none⟩ (.slice ba bn bc)=W5 at *
  clear p1 f1
  obtain ⟨c4,hc4⟩:∃ c4,(c.toRev (c.rev+1)).toBase ba bn bc D=c4:=⟨_,rfl⟩
  have HLKc4:Hid (Like c (m.e.vs.map PV.pt) D c4):=by rw[← hc4];exact ⟨rfl,rfl,rfl,rfl⟩
  have HPF4:Hid (c4.sent.map PV.pt=c.sent.map PV.pt):=by rw[← hc4];exact rfl
  have HPH:Hid (c4.held.map PV.pt=c.held.map PV.pt):=by rw[← hc4];exact rfl
  have HN4:Hid (c4.sn=c.sn):=by rw[← hc4];exact rfl
  have HN5:Hid (c4.hn=c.hn):=by rw[← hc4];exact rfl
  rw[hc4] at H5
  clear hc4 hw1 hw2 H4 HD4
  have q0:W5.cell? ⟨w.heap.size+1,0,none⟩=some (.int .i64 m.mr):=H5.out.b.cell 0
  have q1:W5.cell? ⟨w.heap.size+1,1,none⟩=some (.int .i64 m.e.who):=H5.out.b.cell 1
  have q2:W5.cell? ⟨w.heap.size+1,2,none⟩=some (.int .i64 m.e.seq):=H5.out.b.cell 2
  have q3:W5.cell? ⟨w.heap.size+1,3,none⟩=some (.slice m.e.ao m.e.n m.e.cap):=H5.out.b.cell 3
  have p4:W5.cell? ⟨w.heap.size,4,none⟩=some (.slice c4.sa c4.sn c4.sc):=H5.out.k.blk.cell 4
  have p5:W5.cell? ⟨w.heap.size,5,none⟩=some (.slice c4.ha c4.hn c4.hc):=H5.out.k.blk.cell 5
  have hs:=HSN.out
  have hn1:decide ((0:Int)<(c4.sn:Int))=true:=by rw[HN4.out];simp;omega
  have hn2:decide (0<c4.sn)=true:=by rw[HN4.out];simp;omega
  have HS4:Hid (0<(c.sent.map PV.pt).length):=by show 0<_;rw[hsl];omega
  obtain ⟨xa,hxa⟩:∃ xa,m.e.ao=xa:=⟨_,rfl⟩
  obtain ⟨xn,hxn⟩:∃ xn,m.e.n=xn:=⟨_,rfl⟩
  obtain ⟨xc,hxc⟩:∃ xc,m.e.cap=xc:=⟨_,rfl⟩
  obtain ⟨xs,hxs⟩:∃ xs,m.e.vs=xs:=⟨_,rfl⟩
  have HOX:Hid (Ops W5 xa xn xc xs):=by rw[← hxa,← hxn,← hxc,← hxs];exact H5.out.o
  have HPO:Hid (xs.map PV.pt=(m.e.vs.map PV.pt)):=by rw[← hxs];exact rfl
  rw[hxa,hxn,hxc] at q3
  clear hxa hxn hxc hxs hs
  clear p4 p5
  have p4:W5.cell? ⟨w.heap.size,4,none⟩=some (.slice c4.sa c4.sn c4.sc):=H5.out.k.blk.cell 4
  go_upto_region 31 with fail
  clear p4
  have CT:Hid (Calls Tryz.prog 93 #[.slice xa xn xc,.slice c4.sa c4.sn c4.sc] W5 fun e w' => q4h (Ac.trnX (m.e.vs.map PV.pt) (c.sent.map PV.pt)) (Ac.trnY (m.e.vs.map PV.pt) (c.sent.map PV.pt)) (Ac.trnE (m.e.vs.map PV.pt) (c.sent.map PV.pt)) e w' ∧ Below W5.heap.size W5 w'):=by
   have:=q0y _ _ _ _ _ _ _ _ W5 HOX.out H5.out.k.cli.sent
   rw[HPO.out,HPF4.out] at this
   exact this
  obtain ⟨E5,hE5⟩:∃ E,Ac.trnE (m.e.vs.map PV.pt) (c.sent.map PV.pt)=E:=⟨_,rfl⟩
  obtain ⟨X5,hX5⟩:∃ X,Ac.trnX (m.e.vs.map PV.pt) (c.sent.map PV.pt)=X:=⟨_,rfl⟩
  obtain ⟨Y5,hY5⟩:∃ Y,Ac.trnY (m.e.vs.map PV.pt) (c.sent.map PV.pt)=Y:=⟨_,rfl⟩
  have HE5:Hid (Ac.trnE (m.e.vs.map PV.pt) (c.sent.map PV.pt)=E5):=hE5
  have HX5:Hid (Ac.trnX (m.e.vs.map PV.pt) (c.sent.map PV.pt)=X5):=hX5
  have HY5:Hid (Ac.trnY (m.e.vs.map PV.pt) (c.sent.map PV.pt)=Y5):=hY5
  rw[hE5,hX5,hY5] at CT
  clear hE5 hX5 hY5
  have p4:W5.cell? ⟨w.heap.size,4,none⟩=some (.slice c4.sa c4.sn c4.sc):=H5.out.k.blk.cell 4
  go_wp2_with fail
  refine CT.out.mono ?_
  rintro e wt5 ⟨⟨x2,xn2,xc2,xu2,y2,yn2,yc2,yu2,rfl,hx2,hy2,px2,py2⟩,hb⟩
  have HT5:Hid (HrR w c4 m wt5):=H5.out.under hb
  have HS5:Hid (HrR w (c4.toSent y2 yn2 yc2 yu2) m (wt5.setCell ⟨w.heap.size,4,none⟩ (.slice y2 yn2 yc2))):=HT5.out.set (HT5.out.k.toSent y2 yn2 yc2 yu2 hy2)
  have HOX5:Hid (Ops (wt5.setCell ⟨w.heap.size,4,none⟩ (.slice y2 yn2 yc2)) x2 xn2 xc2 xu2):=hx2.keptK HT5.out.k.blk (qh ..)
  have HPX5:Hid (xu2.map PV.pt=X5):=px2
  have HPY5:Hid (yu2.map PV.pt=Y5):=py2
  clear hx2 hy2 px2 py2 hb CT p4
  have p4:wt5.cell? ⟨w.heap.size,4,none⟩=some (.slice c4.sa c4.sn c4.sc):=HT5.out.k.blk.cell 4
  have f4:=HT5.out.k.blk.frozen 4
  go_upto_region 32 with fail
  change Code.wp Tryz.prog _ _ _ (wt5.setCell ⟨w.heap.size,4,none⟩ (.slice y2 yn2 yc2))
  generalize wt5.setCell ⟨w.heap.size,4,none⟩ (.slice y2 yn2 yc2)=WS5 at *
  clear p4 f4
  obtain ⟨cs5,hcs5⟩:∃ cs,c4.toSent y2 yn2 yc2 yu2=cs:=⟨_,rfl⟩
  have HLS5:Hid (Like c (m.e.vs.map PV.pt) D cs5):=by rw[← hcs5];exact ⟨HLKc4.out.rev,HLKc4.out.base,HLKc4.out.seq,HLKc4.out.jo⟩
  have HPS:Hid (cs5.sent.map PV.pt=Y5):=by rw[← hcs5];exact HPY5.out
  have HPF5:Hid (cs5.held.map PV.pt=c.held.map PV.pt):=by rw[← hcs5];exact HPH.out
  have HHN:Hid (cs5.hn=c.hn):=by rw[← hcs5];exact HN5.out
  rw[hcs5] at HS5
  clear hcs5
  by_cases hz5:E5=0
  ·subst hz5
   have HT5:Hid (Kl.tE (m.e.vs.map PV.pt) (c.sent.map PV.pt)=0):=(Kl.t_some HS4.out).1.trans HE5.out
   have HTX5:Hid (Kl.tX (m.e.vs.map PV.pt) (c.sent.map PV.pt)=X5):=(Kl.t_some HS4.out).2.1.trans HX5.out
   have HTY5:Hid (Kl.tY (m.e.vs.map PV.pt) (c.sent.map PV.pt)=Y5):=(Kl.t_some HS4.out).2.2.trans HY5.out
   have p5:WS5.cell? ⟨w.heap.size,5,none⟩=some (.slice cs5.ha cs5.hn cs5.hc):=HS5.out.k.blk.cell 5
   have hh:=HHZ.out
   have hm1:decide ((0:Int)<(cs5.hn:Int))=false:=by rw[HHN.out];simp[hh]
   have hm2:decide (0<cs5.hn)=false:=by rw[HHN.out];simp[hh]
   obtain ⟨u1,u2,u3⟩:=Kl.t_none (o:=X5) (show (c.held.map PV.pt).length=0 from hhl.trans hh)
   have HCT:Hid ((if Kl.dnE D Y5 (c.held.map PV.pt)=0 then (⟨c.rev+1,D,Kl.dnD D Y5 (c.held.map PV.pt),c.seq,Y5,c.held.map PV.pt,c.jo⟩:Kl.Cl) else Kl.gv (Kl.adv c.cl (m.e.vs.map PV.pt)))=C0):=by
    have:=HBC.out
    rw[if_pos (show Kl.bhE (m.e.vs.map PV.pt) (c.sent.map PV.pt) (c.held.map PV.pt)=0 by unfold Kl.bhE;rw[if_pos HT5.out,HTX5.out,u1])] at this
    rw[show Kl.bhH (m.e.vs.map PV.pt) (c.sent.map PV.pt) (c.held.map PV.pt)=c.held.map PV.pt by unfold Kl.bhH;rw[HTX5.out,u3],HTY5.out] at this
    exact this
   have HLK:Hid (Like c (m.e.vs.map PV.pt) D cs5):=HLS5.out
   obtain ⟨HH,hHH⟩:∃ HH,c.held.map PV.pt=HH:=⟨_,rfl⟩
   have HP1:Hid (cs5.sent.map PV.pt=Y5):=HPS.out
   have HP2:Hid (cs5.held.map PV.pt=HH):=HPF5.out.trans hHH
   rw[hHH] at HCT
   clear u1 u2 u3 hh hHH
   go_upto_region 38 with fail
   clear p5
   have H7:Hid (HrR w (cs5.toNow cs5.ba cs5.bn cs5.bc cs5.base) m (WS5.setCell ⟨w.heap.size,2,none⟩ (.slice cs5.ba cs5.bn cs5.bc))):=HS5.out.set (HS5.out.k.toNow cs5.ba cs5.bn cs5.bc cs5.base HS5.out.k.cli.base)
   have p1:WS5.cell? ⟨w.heap.size,1,none⟩=some (.slice cs5.ba cs5.bn cs5.bc):=HS5.out.k.blk.cell 1
   have p2:WS5.cell? ⟨w.heap.size,2,none⟩=some (.slice cs5.na cs5.nn cs5.nc):=HS5.out.k.blk.cell 2
   have f2:=HS5.out.k.blk.frozen 2
   go_upto_region 39 with fail
   change Code.wp Tryz.prog _ _ _ (WS5.setCell ⟨w.heap.size,2,none⟩ (.slice cs5.ba cs5.bn cs5.bc))
   generalize WS5.setCell ⟨w.heap.size,2,none⟩ (.slice cs5.ba cs5.bn cs5.bc)=W7 at *
   clear p1 p2 f2
   obtain ⟨c7,hc7⟩:∃ c7,cs5.toNow cs5.ba cs5.bn cs5.bc cs5.base=c7:=⟨_,rfl⟩
   have HLK7:Hid (Like c (m.e.vs.map PV.pt) D c7):=by rw[← hc7];exact ⟨HLK.out.rev,HLK.out.base,HLK.out.seq,HLK.out.jo⟩
   have HP17:Hid (c7.sent.map PV.pt=Y5):=by rw[← hc7];exact HP1.out
   have HP27:Hid (c7.held.map PV.pt=HH):=by rw[← hc7];exact HP2.out
   have HNW:Hid (c7.now=D):=by rw[← hc7];exact HLK.out.base
   rw[hc7] at H7
   clear hc7
   have p4:W7.cell? ⟨w.heap.size,4,none⟩=some (.slice c7.sa c7.sn c7.sc):=H7.out.k.blk.cell 4
   have p5:W7.cell? ⟨w.heap.size,5,none⟩=some (.slice c7.ha c7.hn c7.hc):=H7.out.k.blk.cell 5
   have H8:Hid (HrR w c7 m (W7.alloc (.cells #[.slice c7.sa c7.sn c7.sc,.slice c7.ha c7.hn c7.hc] 44))):=H7.out.under ((Below.refl _ _).alloc (Nat.le_refl _) _)
   have HL8:Hid (Blk (W7.alloc (.cells #[.slice c7.sa c7.sn c7.sc,.slice c7.ha c7.hn c7.hc] 44)) W7.heap.size [.slice c7.sa c7.sn c7.sc,.slice c7.ha c7.hn c7.hc] 44):=Blk.new W7 _ _
   have hlb:w.heap.size<W7.heap.size:=H7.out.k.blk.lt
   go_upto_region 40 with fail
   change Code.wp Tryz.prog _ _ _ (W7.alloc (.cells #[.slice c7.sa c7.sn c7.sc,.slice c7.ha c7.hn c7.hc] 44))
   generalize W7.alloc (.cells #[.slice c7.sa c7.sn c7.sc,.slice c7.ha c7.hn c7.hc] 44)=W8 at *
   generalize W7.heap.size=lb at *
   clear p4 p5
   go_loopw [174] (fun i wr=>∃ k:Nat,k≤2∧i=.int .i64 k∧∃ na nn nc l,HrR w (c7.toNow na nn nc l) m wr∧Blk wr lb [.slice c7.sa c7.sn c7.sc,.slice c7.ha c7.hn c7.hc] 44∧Kl.DnI D Y5 HH k l) (fun i _=>2 - (intOf i).toNat)
   case atStart=>exact ⟨0,by decide,rfl,c7.na,c7.nn,c7.nc,c7.now,H8.out,HL8.out,.inl ⟨rfl,HNW.out⟩⟩
   case round =>
    obtain ⟨k,hk,rfl,na,nn,nc,l,hrr,hbl,hi⟩:=hrel
    have HRR:=hId hrr
    have HBL:=hId hbl
    have HI:=hId hi
    have z0:wr.cell? ⟨lb,0,none⟩=some (.slice c7.sa c7.sn c7.sc):=hbl.cell 0
    have z1:wr.cell? ⟨lb,1,none⟩=some (.slice c7.ha c7.hn c7.hc):=hbl.cell 1
    have p2:wr.cell? ⟨w.heap.size,2,none⟩=some (.slice na nn nc):=hrr.k.blk.cell 2
    clear hrr hbl hi
    obtain rfl | rfl | rfl:k=0∨k=1∨k=2:=by omega
    ·clear hk
     by_cases h0:c7.sn=0
     ·have HL0:Hid (Y5.length=0):=by have e2:(c7.sent.map PV.pt).length=c7.sn:=zm HRR.out.k.cli.sent;show _=_;rw[← HP17.out,e2];exact h0
      have hn1:decide ((0:Int)<(c7.sn:Int))=false:=by simp[h0]
      have hn2:decide (0<c7.sn)=false:=by simp[h0]
      clear h0
      go_wp2
      go_roundw
      case rel=>exact ⟨1,by decide,rfl,na,nn,nc,l,HRR.out,HBL.out,HI.out.none0 HL0.out⟩
      case measure=>decide
     ·have HL0:Hid (0<Y5.length):=by have e2:(c7.sent.map PV.pt).length=c7.sn:=zm HRR.out.k.cli.sent;show 0<_;rw[← HP17.out,e2];omega
      have hn1:decide ((0:Int)<(c7.sn:Int))=true:=by simp;omega
      have hn2:decide (0<c7.sn)=true:=by simp;omega
      have CA:Hid (Calls Tryz.prog 82 #[.slice na nn nc,.slice c7.sa c7.sn c7.sc] wr fun e w' => (∃ a' n' c',e=.returned (.tuple #[.slice a' n' c',.int .i64 (Ac.fitE l Y5)])∧Doc w' a' n' c' (Ac.done l Y5))∧Below wr.heap.size wr w'):=by
       have:=zh _ _ _ _ _ _ _ _ _ HRR.out.k.cli.now HRR.out.k.cli.sent
       rw[show (c7.toNow na nn nc l).sent.map PV.pt=Y5 from HP17.out] at this
       exact this.mono fun e w' ⟨⟨a',c',h1,h2⟩,hb⟩=>⟨⟨a',_,c',h1,h2⟩,hb⟩
      clear h0
      obtain ⟨Dz,hDz⟩:∃ Dz,Ac.done l Y5=Dz:=⟨_,rfl⟩
      obtain ⟨Ez,hEz⟩:∃ Ez,Ac.fitE l Y5=Ez:=⟨_,rfl⟩
      have HDz:Hid (Ac.done l Y5=Dz):=hDz
      have HEz:Hid (Ac.fitE l Y5=Ez):=hEz
      rw[hDz,hEz] at CA
      clear hDz hEz
      go_wp2_with fail
      refine CA.out.mono ?_
      rintro e wy ⟨⟨ya,yn,yc,rfl,hdy⟩,hb⟩
      have HRY:Hid (HrR w (c7.toNow na nn nc l) m wy):=HRR.out.under hb
      have HBY:Hid (Blk wy lb [.slice c7.sa c7.sn c7.sc,.slice c7.ha c7.hn c7.hc] 44):=(hb.block _ HBL.out.lt).trans HBL.out
      have HRZ:Hid (HrR w (c7.toNow ya yn yc Dz) m (wy.setCell ⟨w.heap.size,2,none⟩ (.slice ya yn yc))):=HRY.out.set (HRY.out.k.toNow ya yn yc Dz hdy)
      have HBZ:Hid (Blk (wy.setCell ⟨w.heap.size,2,none⟩ (.slice ya yn yc)) lb [.slice c7.sa c7.sn c7.sc,.slice c7.ha c7.hn c7.hc] 44):=(qh wy _ _ _).blk HBY.out (by simp;omega)
      clear hdy hb CA z0 z1 p2
      have p2:wy.cell? ⟨w.heap.size,2,none⟩=some (.slice na nn nc):=HRY.out.k.blk.cell 2
      have f2:=HRY.out.k.blk.frozen 2
      go_upto_region 44 with fail
      change Code.wp Tryz.prog _ _ _ (wy.setCell ⟨w.heap.size,2,none⟩ (.slice ya yn yc))
      generalize wy.setCell ⟨w.heap.size,2,none⟩ (.slice ya yn yc)=WZ at *
      clear p2 f2
      by_cases hz:Ez=0
      ·have HN:=HI.out.some0 HL0.out (HEz.out.trans hz)
       rw[HDz.out] at HN
       subst hz
       go_wp2
       go_roundw
       case rel=>exact ⟨1,by decide,rfl,ya,yn,yc,Dz,HRZ.out,HBZ.out,HN⟩
       case measure=>decide
      ·have hne:(Ez != 0)=true:=by simp[hz]
       have HN:Hid (¬ Kl.dnE D Y5 HH=0):=by have:=HI.out.bad0 HL0.out (by rw[HEz.out];exact hz);rw[HEz.out] at this;rw[this];exact hz
       have HCF:Hid (Kl.gv (Kl.adv c.cl (m.e.vs.map PV.pt))=C0):=by have:=HCT.out;rw[if_neg HN.out] at this;exact this
       obtain ⟨cz,hcz⟩:∃ cz,c7.toNow ya yn yc Dz=cz:=⟨_,rfl⟩
       have HLZ:Hid (Like c (m.e.vs.map PV.pt) D cz):=by rw[← hcz];exact ⟨HLK7.out.rev,HLK7.out.base,HLK7.out.seq,HLK7.out.jo⟩
       rw[hcz] at HRZ
       clear hcz
       have CG:Hid (Calls Tryz.prog 101 #[.agg #[.int .i64 cz.rev,.slice cz.ba cz.bn cz.bc,.slice cz.na cz.nn cz.nc,.int .i64 cz.seq,.slice cz.sa cz.sn cz.sc,.slice cz.ha cz.hn cz.hc,.bool cz.jo]] WZ fun e w' => (∃ t,e=.returned (.agg #[.int .i64 t.rev,.slice t.ba t.bn t.bc,.slice t.na t.nn t.nc,.int .i64 t.seq,.slice t.sa t.sn t.sc,.slice t.ha t.hn t.hc,.bool t.jo])∧Cli w' t∧t.cl=Kl.gv cz.cl)∧Below WZ.heap.size WZ w'):=zk cz WZ HRZ.out.k.cli
       have p0:WZ.cell? ⟨w.heap.size,0,none⟩=some (.int .i64 cz.rev):=HRZ.out.k.blk.cell 0
       have p1:WZ.cell? ⟨w.heap.size,1,none⟩=some (.slice cz.ba cz.bn cz.bc):=HRZ.out.k.blk.cell 1
       have p2:WZ.cell? ⟨w.heap.size,2,none⟩=some (.slice cz.na cz.nn cz.nc):=HRZ.out.k.blk.cell 2
       have p3:WZ.cell? ⟨w.heap.size,3,none⟩=some (.int .i64 cz.seq):=HRZ.out.k.blk.cell 3
       have p4:WZ.cell? ⟨w.heap.size,4,none⟩=some (.slice cz.sa cz.sn cz.sc):=HRZ.out.k.blk.cell 4
       have p5:WZ.cell? ⟨w.heap.size,5,none⟩=some (.slice cz.ha cz.hn cz.hc):=HRZ.out.k.blk.cell 5
       have p6:WZ.cell? ⟨w.heap.size,6,none⟩=some (.bool cz.jo):=HRZ.out.k.blk.cell 6
       go_wp2_with fail
       refine CG.out.mono ?_
       rintro e wg ⟨⟨tg,rfl,htg,htc⟩,hb⟩
       have HG:Hid (HrR w cz m wg):=HRZ.out.under hb
       have HTT:=hId htg
       have HTC:Hid (tg.cl=C0):=htc.trans ((HLZ.out.gv HDN.out).trans HCF.out)
       clear hb htg htc CG p0 p1 p2 p3 p4 p5 p6
       have q0:wg.cell? ⟨w.heap.size+2,0,none⟩=some (.int .i64 0):=HG.out.r.cell 0
       have q1:wg.cell? ⟨w.heap.size+2,1,none⟩=some (.slice none 0 0):=HG.out.r.cell 1
       have q2:wg.cell? ⟨w.heap.size+2,2,none⟩=some (.slice none 0 0):=HG.out.r.cell 2
       have q3:wg.cell? ⟨w.heap.size+2,3,none⟩=some (.int .i64 0):=HG.out.r.cell 3
       have q4:wg.cell? ⟨w.heap.size+2,4,none⟩=some (.slice none 0 0):=HG.out.r.cell 4
       have q5:wg.cell? ⟨w.heap.size+2,5,none⟩=some (.slice none 0 0):=HG.out.r.cell 5
       have q6:wg.cell? ⟨w.heap.size+2,6,none⟩=some (.bool false):=HG.out.r.cell 6
       have g0:=HG.out.r.frozen 0
       have g1:=HG.out.r.frozen 1
       have g2:=HG.out.r.frozen 2
       have g3:=HG.out.r.frozen 3
       have g4:=HG.out.r.frozen 4
       have g5:=HG.out.r.frozen 5
       have g6:=HG.out.r.frozen 6
       go_wp2
       change bodyPost Tryz.prog _ _ Exit.ret _ (putK wg (w.heap.size+2) tg)
       exact bodyPost_ret (za (t:=tg) rfl _ rfl rfl rfl (HG.out.fin (t:=tg) HTT.out).2.1) rfl ⟨⟨tg,rfl,(HG.out.fin (t:=tg) HTT.out).1,HTC.out⟩,(HG.out.fin (t:=tg) HTT.out).2.2⟩
    ·clear hk
     by_cases h0:c7.hn=0
     ·have HL0:Hid (HH.length=0):=by have e2:(c7.held.map PV.pt).length=c7.hn:=zm HRR.out.k.cli.held;show _=_;rw[← HP27.out,e2];exact h0
      have hn1:decide ((0:Int)<(c7.hn:Int))=false:=by simp[h0]
      have hn2:decide (0<c7.hn)=false:=by simp[h0]
      clear h0
      go_wp2
      go_roundw
      case rel=>exact ⟨2,by decide,rfl,na,nn,nc,l,HRR.out,HBL.out,HI.out.none1 HL0.out⟩
      case measure=>decide
     ·have HL0:Hid (0<HH.length):=by have e2:(c7.held.map PV.pt).length=c7.hn:=zm HRR.out.k.cli.held;show 0<_;rw[← HP27.out,e2];omega
      have hn1:decide ((0:Int)<(c7.hn:Int))=true:=by simp;omega
      have hn2:decide (0<c7.hn)=true:=by simp;omega
      have CA:Hid (Calls Tryz.prog 82 #[.slice na nn nc,.slice c7.ha c7.hn c7.hc] wr fun e w' => (∃ a' n' c',e=.returned (.tuple #[.slice a' n' c',.int .i64 (Ac.fitE l HH)])∧Doc w' a' n' c' (Ac.done l HH))∧Below wr.heap.size wr w'):=by
       have:=zh _ _ _ _ _ _ _ _ _ HRR.out.k.cli.now HRR.out.k.cli.held
       rw[show (c7.toNow na nn nc l).held.map PV.pt=HH from HP27.out] at this
       exact this.mono fun e w' ⟨⟨a',c',h1,h2⟩,hb⟩=>⟨⟨a',_,c',h1,h2⟩,hb⟩
      clear h0
      obtain ⟨Dz,hDz⟩:∃ Dz,Ac.done l HH=Dz:=⟨_,rfl⟩
      obtain ⟨Ez,hEz⟩:∃ Ez,Ac.fitE l HH=Ez:=⟨_,rfl⟩
      have HDz:Hid (Ac.done l HH=Dz):=hDz
      have HEz:Hid (Ac.fitE l HH=Ez):=hEz
      rw[hDz,hEz] at CA
      clear hDz hEz
      go_wp2_with fail
      refine CA.out.mono ?_
      rintro e wy ⟨⟨ya,yn,yc,rfl,hdy⟩,hb⟩
      have HRY:Hid (HrR w (c7.toNow na nn nc l) m wy):=HRR.out.under hb
      have HBY:Hid (Blk wy lb [.slice c7.sa c7.sn c7.sc,.slice c7.ha c7.hn c7.hc] 44):=(hb.block _ HBL.out.lt).trans HBL.out
      have HRZ:Hid (HrR w (c7.toNow ya yn yc Dz) m (wy.setCell ⟨w.heap.size,2,none⟩ (.slice ya yn yc))):=HRY.out.set (HRY.out.k.toNow ya yn yc Dz hdy)
      have HBZ:Hid (Blk (wy.setCell ⟨w.heap.size,2,none⟩ (.slice ya yn yc)) lb [.slice c7.sa c7.sn c7.sc,.slice c7.ha c7.hn c7.hc] 44):=(qh wy _ _ _).blk HBY.out (by simp;omega)
      clear hdy hb CA z0 z1 p2
      have p2:wy.cell? ⟨w.heap.size,2,none⟩=some (.slice na nn nc):=HRY.out.k.blk.cell 2
      have f2:=HRY.out.k.blk.frozen 2
      go_upto_region 44 with fail
      change Code.wp Tryz.prog _ _ _ (wy.setCell ⟨w.heap.size,2,none⟩ (.slice ya yn yc))
      generalize wy.setCell ⟨w.heap.size,2,none⟩ (.slice ya yn yc)=WZ at *
      clear p2 f2
      by_cases hz:Ez=0
      ·have HN:=HI.out.some1 HL0.out (HEz.out.trans hz)
       rw[HDz.out] at HN
       subst hz
       go_wp2
       go_roundw
       case rel=>exact ⟨2,by decide,rfl,ya,yn,yc,Dz,HRZ.out,HBZ.out,HN⟩
       case measure=>decide
      ·have hne:(Ez != 0)=true:=by simp[hz]
       have HN:Hid (¬ Kl.dnE D Y5 HH=0):=by have:=HI.out.bad1 HL0.out (by rw[HEz.out];exact hz);rw[HEz.out] at this;rw[this];exact hz
       have HCF:Hid (Kl.gv (Kl.adv c.cl (m.e.vs.map PV.pt))=C0):=by have:=HCT.out;rw[if_neg HN.out] at this;exact this
       obtain ⟨cz,hcz⟩:∃ cz,c7.toNow ya yn yc Dz=cz:=⟨_,rfl⟩
       have HLZ:Hid (Like c (m.e.vs.map PV.pt) D cz):=by rw[← hcz];exact ⟨HLK7.out.rev,HLK7.out.base,HLK7.out.seq,HLK7.out.jo⟩
       rw[hcz] at HRZ
       clear hcz
       have CG:Hid (Calls Tryz.prog 101 #[.agg #[.int .i64 cz.rev,.slice cz.ba cz.bn cz.bc,.slice cz.na cz.nn cz.nc,.int .i64 cz.seq,.slice cz.sa cz.sn cz.sc,.slice cz.ha cz.hn cz.hc,.bool cz.jo]] WZ fun e w' => (∃ t,e=.returned (.agg #[.int .i64 t.rev,.slice t.ba t.bn t.bc,.slice t.na t.nn t.nc,.int .i64 t.seq,.slice t.sa t.sn t.sc,.slice t.ha t.hn t.hc,.bool t.jo])∧Cli w' t∧t.cl=Kl.gv cz.cl)∧Below WZ.heap.size WZ w'):=zk cz WZ HRZ.out.k.cli
       have p0:WZ.cell? ⟨w.heap.size,0,none⟩=some (.int .i64 cz.rev):=HRZ.out.k.blk.cell 0
       have p1:WZ.cell? ⟨w.heap.size,1,none⟩=some (.slice cz.ba cz.bn cz.bc):=HRZ.out.k.blk.cell 1
       have p2:WZ.cell? ⟨w.heap.size,2,none⟩=some (.slice cz.na cz.nn cz.nc):=HRZ.out.k.blk.cell 2
       have p3:WZ.cell? ⟨w.heap.size,3,none⟩=some (.int .i64 cz.seq):=HRZ.out.k.blk.cell 3
       have p4:WZ.cell? ⟨w.heap.size,4,none⟩=some (.slice cz.sa cz.sn cz.sc):=HRZ.out.k.blk.cell 4
       have p5:WZ.cell? ⟨w.heap.size,5,none⟩=some (.slice cz.ha cz.hn cz.hc):=HRZ.out.k.blk.cell 5
       have p6:WZ.cell? ⟨w.heap.size,6,none⟩=some (.bool cz.jo):=HRZ.out.k.blk.cell 6
       go_wp2_with fail
       refine CG.out.mono ?_
       rintro e wg ⟨⟨tg,rfl,htg,htc⟩,hb⟩
       have HG:Hid (HrR w cz m wg):=HRZ.out.under hb
       have HTT:=hId htg
       have HTC:Hid (tg.cl=C0):=htc.trans ((HLZ.out.gv HDN.out).trans HCF.out)
       clear hb htg htc CG p0 p1 p2 p3 p4 p5 p6
       have q0:wg.cell? ⟨w.heap.size+2,0,none⟩=some (.int .i64 0):=HG.out.r.cell 0
       have q1:wg.cell? ⟨w.heap.size+2,1,none⟩=some (.slice none 0 0):=HG.out.r.cell 1
       have q2:wg.cell? ⟨w.heap.size+2,2,none⟩=some (.slice none 0 0):=HG.out.r.cell 2
       have q3:wg.cell? ⟨w.heap.size+2,3,none⟩=some (.int .i64 0):=HG.out.r.cell 3
       have q4:wg.cell? ⟨w.heap.size+2,4,none⟩=some (.slice none 0 0):=HG.out.r.cell 4
       have q5:wg.cell? ⟨w.heap.size+2,5,none⟩=some (.slice none 0 0):=HG.out.r.cell 5
       have q6:wg.cell? ⟨w.heap.size+2,6,none⟩=some (.bool false):=HG.out.r.cell 6
       have g0:=HG.out.r.frozen 0
       have g1:=HG.out.r.frozen 1
       have g2:=HG.out.r.frozen 2
       have g3:=HG.out.r.frozen 3
       have g4:=HG.out.r.frozen 4
       have g5:=HG.out.r.frozen 5
       have g6:=HG.out.r.frozen 6
       go_wp2
       change bodyPost Tryz.prog _ _ Exit.ret _ (putK wg (w.heap.size+2) tg)
       exact bodyPost_ret (za (t:=tg) rfl _ rfl rfl rfl (HG.out.fin (t:=tg) HTT.out).2.1) rfl ⟨⟨tg,rfl,(HG.out.fin (t:=tg) HTT.out).1,HTC.out⟩,(HG.out.fin (t:=tg) HTT.out).2.2⟩
    ·clear hk
     obtain ⟨e0,e1⟩:=HI.out.last
     obtain ⟨cz,hcz⟩:∃ cz,c7.toNow na nn nc l=cz:=⟨_,rfl⟩
     have HTC:Hid (cz.cl=C0):=by
      have:=HCT.out
      rw[if_pos e0] at this
      rw[← this,← hcz]
      show (⟨c7.rev,c7.base,l,c7.seq,c7.sent.map PV.pt,c7.held.map PV.pt,c7.jo⟩:Kl.Cl)=_
      rw[HLK7.out.rev,HLK7.out.base,HLK7.out.seq,HLK7.out.jo,HP17.out,HP27.out,e1]
     rw[hcz] at HRR
     clear hcz e0 e1 z0 z1 p2
     go_upto_region 47 with fail
     have HTT:Hid (Cli wr cz):=HRR.out.k.cli
     have p0:wr.cell? ⟨w.heap.size,0,none⟩=some (.int .i64 cz.rev):=HRR.out.k.blk.cell 0
     have p1:wr.cell? ⟨w.heap.size,1,none⟩=some (.slice cz.ba cz.bn cz.bc):=HRR.out.k.blk.cell 1
     have p2:wr.cell? ⟨w.heap.size,2,none⟩=some (.slice cz.na cz.nn cz.nc):=HRR.out.k.blk.cell 2
     have p3:wr.cell? ⟨w.heap.size,3,none⟩=some (.int .i64 cz.seq):=HRR.out.k.blk.cell 3
     have p4:wr.cell? ⟨w.heap.size,4,none⟩=some (.slice cz.sa cz.sn cz.sc):=HRR.out.k.blk.cell 4
     have p5:wr.cell? ⟨w.heap.size,5,none⟩=some (.slice cz.ha cz.hn cz.hc):=HRR.out.k.blk.cell 5
     have p6:wr.cell? ⟨w.heap.size,6,none⟩=some (.bool cz.jo):=HRR.out.k.blk.cell 6
     have q0:wr.cell? ⟨w.heap.size+2,0,none⟩=some (.int .i64 0):=HRR.out.r.cell 0
     have q1:wr.cell? ⟨w.heap.size+2,1,none⟩=some (.slice none 0 0):=HRR.out.r.cell 1
     have q2:wr.cell? ⟨w.heap.size+2,2,none⟩=some (.slice none 0 0):=HRR.out.r.cell 2
     have q3:wr.cell? ⟨w.heap.size+2,3,none⟩=some (.int .i64 0):=HRR.out.r.cell 3
     have q4:wr.cell? ⟨w.heap.size+2,4,none⟩=some (.slice none 0 0):=HRR.out.r.cell 4
     have q5:wr.cell? ⟨w.heap.size+2,5,none⟩=some (.slice none 0 0):=HRR.out.r.cell 5
     have q6:wr.cell? ⟨w.heap.size+2,6,none⟩=some (.bool false):=HRR.out.r.cell 6
     have g0:=HRR.out.r.frozen 0
     have g1:=HRR.out.r.frozen 1
     have g2:=HRR.out.r.frozen 2
     have g3:=HRR.out.r.frozen 3
     have g4:=HRR.out.r.frozen 4
     have g5:=HRR.out.r.frozen 5
     have g6:=HRR.out.r.frozen 6
     go_wp2
     change bodyPost Tryz.prog _ _ Exit.ret _ (putK wr (w.heap.size+2) cz)
     exact bodyPost_ret (za (t:=cz) rfl _ rfl rfl rfl (HRR.out.fin (t:=cz) HTT.out).2.1) rfl ⟨⟨cz,rfl,(HRR.out.fin (t:=cz) HTT.out).1,HTC.out⟩,(HRR.out.fin (t:=cz) HTT.out).2.2⟩
  ·have hne5:(E5 != 0)=true:=by simp[hz5]
   have HCF:Hid (Kl.gv (Kl.adv c.cl (m.e.vs.map PV.pt))=C0):=by
    have:=HBC.out
    rw[if_neg (fun h=>hz5 (HE5.out.symm.trans ((Kl.t_some HS4.out).1.symm.trans (Kl.bh_0 h).1)))] at this
    exact this
   have CG:Hid (Calls Tryz.prog 101 #[.agg #[.int .i64 cs5.rev,.slice cs5.ba cs5.bn cs5.bc,.slice cs5.na cs5.nn cs5.nc,.int .i64 cs5.seq,.slice cs5.sa cs5.sn cs5.sc,.slice cs5.ha cs5.hn cs5.hc,.bool cs5.jo]] WS5 fun e w' => (∃ t,e=.returned (.agg #[.int .i64 t.rev,.slice t.ba t.bn t.bc,.slice t.na t.nn t.nc,.int .i64 t.seq,.slice t.sa t.sn t.sc,.slice t.ha t.hn t.hc,.bool t.jo])∧Cli w' t∧t.cl=Kl.gv cs5.cl)∧Below WS5.heap.size WS5 w'):=zk cs5 WS5 HS5.out.k.cli
   have p0:WS5.cell? ⟨w.heap.size,0,none⟩=some (.int .i64 cs5.rev):=HS5.out.k.blk.cell 0
   have p1:WS5.cell? ⟨w.heap.size,1,none⟩=some (.slice cs5.ba cs5.bn cs5.bc):=HS5.out.k.blk.cell 1
   have p2:WS5.cell? ⟨w.heap.size,2,none⟩=some (.slice cs5.na cs5.nn cs5.nc):=HS5.out.k.blk.cell 2
   have p3:WS5.cell? ⟨w.heap.size,3,none⟩=some (.int .i64 cs5.seq):=HS5.out.k.blk.cell 3
   have p4:WS5.cell? ⟨w.heap.size,4,none⟩=some (.slice cs5.sa cs5.sn cs5.sc):=HS5.out.k.blk.cell 4
   have p5:WS5.cell? ⟨w.heap.size,5,none⟩=some (.slice cs5.ha cs5.hn cs5.hc):=HS5.out.k.blk.cell 5
   have p6:WS5.cell? ⟨w.heap.size,6,none⟩=some (.bool cs5.jo):=HS5.out.k.blk.cell 6
   go_wp2_with fail
   refine CG.out.mono ?_
   rintro e wg ⟨⟨tg,rfl,htg,htc⟩,hb⟩
   have HG:Hid (HrR w cs5 m wg):=HS5.out.under hb
   have HTT:=hId htg
   have HTC:Hid (tg.cl=C0):=htc.trans ((HLS5.out.gv HDN.out).trans HCF.out)
   clear hb htg htc CG p0 p1 p2 p3 p4 p5 p6
   have q0:wg.cell? ⟨w.heap.size+2,0,none⟩=some (.int .i64 0):=HG.out.r.cell 0
   have q1:wg.cell? ⟨w.heap.size+2,1,none⟩=some (.slice none 0 0):=HG.out.r.cell 1
   have q2:wg.cell? ⟨w.heap.size+2,2,none⟩=some (.slice none 0 0):=HG.out.r.cell 2
   have q3:wg.cell? ⟨w.heap.size+2,3,none⟩=some (.int .i64 0):=HG.out.r.cell 3
   have q4:wg.cell? ⟨w.heap.size+2,4,none⟩=some (.slice none 0 0):=HG.out.r.cell 4
   have q5:wg.cell? ⟨w.heap.size+2,5,none⟩=some (.slice none 0 0):=HG.out.r.cell 5
   have q6:wg.cell? ⟨w.heap.size+2,6,none⟩=some (.bool false):=HG.out.r.cell 6
   have g0:=HG.out.r.frozen 0
   have g1:=HG.out.r.frozen 1
   have g2:=HG.out.r.frozen 2
   have g3:=HG.out.r.frozen 3
   have g4:=HG.out.r.frozen 4
   have g5:=HG.out.r.frozen 5
   have g6:=HG.out.r.frozen 6
   go_wp2
   change bodyPost Tryz.prog _ _ Exit.ret _ (putK wg (w.heap.size+2) tg)
   exact bodyPost_ret (za (t:=tg) rfl _ rfl rfl rfl (HG.out.fin (t:=tg) HTT.out).2.1) rfl ⟨⟨tg,rfl,(HG.out.fin (t:=tg) HTT.out).1,HTC.out⟩,(HG.out.fin (t:=tg) HTT.out).2.2⟩
end Go.Proofs.YtbhcklkbckacpaaGreatDoor
