/- A part. -/
import Derived.Test.YthddphjghgdalaaGreatDoorP29
set_option maxRecDepth 100000
set_option maxHeartbeats 1600000
namespace Go.Proofs.YthddphjghgdalaaGreatDoor
open Go.RowKit Go.Proofs.Tryz
def ko:Array Value:=#[.string ⟨#[112]⟩,.int .i64 0,.string ⟨#[100,105,118]⟩,.int .i64 0,.string ⟨#[104,49]⟩,.int .i64 1,.string ⟨#[108,105]⟩,.int .i64 2,.string ⟨#[104,50]⟩,.int .i64 3]
def Bn (w:World):Prop:=∃ t fr,w.heap[1]?=some (.cells ko t fr)
theorem Bn.pos{w:World}(h:Bn w):1<w.heap.size:=by
 obtain⟨t,b,a⟩:=h;exact(WE.1 a).1
theorem Bn.below{w w':World}{b:Nat}(h:Bn w)(c:Below b w w')(d:1<b):Bn w':=by
 obtain⟨t,e,a⟩:=h;exact⟨t,e,(c.block 1 d).trans a⟩
theorem xT(w:World):(Instr.index 212 (.agg ko) (.int .i64 0)).run prog w=.ok (.agg #[.string ⟨#[112]⟩,.int .i64 0]) w:=by kernel_rfl
theorem BK(w:World):(Instr.index 212 (.agg ko) (.int .i64 1)).run prog w=.ok (.agg #[.string ⟨#[100,105,118]⟩,.int .i64 0]) w:=by kernel_rfl
theorem Fo(w:World):(Instr.index 212 (.agg ko) (.int .i64 2)).run prog w=.ok (.agg #[.string ⟨#[104,49]⟩,.int .i64 1]) w:=by kernel_rfl
theorem MK(w:World):(Instr.index 212 (.agg ko) (.int .i64 3)).run prog w=.ok (.agg #[.string ⟨#[108,105]⟩,.int .i64 2]) w:=by kernel_rfl
theorem PN(w:World):(Instr.index 212 (.agg ko) (.int .i64 4)).run prog w=.ok (.agg #[.string ⟨#[104,50]⟩,.int .i64 3]) w:=by kernel_rfl
theorem Gv:(prog.info? 212).map (·.size)=some ko.size:=by kernel_rfl
def gV:Array Value:=#[.string ⟨#[115,99,114,105,112,116]⟩,.string ⟨#[115,116,121,108,101]⟩,.string ⟨#[116,101,109,112,108,97,116,101]⟩,.string ⟨#[115,118,103]⟩,.string ⟨#[109,97,116,104]⟩,.string ⟨#[105,102,114,97,109,101]⟩,.string ⟨#[116,105,116,108,101]⟩,.string ⟨#[116,101,120,116,97,114,101,97]⟩,.string ⟨#[110,111,115,99,114,105,112,116]⟩]
def Hn (w:World):Prop:=∃ t fr,w.heap[2]?=some (.cells gV t fr)
theorem Hn.pos{w:World}(h:Hn w):2<w.heap.size:=by
 obtain⟨t,b,a⟩:=h;exact(WE.1 a).1
theorem Hn.below{w w':World}{b:Nat}(h:Hn w)(c:Below b w w')(d:2<b):Hn w':=by
 obtain⟨t,e,a⟩:=h;exact⟨t,e,(c.block 2 d).trans a⟩
theorem oe(w:World):(Instr.index 215 (.agg gV) (.int .i64 0)).run prog w=.ok (.string ⟨#[115,99,114,105,112,116]⟩) w:=by kernel_rfl
theorem qS(w:World):(Instr.index 215 (.agg gV) (.int .i64 1)).run prog w=.ok (.string ⟨#[115,116,121,108,101]⟩) w:=by kernel_rfl
theorem r9(w:World):(Instr.index 215 (.agg gV) (.int .i64 2)).run prog w=.ok (.string ⟨#[116,101,109,112,108,97,116,101]⟩) w:=by kernel_rfl
theorem uP(w:World):(Instr.index 215 (.agg gV) (.int .i64 3)).run prog w=.ok (.string ⟨#[115,118,103]⟩) w:=by kernel_rfl
theorem xC(w:World):(Instr.index 215 (.agg gV) (.int .i64 4)).run prog w=.ok (.string ⟨#[109,97,116,104]⟩) w:=by kernel_rfl
theorem AW(w:World):(Instr.index 215 (.agg gV) (.int .i64 5)).run prog w=.ok (.string ⟨#[105,102,114,97,109,101]⟩) w:=by kernel_rfl
theorem FK(w:World):(Instr.index 215 (.agg gV) (.int .i64 6)).run prog w=.ok (.string ⟨#[116,105,116,108,101]⟩) w:=by kernel_rfl
theorem LZ(w:World):(Instr.index 215 (.agg gV) (.int .i64 7)).run prog w=.ok (.string ⟨#[116,101,120,116,97,114,101,97]⟩) w:=by kernel_rfl
theorem PA(w:World):(Instr.index 215 (.agg gV) (.int .i64 8)).run prog w=.ok (.string ⟨#[110,111,115,99,114,105,112,116]⟩) w:=by kernel_rfl
theorem vc:(prog.info? 215).map (·.size)=some gV.size:=by kernel_rfl
theorem xi{w:World}(a:Obj):Below w.heap.size w (w.alloc a):=(VE w.heap.size w).alloc (UZ _) a
theorem xh{w:World}(a b:Obj):Below w.heap.size w ((w.alloc a).alloc b):=(xi a).alloc (xi a).size b
theorem xg{w:World}(b a c:Obj):Below w.heap.size w (((w.alloc b).alloc a).alloc c):=(xh b a).alloc (xh b a).size c
theorem xf{w:World}(c b a d:Obj):Below w.heap.size w ((((w.alloc c).alloc b).alloc a).alloc d):=(xg c b a).alloc (xg c b a).size d
theorem EZ{w:World}(d c b a e:Obj):Below w.heap.size w (((((w.alloc d).alloc c).alloc b).alloc a).alloc e):=(xf d c b a).alloc (xf d c b a).size e
theorem QS(b:ByteArray)(w:World)(c:Bn w)(q0:([112]==b.toList)=true):Calls prog 137 #[.string b] w fun e w'=>e=.returned (.tuple #[.int .i64 0,.bool true])/\Below w.heap.size w w':=by
 obtain⟨t,d,a⟩:=c;have f:=hId a;clear a;have g:=xT;go_enter func137,ntmps137
 go_wp2_with (refine wpList_load_row rfl 212 _ rfl 1 rfl t _ d _ f.o underlying212 rfl Gv ?_)
 refine WH 7 ?_
 rw[VJ];go_wp2
 go_ret2
 exact⟨rfl,xi _⟩
theorem QR(b:ByteArray)(w:World)(c:Bn w)(q0:([112]==b.toList)=false)(q1:([100,105,118]==b.toList)=true):Calls prog 137 #[.string b] w fun e w'=>e=.returned (.tuple #[.int .i64 0,.bool true])/\Below w.heap.size w w':=by
 obtain⟨t,d,a⟩:=c;have f:=hId a;clear a;have h:=xT;have g:=BK;go_enter func137,ntmps137
 go_wp2_with (refine wpList_load_row rfl 212 _ rfl 1 rfl t _ d _ f.o underlying212 rfl Gv ?_)
 refine WH 7 ?_
 rw[VJ];go_wp2
 rw[VJ];go_wp2
 go_ret2
 exact⟨rfl,xh _ _⟩
theorem QQ(b:ByteArray)(w:World)(c:Bn w)(q0:([112]==b.toList)=false)(q1:([100,105,118]==b.toList)=false)(q2:([104,49]==b.toList)=true):Calls prog 137 #[.string b] w fun e w'=>e=.returned (.tuple #[.int .i64 1,.bool true])/\Below w.heap.size w w':=by
 obtain⟨t,d,a⟩:=c;have f:=hId a;clear a;have i:=xT;have h:=BK;have g:=Fo;go_enter func137,ntmps137
 go_wp2_with (refine wpList_load_row rfl 212 _ rfl 1 rfl t _ d _ f.o underlying212 rfl Gv ?_)
 refine WH 7 ?_
 rw[VJ];go_wp2
 rw[VJ];go_wp2
 rw[VJ];go_wp2
 go_ret2
 exact⟨rfl,xg _ _ _⟩
theorem QP(b:ByteArray)(w:World)(c:Bn w)(q0:([112]==b.toList)=false)(q1:([100,105,118]==b.toList)=false)(q2:([104,49]==b.toList)=false)(q3:([108,105]==b.toList)=true):Calls prog 137 #[.string b] w fun e w'=>e=.returned (.tuple #[.int .i64 2,.bool true])/\Below w.heap.size w w':=by
 obtain⟨t,d,a⟩:=c;have f:=hId a;clear a;have k:=xT;have i:=BK;have h:=Fo;have g:=MK;go_enter func137,ntmps137
 go_wp2_with (refine wpList_load_row rfl 212 _ rfl 1 rfl t _ d _ f.o underlying212 rfl Gv ?_)
 refine WH 7 ?_
 rw[VJ];go_wp2
 rw[VJ];go_wp2
 rw[VJ];go_wp2
 rw[VJ];go_wp2
 go_ret2
 exact⟨rfl,xf _ _ _ _⟩
theorem QO(b:ByteArray)(w:World)(c:Bn w)(q0:([112]==b.toList)=false)(q1:([100,105,118]==b.toList)=false)(q2:([104,49]==b.toList)=false)(q3:([108,105]==b.toList)=false)(q4:([104,50]==b.toList)=true):Calls prog 137 #[.string b] w fun e w'=>e=.returned (.tuple #[.int .i64 3,.bool true])/\Below w.heap.size w w':=by
 obtain⟨t,d,a⟩:=c;have f:=hId a;clear a;have l:=xT;have k:=BK;have i:=Fo;have h:=MK;have g:=PN;go_enter func137,ntmps137
 go_wp2_with (refine wpList_load_row rfl 212 _ rfl 1 rfl t _ d _ f.o underlying212 rfl Gv ?_)
 refine WH 7 ?_
 rw[VJ];go_wp2
 rw[VJ];go_wp2
 rw[VJ];go_wp2
 rw[VJ];go_wp2
 rw[VJ];go_wp2
 go_ret2
 exact⟨rfl,EZ _ _ _ _ _⟩
theorem QN(b:ByteArray)(w:World)(c:Bn w)(q0:([112]==b.toList)=false)(q1:([100,105,118]==b.toList)=false)(q2:([104,49]==b.toList)=false)(q3:([108,105]==b.toList)=false)(q4:([104,50]==b.toList)=false):Calls prog 137 #[.string b] w fun e w'=>e=.returned (.tuple #[.int .i64 0,.bool false])/\Below w.heap.size w w':=by
 obtain⟨t,d,a⟩:=c;have f:=hId a;clear a;have l:=xT;have k:=BK;have i:=Fo;have h:=MK;have g:=PN;go_enter func137,ntmps137
 go_wp2_with (refine wpList_load_row rfl 212 _ rfl 1 rfl t _ d _ f.o underlying212 rfl Gv ?_)
 refine WH 7 ?_
 rw[VJ];go_wp2
 rw[VJ];go_wp2
 rw[VJ];go_wp2
 rw[VJ];go_wp2
 rw[VJ];go_wp2
 rw[VJ];go_wp2
 go_ret2
 exact⟨rfl,EZ _ _ _ _ _⟩
theorem fZ(x:List UInt8)(w:World)(b:Bn w):Calls prog 137 #[.string (B x)] w fun e w'=>e=.returned (.tuple #[.int .i64 ((Sn.cW x).getD 0),.bool (Sn.cW x).isSome])/\Below w.heap.size w w':=by
 have q0:=Ah [112] x;by_cases h:[112]=x
 ·rw[WL h]at q0;have a:Sn.cW x=some 0:=by subst h;rfl
  rw[a];exact QS (B x) w b q0
 rw[VZ h]at q0;have q1:=Ah [100,105,118] x;by_cases g:[100,105,118]=x
 ·rw[WL g]at q1;have a:Sn.cW x=some 0:=by subst g;rfl
  rw[a];exact QR (B x) w b q0 q1
 rw[VZ g]at q1;have q2:=Ah [104,49] x;by_cases f:[104,49]=x
 ·rw[WL f]at q2;have a:Sn.cW x=some 1:=by subst f;rfl
  rw[a];exact QQ (B x) w b q0 q1 q2
 rw[VZ f]at q2;have q3:=Ah [108,105] x;by_cases d:[108,105]=x
 ·rw[WL d]at q3;have a:Sn.cW x=some 2:=by subst d;rfl
  rw[a];exact QP (B x) w b q0 q1 q2 q3
 rw[VZ d]at q3;have q4:=Ah [104,50] x;by_cases c:[104,50]=x
 ·rw[WL c]at q4;have a:Sn.cW x=some 3:=by subst c;rfl
  rw[a];exact QO (B x) w b q0 q1 q2 q3 q4
 rw[VZ c]at q4;have a:Sn.cW x=none:=by
  unfold Sn.cW;simp[Ne.symm h,Ne.symm g,Ne.symm f,Ne.symm d,Ne.symm c]
 rw[a];exact QN (B x) w b q0 q1 q2 q3 q4
theorem Qw(b:ByteArray)(w:World)(c:Hn w)(q0:([115,99,114,105,112,116]==b.toList)=true):Calls prog 141 #[.string b] w fun e w'=>e=.returned (.bool true)/\w'=w:=by
 obtain⟨t,d,a⟩:=c;have f:=hId a;clear a;have g:=oe;go_enter func141,ntmps141
 go_wp2_with (refine wpList_load_row rfl 215 _ rfl 2 rfl t _ d _ f.o underlying215 rfl vc ?_)
 refine WH 11 ?_
 rw[VJ];go_wp2
 go_ret
 exact⟨rfl,rfl⟩
theorem Qv(b:ByteArray)(w:World)(c:Hn w)(q0:([115,99,114,105,112,116]==b.toList)=false)(q1:([115,116,121,108,101]==b.toList)=true):Calls prog 141 #[.string b] w fun e w'=>e=.returned (.bool true)/\w'=w:=by
 obtain⟨t,d,a⟩:=c;have f:=hId a;clear a;have h:=oe;have g:=qS;go_enter func141,ntmps141
 go_wp2_with (refine wpList_load_row rfl 215 _ rfl 2 rfl t _ d _ f.o underlying215 rfl vc ?_)
 refine WH 11 ?_
 rw[VJ];go_wp2
 rw[VJ];go_wp2
 go_ret
 exact⟨rfl,rfl⟩
theorem Qu(b:ByteArray)(w:World)(c:Hn w)(q0:([115,99,114,105,112,116]==b.toList)=false)(q1:([115,116,121,108,101]==b.toList)=false)(q2:([116,101,109,112,108,97,116,101]==b.toList)=true):Calls prog 141 #[.string b] w fun e w'=>e=.returned (.bool true)/\w'=w:=by
 obtain⟨t,d,a⟩:=c;have f:=hId a;clear a;have i:=oe;have h:=qS;have g:=r9;go_enter func141,ntmps141
 go_wp2_with (refine wpList_load_row rfl 215 _ rfl 2 rfl t _ d _ f.o underlying215 rfl vc ?_)
 refine WH 11 ?_
 rw[VJ];go_wp2
 rw[VJ];go_wp2
 rw[VJ];go_wp2
 go_ret
 exact⟨rfl,rfl⟩
theorem Qt(b:ByteArray)(w:World)(c:Hn w)(q0:([115,99,114,105,112,116]==b.toList)=false)(q1:([115,116,121,108,101]==b.toList)=false)(q2:([116,101,109,112,108,97,116,101]==b.toList)=false)(q3:([115,118,103]==b.toList)=true):Calls prog 141 #[.string b] w fun e w'=>e=.returned (.bool true)/\w'=w:=by
 obtain⟨t,d,a⟩:=c;have f:=hId a;clear a;have k:=oe;have i:=qS;have h:=r9;have g:=uP;go_enter func141,ntmps141
 go_wp2_with (refine wpList_load_row rfl 215 _ rfl 2 rfl t _ d _ f.o underlying215 rfl vc ?_)
 refine WH 11 ?_
 rw[VJ];go_wp2
 rw[VJ];go_wp2
 rw[VJ];go_wp2
 rw[VJ];go_wp2
 go_ret
 exact⟨rfl,rfl⟩
theorem Qs(b:ByteArray)(w:World)(c:Hn w)(q0:([115,99,114,105,112,116]==b.toList)=false)(q1:([115,116,121,108,101]==b.toList)=false)(q2:([116,101,109,112,108,97,116,101]==b.toList)=false)(q3:([115,118,103]==b.toList)=false)(q4:([109,97,116,104]==b.toList)=true):Calls prog 141 #[.string b] w fun e w'=>e=.returned (.bool true)/\w'=w:=by
 obtain⟨t,d,a⟩:=c;have f:=hId a;clear a;have l:=oe;have k:=qS;have i:=r9;have h:=uP;have g:=xC;go_enter func141,ntmps141
 go_wp2_with (refine wpList_load_row rfl 215 _ rfl 2 rfl t _ d _ f.o underlying215 rfl vc ?_)
 refine WH 11 ?_
 rw[VJ];go_wp2
 rw[VJ];go_wp2
 rw[VJ];go_wp2
 rw[VJ];go_wp2
 rw[VJ];go_wp2
 go_ret
 exact⟨rfl,rfl⟩
theorem Qr(b:ByteArray)(w:World)(c:Hn w)(q0:([115,99,114,105,112,116]==b.toList)=false)(q1:([115,116,121,108,101]==b.toList)=false)(q2:([116,101,109,112,108,97,116,101]==b.toList)=false)(q3:([115,118,103]==b.toList)=false)(q4:([109,97,116,104]==b.toList)=false)(q5:([105,102,114,97,109,101]==b.toList)=true):Calls prog 141 #[.string b] w fun e w'=>e=.returned (.bool true)/\w'=w:=by
 obtain⟨t,d,a⟩:=c;have f:=hId a;clear a;have m:=oe;have l:=qS;have k:=r9;have i:=uP;have h:=xC;have g:=AW;go_enter func141,ntmps141
 go_wp2_with (refine wpList_load_row rfl 215 _ rfl 2 rfl t _ d _ f.o underlying215 rfl vc ?_)
 refine WH 11 ?_
 rw[VJ];go_wp2
 rw[VJ];go_wp2
 rw[VJ];go_wp2
 rw[VJ];go_wp2
 rw[VJ];go_wp2
 rw[VJ];go_wp2
 go_ret
 exact⟨rfl,rfl⟩
theorem Qq(b:ByteArray)(w:World)(c:Hn w)(q0:([115,99,114,105,112,116]==b.toList)=false)(q1:([115,116,121,108,101]==b.toList)=false)(q2:([116,101,109,112,108,97,116,101]==b.toList)=false)(q3:([115,118,103]==b.toList)=false)(q4:([109,97,116,104]==b.toList)=false)(q5:([105,102,114,97,109,101]==b.toList)=false)(q6:([116,105,116,108,101]==b.toList)=true):Calls prog 141 #[.string b] w fun e w'=>e=.returned (.bool true)/\w'=w:=by
 obtain⟨t,d,a⟩:=c;have f:=hId a;clear a;have n:=oe;have m:=qS;have l:=r9;have k:=uP;have i:=xC;have h:=AW;have g:=FK;go_enter func141,ntmps141
 go_wp2_with (refine wpList_load_row rfl 215 _ rfl 2 rfl t _ d _ f.o underlying215 rfl vc ?_)
 refine WH 11 ?_
 rw[VJ];go_wp2
 rw[VJ];go_wp2
 rw[VJ];go_wp2
 rw[VJ];go_wp2
 rw[VJ];go_wp2
 rw[VJ];go_wp2
 rw[VJ];go_wp2
 go_ret
 exact⟨rfl,rfl⟩
theorem Qp(b:ByteArray)(w:World)(c:Hn w)(q0:([115,99,114,105,112,116]==b.toList)=false)(q1:([115,116,121,108,101]==b.toList)=false)(q2:([116,101,109,112,108,97,116,101]==b.toList)=false)(q3:([115,118,103]==b.toList)=false)(q4:([109,97,116,104]==b.toList)=false)(q5:([105,102,114,97,109,101]==b.toList)=false)(q6:([116,105,116,108,101]==b.toList)=false)(q7:([116,101,120,116,97,114,101,97]==b.toList)=true):Calls prog 141 #[.string b] w fun e w'=>e=.returned (.bool true)/\w'=w:=by
 obtain⟨t,d,a⟩:=c;have f:=hId a;clear a;have o:=oe;have n:=qS;have m:=r9;have l:=uP;have k:=xC;have i:=AW;have h:=FK;have g:=LZ;go_enter func141,ntmps141
 go_wp2_with (refine wpList_load_row rfl 215 _ rfl 2 rfl t _ d _ f.o underlying215 rfl vc ?_)
 refine WH 11 ?_
 rw[VJ];go_wp2
 rw[VJ];go_wp2
 rw[VJ];go_wp2
 rw[VJ];go_wp2
 rw[VJ];go_wp2
 rw[VJ];go_wp2
 rw[VJ];go_wp2
 rw[VJ];go_wp2
 go_ret
 exact⟨rfl,rfl⟩
theorem Qo(b:ByteArray)(w:World)(c:Hn w)(q0:([115,99,114,105,112,116]==b.toList)=false)(q1:([115,116,121,108,101]==b.toList)=false)(q2:([116,101,109,112,108,97,116,101]==b.toList)=false)(q3:([115,118,103]==b.toList)=false)(q4:([109,97,116,104]==b.toList)=false)(q5:([105,102,114,97,109,101]==b.toList)=false)(q6:([116,105,116,108,101]==b.toList)=false)(q7:([116,101,120,116,97,114,101,97]==b.toList)=false)(q8:([110,111,115,99,114,105,112,116]==b.toList)=true):Calls prog 141 #[.string b] w fun e w'=>e=.returned (.bool true)/\w'=w:=by
 obtain⟨t,d,a⟩:=c;have f:=hId a;clear a;have p:=oe;have o:=qS;have n:=r9;have m:=uP;have l:=xC;have k:=AW;have i:=FK;have h:=LZ;have g:=PA;go_enter func141,ntmps141
 go_wp2_with (refine wpList_load_row rfl 215 _ rfl 2 rfl t _ d _ f.o underlying215 rfl vc ?_)
 refine WH 11 ?_
 rw[VJ];go_wp2
 rw[VJ];go_wp2
 rw[VJ];go_wp2
 rw[VJ];go_wp2
 rw[VJ];go_wp2
 rw[VJ];go_wp2
 rw[VJ];go_wp2
 rw[VJ];go_wp2
 rw[VJ];go_wp2
 go_ret
 exact⟨rfl,rfl⟩
theorem Qn(b:ByteArray)(w:World)(c:Hn w)(q0:([115,99,114,105,112,116]==b.toList)=false)(q1:([115,116,121,108,101]==b.toList)=false)(q2:([116,101,109,112,108,97,116,101]==b.toList)=false)(q3:([115,118,103]==b.toList)=false)(q4:([109,97,116,104]==b.toList)=false)(q5:([105,102,114,97,109,101]==b.toList)=false)(q6:([116,105,116,108,101]==b.toList)=false)(q7:([116,101,120,116,97,114,101,97]==b.toList)=false)(q8:([110,111,115,99,114,105,112,116]==b.toList)=false):Calls prog 141 #[.string b] w fun e w'=>e=.returned (.bool false)/\w'=w:=by
 obtain⟨t,d,a⟩:=c;have f:=hId a;clear a;have p:=oe;have o:=qS;have n:=r9;have m:=uP;have l:=xC;have k:=AW;have i:=FK;have h:=LZ;have g:=PA;go_enter func141,ntmps141
 go_wp2_with (refine wpList_load_row rfl 215 _ rfl 2 rfl t _ d _ f.o underlying215 rfl vc ?_)
 refine WH 11 ?_
 rw[VJ];go_wp2
 rw[VJ];go_wp2
 rw[VJ];go_wp2
 rw[VJ];go_wp2
 rw[VJ];go_wp2
 rw[VJ];go_wp2
 rw[VJ];go_wp2
 rw[VJ];go_wp2
 rw[VJ];go_wp2
 rw[VJ];go_wp2
 go_ret
 exact⟨rfl,rfl⟩
theorem xD(x:List UInt8)(w:World)(b:Hn w):Calls prog 141 #[.string (B x)] w fun e w'=>e=.returned (.bool (Sn.eh.contains x))/\w'=w:=by
 have q0:=Ah [115,99,114,105,112,116] x;by_cases m:[115,99,114,105,112,116]=x
 ·rw[WL m]at q0;have a:Sn.eh.contains x=true:=by subst m;rfl
  rw[a];exact Qw (B x) w b q0
 rw[VZ m]at q0;have q1:=Ah [115,116,121,108,101] x;by_cases l:[115,116,121,108,101]=x
 ·rw[WL l]at q1;have a:Sn.eh.contains x=true:=by subst l;rfl
  rw[a];exact Qv (B x) w b q0 q1
 rw[VZ l]at q1;have q2:=Ah [116,101,109,112,108,97,116,101] x;by_cases k:[116,101,109,112,108,97,116,101]=x
 ·rw[WL k]at q2;have a:Sn.eh.contains x=true:=by subst k;rfl
  rw[a];exact Qu (B x) w b q0 q1 q2
 rw[VZ k]at q2;have q3:=Ah [115,118,103] x;by_cases i:[115,118,103]=x
 ·rw[WL i]at q3;have a:Sn.eh.contains x=true:=by subst i;rfl
  rw[a];exact Qt (B x) w b q0 q1 q2 q3
 rw[VZ i]at q3;have q4:=Ah [109,97,116,104] x;by_cases h:[109,97,116,104]=x
 ·rw[WL h]at q4;have a:Sn.eh.contains x=true:=by subst h;rfl
  rw[a];exact Qs (B x) w b q0 q1 q2 q3 q4
 rw[VZ h]at q4;have q5:=Ah [105,102,114,97,109,101] x;by_cases g:[105,102,114,97,109,101]=x
 ·rw[WL g]at q5;have a:Sn.eh.contains x=true:=by subst g;rfl
  rw[a];exact Qr (B x) w b q0 q1 q2 q3 q4 q5
 rw[VZ g]at q5;have q6:=Ah [116,105,116,108,101] x;by_cases f:[116,105,116,108,101]=x
 ·rw[WL f]at q6;have a:Sn.eh.contains x=true:=by subst f;rfl
  rw[a];exact Qq (B x) w b q0 q1 q2 q3 q4 q5 q6
 rw[VZ f]at q6;have q7:=Ah [116,101,120,116,97,114,101,97] x;by_cases d:[116,101,120,116,97,114,101,97]=x
 ·rw[WL d]at q7;have a:Sn.eh.contains x=true:=by subst d;rfl
  rw[a];exact Qp (B x) w b q0 q1 q2 q3 q4 q5 q6 q7
 rw[VZ d]at q7;have q8:=Ah [110,111,115,99,114,105,112,116] x;by_cases c:[110,111,115,99,114,105,112,116]=x
 ·rw[WL c]at q8;have a:Sn.eh.contains x=true:=by subst c;rfl
  rw[a];exact Qo (B x) w b q0 q1 q2 q3 q4 q5 q6 q7 q8
 rw[VZ c]at q8;have a:Sn.eh.contains x=false:=by
  unfold Sn.eh;simp[Ne.symm m,Ne.symm l,Ne.symm k,Ne.symm i,Ne.symm h,Ne.symm g,Ne.symm f,Ne.symm d,Ne.symm c]
 rw[a];exact Qn (B x) w b q0 q1 q2 q3 q4 q5 q6 q7 q8
theorem n9{c:UInt8}(h:c=9\/c=10\/c=13\/c=12):Sn.JU c=32:=by
 rcases h with rfl|rfl|rfl|rfl<;>rfl
theorem L6{c:UInt8}(e:c≠9)(d:c≠10)(a:c≠13)(b:c≠12):Sn.JU c=if c<32||126<c then 63 else c:=by
 unfold Sn.JU;have:(c==9||c==10||c==13||c==12)=false:=by simp[e,d,a,b]
 rw[this,VD WB]
theorem sk(c:UInt8)(k:Nat)(a:k<256):((c.toNat:Int)==(k:Int))=decide (c=UInt8.ofNat k):=by
 by_cases h:c=UInt8.ofNat k
 ·rw[WL h,h,beq_iff_eq,UInt8.toNat_ofNat',Nat.mod_eq_of_lt a]
 ·rw[VZ h,beq_eq_false_iff_ne];intro e;exact h (UInt8.toNat_inj.1 (by rw[UInt8.toNat_ofNat',Nat.mod_eq_of_lt a];omega))
theorem vp(c:UInt8)(w:World):Calls prog 135 #[.int .u8 c.toNat] w fun e w'=>e=.returned (.int .u8 (Sn.JU c).toNat)/\w'=w:=by
 have o:((c.toNat:Int)==9)=decide (c=9):=sk c 9 (by decide);by_cases f:c=9
 ·rw[WL f]at o;rw[n9 (by simp[f])];clear f;show Calls prog 135 #[.int .u8 c.toNat] w fun e w'=>e=.returned (.int .u8 32)/\w'=w
  go_enter func135,ntmps135
  go_wp2
  go_ret
  exact⟨rfl,rfl⟩
 rw[VZ f]at o;have l:((c.toNat:Int)==10)=decide (c=10):=sk c 10 (by decide);by_cases a:c=10
 ·rw[WL a]at l;rw[n9 (by simp[a])];clear f a;show Calls prog 135 #[.int .u8 c.toNat] w fun e w'=>e=.returned (.int .u8 32)/\w'=w
  go_enter func135,ntmps135
  go_wp2
  go_ret
  exact⟨rfl,rfl⟩
 rw[VZ a]at l;have i:((c.toNat:Int)==13)=decide (c=13):=sk c 13 (by decide);by_cases b:c=13
 ·rw[WL b]at i;rw[n9 (by simp[b])];clear f a b;show Calls prog 135 #[.int .u8 c.toNat] w fun e w'=>e=.returned (.int .u8 32)/\w'=w
  go_enter func135,ntmps135
  go_wp2
  go_ret
  exact⟨rfl,rfl⟩
 rw[VZ b]at i;have k:((c.toNat:Int)==12)=decide (c=12):=sk c 12 (by decide);by_cases d:c=12
 ·rw[WL d]at k;rw[n9 (by simp[d])];clear f a b d;show Calls prog 135 #[.int .u8 c.toNat] w fun e w'=>e=.returned (.int .u8 32)/\w'=w
  go_enter func135,ntmps135
  go_wp2
  go_ret
  exact⟨rfl,rfl⟩
 rw[VZ d]at k;rw[L6 f a b d];clear f a b d;by_cases n:c.toNat<32
 ·have g:c<32:=by rw[UInt8.lt_iff_toNat_lt];exact n
  rw[VC (by simp[g])];clear g;show Calls prog 135 #[.int .u8 c.toNat] w fun e w'=>e=.returned (.int .u8 63)/\w'=w
  go_enter func135,ntmps135
  go_wp2
  go_ret
  exact⟨rfl,rfl⟩
 have g:¬c<32:=by rw[UInt8.lt_iff_toNat_lt];exact n
 by_cases m:126<c.toNat
 ·have h:126<c:=by rw[UInt8.lt_iff_toNat_lt];exact m
  rw[VC (by simp[h])];clear g h;show Calls prog 135 #[.int .u8 c.toNat] w fun e w'=>e=.returned (.int .u8 63)/\w'=w
  go_enter func135,ntmps135
  go_wp2
  go_ret
  exact⟨rfl,rfl⟩
 have h:¬126<c:=by rw[UInt8.lt_iff_toNat_lt];exact m
 rw[VD (by simp[g,h])];clear g h;go_enter func135,ntmps135
 go_wp2
 go_ret
 exact⟨rfl,rfl⟩
def dp (b:Nat) (x:List UInt8):Option Addr:=if Sn.sI.contains x then some ⟨b,1,none⟩ else if Sn.o8.contains x then some ⟨b,2,none⟩ else none
theorem RC(b:Nat)(x:ByteArray)(w:World)(q0:(x.toList==[98])=true):Calls prog 138 #[.pointer (some ⟨b,0,none⟩),.string x] w fun e w'=>e=.returned (.pointer (some ⟨b,1,none⟩))/\w'=w:=by
 go_enter func138,ntmps138
 go_wp2
 go_ret
 exact⟨rfl,rfl⟩
theorem RB(b:Nat)(x:ByteArray)(w:World)(q0:(x.toList==[98])=false)(q1:(x.toList==[115,116,114,111,110,103])=true):Calls prog 138 #[.pointer (some ⟨b,0,none⟩),.string x] w fun e w'=>e=.returned (.pointer (some ⟨b,1,none⟩))/\w'=w:=by
 go_enter func138,ntmps138
 go_wp2
 go_ret
 exact⟨rfl,rfl⟩
theorem RA(b:Nat)(x:ByteArray)(w:World)(q0:(x.toList==[98])=false)(q1:(x.toList==[115,116,114,111,110,103])=false)(q2:(x.toList==[105])=true):Calls prog 138 #[.pointer (some ⟨b,0,none⟩),.string x] w fun e w'=>e=.returned (.pointer (some ⟨b,2,none⟩))/\w'=w:=by
 go_enter func138,ntmps138
 go_wp2
 go_ret
 exact⟨rfl,rfl⟩
theorem Q9(b:Nat)(x:ByteArray)(w:World)(q0:(x.toList==[98])=false)(q1:(x.toList==[115,116,114,111,110,103])=false)(q2:(x.toList==[105])=false)(q3:(x.toList==[101,109])=true):Calls prog 138 #[.pointer (some ⟨b,0,none⟩),.string x] w fun e w'=>e=.returned (.pointer (some ⟨b,2,none⟩))/\w'=w:=by
 go_enter func138,ntmps138
 go_wp2
 go_ret
 exact⟨rfl,rfl⟩
theorem Q8(b:Nat)(x:ByteArray)(w:World)(q0:(x.toList==[98])=false)(q1:(x.toList==[115,116,114,111,110,103])=false)(q2:(x.toList==[105])=false)(q3:(x.toList==[101,109])=false):Calls prog 138 #[.pointer (some ⟨b,0,none⟩),.string x] w fun e w'=>e=.returned (.pointer none)/\w'=w:=by
 go_enter func138,ntmps138
 go_wp2
 go_ret
 exact⟨rfl,rfl⟩
theorem jG(b:Nat)(x:List UInt8)(w:World):Calls prog 138 #[.pointer (some ⟨b,0,none⟩),.string (B x)] w fun e w'=>e=.returned (.pointer (dp b x))/\w'=w:=by
 have q0:=Te [98] x;by_cases g:[98]=x
 ·rw[WL g]at q0;have a:dp b x=some ⟨b,1,none⟩:=by subst g;rfl
  rw[a];exact RC b (B x) w q0
 rw[VZ g]at q0;have q1:=Te [115,116,114,111,110,103] x;by_cases f:[115,116,114,111,110,103]=x
 ·rw[WL f]at q1;have a:dp b x=some ⟨b,1,none⟩:=by subst f;rfl
  rw[a];exact RB b (B x) w q0 q1
 rw[VZ f]at q1;have q2:=Te [105] x;by_cases d:[105]=x
 ·rw[WL d]at q2;have a:dp b x=some ⟨b,2,none⟩:=by subst d;rfl
  rw[a];exact RA b (B x) w q0 q1 q2
 rw[VZ d]at q2;have q3:=Te [101,109] x;by_cases c:[101,109]=x
 ·rw[WL c]at q3;have a:dp b x=some ⟨b,2,none⟩:=by subst c;rfl
  rw[a];exact Q9 b (B x) w q0 q1 q2 q3
 rw[VZ c]at q3;have a:dp b x=none:=by
  unfold dp Sn.sI Sn.o8;simp[Ne.symm g,Ne.symm f,Ne.symm d,Ne.symm c]
 rw[a];exact Q8 b (B x) w q0 q1 q2 q3
def om (v:Value) (s:Sn.S):List Value:=[v,.int .i64 s.fJ,.int .i64 s.cv,.string (B s.link),.int .i64 s.kind,.bool s.opened,.string (B s.cX)]
def tG (s:Sn.S):Int:=(if 0<s.fJ then 1 else 0)+(if 0<s.cv then 2 else 0)
theorem IC(b:Nat)(v:Value)(s:Sn.S)(w:World)(c:Blk w b (om v s) 145):Calls prog 136 #[.pointer (some ⟨b,0,none⟩)] w fun e w'=>e=.returned (.int .i64 (tG s))/\w'=w:=by
 obtain⟨-,g,f⟩:=mi c;unfold tG;clear c;generalize s.fJ=x at*;generalize s.cv=y at*;by_cases d:0<x
 ·rw[VC d];by_cases a:0<y
  ·rw[VC a];go_enter func136,ntmps136
   go_wp2
   go_ret
   exact⟨rfl,rfl⟩
  ·rw[VD a];go_enter func136,ntmps136
   go_wp2
   go_ret
   exact⟨rfl,rfl⟩
 ·rw[VD d];by_cases a:0<y
  ·rw[VC a];go_enter func136,ntmps136
   go_wp2
   go_ret
   exact⟨rfl,rfl⟩
  ·rw[VD a];go_enter func136,ntmps136
   go_wp2
   go_ret
   exact⟨rfl,rfl⟩
theorem Bt(l:List UInt8)(w:World)(b:l.length<=20000)(c:df w):Calls prog 139 #[.string (B l)] w fun e w'=>e=.returned (.string (B (Lk.clean l)))/\Below w.heap.size w w':=by
 have a:=Iv (B l) w (by rw[cI];exact b) c;rw[eO]at a;have f:=hId a;clear a c b;generalize B (Lk.clean l)=r at*;go_enter func139,ntmps139
 go_wp2_with fail
 refine f.o.mono ?_
 rintro e g⟨rfl,d⟩;go_wp2
 go_ret
 exact⟨rfl,d⟩
theorem jA(b n a:Nat)(c:Option Addr)(w:World)(d:w.cell? ⟨b,0,none⟩=some (.slice c n a)):Calls prog 94 #[.pointer (some ⟨b,0,none⟩)] w fun e w'=>e=.returned (.bool (decide (80<n)))/\w'=w:=by
 go_enter func94,ntmps94
 go_wp2
 go_ret
 refine⟨?_,rfl⟩
 first|rfl|(simp;omega)
structure Wk (w:World) (b:Nat) (s:Sn.S) (v:Value):Prop where
 aM:Blk w b (om v s) 145
 own:w.ownsRow (b+1) 67 3 v s.d.length (aI s.d)
theorem Wk.bf{w w':World}{b:Nat}{s:Sn.S}{v:Value}(h:Wk w b s v)(c:Kept w w' (b::ob v)):Below b w w':=
 c.below (YB h.aM.lt) (fun x a=>by
  rcases WG.1 a with rfl|a
  ·exact UZ _
  ·have:=aS h.own x (cE a);omega)
theorem Wk.under{w w':World}{b:Nat}{s:Sn.S}{v:Value}(h:Wk w b s v)(a:Below w.heap.size w w'):Wk w' b s v:=
 ⟨(a.block b h.aM.lt).trans h.aM,ax h.own a⟩
theorem Wk.over{w w':World}{b:Nat}{s a:Sn.S}{v:Value}(h:Wk w b s v)(e:Blk w' b (om v a) 145)(c:Kept w w' [b])(d:a.d=s.d):Wk w' b a v:=
 ⟨e,by rw[d];exact uE h.own c (Nat.lt_succ_self _)⟩
theorem Wk.fg{w:World}{b:Nat}{s:Sn.S}{v:Value}(h:Wk w b s v):b<w.heap.size:=h.aM.lt
theorem GJ:Sn.whole []=true:=rfl
theorem Bx(k:List It)(x:It):Sn.whole (k++[x])=Dc.ends x:=by
 unfold Sn.whole;rw[List.getLast?_concat]
theorem yw(b:Nat)(s:Sn.S)(v:Value)(w:World)(f:Wk w b s v):Calls prog 112 #[.pointer (some ⟨b,0,none⟩)] w fun e w'=>e=.returned (.bool (!Sn.whole s.d))/\w'=w:=by
 obtain⟨q,i,rfl,c⟩:=bg f.own;have d:=ja f.aM;have a:=c.room;have o:=c.fg;clear f;rcases List.eq_nil_or_concat s.d with h|⟨k,x,h⟩
 ·rw[h]at d⊢;rw[GJ];clear h c a;change w.cell? ⟨b,0,none⟩=some (.slice q 0 i)at d;go_enter func112,ntmps112
  go_wp2
  go_ret
  exact⟨rfl,rfl⟩
 ·rw[XU]at h;rw[h]at d c a⊢;rw[Bx];obtain⟨g,r,rfl,n⟩:=c.bH (by simp);have p:=n (k.length*3) (.int .u8 x.c.toNat) (by
   have:=(cZ (k++[x]) k.length (by simp)).1;rw[this];simp)
  have e:(!Dc.ends x)=((x.c.toNat:Int)!=10):=rfl;rw[e];simp only[VI,VG,List.length_nil,VR]at d a
  clear h c n e;obtain⟨m,l⟩:∃m,k.length=m:=⟨_,rfl⟩;rw[l]at d a p;clear l;go_enter func112,ntmps112
  go_wp2
  go_ret
  exact⟨rfl,rfl⟩
def Sn.S.plus (s:Sn.S) (x:It):Sn.S:={ s with d:=s.d++[x] }
structure aZ (w:World) (b:Nat) (v:Value) (w':World) (s':Sn.S):Prop where
 at_:∃ v',Wk w' b s' v'/\(v'.ownBlock=v.ownBlock\/∀ k,v'.ownBlock=some k->w.heap.size<=k)
 kept:Kept w w' (b :: ob v)
theorem xz(b:Nat)(s:Sn.S)(v:Value)(x:It)(w:World)(m:Wk w b s v)(t:s.d.length<=1000000):Calls prog 96 #[.pointer (some ⟨b,0,none⟩),.int .u8 x.c.toNat,.int .i64 x.m,.string x.l] w fun e w'=>e=.returned (.tuple #[])/\aZ w b v w' (s.plus x):=by
 have N:=hId m;have V:=ja m.aM;obtain⟨q,f,r,-⟩:=bg m.own;have S:=m.fg;obtain⟨n,c⟩:∃n,s.d.length=n:=⟨_,rfl⟩;have O:=hId c;rw[c]at r t;obtain⟨J,M,C,B,A⟩:=info_parts Tryz.Qe;have z:Hd (w.ownsRow (b+1) 67 3 v n (aI s.d)):=by have:=m.own;rw[c]at this;exact this
 clear m c;have W:=hId r;subst r;go_enter func96,ntmps96
 go_wp2_with (at_builtin;refine wpList_append_lies _ rfl (.tmp 12) (.tmp 17) 23 rfl (b+1) 67 J (.agg #[.int .u8 0,.int .i64 0,.string ⟨#[]⟩]) 3 32 underlying23 M C B A rfl (by decide) _ n (aI s.d) rfl ?c1 ⟨w.heap.size,0,none⟩ 1 1 (aI [x]) rfl rfl ?c2 (bR [x]) (by decide) ?c4 ?c5 ?c6 _ rfl ?c7)
 case c1=>exact z.o.alloc _
 case c2=>exact fun _ _ h=>h
 case c4=>unfold maxLen;omega
 case c5=>omega
 case c6=>first|omega|(simp;omega)
 case c7=>
  intro g I G i a H D;have p:Kept w (w.alloc (.cells #[.int .u8 x.c.toNat,.int .i64 x.m,.string x.l] 67)) (b::ob (.slice q n f)):=(Kept.refl w _).alloc _;have l:Kept (w.alloc (.cells #[.int .u8 x.c.toNat,.int .i64 x.m,.string x.l] 67)) G (ob (.slice q n f)):=
   ⟨a.os,a.tape,a.output,a.size,fun k u t=>a.block k u (fun e=>t (by unfold ob;rw[<-e];simp))⟩
  have o:b∉ob (.slice q n f):=fun L=>by have:=aS z.o b (cE L);omega
  have d:=l.aM (N.o.aM.alloc _) o;have F:=hId d;have U:=ja d;have T:=d.frozen 0;have E:=hId i;have P:=hId (p.trans (l.mono fun y K=>VP _ K));have Q:Hd ((Value.slice q n f).ownBlock=some g\/g=w.heap.size+1):=by
   rcases H with h|h
   ·exact .inl h
   ·exact .inr (by rw[h])
  clear p l o d i a H D z;go_wp2
  go_end0
  refine⟨rfl,⟨_,⟨F.o.set 0 _,?_⟩,?_⟩,P.o.setCell _ _ (.inl (VK ..))⟩
  ·show World.ownsRow _ (b+1) 67 3 _ (s.d++[x]).length (aI (s.d++[x]))
   rw[VI,O.o,fb];exact uE E.o (dX G b 0 _ [b] (UY.2 rfl)) (Nat.lt_succ_self _)
  ·rcases Q.o with h|h
   ·exact .inl (by rw[h];rfl)
   ·exact .inr (fun k u=>by simp[Value.ownBlock]at u;omega)
theorem aZ.next{w wr e:World}{b:Nat}{v c:Value}{s:Sn.S}(f:c.ownBlock=v.ownBlock\/∀k,c.ownBlock=some k->w.heap.size<=k)(g:Kept w wr (b::ob v))(o:aZ wr b c e s):aZ w b v e s:=by
 obtain⟨⟨i,l,n⟩,m⟩:=o;refine⟨⟨i,l,?_⟩,g.bZ m (fun x a=>?_)⟩
 ·rcases n with h|h
  ·rw[h];exact f
  ·exact .inr fun k d=>VX g.size (h k d)
 ·rcases WG.1 a with rfl|a
  ·exact .inl (VK ..)
  ·rcases f with h|h
   ·exact .inl (VP _ (by unfold ob at a⊢;rw[<-h];exact a))
   ·exact .inr (h x (cE a))
theorem aZ.pre{w c a:World}{b:Nat}{v:Value}{s:Sn.S}(d:Below w.heap.size w c)(h:aZ c b v a s):aZ w b v a s:=
 aZ.next (.inl rfl) (Kept.of d _) h
theorem aZ.refl{w:World}{b:Nat}{v:Value}{s:Sn.S}(h:Wk w b s v):aZ w b v w s:=⟨⟨v,h,.inl rfl⟩,Kept.refl _ _⟩
theorem aZ.over{w e d:World}{b:Nat}{v a:Value}{g f:Sn.S}(i:a.ownBlock=v.ownBlock\/∀k,a.ownBlock=some k->w.heap.size<=k)(l:Kept w e (b::ob v))(n:Wk e b g a)
  (o:Blk d b (om a f) 145)(c:Kept e d [b])(m:f.d=g.d):aZ w b v d f:=
 ⟨⟨a,n.over o c m,i⟩,l.trans (c.mono fun x h=>by rw[UY.1 h];exact VK ..)⟩
theorem np(w:World)(b i j:Nat)(u v:Value):Kept w ((w.setCell ⟨b,i,none⟩ u).setCell ⟨b,j,none⟩ v) [b]:=
 (dX w b i u [b] (UY.2 rfl)).trans (dX _ b j v [b] (UY.2 rfl))
theorem du(w:World)(b i:Nat)(u:Value):Kept w (w.setCell ⟨b,i,none⟩ u) [b]:=dX w b i u [b] (UY.2 rfl)
theorem zZ(s:Sn.S)(h:(s.opened||!Sn.whole s.d)=true):Sn.shut s={s with d:=s.d++[Sn.fR s.kind],opened:=false,kind:=0}:=by
 unfold Sn.shut;rw[VC h]
theorem NB(s:Sn.S)(h:(s.opened||!Sn.whole s.d)=false):Sn.shut s={s with opened:=false,kind:=0}:=by
 unfold Sn.shut;rw[h,VD WB]
theorem jb(b:Nat)(s:Sn.S)(v:Value)(w:World)(o:Wk w b s v)(u:s.d.length<=1000000):Calls prog 95 #[.pointer (some ⟨b,0,none⟩)] w fun e w'=>e=.returned (.tuple #[])/\aZ w b v w' (Sn.shut s):=by
 have k:=hId o;obtain⟨-,-,-,-,z,l⟩:=N5 o.aM;obtain⟨-,-,-,-,y,x⟩:=So o.aM;have p:=hId (fun w' h=>yw b s v w' h);have A:Hd (∀w',Wk w' b s v->Calls prog 96 #[.pointer (some ⟨b,0,none⟩),.int .u8 10,.int .i64 s.kind,.string ⟨#[]⟩] w' fun e q=>e=.returned (.tuple #[])/\aZ w' b v q (s.plus (Sn.fR s.kind))):=fun w' h=>xz b s v (Sn.fR s.kind) w' h u;clear o u
 cases f:s.opened
 ·cases i:Sn.whole s.d
  ·have g:=zZ s (by rw[f,i];rfl);have m:=hId g;rw[f]at l;rw[i]at p;clear f i g;go_enter func95,ntmps95
   go_wp2_with fail
   refine(p.o _ k.o).mono ?_
   rintro e B⟨rfl,rfl⟩;go_wp2_with fail
   refine(A.o _ k.o).mono ?_
   rintro e q⟨rfl,⟨C,a,c⟩,d⟩;have n:=hId a;have r:=hId c;have t:=hId d;have F:=a.aM.c5;have G:=a.aM.c4;have D:=a.aM.frozen 5;have E:=a.aM.frozen 4;clear a c d l z x y;go_wp2
   go_end0
   refine⟨rfl,?_⟩
   rw[m.o];exact aZ.over r.o t.o n.o ((n.o.aM.set 5 _).set 4 _) (np ..) rfl
  ·have g:=NB s (by rw[f,i];rfl);have m:=hId g;rw[f]at l;rw[i]at p;clear f i g;go_enter func95,ntmps95
   go_wp2_with fail
   refine(p.o _ k.o).mono ?_
   rintro e B⟨rfl,rfl⟩;go_wp2
   go_end0
   refine⟨rfl,?_⟩
   rw[m.o];exact aZ.over (.inl rfl) (Kept.refl _ _) k.o ((k.o.aM.set 5 _).set 4 _) (np ..) rfl
 ·have g:=zZ s (by rw[f];rfl);have m:=hId g;rw[f]at l;clear f g;go_enter func95,ntmps95
  go_wp2_with fail
  refine(A.o _ k.o).mono ?_
  rintro e q⟨rfl,⟨C,a,c⟩,d⟩;have n:=hId a;have r:=hId c;have t:=hId d;have F:=a.aM.c5;have G:=a.aM.c4;have D:=a.aM.frozen 5;have E:=a.aM.frozen 4;clear a c d l z x y;go_wp2
  go_end0
  refine⟨rfl,?_⟩
  rw[m.o];exact aZ.over r.o t.o n.o ((n.o.aM.set 5 _).set 4 _) (np ..) rfl
theorem I0(b:Nat)(s:Sn.S)(v:Value)(w:World)(c:Wk w b s v)(i:s.d.length<=1000000):Calls prog 140 #[.pointer (some ⟨b,0,none⟩)] w fun e w'=>e=.returned (.tuple #[])/\aZ w b v w' {Sn.shut {s with opened:=true}with kind:=s.kind}:=by
 obtain⟨-,-,-,-,q,p⟩:=N5 c.aM;have o:=c.aM.frozen 5;have u:=hId i;have r:Hd (Wk (w.setCell ⟨b,5,none⟩ (.bool true)) b {s with opened:=true} v):=c.over (c.aM.set 5 _) (du ..) rfl;clear c i;go_enter func140,ntmps140
 go_wp2_with fail
 refine(jb b {s with opened:=true} v _ r.o u.o).mono ?_
 rintro e m⟨rfl,⟨y,a,d⟩,f⟩;have l:=hId a;have t:=hId d;have x:=hId f;have A:m.cell? ⟨b,4,none⟩=some (.int .i64 (Sn.shut {s with opened:=true}).kind):=a.aM.cell 4;have z:=a.aM.frozen 4;clear a d f p q o;go_wp2
 go_end0
 refine⟨rfl,?_⟩
 have g:Kept w (w.setCell ⟨b,5,none⟩ (.bool true)) (b::ob v):=dX _ _ _ _ _ (VK ..);refine aZ.over ?_ (g.trans x.o) l.o (l.o.aM.set 4 _) (du ..) rfl
 rcases t.o with h|h
 ·exact .inl h
 ·exact .inr fun k n=>VX g.size (h k n)
def Sn.S.chars (s:Sn.S) (u:List UInt8):Sn.S:={ s with d:=s.d++u.map (Sn.item s) }
theorem Iy(s:Sn.S):s.chars []=s:=by unfold Sn.S.chars;simp
theorem kA(s:Sn.S)(u:List UInt8)(k:Nat)(h:k<u.length):(s.chars (u.take k)).plus (Sn.item s u[k])=s.chars (u.take (k+1)):=by
 unfold Sn.S.chars Sn.S.plus;simp only
 rw[WY h,WN,VT];rfl
theorem P6{w:World}{base:Nat}{e:TypeId}{a:Nat}{v:Value}{n:Nat}{xs:List Value}(h:w.ownsRow base e a v n xs):∀k,v.ownBlock=some k->k<w.heap.size:=by
 intro k b;rcases h.2 with⟨rfl,_⟩|⟨g,f,d,rfl,i,c,_⟩
 ·cases b
 ·simp[Value.ownBlock]at b
  subst b;exact(WE.1 c).1
