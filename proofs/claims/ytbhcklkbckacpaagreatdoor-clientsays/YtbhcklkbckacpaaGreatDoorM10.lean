/- A part. -/
import Derived.Test.YtbhcklkbckacpaaGreatDoorM9
import Derived.Deep.Onto
import Derived.Test.YtbhcklkbckacpaaGreatDoorM6
import Derived.Laws.ResultCell
set_option maxRecDepth 100000
set_option maxHeartbeats 6400000
namespace Go.Proofs.YtbhcklkbckacpaaGreatDoor
open Go.RowKit
namespace Ac
def tA (l:List A):List Pt:=tdy [] [] 0 l
theorem tidy_tA (o:List Pt):tidy o=tA (acts o):=rfl
def tx (a b:List Pt):List Pt:=tA (turn (acts a) (acts b)).1
def ty (a b:List Pt):List Pt:=tA (turn (acts a) (acts b)).2
def jx (a b:List Pt):List Pt:=tA (join (acts a) (acts b))
def fst2 (a b:List Pt):Int:=if chk a=0 then chk b else chk a
def trnE (a b:List Pt):Int:=if fst2 a b=0 then (if nd a=nd b then fst2 (tx a b) (ty a b) else 6) else fst2 a b
def trnX (a b:List Pt):List Pt:=if trnE a b=0 then tx a b else []
def trnY (a b:List Pt):List Pt:=if trnE a b=0 then ty a b else []
def jonE (a b:List Pt):Int:=if fst2 a b=0 then (if lv a=nd b then chk (jx a b) else 6) else fst2 a b
def jonX (a b:List Pt):List Pt:=if jonE a b=0 then jx a b else []
theorem fst2_right {a b:List Pt} (h:fst2 a b=0):Right a∧Right b:=by
 unfold fst2 at h
 by_cases ha:chk a=0
 ·rw[if_pos ha] at h
  exact ⟨chk_right.1 ha,chk_right.1 h⟩
 ·rw[if_neg ha] at h
  exact absurd h ha
end Ac
theorem j9 (ao ao' : Option Addr) (n cap n' cap' : Nat) (vs vs' : List PV) (w:World) (hO:Ops w ao n cap vs) (hO' : Ops w ao' n' cap' vs') (hS:Sch w) :
  Calls Tryz.prog 221 #[.agg #[.slice ao n cap,.slice ao' n' cap']] w fun e w' => e=.returned (.int .i64 (Ac.fst2 (vs.map PV.pt) (vs'.map PV.pt)))∧Below w.heap.size w w' := by
 have C0:Hid (∀ w',Below w.heap.size w w' → Calls Tryz.prog 160 #[.slice ao n cap] w' fun e w'' => e=.returned (.int .i64 (Ac.chk (vs.map PV.pt)))∧Below w'.heap.size w' w''):=fun w' hb=>q32 ao n cap vs w' (hO.below hb) (hS.below hb)
 have C1:Hid (∀ w',Below w.heap.size w w' → Calls Tryz.prog 160 #[.slice ao' n' cap'] w' fun e w'' => e=.returned (.int .i64 (Ac.chk (vs'.map PV.pt)))∧Below w'.heap.size w' w''):=fun w' hb=>q32 ao' n' cap' vs' w' (hO'.below hb) (hS.below hb)
 obtain ⟨R,hR⟩:∃ R,Ac.fst2 (vs.map PV.pt) (vs'.map PV.pt)=R:=⟨_,rfl⟩
 rw[hR]
 unfold Ac.fst2 at hR
 have ix0:=idx0 (.slice ao n cap) (.slice ao' n' cap')
 have ix1:=idx1 (.slice ao n cap) (.slice ao' n' cap')
 have H1:Hid (Below w.heap.size w (w.alloc (.cells #[.slice ao n cap,.slice ao' n' cap'] 133))):=(Below.refl _ _).alloc (Nat.le_refl _) _
 clear hO hO' hS
 generalize Ac.chk (vs.map PV.pt)=r at *
 generalize Ac.chk (vs'.map PV.pt)=r' at *
 by_cases hr:r=0
 ·rw[if_pos hr] at hR
  subst hR hr
  by_cases hr' : r' = 0
  ·subst hr'
   go_enter Tryz.func221,Tryz.ntmps221
   go_wp2_with fail
   refine wp_loop_rounds 3 ?_
   rw[rounds_succ]
   go_wp2_with fail
   refine (C0.out _ H1.out).mono ?_
   rintro e w1 ⟨rfl,hb⟩
   have H2:Hid (Below w.heap.size w w1):=H1.out.trans (hb.mono H1.out.size)
   clear hb
   go_wp2_with fail
   rw[rounds_succ]
   go_wp2_with fail
   refine (C1.out _ H2.out).mono ?_
   rintro e w2 ⟨rfl,hb⟩
   have H3:Hid (Below w.heap.size w w2):=H2.out.trans (hb.mono H2.out.size)
   clear hb
   go_wp2_with fail
   rw[rounds_succ]
   go_wp2
   go_ret
   exact ⟨rfl,H3.out⟩
  ·have hne:(r' != 0)=true:=by simp[hr']
   clear hr'
   go_enter Tryz.func221,Tryz.ntmps221
   go_wp2_with fail
   refine wp_loop_rounds 3 ?_
   rw[rounds_succ]
   go_wp2_with fail
   refine (C0.out _ H1.out).mono ?_
   rintro e w1 ⟨rfl,hb⟩
   have H2:Hid (Below w.heap.size w w1):=H1.out.trans (hb.mono H1.out.size)
   clear hb
   go_wp2_with fail
   rw[rounds_succ]
   go_wp2_with fail
   refine (C1.out _ H2.out).mono ?_
   rintro e w2 ⟨rfl,hb⟩
   have H3:Hid (Below w.heap.size w w2):=H2.out.trans (hb.mono H2.out.size)
   clear hb
   go_wp2
   go_ret
   exact ⟨rfl,H3.out⟩
 ·rw[if_neg hr] at hR
  subst hR
  have hne:(r != 0)=true:=by simp[hr]
  clear hr
  go_enter Tryz.func221,Tryz.ntmps221
  go_wp2_with fail
  refine wp_loop_rounds 3 ?_
  rw[rounds_succ]
  go_wp2_with fail
  refine (C0.out _ H1.out).mono ?_
  rintro e w1 ⟨rfl,hb⟩
  have H2:Hid (Below w.heap.size w w1):=H1.out.trans (hb.mono H1.out.size)
  clear hb
  go_wp2
  go_ret
  exact ⟨rfl,H2.out⟩
theorem q8g (ao ao' : Option Addr) (n cap n' cap' : Nat) (vs vs' : List PV) (w:World) (hO:Ops w ao n cap vs) (hO' : Ops w ao' n' cap' vs') (hS:Sch w) (hE:¬ Ac.fst2 (vs.map PV.pt) (vs'.map PV.pt)=0) :
  Calls Tryz.prog 153 #[.slice ao n cap,.slice ao' n' cap'] w fun e w' => e=.returned (.tuple #[.slice none 0 0,.slice none 0 0,.int .i64 (Ac.fst2 (vs.map PV.pt) (vs'.map PV.pt))])∧Below w.heap.size w w' := by
 have CF:Hid (Calls Tryz.prog 221 #[.agg #[.slice ao n cap,.slice ao' n' cap']] w fun e w' => e=.returned (.int .i64 (Ac.fst2 (vs.map PV.pt) (vs'.map PV.pt)))∧Below w.heap.size w w'):=j9 ao ao' n cap n' cap' vs vs' w hO hO' hS
 have CA:Hid (∀ w',Below w.heap.size w w' → Calls Tryz.prog 222 #[.slice ao n cap] w' fun e w'' => e=.returned (.tuple #[.int .i64 (Ac.lf (vs.map PV.pt)),.int .i64 (Ac.lt (vs.map PV.pt))])∧Below w'.heap.size w' w''):=fun w' hb=>jt ao n cap vs w' (hO.below hb)
 have CB:Hid (∀ w',Below w.heap.size w w' → Calls Tryz.prog 222 #[.slice ao' n' cap'] w' fun e w'' => e=.returned (.tuple #[.int .i64 (Ac.lf (vs'.map PV.pt)),.int .i64 (Ac.lt (vs'.map PV.pt))])∧Below w'.heap.size w' w''):=fun w' hb=>jt ao' n' cap' vs' w' (hO'.below hb)
 clear hO hO' hS CA CB
 generalize Ac.fst2 (vs.map PV.pt) (vs'.map PV.pt)=r at *
 have hne:(r != 0)=true:=by simp[hE]
 clear hE
 go_enter Tryz.func153,Tryz.ntmps153
 go_wp2_with fail
 refine CF.out.mono ?_
 rintro e w1 ⟨rfl,hb⟩
 have H1:=hId hb
 clear hb
 go_wp2
 exact bodyPost_ret (v:=.tuple #[.slice none 0 0,.slice none 0 0,.int .i64 r]) (by simp[results,Tryz.results153,go_sem]) rfl ⟨rfl,H1.out⟩
theorem q7m (ao ao' : Option Addr) (n cap n' cap' : Nat) (vs vs' : List PV) (w:World) (hO:Ops w ao n cap vs) (hO' : Ops w ao' n' cap' vs') (hS:Sch w) (hE:Ac.fst2 (vs.map PV.pt) (vs'.map PV.pt)=0) (hN:¬ Ac.nd (vs.map PV.pt)=Ac.nd (vs'.map PV.pt)) :
  Calls Tryz.prog 153 #[.slice ao n cap,.slice ao' n' cap'] w fun e w' => e=.returned (.tuple #[.slice none 0 0,.slice none 0 0,.int .i64 6])∧Below w.heap.size w w' := by
 have CF:Hid (Calls Tryz.prog 221 #[.agg #[.slice ao n cap,.slice ao' n' cap']] w fun e w' => e=.returned (.int .i64 (Ac.fst2 (vs.map PV.pt) (vs'.map PV.pt)))∧Below w.heap.size w w'):=j9 ao ao' n cap n' cap' vs vs' w hO hO' hS
 have CA:Hid (∀ w',Below w.heap.size w w' → Calls Tryz.prog 222 #[.slice ao n cap] w' fun e w'' => e=.returned (.tuple #[.int .i64 (Ac.lf (vs.map PV.pt)),.int .i64 (Ac.lt (vs.map PV.pt))])∧Below w'.heap.size w' w''):=fun w' hb=>jt ao n cap vs w' (hO.below hb)
 have CB:Hid (∀ w',Below w.heap.size w w' → Calls Tryz.prog 222 #[.slice ao' n' cap'] w' fun e w'' => e=.returned (.tuple #[.int .i64 (Ac.lf (vs'.map PV.pt)),.int .i64 (Ac.lt (vs'.map PV.pt))])∧Below w'.heap.size w' w''):=fun w' hb=>jt ao' n' cap' vs' w' (hO'.below hb)
 obtain ⟨r1,r2⟩:=Ac.fst2_right hE
 rw[hE] at CF
 rw[r1.lf] at CA
 rw[r2.lf] at CB
 clear hO hO' hS hE r1 r2
 generalize Ac.nd (vs.map PV.pt)=k at *
 generalize Ac.nd (vs'.map PV.pt)=k' at *
 generalize Ac.lt (vs.map PV.pt)=l at *
 generalize Ac.lt (vs'.map PV.pt)=l' at *
 have hne:((k:Int) != (k' : Int))=true:=by simp;omega
 have hne' : (k != k')=true:=by simp;omega
 clear hN
 go_enter Tryz.func153,Tryz.ntmps153
 go_wp2_with fail
 refine CF.out.mono ?_
 rintro e w1 ⟨rfl,hb⟩
 have H1:=hId hb
 clear hb
 go_wp2_with fail
 refine (CA.out _ H1.out).mono ?_
 rintro e w2 ⟨rfl,hb⟩
 have H2:Hid (Below w.heap.size w w2):=H1.out.trans (hb.mono H1.out.size)
 clear hb
 go_wp2_with fail
 refine (CB.out _ H2.out).mono ?_
 rintro e w3 ⟨rfl,hb⟩
 have H3:Hid (Below w.heap.size w w3):=H2.out.trans (hb.mono H2.out.size)
 clear hb
 go_wp2
 exact bodyPost_ret (v:=.tuple #[.slice none 0 0,.slice none 0 0,.int .i64 6]) (by simp[results,Tryz.results153,go_sem]) rfl ⟨rfl,H3.out⟩
structure Md (w0 w:World) (x y:Value):Prop where
 mb:Blk w w0.heap.size [x,y] 133
 blw:Below w0.heap.size w0 w
def boxm (x y:Value) (w:World):World:=w.alloc (.cells #[x,y] 133)
theorem Md.start (x y:Value) (w:World):Md w (boxm x y w) x y:=⟨Blk.new w _ _,(Below.refl _ _).alloc (Nat.le_refl _) _⟩
theorem Md.under {w0 w w' : World} {x y:Value} (h:Md w0 w x y) (hb:Below w.heap.size w w'):Md w0 w' x y:=⟨(hb.block _ h.mb.lt).trans h.mb,h.blw.trans (hb.mono h.blw.size)⟩
theorem Md.set0 {w0 w:World} {x y:Value} (h:Md w0 w x y) (z:Value):Md w0 (w.setCell ⟨w0.heap.size,0,none⟩ z) z y:=⟨h.mb.set 0 z,h.blw.setCell (Nat.le_refl _) _⟩
theorem Md.set1 {w0 w:World} {x y:Value} (h:Md w0 w x y) (z:Value):Md w0 (w.setCell ⟨w0.heap.size,1,none⟩ z) x z:=⟨h.mb.set 1 z,h.blw.setCell (Nat.le_refl _) _⟩
theorem Tide.low {w:World} {B:Nat} {tv:Value} {out:List PV} (h:Tide w B tv out) {k:Nat} (hk:k<B) (j:Nat) (z:Value):Tide (w.setCell ⟨k,j,none⟩ z) B tv out :=
 h.kept (xj w k j z [k] (by simp)) (fun x hx e=>by have:=ql h.own x e;rw[List.mem_singleton] at hx;omega) (fun v hv a hm ha hx=>by have:=h.hi v hv a hm ha;rw[List.mem_singleton] at hx;omega)
theorem Ops.kept {w w' : World} {a:Option Addr} {n c:Nat} {vs:List PV} {S:List Nat} (h:Ops w a n c vs) (hk:Kept w w' S) (h1:∀ ad:Addr,n≠0→a=some ad→ad.block ∉ S) (h2:∀ v ∈ vs,∀ ad:Addr,v.m≠0→v.ao=some ad→ad.block ∉ S):Ops w' a n c vs :=
 ⟨h.row.kept (by decide) hk h1,fun v hv=>(h.pts v hv).kept hk (h2 v hv)⟩
structure OpsFrom (B:Nat) (w:World) (a:Option Addr) (n c:Nat) (vs:List PV):Prop where
 ops:Ops w a n c vs
 row:∀ ad:Addr,n≠0→a=some ad→B≤ad.block
 its:∀ v ∈ vs,∀ ad:Addr,v.m≠0→v.ao=some ad→B≤ad.block
theorem OpsFrom.nil (B:Nat) (w:World):OpsFrom B w none 0 0 []:=⟨jy w,fun _ h _=>absurd rfl h,fun v hv=>absurd hv (by simp)⟩
theorem OpsFrom.below {B:Nat} {w w' : World} {a:Option Addr} {n c:Nat} {vs:List PV} (h:OpsFrom B w a n c vs) (hb:Below w.heap.size w w'):OpsFrom B w' a n c vs:=⟨h.ops.below hb,h.row,h.its⟩
theorem OpsFrom.mono {B B' : Nat} {w:World} {a:Option Addr} {n c:Nat} {vs:List PV} (h:OpsFrom B w a n c vs) (hb:B' ≤ B):OpsFrom B' w a n c vs:=⟨h.ops,fun ad h1 h2=>Nat.le_trans hb (h.row ad h1 h2),fun v hv ad h1 h2=>Nat.le_trans hb (h.its v hv ad h1 h2)⟩
theorem Tide.from {w:World} {B n c:Nat} {a:Option Addr} {us:List PV} (h:Tide w B (.slice a n c) us):OpsFrom B w a n c us:=by
 obtain ⟨a',c',e,hr⟩:=zg h.own
 simp only[Value.slice.injEq] at e
 obtain ⟨rfl,rfl,rfl⟩:=e
 exact ⟨⟨hr,h.pts⟩,fun ad _ e=>ql h.own _ (by rw[e];rfl),fun v hv=>h.hi v hv⟩
def qcj (B:Nat) (X Y:List Ac.Pt) (E:Int) (e:Ending) (w' : World):Prop:=∃ a0 n0 c0 u0 a1 n1 c1 u1,e=.returned (.tuple #[.slice a0 n0 c0,.slice a1 n1 c1,.int .i64 E])∧OpsFrom B w' a0 n0 c0 u0∧OpsFrom B w' a1 n1 c1 u1∧u0.map PV.pt=X∧u1.map PV.pt=Y
theorem q16 (B:Nat) (E:Int) (w' : World):qcj B [] [] E (.returned (.tuple #[.slice none 0 0,.slice none 0 0,.int .i64 E])) w' := ⟨none,0,0,[],none,0,0,[],rfl,OpsFrom.nil B w',OpsFrom.nil B w',rfl,rfl⟩
def q4h (X Y:List Ac.Pt) (E:Int) (e:Ending) (w' : World):Prop:=∃ a0 n0 c0 u0 a1 n1 c1 u1,e=.returned (.tuple #[.slice a0 n0 c0,.slice a1 n1 c1,.int .i64 E])∧Ops w' a0 n0 c0 u0∧Ops w' a1 n1 c1 u1∧u0.map PV.pt=X∧u1.map PV.pt=Y
theorem q2i (E:Int) (w' : World):q4h [] [] E (.returned (.tuple #[.slice none 0 0,.slice none 0 0,.int .i64 E])) w' := ⟨none,0,0,[],none,0,0,[],rfl,jy w',jy w',rfl,rfl⟩
theorem q8e (ao ao' : Option Addr) (n cap n' cap' : Nat) (vs vs' : List PV) (w:World) (hO:Ops w ao n cap vs) (hO' : Ops w ao' n' cap' vs') (hS:Sch w) (hE:Ac.fst2 (vs.map PV.pt) (vs'.map PV.pt)=0) (hN:Ac.nd (vs.map PV.pt)=Ac.nd (vs'.map PV.pt)) :
  Calls Tryz.prog 153 #[.slice ao n cap,.slice ao' n' cap'] w fun e w' => qcj w.heap.size (if Ac.fst2 (Ac.tx (vs.map PV.pt) (vs'.map PV.pt)) (Ac.ty (vs.map PV.pt) (vs'.map PV.pt))=0 then Ac.tx (vs.map PV.pt) (vs'.map PV.pt) else []) (if Ac.fst2 (Ac.tx (vs.map PV.pt) (vs'.map PV.pt)) (Ac.ty (vs.map PV.pt) (vs'.map PV.pt))=0 then Ac.ty (vs.map PV.pt) (vs'.map PV.pt) else []) (Ac.fst2 (Ac.tx (vs.map PV.pt) (vs'.map PV.pt)) (Ac.ty (vs.map PV.pt) (vs'.map PV.pt))) e w' ∧ Below w.heap.size w w' := by
 have CF:Hid (Calls Tryz.prog 221 #[.agg #[.slice ao n cap,.slice ao' n' cap']] w fun e w' => e=.returned (.int .i64 (Ac.fst2 (vs.map PV.pt) (vs'.map PV.pt)))∧Below w.heap.size w w'):=j9 ao ao' n cap n' cap' vs vs' w hO hO' hS
 have CA:Hid (∀ w',Below w.heap.size w w' → Calls Tryz.prog 222 #[.slice ao n cap] w' fun e w'' => e=.returned (.tuple #[.int .i64 (Ac.lf (vs.map PV.pt)),.int .i64 (Ac.lt (vs.map PV.pt))])∧Below w'.heap.size w' w''):=fun w' hb=>jt ao n cap vs w' (hO.below hb)
 have CB:Hid (∀ w',Below w.heap.size w w' → Calls Tryz.prog 222 #[.slice ao' n' cap'] w' fun e w'' => e=.returned (.tuple #[.int .i64 (Ac.lf (vs'.map PV.pt)),.int .i64 (Ac.lt (vs'.map PV.pt))])∧Below w'.heap.size w' w''):=fun w' hb=>jt ao' n' cap' vs' w' (hO'.below hb)
 obtain ⟨r1,r2⟩:=Ac.fst2_right hE
 rw[hE] at CF
 rw[r1.lf] at CA
 rw[r2.lf,← hN] at CB
 have CT:Hid (∀ w',Below w.heap.size w w' → Calls Tryz.prog 223 #[.agg #[.slice ao n cap,.int .i64 0,.slice ao' n' cap',.int .i64 0]] w' fun e w'' => (∃ a0 n0 c0 u0 a1 n1 c1 u1,e=.returned (.agg #[.slice a0 n0 c0,.slice a1 n1 c1])∧Ops w'' a0 n0 c0 u0∧Ops w'' a1 n1 c1 u1∧Ac.turn (Ac.acts (vs.map PV.pt)) (Ac.acts (vs'.map PV.pt))=(Ac.acts (u0.map PV.pt),Ac.acts (u1.map PV.pt))∧(∀ v ∈ u0,Ac.err1 v.pt=0)∧(∀ v ∈ u1,Ac.err1 v.pt=0)∧u0.length≤80∧u1.length≤80)∧Below w'.heap.size w' w''):=fun w' hb=>q7l ao ao' n cap n' cap' vs vs' w' (hO.below hb) (hO'.below hb) r1 r2 hN
 have HSC:Hid (∀ w',Below w.heap.size w w' → Sch w'):=fun w' hb=>hS.below hb
 obtain ⟨X,hX⟩:∃ X,Ac.tx (vs.map PV.pt) (vs'.map PV.pt)=X:=⟨_,rfl⟩
 obtain ⟨Y,hY⟩:∃ Y,Ac.ty (vs.map PV.pt) (vs'.map PV.pt)=Y:=⟨_,rfl⟩
 have HX:Hid (Ac.tA (Ac.turn (Ac.acts (vs.map PV.pt)) (Ac.acts (vs'.map PV.pt))).1=X):=hX
 have HY:Hid (Ac.tA (Ac.turn (Ac.acts (vs.map PV.pt)) (Ac.acts (vs'.map PV.pt))).2=Y):=hY
 rw[hX,hY]
 clear hO hO' hS hE hN r1 r2 hX hY
 generalize Ac.turn (Ac.acts (vs.map PV.pt)) (Ac.acts (vs'.map PV.pt))=TT at *
 generalize Ac.nd (vs.map PV.pt)=k at *
 generalize Ac.lt (vs.map PV.pt)=l at *
 generalize Ac.lt (vs'.map PV.pt)=l' at *
 have hne:((k:Int) != (k:Int))=false:=by simp
 obtain ⟨E,hEE⟩:∃ E,Ac.fst2 X Y=E:=⟨_,rfl⟩
 have HE:Hid (Ac.fst2 X Y=E):=hEE
 rw[hEE]
 clear hEE
 go_enter Tryz.func153,Tryz.ntmps153
 go_wp2_with fail
 refine CF.out.mono ?_
 rintro e w1 ⟨rfl,hb⟩
 have H1:=hId hb
 clear hb
 go_wp2_with fail
 refine (CA.out _ H1.out).mono ?_
 rintro e w2 ⟨rfl,hb⟩
 have H2:Hid (Below w.heap.size w w2):=H1.out.trans (hb.mono H1.out.size)
 clear hb
 go_wp2_with fail
 refine (CB.out _ H2.out).mono ?_
 rintro e w3 ⟨rfl,hb⟩
 have H3:Hid (Below w.heap.size w w3):=H2.out.trans (hb.mono H2.out.size)
 clear hb CF CA CB
 go_wp2_with fail
 refine (CT.out _ H3.out).mono ?_
 rintro e w4 ⟨⟨a0,n0,c0,u0,a1,n1,c1,u1,rfl,o0,o1,ht,e0,e1,l0,l1⟩,hb⟩
 have H4:Hid (Below w.heap.size w w4):=H3.out.trans (hb.mono H3.out.size)
 have HX0:Hid (Ac.tidy (u0.map PV.pt)=X):=by show _=_;rw[Ac.tidy_tA,← HX.out,ht]
 have HY0:Hid (Ac.tidy (u1.map PV.pt)=Y):=by show _=_;rw[Ac.tidy_tA,← HY.out,ht]
 have CD0:Hid (∀ w',Below w4.heap.size w4 w' → Calls Tryz.prog 224 #[.slice a0 n0 c0] w' fun e w'' => (∃ tv us,e=.returned tv∧Tide w'' w'.heap.size tv us∧us.map PV.pt=X)∧Below w'.heap.size w' w''):=fun w' hb=>by
  have:=q2r a0 n0 c0 u0 w' (o0.below hb) e0 (by omega)
  rw[HX0.out] at this
  exact this
 have CD1:Hid (∀ w',Below w4.heap.size w4 w' → Calls Tryz.prog 224 #[.slice a1 n1 c1] w' fun e w'' => (∃ tv us,e=.returned tv∧Tide w'' w'.heap.size tv us∧us.map PV.pt=Y)∧Below w'.heap.size w' w''):=fun w' hb=>by
  have:=q2r a1 n1 c1 u1 w' (o1.below hb) e1 (by omega)
  rw[HY0.out] at this
  exact this
 have HM:Hid (Md w4 (boxm (.slice a0 n0 c0) (.slice a1 n1 c1) w4) (.slice a0 n0 c0) (.slice a1 n1 c1)):=Md.start _ _ w4
 have ix0:=idx0 (.slice a0 n0 c0) (.slice a1 n1 c1)
 have ix1:=idx1 (.slice a0 n0 c0) (.slice a1 n1 c1)
 clear hb o0 o1 ht e0 e1 l0 l1 CT HX HY HX0 HY0
 go_upto_region 9 with fail
 change Code.wp Tryz.prog _ _ _ (boxm (.slice a0 n0 c0) (.slice a1 n1 c1) w4)
 generalize boxm (.slice a0 n0 c0) (.slice a1 n1 c1) w4=W5 at *
 have m0:W5.cell? ⟨w4.heap.size,0,none⟩=some (.slice a0 n0 c0):=HM.out.mb.cell 0
 have m1:W5.cell? ⟨w4.heap.size,1,none⟩=some (.slice a1 n1 c1):=HM.out.mb.cell 1
 go_wp2_with fail
 refine wp_loop_rounds 3 ?_
 rw[rounds_succ]
 go_wp2_with fail
 refine (CD0.out _ HM.out.blw).mono ?_
 rintro e w6 ⟨⟨tv,us,rfl,hT,hp⟩,hb⟩
 have hM6:=HM.out.under hb
 have HM7:=hM6.set0 tv
 have HT7:=hT.low (k:=w4.heap.size) HM.out.mb.lt 0 tv
 have HP7:Hid (us.map PV.pt=X):=hp
 have d0:w6.cell? ⟨w4.heap.size,0,none⟩=some (.slice a0 n0 c0):=hM6.mb.cell 0
 have f0:=hM6.mb.frozen 0
 obtain ⟨ta,tc,htv,-⟩:=zg hT.own
 obtain ⟨tl,htl⟩:∃ tl,us.length=tl:=⟨_,rfl⟩
 rw[htl] at htv
 subst htv
 clear hT hp hb hM6 htl m0 m1
 go_wp2_with fail
 generalize w6.setCell ⟨w4.heap.size,0,none⟩ (.slice ta tl tc)=W7 at *
 have HM7:Hid (Md w4 W7 (.slice ta tl tc) (.slice a1 n1 c1)):=HM7
 have HT7:Hid (Tide W7 W5.heap.size (.slice ta tl tc) us):=HT7
 have HW5:Hid (w4.heap.size<W5.heap.size):=HM.out.mb.lt
 clear d0 f0
 rw[rounds_succ]
 go_wp2_with fail
 refine (CD1.out _ HM7.out.blw).mono ?_
 rintro e w8 ⟨⟨tv1,us1,rfl,hT,hp⟩,hb⟩
 have hM8:=HM7.out.under hb
 have HM9:=hM8.set1 tv1
 have HT9:=(HT7.out.under hb).low (k:=w4.heap.size) HW5.out 1 tv1
 have HTY:=hT.low (k:=w4.heap.size) HM7.out.mb.lt 1 tv1
 have HP9:Hid (us1.map PV.pt=Y):=hp
 have d1:w8.cell? ⟨w4.heap.size,1,none⟩=some (.slice a1 n1 c1):=hM8.mb.cell 1
 have f1:=hM8.mb.frozen 1
 obtain ⟨ta1,tc1,htv,-⟩:=zg hT.own
 obtain ⟨tl1,htl⟩:∃ tl1,us1.length=tl1:=⟨_,rfl⟩
 rw[htl] at htv
 subst htv
 clear hT hp hb hM8 htl
 go_wp2_with fail
 generalize w8.setCell ⟨w4.heap.size,1,none⟩ (.slice ta1 tl1 tc1)=W9 at *
 clear d1 f1
 have HM9:Hid (Md w4 W9 (.slice ta tl tc) (.slice ta1 tl1 tc1)):=HM9
 have HBB:w.heap.size≤W5.heap.size∧w.heap.size≤W7.heap.size:=⟨Nat.le_trans H4.out.size (Nat.le_of_lt HW5.out),Nat.le_trans H4.out.size HM7.out.blw.size⟩
 have HOXF:Hid (OpsFrom w.heap.size W9 ta tl tc us):=(Tide.from HT9).mono HBB.1
 have HOYF:Hid (OpsFrom w.heap.size W9 ta1 tl1 tc1 us1):=(Tide.from HTY).mono HBB.2
 have HOX:Hid (Ops W9 ta tl tc us):=HOXF.out.ops
 have HOY:Hid (Ops W9 ta1 tl1 tc1 us1):=HOYF.out.ops
 clear HBB
 have H9:Hid (Below w.heap.size w W9):=H4.out.trans (HM9.out.blw.mono H4.out.size)
 have CG:=j9 ta ta1 tl tc tl1 tc1 us us1 W9 HOX.out HOY.out (HSC.out _ H9.out)
 rw[HP7.out,HP9.out,HE.out] at CG
 have CG:Hid (Calls Tryz.prog 221 #[.agg #[.slice ta tl tc,.slice ta1 tl1 tc1]] W9 fun e w' => e=.returned (.int .i64 E)∧Below W9.heap.size W9 w'):=CG
 clear HT9 HTY HT7 HM7 CD0 CD1
 have m0:W9.cell? ⟨w4.heap.size,0,none⟩=some (.slice ta tl tc):=HM9.out.mb.cell 0
 have m1:W9.cell? ⟨w4.heap.size,1,none⟩=some (.slice ta1 tl1 tc1):=HM9.out.mb.cell 1
 rw[rounds_succ]
 go_wp2_with fail
 refine CG.out.mono ?_
 rintro e w10 ⟨rfl,hb⟩
 have HM10:Hid (Md w4 w10 (.slice ta tl tc) (.slice ta1 tl1 tc1)):=HM9.out.under hb
 have H10:Hid (Below w.heap.size w w10):=H9.out.trans (hb.mono H9.out.size)
 have HOX2:Hid (OpsFrom w.heap.size w10 ta tl tc us):=HOXF.out.below hb
 have HOY2:Hid (OpsFrom w.heap.size w10 ta1 tl1 tc1 us1):=HOYF.out.below hb
 clear hb CG m0 m1
 by_cases hE0:E=0
 ·subst hE0
  have m0:w10.cell? ⟨w4.heap.size,0,none⟩=some (.slice ta tl tc):=HM10.out.mb.cell 0
  have m1:w10.cell? ⟨w4.heap.size,1,none⟩=some (.slice ta1 tl1 tc1):=HM10.out.mb.cell 1
  go_wp2
  go_quiet (fail)
  go_wp2
  exact bodyPost_ret (v:=.tuple #[.slice ta tl tc,.slice ta1 tl1 tc1,.int .i64 0]) (by simp[results,Tryz.results153,go_sem]) rfl ⟨by show qcj w.heap.size X Y 0 _ _;exact ⟨_,_,_,us,_,_,_,us1,rfl,HOX2.out.below (qr _ _),HOY2.out.below (qr _ _),HP7.out,HP9.out⟩,H10.out.trans ((qr _ _).mono H10.out.size)⟩
 ·have hne2:(E != 0)=true:=by simp[hE0]
  have HE0:Hid (¬ E=0):=hE0
  clear hE0
  go_wp2
  exact bodyPost_ret (v:=.tuple #[.slice none 0 0,.slice none 0 0,.int .i64 E]) (by simp[results,Tryz.results153,go_sem]) rfl ⟨by first | exact q16 _ _ _ | (rw[if_neg HE0.out,if_neg HE0.out];exact q16 _ _ _),H10.out⟩
theorem q8f (ao ao' : Option Addr) (n cap n' cap' : Nat) (vs vs' : List PV) (w:World) (hO:Ops w ao n cap vs) (hO' : Ops w ao' n' cap' vs') (hS:Sch w) :
  Calls Tryz.prog 153 #[.slice ao n cap,.slice ao' n' cap'] w fun e w' => qcj w.heap.size (Ac.trnX (vs.map PV.pt) (vs'.map PV.pt)) (Ac.trnY (vs.map PV.pt) (vs'.map PV.pt)) (Ac.trnE (vs.map PV.pt) (vs'.map PV.pt)) e w' ∧ Below w.heap.size w w' := by
 unfold Ac.trnX Ac.trnY Ac.trnE
 by_cases h1:Ac.fst2 (vs.map PV.pt) (vs'.map PV.pt)=0
 ·rw[if_pos h1]
  by_cases h2:Ac.nd (vs.map PV.pt)=Ac.nd (vs'.map PV.pt)
  ·rw[if_pos h2]
   exact q8e ao ao' n cap n' cap' vs vs' w hO hO' hS h1 h2
  ·rw[if_neg h2,if_neg (show ¬ (6:Int)=0 by decide),if_neg (show ¬ (6:Int)=0 by decide)]
   refine (q7m ao ao' n cap n' cap' vs vs' w hO hO' hS h1 h2).mono ?_
   rintro e w' ⟨rfl,hb⟩
   exact ⟨q16 _ _ _,hb⟩
 ·rw[if_neg h1,if_neg h1,if_neg h1]
  refine (q8g ao ao' n cap n' cap' vs vs' w hO hO' hS h1).mono ?_
  rintro e w' ⟨rfl,hb⟩
  exact ⟨q16 _ _ _,hb⟩
theorem q6l (ao ao' : Option Addr) (n cap n' cap' : Nat) (vs vs' : List PV) (w:World) (hO:Ops w ao n cap vs) (hO' : Ops w ao' n' cap' vs') (hS:Sch w) :
  Calls Tryz.prog 153 #[.slice ao n cap,.slice ao' n' cap'] w fun e w' => q4h (Ac.trnX (vs.map PV.pt) (vs'.map PV.pt)) (Ac.trnY (vs.map PV.pt) (vs'.map PV.pt)) (Ac.trnE (vs.map PV.pt) (vs'.map PV.pt)) e w' ∧ Below w.heap.size w w' := by
 refine (q8f ao ao' n cap n' cap' vs vs' w hO hO' hS).mono ?_
 rintro e w' ⟨⟨a0,n0,c0,u0,a1,n1,c1,u1,h1,h2,h3,h4⟩,hb⟩
 exact ⟨⟨a0,n0,c0,u0,a1,n1,c1,u1,h1,h2.ops,h3.ops,h4⟩,hb⟩
def q4i (X:List Ac.Pt) (E:Int) (e:Ending) (w' : World):Prop:=∃ a0 n0 c0 u0,e=.returned (.tuple #[.slice a0 n0 c0,.int .i64 E])∧Ops w' a0 n0 c0 u0∧u0.map PV.pt=X
theorem xy (E:Int) (w' : World):q4i [] E (.returned (.tuple #[.slice none 0 0,.int .i64 E])) w' := ⟨none,0,0,[],rfl,jy w',rfl⟩
theorem q9f (ao ao' : Option Addr) (n cap n' cap' : Nat) (vs vs' : List PV) (w:World) (hO:Ops w ao n cap vs) (hO' : Ops w ao' n' cap' vs') (hS:Sch w) (hE:¬ Ac.fst2 (vs.map PV.pt) (vs'.map PV.pt)=0) :
  Calls Tryz.prog 170 #[.slice ao n cap,.slice ao' n' cap'] w fun e w' => e=.returned (.tuple #[.slice none 0 0,.int .i64 (Ac.fst2 (vs.map PV.pt) (vs'.map PV.pt))])∧Below w.heap.size w w' := by
 have CF:Hid (Calls Tryz.prog 221 #[.agg #[.slice ao n cap,.slice ao' n' cap']] w fun e w' => e=.returned (.int .i64 (Ac.fst2 (vs.map PV.pt) (vs'.map PV.pt)))∧Below w.heap.size w w'):=j9 ao ao' n cap n' cap' vs vs' w hO hO' hS
 have CA:Hid (∀ w',Below w.heap.size w w' → Calls Tryz.prog 222 #[.slice ao n cap] w' fun e w'' => e=.returned (.tuple #[.int .i64 (Ac.lf (vs.map PV.pt)),.int .i64 (Ac.lt (vs.map PV.pt))])∧Below w'.heap.size w' w''):=fun w' hb=>jt ao n cap vs w' (hO.below hb)
 have CB:Hid (∀ w',Below w.heap.size w w' → Calls Tryz.prog 222 #[.slice ao' n' cap'] w' fun e w'' => e=.returned (.tuple #[.int .i64 (Ac.lf (vs'.map PV.pt)),.int .i64 (Ac.lt (vs'.map PV.pt))])∧Below w'.heap.size w' w''):=fun w' hb=>jt ao' n' cap' vs' w' (hO'.below hb)
 clear hO hO' hS CA CB
 generalize Ac.fst2 (vs.map PV.pt) (vs'.map PV.pt)=r at *
 have hne:(r != 0)=true:=by simp[hE]
 clear hE
 go_enter Tryz.func170,Tryz.ntmps170
 go_wp2_with fail
 refine CF.out.mono ?_
 rintro e w1 ⟨rfl,hb⟩
 have H1:=hId hb
 clear hb
 go_wp2
 go_ret2
 exact ⟨rfl,H1.out⟩
theorem q7x (ao ao' : Option Addr) (n cap n' cap' : Nat) (vs vs' : List PV) (w:World) (hO:Ops w ao n cap vs) (hO' : Ops w ao' n' cap' vs') (hS:Sch w) (hE:Ac.fst2 (vs.map PV.pt) (vs'.map PV.pt)=0) (hN:¬ Ac.lv (vs.map PV.pt)=Ac.nd (vs'.map PV.pt)) :
  Calls Tryz.prog 170 #[.slice ao n cap,.slice ao' n' cap'] w fun e w' => e=.returned (.tuple #[.slice none 0 0,.int .i64 6])∧Below w.heap.size w w' := by
 have CF:Hid (Calls Tryz.prog 221 #[.agg #[.slice ao n cap,.slice ao' n' cap']] w fun e w' => e=.returned (.int .i64 (Ac.fst2 (vs.map PV.pt) (vs'.map PV.pt)))∧Below w.heap.size w w'):=j9 ao ao' n cap n' cap' vs vs' w hO hO' hS
 have CA:Hid (∀ w',Below w.heap.size w w' → Calls Tryz.prog 222 #[.slice ao n cap] w' fun e w'' => e=.returned (.tuple #[.int .i64 (Ac.lf (vs.map PV.pt)),.int .i64 (Ac.lt (vs.map PV.pt))])∧Below w'.heap.size w' w''):=fun w' hb=>jt ao n cap vs w' (hO.below hb)
 have CB:Hid (∀ w',Below w.heap.size w w' → Calls Tryz.prog 222 #[.slice ao' n' cap'] w' fun e w'' => e=.returned (.tuple #[.int .i64 (Ac.lf (vs'.map PV.pt)),.int .i64 (Ac.lt (vs'.map PV.pt))])∧Below w'.heap.size w' w''):=fun w' hb=>jt ao' n' cap' vs' w' (hO'.below hb)
 obtain ⟨r1,r2⟩:=Ac.fst2_right hE
 rw[hE] at CF
 rw[r1.lt] at CA
 rw[r2.lf] at CB
 clear hO hO' hS hE r1 r2
 generalize Ac.lv (vs.map PV.pt)=k at *
 generalize Ac.nd (vs'.map PV.pt)=k' at *
 generalize Ac.lf (vs.map PV.pt)=l at *
 generalize Ac.lt (vs'.map PV.pt)=l' at *
 have hne:((k:Int) != (k' : Int))=true:=by simp;omega
 have hne' : (k != k')=true:=by simp;omega
 clear hN
 go_enter Tryz.func170,Tryz.ntmps170
 go_wp2_with fail
 refine CF.out.mono ?_
 rintro e w1 ⟨rfl,hb⟩
 have H1:=hId hb
 clear hb
 go_wp2_with fail
 refine (CA.out _ H1.out).mono ?_
 rintro e w2 ⟨rfl,hb⟩
 have H2:Hid (Below w.heap.size w w2):=H1.out.trans (hb.mono H1.out.size)
 clear hb
 go_wp2_with fail
 refine (CB.out _ H2.out).mono ?_
 rintro e w3 ⟨rfl,hb⟩
 have H3:Hid (Below w.heap.size w w3):=H2.out.trans (hb.mono H2.out.size)
 clear hb
 go_wp2
 go_ret2
 exact ⟨rfl,H3.out⟩
theorem q9e (ao ao' : Option Addr) (n cap n' cap' : Nat) (vs vs' : List PV) (w:World) (hO:Ops w ao n cap vs) (hO' : Ops w ao' n' cap' vs') (hS:Sch w) (hE:Ac.fst2 (vs.map PV.pt) (vs'.map PV.pt)=0) (hN:Ac.lv (vs.map PV.pt)=Ac.nd (vs'.map PV.pt)) :
  Calls Tryz.prog 170 #[.slice ao n cap,.slice ao' n' cap'] w fun e w' => q4i (if Ac.chk (Ac.jx (vs.map PV.pt) (vs'.map PV.pt))=0 then Ac.jx (vs.map PV.pt) (vs'.map PV.pt) else []) (Ac.chk (Ac.jx (vs.map PV.pt) (vs'.map PV.pt))) e w' ∧ Below w.heap.size w w' := by
 have CF:Hid (Calls Tryz.prog 221 #[.agg #[.slice ao n cap,.slice ao' n' cap']] w fun e w' => e=.returned (.int .i64 (Ac.fst2 (vs.map PV.pt) (vs'.map PV.pt)))∧Below w.heap.size w w'):=j9 ao ao' n cap n' cap' vs vs' w hO hO' hS
 have CA:Hid (∀ w',Below w.heap.size w w' → Calls Tryz.prog 222 #[.slice ao n cap] w' fun e w'' => e=.returned (.tuple #[.int .i64 (Ac.lf (vs.map PV.pt)),.int .i64 (Ac.lt (vs.map PV.pt))])∧Below w'.heap.size w' w''):=fun w' hb=>jt ao n cap vs w' (hO.below hb)
 have CB:Hid (∀ w',Below w.heap.size w w' → Calls Tryz.prog 222 #[.slice ao' n' cap'] w' fun e w'' => e=.returned (.tuple #[.int .i64 (Ac.lf (vs'.map PV.pt)),.int .i64 (Ac.lt (vs'.map PV.pt))])∧Below w'.heap.size w' w''):=fun w' hb=>jt ao' n' cap' vs' w' (hO'.below hb)
 obtain ⟨r1,r2⟩:=Ac.fst2_right hE
 rw[hE] at CF
 rw[r1.lt] at CA
 rw[r2.lf,← hN] at CB
 have CT:Hid (∀ w',Below w.heap.size w w' → Calls Tryz.prog 228 #[.agg #[.slice ao n cap,.int .i64 0,.slice ao' n' cap',.int .i64 0]] w' fun e w'' => (∃ a0 n0 c0 u0,e=.returned (.slice a0 n0 c0)∧Ops w'' a0 n0 c0 u0∧Ac.join (Ac.acts (vs.map PV.pt)) (Ac.acts (vs'.map PV.pt))=Ac.acts (u0.map PV.pt)∧(∀ v ∈ u0,Ac.err1 v.pt=0)∧u0.length≤80)∧Below w'.heap.size w' w''):=fun w' hb=>q7w ao ao' n cap n' cap' vs vs' w' (hO.below hb) (hO'.below hb) r1 r2 hN
 have HSC:Hid (∀ w',Below w.heap.size w w' → Sch w'):=fun w' hb=>hS.below hb
 obtain ⟨X,hX⟩:∃ X,Ac.jx (vs.map PV.pt) (vs'.map PV.pt)=X:=⟨_,rfl⟩
 have HX:Hid (Ac.tA (Ac.join (Ac.acts (vs.map PV.pt)) (Ac.acts (vs'.map PV.pt)))=X):=hX
 rw[hX]
 clear hO hO' hS hE hN r1 r2 hX
 generalize Ac.join (Ac.acts (vs.map PV.pt)) (Ac.acts (vs'.map PV.pt))=TT at *
 generalize Ac.lv (vs.map PV.pt)=k at *
 generalize Ac.lf (vs.map PV.pt)=l at *
 generalize Ac.lt (vs'.map PV.pt)=l' at *
 have hne:((k:Int) != (k:Int))=false:=by simp
 obtain ⟨E,hEE⟩:∃ E,Ac.chk X=E:=⟨_,rfl⟩
 have HE:Hid (Ac.chk X=E):=hEE
 rw[hEE]
 clear hEE
 go_enter Tryz.func170,Tryz.ntmps170
 go_wp2_with fail
 refine CF.out.mono ?_
 rintro e w1 ⟨rfl,hb⟩
 have H1:=hId hb
 clear hb
 go_wp2_with fail
 refine (CA.out _ H1.out).mono ?_
 rintro e w2 ⟨rfl,hb⟩
 have H2:Hid (Below w.heap.size w w2):=H1.out.trans (hb.mono H1.out.size)
 clear hb
 go_wp2_with fail
 refine (CB.out _ H2.out).mono ?_
 rintro e w3 ⟨rfl,hb⟩
 have H3:Hid (Below w.heap.size w w3):=H2.out.trans (hb.mono H2.out.size)
 clear hb CF CA CB
 go_wp2_with fail
 refine (CT.out _ H3.out).mono ?_
 rintro e w4 ⟨⟨a0,n0,c0,u0,rfl,o0,ht,e0,l0⟩,hb⟩
 have H4:Hid (Below w.heap.size w w4):=H3.out.trans (hb.mono H3.out.size)
 have hX0:Ac.tidy (u0.map PV.pt)=X:=by rw[Ac.tidy_tA,← HX.out,ht]
 have CD:=q2r a0 n0 c0 u0 w4 o0 e0 (by omega)
 rw[hX0] at CD
 have CD:Hid (Calls Tryz.prog 224 #[.slice a0 n0 c0] w4 fun e w' => (∃ tv us,e=.returned tv∧Tide w' w4.heap.size tv us∧us.map PV.pt=X)∧Below w4.heap.size w4 w'):=CD
 clear hb o0 ht e0 l0 CT HX hX0
 go_wp2_with fail
 refine CD.out.mono ?_
 rintro e w5 ⟨⟨tv,us,rfl,hT,hp⟩,hb⟩
 have H5:Hid (Below w.heap.size w w5):=H4.out.trans (hb.mono H4.out.size)
 obtain ⟨ta,tc,htv,hops⟩:=hT.ops
 obtain ⟨tl,htl⟩:∃ tl,us.length=tl:=⟨_,rfl⟩
 rw[htl] at htv hops
 have HOX:=hId hops
 have HP:Hid (us.map PV.pt=X):=hp
 have CG:=q32 ta tl tc us w5 hops (HSC.out _ H5.out)
 rw[hp,HE.out] at CG
 have CG:Hid (Calls Tryz.prog 160 #[.slice ta tl tc] w5 fun e w' => e=.returned (.int .i64 E)∧Below w5.heap.size w5 w'):=CG
 subst htv
 clear hT hp hb hops htl CD
 go_wp2_with fail
 refine CG.out.mono ?_
 rintro e w6 ⟨rfl,hb⟩
 have H6:Hid (Below w.heap.size w w6):=H5.out.trans (hb.mono H5.out.size)
 have HOX2:Hid (Ops w6 ta tl tc us):=HOX.out.below hb
 clear hb CG
 by_cases hE0:E=0
 ·subst hE0
  go_wp2
  go_ret2
  exact ⟨by show q4i X 0 _ _;exact ⟨_,_,_,us,rfl,HOX2.out,HP.out⟩,H6.out⟩
 ·have hne2:(E != 0)=true:=by simp[hE0]
  have HE0:Hid (¬ E=0):=hE0
  clear hE0
  go_wp2
  go_ret2
  exact ⟨by first | exact xy _ _ | (rw[if_neg HE0.out];exact xy _ _),H6.out⟩
theorem qbp (ao ao' : Option Addr) (n cap n' cap' : Nat) (vs vs' : List PV) (w:World) (hO:Ops w ao n cap vs) (hO' : Ops w ao' n' cap' vs') (hS:Sch w) :
  Calls Tryz.prog 170 #[.slice ao n cap,.slice ao' n' cap'] w fun e w' => q4i (Ac.jonX (vs.map PV.pt) (vs'.map PV.pt)) (Ac.jonE (vs.map PV.pt) (vs'.map PV.pt)) e w' ∧ Below w.heap.size w w' := by
 unfold Ac.jonX Ac.jonE
 by_cases h1:Ac.fst2 (vs.map PV.pt) (vs'.map PV.pt)=0
 ·rw[if_pos h1]
  by_cases h2:Ac.lv (vs.map PV.pt)=Ac.nd (vs'.map PV.pt)
  ·rw[if_pos h2]
   exact q9e ao ao' n cap n' cap' vs vs' w hO hO' hS h1 h2
  ·rw[if_neg h2,if_neg (show ¬ (6:Int)=0 by decide)]
   refine (q7x ao ao' n cap n' cap' vs vs' w hO hO' hS h1 h2).mono ?_
   rintro e w' ⟨rfl,hb⟩
   exact ⟨xy _ _,hb⟩
 ·rw[if_neg h1,if_neg h1]
  refine (q9f ao ao' n cap n' cap' vs vs' w hO hO' hS h1).mono ?_
  rintro e w' ⟨rfl,hb⟩
  exact ⟨xy _ _,hb⟩
open Go.RowKit
namespace Sv
structure En where
 who:Int
 seq:Int
 o:List Ac.Pt
structure Se where
 first:List It
 log:List En
 now:List It
def isE (c q:Int) (x:En):Bool:=(x.who == c)&&(x.seq == q)
def has (s:Se) (c q:Int):Bool:=s.log.any (isE c q)
end Sv
structure EV where
 who:Int
 seq:Int
 ao:Option Addr
 n:Nat
 cap:Nat
 vs:List PV
def EV.en (v:EV):Sv.En:=⟨v.who,v.seq,v.vs.map PV.pt⟩
def evC (v:EV):List Value:=[.int .i64 v.who,.int .i64 v.seq,.slice v.ao v.n v.cap]
open Go.RowKit
theorem Dc.check_few {l:List It} (h:Dc.check l=0):0<l.length∧l.length≤80:=by
 by_cases h1:80<l.length
 ·rw[Dc.check_many h1] at h;cases h
 ·refine ⟨?_,by omega⟩
  cases l with
  | nil=>exact absurd h (by decide)
  | cons x l=>simp
open Go.RowKit
theorem q1r {w:World} {a:Option Addr} {n c:Nat} {l:List It} (h:Doc w a n c l):Row w a n c 3 (qf l) :=
 ⟨by rw[jp,h.len],h.room,h.big,fun hn=>by
  obtain ⟨b,off,e,hA⟩:=h.lies hn
  exact ⟨b,off,e,fun j u hu=>by have:=q2f hA j u hu;rw[yf] at this;exact this⟩⟩
theorem q07 {w:World} {a:Option Addr} {n c:Nat} {l:List It} (h:Row w a n c 3 (qf l)) (hf:Fit l):Doc w a n c l :=
 ⟨hf,by have:=h.len;rw[jp] at this;omega,h.room,h.big,fun hn=>by
  obtain ⟨b,off,e,hc⟩:=h.lies hn
  exact ⟨b,off,e,⟨fun i hi=>hc _ _ (j1 l i hi).1,fun i hi=>by rw[Nat.add_assoc];exact hc _ _ (j1 l i hi).2.1,fun i hi=>by rw[Nat.add_assoc];exact hc _ _ (j1 l i hi).2.2⟩⟩⟩
theorem Doc.kept {w w' : World} {a:Option Addr} {n c:Nat} {l:List It} {S:List Nat} (h:Doc w a n c l) (hk:Kept w w' S) (hn:∀ ad:Addr,n≠0→a=some ad→ad.block ∉ S):Doc w' a n c l:=q07 ((q1r h).kept (by decide) hk hn) h.fit
theorem q82 (ao:Option Addr) (n cap:Nat) (cs:List Value) (w:World) (hR:Row w ao n cap 3 cs) (h1:∀ u ∈ cs,u.oneCell' = true) (hn:n≤80) :
  Calls Tryz.prog 220 #[.slice ao n cap] w fun e w' => (∃ v,e=.returned v∧w'.ownsRow w.heap.size 39 3 v n cs)∧Below w.heap.size w w' := by
 obtain ⟨i0,hi,hz0,hz1,hz2⟩:=info_parts Tryz.infI
 have HR:=hId hR
 have HO:Hid (∀ u ∈ cs,u.oneCell' = true):=h1
 have hlen:=hR.len
 have hlies:=hR.lies
 clear hR h1
 cases ao with
 | none =>
  have h0:n=0:=by
   by_cases hz:n=0
   ·exact hz
   ·obtain ⟨b,off,e,_⟩:=hlies hz;cases e
  subst h0
  have hc:cs=[]:=by rw[Nat.zero_mul] at hlen;exact List.length_eq_zero_iff.1 hlen
  subst hc
  have hnil:∀ w,(binOp .eql 33 (.slice none 0 cap) (.slice none 0 0)).run Tryz.prog w=.ok (.bool true) w:=fun w=>Lib.run_eql_slice_nil (P:=Tryz.prog) w 33 39 _ _ _ _ _ Tryz.underlying33
  clear hlies hlen
  go_enter Tryz.func220,Tryz.ntmps220
  go_wp2
  go_ret
  exact ⟨⟨_,rfl,World.ownsRow_nil _ _ _ _⟩,Below.refl _ _⟩
 | some ad =>
  have hnil:∀ w,(binOp .eql 33 (.slice (some ad) n cap) (.slice none 0 0)).run Tryz.prog w=.ok (.bool false) w:=fun w=>Lib.run_eql_slice_nil (P:=Tryz.prog) w 33 39 _ _ _ _ _ Tryz.underlying33
  clear hlies hlen
  have HB:Hid (Below w.heap.size w (w.alloc (.cells #[] 39))):=(Below.refl _ _).alloc (Nat.le_refl _) _
  go_enter Tryz.func220,Tryz.ntmps220
  go_wp2_with (at_builtin;refine qj _ rfl (.tmp 5) (.tmp 6) 33 rfl w.heap.size 39 i0 (.agg #[.int .u8 0,.int .i64 0,.string ⟨#[]⟩]) 3 32 Tryz.underlying33 hi hz0 hz1 hz2 rfl (by decide) _ 0 [] rfl ?c1 (some ad) n cap cs rfl ?c2 HO.out ?c3 ?c4 ?c5 ?c6)
  case c1=>exact World.ownsRow_lit w #[] 0 (Nat.le_refl _) (by decide) rfl
  case c2=>exact HR.out.below HB.out
  case c3=>unfold maxLen;omega
  case c4=>omega
  case c5=>simp
  case c6 =>
   intro v w1 hown hgrow hat
   have H1:Hid (Below w.heap.size w w1):=HB.out.grown hgrow (by simp) (fun k hk=>by simp[Value.ownBlock] at hk;omega)
   have HW:Hid (w1.ownsRow w.heap.size 39 3 v n cs):=by first | exact hown | (rw[Nat.zero_add] at hown;exact hown)
   clear hown hgrow hat
   go_wp2
   go_ret
   exact ⟨⟨v,rfl,HW.out⟩,H1.out⟩
theorem q03 (ao:Option Addr) (n cap:Nat) (cs:List Value) (w:World) (hR:Row w ao n cap 3 cs) (h1:∀ u ∈ cs,u.oneCell' = true) (hn:n≤80) :
  Calls Tryz.prog 79 #[.slice ao n cap] w fun e w' => (∃ v,e=.returned v∧w'.ownsRow w.heap.size 39 3 v n cs)∧Below w.heap.size w w' := by
 obtain ⟨i0,hi,hz0,hz1,hz2⟩:=info_parts Tryz.infI
 have HR:=hId hR
 have HO:Hid (∀ u ∈ cs,u.oneCell' = true):=h1
 have hlen:=hR.len
 have hlies:=hR.lies
 clear hR h1
 cases ao with
 | none =>
  have h0:n=0:=by
   by_cases hz:n=0
   ·exact hz
   ·obtain ⟨b,off,e,_⟩:=hlies hz;cases e
  subst h0
  have hc:cs=[]:=by rw[Nat.zero_mul] at hlen;exact List.length_eq_zero_iff.1 hlen
  subst hc
  have hnil:∀ w,(binOp .eql 34 (.slice none 0 cap) (.slice none 0 0)).run Tryz.prog w=.ok (.bool true) w:=fun w=>Lib.run_eql_slice_nil (P:=Tryz.prog) w 34 39 _ _ _ _ _ Tryz.underlying34
  clear hlies hlen
  go_enter Tryz.func79,Tryz.ntmps79
  go_wp2
  go_ret
  exact ⟨⟨_,rfl,World.ownsRow_nil _ _ _ _⟩,Below.refl _ _⟩
 | some ad =>
  have hnil:∀ w,(binOp .eql 34 (.slice (some ad) n cap) (.slice none 0 0)).run Tryz.prog w=.ok (.bool false) w:=fun w=>Lib.run_eql_slice_nil (P:=Tryz.prog) w 34 39 _ _ _ _ _ Tryz.underlying34
  clear hlies hlen
  have HB:Hid (Below w.heap.size w (w.alloc (.cells #[] 39))):=(Below.refl _ _).alloc (Nat.le_refl _) _
  go_enter Tryz.func79,Tryz.ntmps79
  go_wp2_with (at_builtin;refine qj _ rfl (.tmp 5) (.tmp 6) 34 rfl w.heap.size 39 i0 (.agg #[.int .u8 0,.int .i64 0,.string ⟨#[]⟩]) 3 32 Tryz.underlying34 hi hz0 hz1 hz2 rfl (by decide) _ 0 [] rfl ?c1 (some ad) n cap cs rfl ?c2 HO.out ?c3 ?c4 ?c5 ?c6)
  case c1=>exact World.ownsRow_lit w #[] 0 (Nat.le_refl _) (by decide) rfl
  case c2=>exact HR.out.below HB.out
  case c3=>unfold maxLen;omega
  case c4=>omega
  case c5=>simp
  case c6 =>
   intro v w1 hown hgrow hat
   have H1:Hid (Below w.heap.size w w1):=HB.out.grown hgrow (by simp) (fun k hk=>by simp[Value.ownBlock] at hk;omega)
   have HW:Hid (w1.ownsRow w.heap.size 39 3 v n cs):=by first | exact hown | (rw[Nat.zero_add] at hown;exact hown)
   clear hown hgrow hat
   go_wp2
   go_ret
   exact ⟨⟨v,rfl,HW.out⟩,H1.out⟩
theorem q3p (ao:Option Addr) (n cap:Nat) (cs:List Value) (w:World) (hR:Row w ao n cap 7 cs) (h1:∀ u ∈ cs,u.oneCell' = true) (hn:n≤80) :
  Calls Tryz.prog 219 #[.slice ao n cap] w fun e w' => (∃ v,e=.returned v∧w'.ownsRow w.heap.size 162 7 v n cs)∧Below w.heap.size w w' := by
 obtain ⟨i0,hi,hz0,hz1,hz2⟩:=info_parts Tryz.infP
 have HR:=hId hR
 have HO:Hid (∀ u ∈ cs,u.oneCell' = true):=h1
 have hlen:=hR.len
 have hlies:=hR.lies
 clear hR h1
 cases ao with
 | none =>
  have h0:n=0:=by
   by_cases hz:n=0
   ·exact hz
   ·obtain ⟨b,off,e,_⟩:=hlies hz;cases e
  subst h0
  have hc:cs=[]:=by rw[Nat.zero_mul] at hlen;exact List.length_eq_zero_iff.1 hlen
  subst hc
  have hnil:∀ w,(binOp .eql 44 (.slice none 0 cap) (.slice none 0 0)).run Tryz.prog w=.ok (.bool true) w:=fun w=>Lib.run_eql_slice_nil (P:=Tryz.prog) w 44 162 _ _ _ _ _ Tryz.underlying44
  clear hlies hlen
  go_enter Tryz.func219,Tryz.ntmps219
  go_wp2
  go_ret
  exact ⟨⟨_,rfl,World.ownsRow_nil _ _ _ _⟩,Below.refl _ _⟩
 | some ad =>
  have hnil:∀ w,(binOp .eql 44 (.slice (some ad) n cap) (.slice none 0 0)).run Tryz.prog w=.ok (.bool false) w:=fun w=>Lib.run_eql_slice_nil (P:=Tryz.prog) w 44 162 _ _ _ _ _ Tryz.underlying44
  clear hlies hlen
  have HB:Hid (Below w.heap.size w (w.alloc (.cells #[] 162))):=(Below.refl _ _).alloc (Nat.le_refl _) _
  go_enter Tryz.func219,Tryz.ntmps219
  go_wp2_with (at_builtin;refine qj _ rfl (.tmp 5) (.tmp 6) 44 rfl w.heap.size 162 i0 (.agg #[.int .i64 0,.int .i64 0,.slice none 0 0,.int .i64 0,.int .i64 0,.bool false,.string ⟨#[]⟩]) 7 80 Tryz.underlying44 hi hz0 hz1 hz2 rfl (by decide) _ 0 [] rfl ?c1 (some ad) n cap cs rfl ?c2 HO.out ?c3 ?c4 ?c5 ?c6)
  case c1=>exact World.ownsRow_lit w #[] 0 (Nat.le_refl _) (by decide) rfl
  case c2=>exact HR.out.below HB.out
  case c3=>unfold maxLen;omega
  case c4=>omega
  case c5=>simp
  case c6 =>
   intro v w1 hown hgrow hat
   have H1:Hid (Below w.heap.size w w1):=HB.out.grown hgrow (by simp) (fun k hk=>by simp[Value.ownBlock] at hk;omega)
   have HW:Hid (w1.ownsRow w.heap.size 162 7 v n cs):=by first | exact hown | (rw[Nat.zero_add] at hown;exact hown)
   clear hown hgrow hat
   go_wp2
   go_ret
   exact ⟨⟨v,rfl,HW.out⟩,H1.out⟩
theorem xd {w:World} {B n sz:Nat} {e:TypeId} {v:Value} {xs:List Value} (h:w.ownsRow B e sz v n xs):∃ a c,v=.slice a n c∧Row w a n c sz xs∧(∀ ad:Addr,a=some ad→B≤ad.block∧ad.block<w.heap.size)∧(n≠0→∃ g,a=some ⟨g,0,none⟩):=by
 obtain ⟨a,c,hv,hr⟩:=zg h
 refine ⟨a,c,hv,hr,fun ad e=>?_,fun hn=>?_⟩
 ·exact h.lt _ (by rw[hv,e];rfl)
 ·rcases h.2 with ⟨h1,h2⟩ | ⟨g,cap,cur,h1,_⟩
  ·exact absurd h2 hn
  ·rw[hv] at h1
   simp only[Value.slice.injEq] at h1
   exact ⟨g,h1.1⟩
theorem q1v:∀ (l:List PV) (k:Nat) (h:k<l.length) (a:Option Addr) (m c:Nat),(q9 l).set (k*7+2) (.slice a m c)=q9 (l.set k { l[k] with ao:=a,m:=m,cap:=c })
 | [],_,h,_,_,_=>by simp at h
 | x :: l,0,_,a,m,c=>rfl
 | x :: l,k+1,h,a,m,c=>by
  have:=q1v l k (by simpa using h) a m c
  rw[show (k+1)*7+2=k*7+2+1+1+1+1+1+1+1 by omega]
  simp only[x9,List.set_cons_succ,List.getElem_cons_succ]
  rw[this]
theorem set_mid {α:Type} (us vs:List α) (k:Nat) (h:k<vs.length) (hk:us.length=k) (y:α):(us++vs.drop k).set k y=(us++[y])++vs.drop (k+1):=by
 subst hk
 rw[List.drop_eq_getElem_cons h,List.set_append_right _ _ (Nat.le_refl _),Nat.sub_self,List.set_cons_zero,List.append_assoc]
 rfl
theorem get_mid {α:Type} (us vs:List α) (k:Nat) (h:k<vs.length) (hk:us.length=k) (hm:k<(us++vs.drop k).length):(us++vs.drop k)[k]=vs[k]:=by
 subst hk
 rw[List.getElem_append_right (Nat.le_refl _)]
 simp
theorem qc8 (ao:Option Addr) (n cap:Nat) (vs:List PV) (w:World) (hO:Ops w ao n cap vs) (h0:0<n) (hn:n≤40) (hm:∀ v ∈ vs,v.m≤80) :
  Calls Tryz.prog 151 #[.slice ao n cap] w fun e w' => (∃ a c us,e=.returned (.slice a n c)∧OpsFrom w.heap.size w' a n c us∧us.map PV.pt=vs.map PV.pt)∧Below w.heap.size w w' := by
 have HO:=hId hO
 have HN:Hid (vs.length=n):=hO.len
 have HM:Hid (∀ v ∈ vs,v.m≤80):=hm
 clear hO hm
 have CC:Hid (Calls Tryz.prog 219 #[.slice ao n cap] w fun e w' => (∃ v,e=.returned v∧w'.ownsRow w.heap.size 162 7 v n (q9 vs))∧Below w.heap.size w w'):=q3p ao n cap (q9 vs) w HO.out.row (qi vs) (by omega)
 go_enter Tryz.func151,Tryz.ntmps151
 go_wp2_with fail
 refine CC.out.mono ?_
 rintro e w1 ⟨⟨v,rfl,ho⟩,hb⟩
 obtain ⟨a,c,rfl,hr,hlo,hg⟩:=xd ho
 obtain ⟨g,rfl⟩:=hg (by omega)
 have hroom:=hr.room
 have hbig:=hr.big
 obtain ⟨hgl,hgu⟩:=hlo _ rfl
 have HOW:Hid (w1.ownsRow w.heap.size 162 7 (.slice (some ⟨g,0,none⟩) n c) n (q9 vs)):=ho
 have H1:=hId hb
 have HGU:Hid (g<w1.heap.size):=hgu
 have HGL:Hid (w.heap.size≤g):=hgl
 clear ho hb hr hlo hg CC hgl hgu
 go_wp2
 go_loopw [8] (fun i wr=>∃ (k:Nat) (us:List PV),k≤n∧i=.int .i64 k∧us.length=k∧us.map PV.pt=(vs.take k).map PV.pt∧wr.ownsRow w.heap.size 162 7 (.slice (some ⟨g,0,none⟩) n c) n (q9 (us++vs.drop k))∧(∀ v ∈ us,Pvt wr v∧∀ ad:Addr,v.m≠0→v.ao=some ad→g<ad.block)∧Below w.heap.size w wr∧g<wr.heap.size) (fun i _=>n - (intOf i).toNat)
 case atStart=>exact ⟨0,[],Nat.zero_le _,rfl,rfl,rfl,HOW.out,fun v hv=>absurd hv (by simp),H1.out,HGU.out⟩
 case round =>
  obtain ⟨k,us,hk,rfl,hul,hup,how,hpv,hbr,hgs⟩:=hrel
  have HUL:Hid (us.length=k):=hul
  have HUP:Hid (us.map PV.pt=(vs.take k).map PV.pt):=hup
  have HWR:Hid (wr.ownsRow w.heap.size 162 7 (.slice (some ⟨g,0,none⟩) n c) n (q9 (us++vs.drop k))):=how
  have HPV:Hid (∀ v ∈ us,Pvt wr v∧∀ ad:Addr,v.m≠0→v.ao=some ad→g<ad.block):=hpv
  have HBR:=hId hbr
  have HGS:Hid (g<wr.heap.size):=hgs
  clear hul hup how hpv hbr hgs
  by_cases hlt:k<n
  ·have h1:k<vs.length:=by rw[HN.out];exact hlt
   have h2:k<(us++vs.drop k).length:=by rw[List.length_append,List.length_drop,HUL.out,HN.out];omega
   have hgm:=get_mid us vs k h1 HUL.out h2
   have c2:wr.cell? ⟨g,k*7+2,none⟩=some (.slice vs[k].ao vs[k].m vs[k].cap):=by
    rw[HWR.out.cellAt (k*7+2) (by omega),(yh _ k h2).2.2.1,hgm]
   have HPt:Hid (Pvt wr vs[k]):=(HO.out.pts _ (List.getElem_mem h1)).below HBR.out
   have hm80:vs[k].m≤80:=HM.out _ (List.getElem_mem h1)
   have CI:Hid (Calls Tryz.prog 220 #[.slice vs[k].ao vs[k].m vs[k].cap] wr fun e w' => (∃ v,e=.returned v∧w'.ownsRow wr.heap.size 39 3 v vs[k].m (qf vs[k].items))∧Below wr.heap.size wr w'):=q82 _ _ _ _ _ (q1r HPt.out.doc) (zt _) hm80
   have HTK:Hid ((vs.take (k+1)).map PV.pt=(vs.take k).map PV.pt++[vs[k].pt]):=by show _=_;rw[List.take_succ_eq_append_getElem h1,List.map_append];rfl
   have HSET:Hid (∀ (x:PV),(us++vs.drop k).set k x=(us++[x])++vs.drop (k+1)):=fun x=>set_mid us vs k h1 HUL.out x
   have HH2:Hid (k<(us++vs.drop k).length):=h2
   have HGM:Hid ((us++vs.drop k)[k]'HH2.out=vs[k]):=hgm
   generalize vs[k]=v at *
   clear h1 h2 hgm
   go_wp2_with fail
   refine CI.out.mono ?_
   rintro e w2 ⟨⟨x,rfl,hox⟩,hb⟩
   obtain ⟨a',c',rfl,hr',hlo',-⟩:=xd hox
   have HD:Hid (Doc w2 a' v.m c' v.items):=q07 hr' HPt.out.doc.fit
   have HLO:Hid (∀ ad:Addr,a' = some ad→g<ad.block):=fun ad e=>by have:=(hlo' ad e).1;have:=HGS.out;omega
   have hW2:w2.ownsRow w.heap.size 162 7 (.slice (some ⟨g,0,none⟩) n c) n (q9 (us++vs.drop k)):=zc HWR.out hb
   have HB2:Hid (Below w.heap.size w w2):=HBR.out.trans (hb.mono HBR.out.size)
   have HS2:Hid (g<w2.heap.size):=Nat.lt_of_lt_of_le HGS.out hb.size
   have HPV2:Hid (∀ v ∈ us,Pvt w2 v∧∀ ad:Addr,v.m≠0→v.ao=some ad→g<ad.block):=fun u hu=>⟨(HPV.out u hu).1.below hb,(HPV.out u hu).2⟩
   have c3:w2.cell? ⟨g,k*7+2,none⟩=some (.slice v.ao v.m v.cap):=q8 c2 hb
   have f3:=hW2.frozenAt (k*7+2)
   have HST:Hid ((w2.setCell ⟨g,k*7+2,none⟩ (.slice a' v.m c')).ownsRow w.heap.size 162 7 (.slice (some ⟨g,0,none⟩) n c) n (q9 ((us++[{ v with ao:=a',m:=v.m,cap:=c' }])++vs.drop (k+1)))):=by
    have h:=(hW2.stored (k*7+2) (.slice a' v.m c')).1
    rw[q1v _ _ HH2.out,HGM.out,HSET.out] at h
    exact h
   have HK2:Hid (Kept w2 (w2.setCell ⟨g,k*7+2,none⟩ (.slice a' v.m c')) [g]):=xj _ _ _ _ _ (by simp)
   have HB3:Hid (Below w.heap.size w (w2.setCell ⟨g,k*7+2,none⟩ (.slice a' v.m c'))):=HB2.out.setCell HGL.out _
   clear hox hb hr' hlo' hW2 c2
   go_wp2
   go_roundw
   case rel =>
    refine ⟨k+1,us++[{ v with ao:=a',m:=v.m,cap:=c' }],by omega,by go_num,by rw[List.length_append,HUL.out];rfl,by rw[List.map_append,HUP.out,HTK.out];rfl,HST.out,fun u hu=>?_,HB3.out,by rw[World.size_setCell];exact HS2.out⟩
    rcases List.mem_append.1 hu with hu | hu
    ·exact ⟨(HPV2.out u hu).1.kept HK2.out (fun ad h1 h2 hx=>by have:=(HPV2.out u hu).2 ad h1 h2;simp at hx;omega),(HPV2.out u hu).2⟩
    ·rw[List.mem_singleton] at hu
     subst hu
     exact ⟨⟨HD.out.kept HK2.out (fun ad _ h2 hx=>by have:=HLO.out ad h2;simp at hx;omega),HPt.out.fit⟩,fun ad _ h2=>HLO.out ad h2⟩
   case measure=>simp[intOf];omega
  ·obtain rfl:k=n:=by omega
   have hd:vs.drop k=[]:=List.drop_eq_nil_of_le (by rw[HN.out];exact Nat.le_refl _)
   have ht:vs.take k=vs:=List.take_of_length_le (by rw[HN.out];exact Nat.le_refl _)
   have HF:Hid (OpsFrom w.heap.size wr (some ⟨g,0,none⟩) k c us):=by
    have h:=HWR.out
    rw[hd,List.append_nil] at h
    obtain ⟨a,c2,e,hr,-,-⟩:=xd h
    simp only[Value.slice.injEq] at e
    obtain ⟨rfl,_,rfl⟩:=e
    exact ⟨⟨hr,fun u hu=>(HPV.out u hu).1⟩,fun ad _ e=>by cases e;exact HGL.out,fun u hu ad h1 h2=>by have:=(HPV.out u hu).2 ad h1 h2;have:=HGL.out;omega⟩
   have HP:Hid (us.map PV.pt=vs.map PV.pt):=by show _=_;rw[HUP.out,ht]
   go_wp2
   go_ret
   exact ⟨⟨_,c,us,rfl,HF.out,HP.out⟩,HBR.out⟩
open Go.RowKit
theorem yq {W w' : World} (h:Below W.drew.heap.size W.drew w'):Below W.heap.size W w' := by
 have h1:Below W.heap.size W W.drew:=(Below.refl _ _).drew
 exact h1.trans (h.mono (by rw[World.size_drew];exact Nat.le_refl _))
open Go.RowKit
namespace Ac
def pn:List A→Nat
 | []=>0
 | some (.inr _) :: r=>pn r+1
 | some (.inl _) :: r=>pn r
 | none :: r=>pn r
theorem Right.snoc {o:List Pt} (h:Right o):∃ l c,acts o=l++[.keep c]:=by
 obtain ⟨o',p,e,hk⟩:=h.last
 obtain ⟨_,_,h1,_⟩:=keep_m4 (h.ok p (by rw[e];simp)) hk
 obtain ⟨m,hm⟩:∃ m:Nat,p.n.toNat=m+1:=⟨p.n.toNat - 1,by omega⟩
 refine ⟨acts o' ++ List.replicate m (A.keep (chOf p)),chOf p,?_⟩
 rw[e,jb,jn,List.append_assoc]
 congr 1
 unfold je
 rw[if_neg (by omega),if_pos hk,hm,List.replicate_succ']
theorem Right.need {o:List Pt} (h:Right o):Ac.need (acts o)=nd o∧leave (acts o)=lv o:=kn (q0j h.ok)
end Ac
open Go.RowKit
namespace Ac
theorem done_is {d:List It} {o:List Pt} (h:fitE d o=0):ap (acts o) d=some (done d o)∧Dc.check (done d o)=0∧(done d o).length=lv o:=by
 obtain ⟨hd,hr,hn,hl⟩:=fit_0 h
 obtain ⟨h1,h2,_⟩:=qbi hd hr hn hl
 unfold done
 rw[if_pos h]
 exact ⟨q97 hr hn,h1,h2⟩
end Ac
namespace Sv
theorem its_self (l:List It):Dc.same l l=true:=(q01 l l).2 rfl
end Sv
open Go.RowKit
theorem q9h {p:Ac.Pt} (h:Ac.err1 p=0):p.items.length≤80:=by
 obtain ⟨h0,hs⟩:=Ac.err1_0 h
 rcases Ac.err0_kind h0 with ⟨k,_⟩ | ⟨k,_⟩ | ⟨k,_⟩
 ·have:=congrArg Ac.Pt.items (Ac.same1_eq.1 hs)
  unfold Ac.usedP at this
  rw[if_pos k] at this
  rw[this]
  exact Nat.zero_le _
 ·exact (Ac.put_len h k).2.1
 ·have:=congrArg Ac.Pt.items (Ac.same1_eq.1 hs)
  unfold Ac.usedP at this
  rw[if_neg (by omega),if_neg (by omega)] at this
  rw[this]
  exact Nat.zero_le _
theorem q63 {w:World} {a:Option Addr} {n c:Nat} {vs:List PV} (h:Ops w a n c vs) (hk:Ac.chk (vs.map PV.pt)=0):0<n∧n≤40∧∀ u ∈ vs,u.m≤80:=by
 have hr:=Ac.chk_right.1 hk
 have hl:=h.len
 have hf:=hr.few
 rw[List.length_map,hl] at hf
 refine ⟨?_,hf,fun u hu=>?_⟩
 ·rcases Nat.eq_zero_or_pos n with h0 | h0
  ·have e:vs=[]:=List.length_eq_zero_iff.1 (hl.trans h0)
   rw[e] at hk
   exact absurd hk (by decide)
  ·exact h0
 ·have:=q9h (hr.ok _ (List.mem_map.2 ⟨u,hu,rfl⟩))
  rw[← (h.pts u hu).doc.len]
  exact this
open Go.RowKit
namespace Kl
structure Cl where
 rev:Int
 base:List It
 now:List It
 seq:Int
 sent:List Ac.Pt
 held:List Ac.Pt
 jo:Bool
def opE (d:List It) (o:List Ac.Pt):Int:=if o.length=0 then 0 else Ac.fitE d o
def opD (d:List It) (o:List Ac.Pt):List It:=if o.length=0 then d else Ac.done d o
def dnE (d:List It) (s h:List Ac.Pt):Int:=if opE d s=0 then opE (opD d s) h else opE d s
def dnD (d:List It) (s h:List Ac.Pt):List It:=opD (opD d s) h
def cliE (c:Cl):Int :=
 if c.rev<0∨60<c.rev∨c.seq<0∨10000<c.seq then 3 else if Dc.check c.base=0 then (if (0<c.held.length∧c.sent.length=0)∨(0<c.sent.length∧c.seq=0) then 4 else
  if dnE c.base c.sent c.held=0 then (if Dc.same c.now (dnD c.base c.sent c.held)=true then 0 else 4) else dnE c.base c.sent c.held) else Dc.check c.base
def same (a b:Cl):Bool:=(a.rev == b.rev)&&((a.seq == b.seq)&&((a.jo == b.jo)&&(Dc.same a.base b.base&&(Dc.same a.now b.now&&(Ac.sameO a.sent b.sent&&Ac.sameO a.held b.held)))))
def none:Cl:=⟨0,[],[],0,[],[],false⟩
def doE (c:Cl) (o:List Ac.Pt):Int:=if Ac.fitE c.now o=0 then (if c.sent.length=0 then (if c.seq=10000 then 2 else 0) else if c.held.length=0 then 0 else Ac.jonE c.held o) else Ac.fitE c.now o
def doC (c:Cl) (o:List Ac.Pt):Cl :=
 if c.sent.length=0 then ⟨c.rev,c.base,Ac.done c.now o,c.seq+1,o,c.held,c.jo⟩ else if c.held.length=0 then ⟨c.rev,c.base,Ac.done c.now o,c.seq,c.sent,o,c.jo⟩ else ⟨c.rev,c.base,Ac.done c.now o,c.seq,c.sent,Ac.jonX c.held o,c.jo⟩
def doS (c:Cl):Bool:=decide (c.sent.length=0)
def DoE (c:Cl) (o:List Ac.Pt):Int:=if cliE c=0 then doE c o else cliE c
def DoC (c:Cl) (o:List Ac.Pt):Cl:=if DoE c o=0 then doC c o else none
def DoS (c:Cl) (o:List Ac.Pt):Bool:=if DoE c o=0 then doS c else false
def gv (c:Cl):Cl:=⟨c.rev,c.base,c.base,c.seq,[],[],c.jo⟩
def adv (c:Cl) (o:List Ac.Pt):Cl:=⟨c.rev+1,Ac.done c.base o,c.now,c.seq,c.sent,c.held,c.jo⟩
def isOwn (c:Cl) (who:Int) (x:Sv.En):Bool:=(x.who == who)&&((x.seq == c.seq)&&decide (0<c.sent.length))
def canB (c:Cl) (o:List Ac.Pt):Bool:=decide (0<c.held.length)&&(decide (Ac.fitE (Ac.done c.base o) c.held=0)&&!decide (c.seq=10000))
def ownC (c:Cl) (o:List Ac.Pt):Cl:=if canB c o=true then ⟨c.rev+1,Ac.done c.base o,Ac.done (Ac.done c.base o) c.held,c.seq+1,c.held,[],c.jo⟩ else gv (adv c o)
def tE (o s:List Ac.Pt):Int:=if s.length=0 then 0 else Ac.trnE o s
def tX (o s:List Ac.Pt):List Ac.Pt:=if s.length=0 then o else Ac.trnX o s
def tY (o s:List Ac.Pt):List Ac.Pt:=if s.length=0 then s else Ac.trnY o s
def bhE (o s h:List Ac.Pt):Int:=if tE o s=0 then tE (tX o s) h else tE o s
def bhH (o s h:List Ac.Pt):List Ac.Pt:=tY (tX o s) h
def othC (c:Cl) (o:List Ac.Pt):Cl :=
 if Ac.fitE c.base o=0 then (if bhE o c.sent c.held=0 then (if dnE (Ac.done c.base o) (tY o c.sent) (bhH o c.sent c.held)=0 then ⟨c.rev+1,Ac.done c.base o,dnD (Ac.done c.base o) (tY o c.sent) (bhH o c.sent c.held),c.seq,tY o c.sent,bhH o c.sent c.held,c.jo⟩ else gv (adv c o)) else gv (adv c o)) else c
def heE (c:Cl) (who rev:Int) (x:Sv.En):Int:=if x.o.length=0 then 0 else if Ac.chk x.o=0 then (if rev≠c.rev+1∨c.rev=60 then 0 else if isOwn c who x=true then Ac.fitE c.base x.o else 0) else Ac.chk x.o
def heC (c:Cl) (who rev:Int) (x:Sv.En):Cl:=if x.o.length=0 then (if isOwn c who x=true then gv c else c) else if rev≠c.rev+1∨c.rev=60 then c else if isOwn c who x=true then ownC c x.o else othC c x.o
def heS (c:Cl) (who rev:Int) (x:Sv.En):Bool:=if x.o.length=0 then false else if rev≠c.rev+1∨c.rev=60 then false else if isOwn c who x=true then canB c x.o else false
def HearE (c:Cl) (who rev:Int) (x:Sv.En):Int:=if cliE c=0 then heE c who rev x else cliE c
def HearC (c:Cl) (who rev:Int) (x:Sv.En):Cl:=if HearE c who rev x=0 then heC c who rev x else none
def HearS (c:Cl) (who rev:Int) (x:Sv.En):Bool:=if HearE c who rev x=0 then heS c who rev x else false
end Kl
structure CV where
 rev:Int
 ba:Option Addr
 bn:Nat
 bc:Nat
 base:List It
 na:Option Addr
 nn:Nat
 nc:Nat
 now:List It
 seq:Int
 sa:Option Addr
 sn:Nat
 sc:Nat
 sent:List PV
 ha:Option Addr
 hn:Nat
 hc:Nat
 held:List PV
 jo:Bool
def CV.cl (c:CV):Kl.Cl:=⟨c.rev,c.base,c.now,c.seq,c.sent.map PV.pt,c.held.map PV.pt,c.jo⟩
def cvC (c:CV):List Value:=[.int .i64 c.rev,.slice c.ba c.bn c.bc,.slice c.na c.nn c.nc,.int .i64 c.seq,.slice c.sa c.sn c.sc,.slice c.ha c.hn c.hc,.bool c.jo]
def cvA (c:CV):Value:=.agg #[.int .i64 c.rev,.slice c.ba c.bn c.bc,.slice c.na c.nn c.nc,.int .i64 c.seq,.slice c.sa c.sn c.sc,.slice c.ha c.hn c.hc,.bool c.jo]
def cv0:CV:=⟨0,none,0,0,[],none,0,0,[],0,none,0,0,[],none,0,0,[],false⟩
structure Cli (w:World) (c:CV):Prop where
 base:Doc w c.ba c.bn c.bc c.base
 now:Doc w c.na c.nn c.nc c.now
 sent:Ops w c.sa c.sn c.sc c.sent
 held:Ops w c.ha c.hn c.hc c.held
theorem Cli.below {w w' : World} {c:CV} (h:Cli w c) (hb:Below w.heap.size w w'):Cli w' c:=⟨h.base.below hb,h.now.below hb,h.sent.below hb,h.held.below hb⟩
theorem Cli.nil (w:World):Cli w cv0:=⟨j8 w,j8 w,jy w,jy w⟩
def boxk (c:CV) (w:World):World:=w.alloc (.cells #[.int .i64 c.rev,.slice c.ba c.bn c.bc,.slice c.na c.nn c.nc,.int .i64 c.seq,.slice c.sa c.sn c.sc,.slice c.ha c.hn c.hc,.bool c.jo] 60)
theorem qe (c:CV) (w:World):Below w.heap.size w (boxk c w):=(Below.refl _ _).alloc (Nat.le_refl _) _
theorem zl (c:CV) (w:World):(boxk c w).heap.size=w.heap.size+1:=World.size_alloc ..
theorem qx (c:CV) (w:World):Blk (boxk c w) w.heap.size (cvC c) 60:=Blk.new w _ _
def noTx1:Value→Bool
 | .slice _ _ _=>true
 | .int .i64 _=>true
 | .bool _=>true
 | _=>false
def noTx (cs:List Value):Bool:=cs.all noTx1
theorem q13 {w:World} {g:Nat} {cs:List Value} {T:TypeId} (h:Blk w g cs T) (hn:noTx cs=true) {b o:Nat} {u:Value} (hu:w.cell? ⟨b,o,none⟩=some u) (h1:noTx1 u=false):b≠g:=by
 rintro rfl
 rw[h.cell o] at hu
 have:=List.all_eq_true.1 hn u (List.mem_of_getElem? hu)
 rw[h1] at this
 cases this
theorem Doc.offN {w:World} {a:Option Addr} {n c:Nat} {l:List It} {g:Nat} {cs:List Value} {T:TypeId} (h:Doc w a n c l) (hB:Blk w g cs T) (hn:noTx cs=true):∀ ad:Addr,n≠0→a=some ad→ad.block ∉ [g]:=fun ad h0 e hx=>by
 obtain ⟨b,off,e2,hA⟩:=h.lies h0
 rw[e] at e2
 cases e2
 exact q13 hB hn (hA.c 0 (by rw[h.len];omega)) rfl (List.mem_singleton.1 hx)
theorem Doc.keptN {w w' : World} {a:Option Addr} {n c:Nat} {l:List It} {g:Nat} {cs:List Value} {T:TypeId} (h:Doc w a n c l) (hB:Blk w g cs T) (hn:noTx cs=true) (hk:Kept w w' [g]):Doc w' a n c l:=h.kept hk (h.offN hB hn)
theorem Ops.keptN {w w' : World} {a:Option Addr} {n c:Nat} {vs:List PV} {g:Nat} {cs:List Value} {T:TypeId} (h:Ops w a n c vs) (hB:Blk w g cs T) (hn:noTx cs=true) (hk:Kept w w' [g]):Ops w' a n c vs :=
 h.kept hk (fun ad h0 e hx=>by
  obtain ⟨b,off,e2,hc⟩:=h.row.lies h0
  rw[e] at e2
  cases e2
  have hl2:=h.len
  match vs,hl2 with
  | [],hl2=>exact absurd hl2.symm h0
  | y :: vs,_=>exact q13 hB hn (hc 6 (.string y.link) rfl) rfl (List.mem_singleton.1 hx)) (fun v hv=>(h.pts v hv).doc.offN hB hn)
theorem q8q:∃ t,scells[0]?=some (.string t):=⟨_,rfl⟩
theorem Sch.keptN {w w' : World} {g:Nat} {cs:List Value} {T:TypeId} (h:Sch w) (hB:Blk w g cs T) (hn:noTx cs=true) (hk:Kept w w' [g]):Sch w' := by
 obtain ⟨t0,ht⟩:=q8q
 have hc:=(h.cell 0).trans ht
 obtain ⟨t,fr,hh⟩:=h
 have hne:8≠g:=q13 hB hn hc rfl
 exact ⟨t,fr,(hk.block _ (Array.getElem?_eq_some_iff.1 hh).1 (fun hx=>hne (List.mem_singleton.1 hx))).trans hh⟩
theorem Doc.keptK {w w' : World} {a:Option Addr} {n c:Nat} {l:List It} {g:Nat} {x:CV} {T:TypeId} (h:Doc w a n c l) (hB:Blk w g (cvC x) T) (hk:Kept w w' [g]):Doc w' a n c l:=h.keptN hB rfl hk
theorem Ops.keptK {w w' : World} {a:Option Addr} {n c:Nat} {vs:List PV} {g:Nat} {x:CV} {T:TypeId} (h:Ops w a n c vs) (hB:Blk w g (cvC x) T) (hk:Kept w w' [g]):Ops w' a n c vs:=h.keptN hB rfl hk
theorem Sch.keptK {w w' : World} {g:Nat} {x:CV} {T:TypeId} (h:Sch w) (hB:Blk w g (cvC x) T) (hk:Kept w w' [g]):Sch w' := h.keptN hB rfl hk
theorem Cli.keptK {w w' : World} {c:CV} {g:Nat} {x:CV} {T:TypeId} (h:Cli w c) (hB:Blk w g (cvC x) T) (hk:Kept w w' [g]):Cli w' c:=⟨h.base.keptK hB hk,h.now.keptK hB hk,h.sent.keptK hB hk,h.held.keptK hB hk⟩
structure KAt (w:World) (g:Nat) (c:CV):Prop where
 blk:Blk w g (cvC c) 60
 cli:Cli w c
theorem KAt.below {w w' : World} {g:Nat} {c:CV} (h:KAt w g c) (hb:Below w.heap.size w w'):KAt w' g c:=⟨(hb.block _ h.blk.lt).trans h.blk,h.cli.below hb⟩
theorem qh (w:World) (g j:Nat) (v:Value):Kept w (w.setCell ⟨g,j,none⟩ v) [g]:=xj _ _ _ _ _ (by simp)
theorem Kept.of_below {w w' : World} {S:List Nat} (h:Below w.heap.size w w'):Kept w w' S:=⟨h.os,h.tape,h.output,h.size,fun k hk _=>h.block k hk⟩
theorem Kept.low {w w' : World} {g:Nat} (h:Kept w w' [g]) (hg:g≤w.heap.size):Below g w w' := h.below hg (fun x hx=>by rw[List.mem_singleton.1 hx];exact Nat.le_refl _)
def CV.toRev (c:CV) (r:Int):CV:=⟨r,c.ba,c.bn,c.bc,c.base,c.na,c.nn,c.nc,c.now,c.seq,c.sa,c.sn,c.sc,c.sent,c.ha,c.hn,c.hc,c.held,c.jo⟩
theorem KAt.toRev {w:World} {g:Nat} {c:CV} (h:KAt w g c) (r:Int)  : KAt (w.setCell ⟨g,0,none⟩ (.int .i64 r)) g (c.toRev r) :=
 ⟨h.blk.set 0 _,h.cli.base.keptK h.blk (qh _ _ _ _),h.cli.now.keptK h.blk (qh _ _ _ _),h.cli.sent.keptK h.blk (qh _ _ _ _),h.cli.held.keptK h.blk (qh _ _ _ _)⟩
def CV.toSeq (c:CV) (r:Int):CV:=⟨c.rev,c.ba,c.bn,c.bc,c.base,c.na,c.nn,c.nc,c.now,r,c.sa,c.sn,c.sc,c.sent,c.ha,c.hn,c.hc,c.held,c.jo⟩
theorem KAt.toSeq {w:World} {g:Nat} {c:CV} (h:KAt w g c) (r:Int)  : KAt (w.setCell ⟨g,3,none⟩ (.int .i64 r)) g (c.toSeq r) :=
 ⟨h.blk.set 3 _,h.cli.base.keptK h.blk (qh _ _ _ _),h.cli.now.keptK h.blk (qh _ _ _ _),h.cli.sent.keptK h.blk (qh _ _ _ _),h.cli.held.keptK h.blk (qh _ _ _ _)⟩
def CV.toBase (c:CV) (a:Option Addr) (n cp:Nat) (l:List It):CV:=⟨c.rev,a,n,cp,l,c.na,c.nn,c.nc,c.now,c.seq,c.sa,c.sn,c.sc,c.sent,c.ha,c.hn,c.hc,c.held,c.jo⟩
theorem KAt.toBase {w:World} {g:Nat} {c:CV} (h:KAt w g c) (a:Option Addr) (n cp:Nat) (l:List It) (hd:Doc w a n cp l):KAt (w.setCell ⟨g,1,none⟩ (.slice a n cp)) g (c.toBase a n cp l) :=
 ⟨h.blk.set 1 _,hd.keptK h.blk (qh _ _ _ _),h.cli.now.keptK h.blk (qh _ _ _ _),h.cli.sent.keptK h.blk (qh _ _ _ _),h.cli.held.keptK h.blk (qh _ _ _ _)⟩
def CV.toNow (c:CV) (a:Option Addr) (n cp:Nat) (l:List It):CV:=⟨c.rev,c.ba,c.bn,c.bc,c.base,a,n,cp,l,c.seq,c.sa,c.sn,c.sc,c.sent,c.ha,c.hn,c.hc,c.held,c.jo⟩
theorem KAt.toNow {w:World} {g:Nat} {c:CV} (h:KAt w g c) (a:Option Addr) (n cp:Nat) (l:List It) (hd:Doc w a n cp l):KAt (w.setCell ⟨g,2,none⟩ (.slice a n cp)) g (c.toNow a n cp l) :=
 ⟨h.blk.set 2 _,h.cli.base.keptK h.blk (qh _ _ _ _),hd.keptK h.blk (qh _ _ _ _),h.cli.sent.keptK h.blk (qh _ _ _ _),h.cli.held.keptK h.blk (qh _ _ _ _)⟩
def CV.toSent (c:CV) (a:Option Addr) (n cp:Nat) (us:List PV):CV:=⟨c.rev,c.ba,c.bn,c.bc,c.base,c.na,c.nn,c.nc,c.now,c.seq,a,n,cp,us,c.ha,c.hn,c.hc,c.held,c.jo⟩
theorem KAt.toSent {w:World} {g:Nat} {c:CV} (h:KAt w g c) (a:Option Addr) (n cp:Nat) (us:List PV) (hd:Ops w a n cp us):KAt (w.setCell ⟨g,4,none⟩ (.slice a n cp)) g (c.toSent a n cp us) :=
 ⟨h.blk.set 4 _,h.cli.base.keptK h.blk (qh _ _ _ _),h.cli.now.keptK h.blk (qh _ _ _ _),hd.keptK h.blk (qh _ _ _ _),h.cli.held.keptK h.blk (qh _ _ _ _)⟩
def CV.toHeld (c:CV) (a:Option Addr) (n cp:Nat) (us:List PV):CV:=⟨c.rev,c.ba,c.bn,c.bc,c.base,c.na,c.nn,c.nc,c.now,c.seq,c.sa,c.sn,c.sc,c.sent,a,n,cp,us,c.jo⟩
theorem KAt.toHeld {w:World} {g:Nat} {c:CV} (h:KAt w g c) (a:Option Addr) (n cp:Nat) (us:List PV) (hd:Ops w a n cp us):KAt (w.setCell ⟨g,5,none⟩ (.slice a n cp)) g (c.toHeld a n cp us) :=
 ⟨h.blk.set 5 _,h.cli.base.keptK h.blk (qh _ _ _ _),h.cli.now.keptK h.blk (qh _ _ _ _),h.cli.sent.keptK h.blk (qh _ _ _ _),hd.keptK h.blk (qh _ _ _ _)⟩
theorem szCv (t:CV):(Tryz.prog.info? 60).map (·.size)=some (cvC t).toArray.size:=by
 have h:(Tryz.prog.info? 60).map (·.size)=some 7:=by kernel_rfl
 exact h
theorem q8v {fn:Func} {p:Tmp} {t:CV} {w:World} {g:Nat} (h:fn.results=#[.cell p 60]) (tmps:Array Value) (hp:tmps.getD p undef=.pointer (some ⟨g,0,none⟩)) (hB:Blk w g (cvC t) 60):(results fn tmps).run Tryz.prog w=.ok (cvA t) w :=
 results_cell_row h tmps w g 60 (cvC t).toArray (0,0) _ hp hB Tryz.underlying60 rfl (szCv t)
theorem q6v {fn:Func} {p u:Tmp} {t:CV} {c:Value} {w:World} {g:Nat} (h:fn.results=#[.cell p 60,.tmp u]) (tmps:Array Value) (hp:tmps.getD p undef=.pointer (some ⟨g,0,none⟩)) (hu:tmps.getD u undef=c) (hB:Blk w g (cvC t) 60):(results fn tmps).run Tryz.prog w=.ok (.tuple #[cvA t,c]) w:=by
 have hl:=run_loadVar_row (P:=Tryz.prog) w g 60 60 (cvC t).toArray (0,0) _ hB Tryz.underlying60 rfl (szCv t)
 rw[results_cell_tmp h,hp,hu]
 simp only[asAddr,Sem.run_pure,Result.andThen_ok,hl]
 rfl
def putK (w:World) (g:Nat) (t:CV):World:=((((((w.setCell ⟨g,0,none⟩ (.int .i64 t.rev)).setCell ⟨g,1,none⟩ (.slice t.ba t.bn t.bc)).setCell ⟨g,2,none⟩ (.slice t.na t.nn t.nc)).setCell ⟨g,3,none⟩ (.int .i64 t.seq)).setCell ⟨g,4,none⟩ (.slice t.sa t.sn t.sc)).setCell ⟨g,5,none⟩ (.slice t.ha t.hn t.hc)).setCell ⟨g,6,none⟩ (.bool t.jo)
theorem zo {w:World} {g:Nat} {x t:CV} (h:Blk w g (cvC x) 60):Blk (putK w g t) g (cvC t) 60:=((((((h.set 0 (.int .i64 t.rev)).set 1 (.slice t.ba t.bn t.bc)).set 2 (.slice t.na t.nn t.nc)).set 3 (.int .i64 t.seq)).set 4 (.slice t.sa t.sn t.sc)).set 5 (.slice t.ha t.hn t.hc)).set 6 (.bool t.jo)
theorem qq (w:World) (g:Nat) (t:CV):Kept w (putK w g t) [g]:=(((((((Kept.refl w [g]).setCell _ _ (.inl (by simp))).setCell _ _ (.inl (by simp))).setCell _ _ (.inl (by simp))).setCell _ _ (.inl (by simp))).setCell _ _ (.inl (by simp))).setCell _ _ (.inl (by simp))).setCell _ _ (.inl (by simp))
theorem KAt.put {w:World} {g:Nat} {x t:CV} (h:Blk w g (cvC x) 60) (ht:Cli w t):KAt (putK w g t) g t:=⟨zo h,ht.keptK h (qq w g t)⟩
namespace Kl
theorem q2p {d:List It} {o:List Ac.Pt} (h:o.length=0):opE d o=0∧opD d o=d:=⟨if_pos h,if_pos h⟩
theorem op_some {d:List It} {o:List Ac.Pt} (h:0<o.length):opE d o=Ac.fitE d o∧opD d o=Ac.done d o:=⟨if_neg (by omega),if_neg (by omega)⟩
theorem q6y {d:List It} {o:List Ac.Pt} (hc:Dc.check d=0) (h:opE d o=0):Dc.check (opD d o)=0:=by
 by_cases h0:o.length=0
 ·rw[(q2p h0).2];exact hc
 ·rw[(op_some (by omega)).1] at h
  rw[(op_some (by omega)).2]
  exact (Ac.done_is h).2.1
theorem dn_0 {d:List It} {s h:List Ac.Pt} (e:dnE d s h=0):opE d s=0∧opE (opD d s) h=0:=by
 unfold dnE at e
 by_cases g:opE d s=0
 ·rw[if_pos g] at e;exact ⟨g,e⟩
 ·rw[if_neg g] at e;exact absurd e g
theorem dn_of {d:List It} {s h:List Ac.Pt} (e1:opE d s=0) (e2:opE (opD d s) h=0):dnE d s h=0:=by
 unfold dnE
 rw[if_pos e1,e2]
structure Rc (c:Cl):Prop where
 lo:0≤c.rev
 hi:c.rev≤60
 qlo:0≤c.seq
 qhi:c.seq≤10000
 ck:Dc.check c.base=0
 hs:0<c.held.length→0<c.sent.length
 sq:0<c.sent.length→c.seq≠0
 e1:opE c.base c.sent=0
 e2:opE (opD c.base c.sent) c.held=0
 nw:c.now=opD (opD c.base c.sent) c.held
theorem cli_0 {c:Cl} (h:cliE c=0):Rc c:=by
 unfold cliE at h
 by_cases g1:c.rev<0∨60<c.rev∨c.seq<0∨10000<c.seq
 ·rw[if_pos g1] at h;cases h
 rw[if_neg g1] at h
 by_cases g2:Dc.check c.base=0
 ·rw[if_pos g2] at h
  by_cases g3:(0<c.held.length∧c.sent.length=0)∨(0<c.sent.length∧c.seq=0)
  ·rw[if_pos g3] at h;cases h
  rw[if_neg g3] at h
  by_cases g4:dnE c.base c.sent c.held=0
  ·rw[if_pos g4] at h
   by_cases g5:Dc.same c.now (dnD c.base c.sent c.held)=true
   ·obtain ⟨e1,e2⟩:=dn_0 g4
    exact ⟨by omega,by omega,by omega,by omega,g2,by omega,by omega,e1,e2,(q01 _ _).1 g5⟩
   ·rw[if_neg g5] at h;cases h
  ·rw[if_neg g4] at h;exact absurd h g4
 ·rw[if_neg g2] at h;exact absurd h g2
theorem Rc.now_ck {c:Cl} (h:Rc c):Dc.check c.now=0:=by
 rw[h.nw]
 exact q6y (q6y h.ck h.e1) h.e2
theorem Rc.held_none {c:Cl} (h:Rc c) (hs:c.sent.length=0):c.held.length=0:=by
 have:=h.hs
 omega
theorem bh_0 {o s h:List Ac.Pt} (e:bhE o s h=0):tE o s=0∧tE (tX o s) h=0:=by
 unfold bhE at e
 by_cases g:tE o s=0
 ·rw[if_pos g] at e;exact ⟨g,e⟩
 ·rw[if_neg g] at e;exact absurd e g
theorem same_self (c:Cl):same c c=true:=by simp[same,Sv.its_self,Ac.sameO_self]
end Kl
end Go.Proofs.YtbhcklkbckacpaaGreatDoor
