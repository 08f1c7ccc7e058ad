/-
  Package ot: whether something is left, who is at a Put, a whole part taken.
-/
import Derived.Test.YtaigleblmbblcaaDoorM7
import Derived.Test.YtaigleblmbblcaaDoorUb2
namespace Go.Proofs.YtaigleblmbblcaaDoor
open Go.RowKit

set_option maxRecDepth 100000 in
set_option maxHeartbeats 1600000 in
theorem isLeft_any (b : Nat) (r s : RV) (w : World) (x : Bool) (hx : decide (0 < r.n) = x) (hB : Blk w b (prC r s) 75) :
    Calls Tryd.prog 44 #[.pointer (some ⟨b, 0, none⟩)] w fun e w' => e = .returned (.bool x) ∧ w' = w := by
  have b0 : w.cell? ⟨b, 0, none⟩ = some (.slice r.ao r.n r.cap) := hB.cell 0
  clear hB
  cases x
  · have hn : r.n = 0 := by simpa using hx
    rw [hn] at b0
    clear hx hn
    go_enter Tryd.func44, Tryd.ntmps44
    go_wp2
    go_ret
    exact ⟨rfl, rfl⟩
  · have hn : 0 < r.n := by simpa using hx
    have hn' : (0 : Int) < (r.n : Int) := by omega
    go_enter Tryd.func44, Tryd.ntmps44
    go_wp2
    go_ret
    exact ⟨rfl, rfl⟩

set_option maxRecDepth 100000 in
set_option maxHeartbeats 1600000 in
theorem putting_a (b : Nat) (r s : RV) (w : World) (hB : Blk w b (prC r s) 75) (hr : RV.ok w r) (hs : RV.ok w s) (h1 : atK r.vs 2 = true) :
    Calls Tryd.prog 45 #[.pointer (some ⟨b, 0, none⟩)] w fun e w' => e = .returned (.tuple #[.int .i64 0, .bool true]) ∧ w' = w := by
  have C0 := isAt_any b 0 r.ao r.n r.cap r.vs 2 w (hB.cell 0) hr
  have C1 := isAt_any b 2 s.ao s.n s.cap s.vs 2 w (hB.cell 2) hs
  rw [h1] at C0
  skip
  have C0 : Hid _ := C0
  have C1 : Hid _ := C1
  clear hB hr hs h1
  go_enter Tryd.func45, Tryd.ntmps45
  go_wp2_with fail
  refine wp_loop_rounds 3 ?_
  rw [rounds_succ]
  go_wp2_with fail
  refine Calls.mono C0.out ?_
  rintro e w1 ⟨rfl, rfl⟩
  go_wp2_with fail
  go_ret2
  exact ⟨rfl, rfl⟩

set_option maxRecDepth 100000 in
set_option maxHeartbeats 1600000 in
theorem putting_b (b : Nat) (r s : RV) (w : World) (hB : Blk w b (prC r s) 75) (hr : RV.ok w r) (hs : RV.ok w s) (h1 : atK r.vs 2 = false) (h2 : atK s.vs 2 = true) :
    Calls Tryd.prog 45 #[.pointer (some ⟨b, 0, none⟩)] w fun e w' => e = .returned (.tuple #[.int .i64 1, .bool true]) ∧ w' = w := by
  have C0 := isAt_any b 0 r.ao r.n r.cap r.vs 2 w (hB.cell 0) hr
  have C1 := isAt_any b 2 s.ao s.n s.cap s.vs 2 w (hB.cell 2) hs
  rw [h1] at C0
  rw [h2] at C1
  have C0 : Hid _ := C0
  have C1 : Hid _ := C1
  clear hB hr hs h1
  go_enter Tryd.func45, Tryd.ntmps45
  go_wp2_with fail
  refine wp_loop_rounds 3 ?_
  rw [rounds_succ]
  go_wp2_with fail
  refine Calls.mono C0.out ?_
  rintro e w1 ⟨rfl, rfl⟩
  go_wp2_with fail
  rw [rounds_succ]
  go_wp2_with fail
  refine Calls.mono C1.out ?_
  rintro e w1 ⟨rfl, rfl⟩
  go_wp2_with fail
  go_ret2
  exact ⟨rfl, rfl⟩

set_option maxRecDepth 100000 in
set_option maxHeartbeats 1600000 in
theorem putting_c (b : Nat) (r s : RV) (w : World) (hB : Blk w b (prC r s) 75) (hr : RV.ok w r) (hs : RV.ok w s) (h1 : atK r.vs 2 = false) (h2 : atK s.vs 2 = false) :
    Calls Tryd.prog 45 #[.pointer (some ⟨b, 0, none⟩)] w fun e w' => e = .returned (.tuple #[.int .i64 0, .bool false]) ∧ w' = w := by
  have C0 := isAt_any b 0 r.ao r.n r.cap r.vs 2 w (hB.cell 0) hr
  have C1 := isAt_any b 2 s.ao s.n s.cap s.vs 2 w (hB.cell 2) hs
  rw [h1] at C0
  rw [h2] at C1
  have C0 : Hid _ := C0
  have C1 : Hid _ := C1
  clear hB hr hs h1
  go_enter Tryd.func45, Tryd.ntmps45
  go_wp2_with fail
  refine wp_loop_rounds 3 ?_
  rw [rounds_succ]
  go_wp2_with fail
  refine Calls.mono C0.out ?_
  rintro e w1 ⟨rfl, rfl⟩
  go_wp2_with fail
  rw [rounds_succ]
  go_wp2_with fail
  refine Calls.mono C1.out ?_
  rintro e w1 ⟨rfl, rfl⟩
  go_wp2_with fail
  rw [rounds_succ]
  go_wp2
  go_ret2
  exact ⟨rfl, rfl⟩

set_option maxRecDepth 100000 in
set_option maxHeartbeats 1600000 in
theorem takePart0_any (b : Nat) (r s : RV) (v : PV) (t : List PV) (q : Nat) (w : World) (hB : Blk w b (prC r s) 75) (hO : Ops w r.ao r.n r.cap (v :: t)) (hfb : ∀ a, r.ao = some a → a.block ≠ b) (hq : 1 ≤ q) (hl : lgV v = ((r.g + q : Nat) : Int)) (hbd : lgV v ≤ 1000) :
    Calls Tryd.prog 46 #[.pointer (some ⟨b, 0, none⟩)] w fun e w' => e = .returned (.agg #[.int .i64 (pieceV v r.g q).kind, .int .i64 (pieceV v r.g q).n, .slice (pieceV v r.g q).ao (pieceV v r.g q).m (pieceV v r.g q).cap, .int .i64 (pieceV v r.g q).set, .int .i64 (pieceV v r.g q).clr, .bool (pieceV v r.g q).goes, .string (pieceV v r.g q).link]) ∧ Blk w' b (prC (r.next v t q) s) 75 ∧ Kept w w' [b] := by
  have hblt := hB.lt
  have H1 : Hid (Below w.heap.size w (boxp pv0 w)) := boxp_below pv0 w
  have HR1 : Hid (Blk (boxp pv0 w) w.heap.size (pvC pv0) 55) := boxp_blk pv0 w
  have HB1 : Hid (Blk (boxp pv0 w) b (prC r s) 75) := hB.alloc _
  have CL := left_any b 0 r.ao r.n r.cap v t r.g (boxp pv0 w) (HB1.out.cell 0) (HB1.out.cell 1) (hO.below H1.out) (by omega) hbd
  rw [hl, show ((r.g + q : Nat) : Int) - (r.g : Int) = (q : Int) by omega] at CL
  have CL : Hid _ := CL
  have HO : Hid (Ops w r.ao r.n r.cap (v :: t)) := hO
  have CT : Hid (∀ w', Blk w' b (prC r s) 75 → Ops w' r.ao r.n r.cap (v :: t) → Calls Tryd.prog 60 #[.pointer (some ⟨b, 0, none⟩), .int .i64 q] w' fun e w'' => e = .returned (.agg #[.int .i64 (pieceV v r.g q).kind, .int .i64 (pieceV v r.g q).n, .slice (pieceV v r.g q).ao (pieceV v r.g q).m (pieceV v r.g q).cap, .int .i64 (pieceV v r.g q).set, .int .i64 (pieceV v r.g q).clr, .bool (pieceV v r.g q).goes, .string (pieceV v r.g q).link]) ∧ Blk w'' b (prC (r.next v t q) s) 75 ∧ Kept w' w'' [b]) := fun w' h1 h2 => take0_any b r s v t q w' h1 h2 hfb hq (by omega) hbd
  clear hB hO hfb hl hbd hq
  generalize pieceV v r.g q = u at *
  generalize r.next v t q = nx at *
  go_enter Tryd.func46, Tryd.ntmps46
  go_upto_region 1 with fail
  change Code.wp Tryd.prog _ _ _ (boxp pv0 w)
  generalize boxp pv0 w = W at *
  go_wp2_with fail
  refine Calls.mono CL.out ?_
  rintro e w1 ⟨rfl, hb⟩
  have HB2 : Hid (Blk w1 b (prC r s) 75) := (hb.block _ HB1.out.lt).trans HB1.out
  have HR2 : Hid (Blk w1 w.heap.size (pvC pv0) 55) := (hb.block _ HR1.out.lt).trans HR1.out
  have H2 : Hid (Below w.heap.size w w1) := H1.out.trans (hb.mono H1.out.size)
  clear hb CL
  go_wp2_with fail
  refine (CT.out _ HB2.out (HO.out.below H2.out)).mono ?_
  rintro e w2 ⟨rfl, hb3, hk3⟩
  have HB3 : Hid (Blk w2 b (prC nx s) 75) := hb3
  have HR3 : Hid (Blk w2 w.heap.size (pvC pv0) 55) := hk3.blk HR2.out (by simp; omega)
  have HK : Hid (Kept w (putP w2 w.heap.size u) [b]) := (((kept_of_below H2.out).mono (fun x hx => by cases hx)).trans hk3).trans_new (putP_kept w2 w.heap.size u [w.heap.size] (by simp)) (fun x hx => by rw [List.mem_singleton.1 hx]; exact .inr (Nat.le_refl _))
  have HBF : Hid (Blk (putP w2 w.heap.size u) b (prC nx s) 75) := (putP_kept w2 w.heap.size u [w.heap.size] (by simp)).blk hb3 (by simp; omega)
  have r0 : w2.cell? ⟨w.heap.size, 0, none⟩ = some (.int .i64 0) := HR3.out.cell 0
  have g0 := HR3.out.frozen 0
  have r1 : w2.cell? ⟨w.heap.size, 1, none⟩ = some (.int .i64 0) := HR3.out.cell 1
  have g1 := HR3.out.frozen 1
  have r2 : w2.cell? ⟨w.heap.size, 2, none⟩ = some (.slice none 0 0) := HR3.out.cell 2
  have g2 := HR3.out.frozen 2
  have r3 : w2.cell? ⟨w.heap.size, 3, none⟩ = some (.int .i64 0) := HR3.out.cell 3
  have g3 := HR3.out.frozen 3
  have r4 : w2.cell? ⟨w.heap.size, 4, none⟩ = some (.int .i64 0) := HR3.out.cell 4
  have g4 := HR3.out.frozen 4
  have r5 : w2.cell? ⟨w.heap.size, 5, none⟩ = some (.bool false) := HR3.out.cell 5
  have g5 := HR3.out.frozen 5
  have r6 : w2.cell? ⟨w.heap.size, 6, none⟩ = some (.string ⟨#[]⟩) := HR3.out.cell 6
  have g6 := HR3.out.frozen 6
  clear hb3 hk3 CT
  go_wp2
  change bodyPost Tryd.prog _ _ Exit.ret _ (putP w2 w.heap.size u)
  exact bodyPost_ret (ret_part (k := u) rfl _ rfl (putP_blk HR3.out)) rfl ⟨rfl, HBF.out, HK.out⟩

set_option maxRecDepth 100000 in
set_option maxHeartbeats 1600000 in
theorem takePart2_any (b : Nat) (r s : RV) (v : PV) (t : List PV) (q : Nat) (w : World) (hB : Blk w b (prC r s) 75) (hO : Ops w s.ao s.n s.cap (v :: t)) (hfb : ∀ a, s.ao = some a → a.block ≠ b) (hq : 1 ≤ q) (hl : lgV v = ((s.g + q : Nat) : Int)) (hbd : lgV v ≤ 1000) :
    Calls Tryd.prog 46 #[.pointer (some ⟨b, 2, none⟩)] w fun e w' => e = .returned (.agg #[.int .i64 (pieceV v s.g q).kind, .int .i64 (pieceV v s.g q).n, .slice (pieceV v s.g q).ao (pieceV v s.g q).m (pieceV v s.g q).cap, .int .i64 (pieceV v s.g q).set, .int .i64 (pieceV v s.g q).clr, .bool (pieceV v s.g q).goes, .string (pieceV v s.g q).link]) ∧ Blk w' b (prC r (s.next v t q)) 75 ∧ Kept w w' [b] := by
  have hblt := hB.lt
  have H1 : Hid (Below w.heap.size w (boxp pv0 w)) := boxp_below pv0 w
  have HR1 : Hid (Blk (boxp pv0 w) w.heap.size (pvC pv0) 55) := boxp_blk pv0 w
  have HB1 : Hid (Blk (boxp pv0 w) b (prC r s) 75) := hB.alloc _
  have CL := left_any b 2 s.ao s.n s.cap v t s.g (boxp pv0 w) (HB1.out.cell 2) (HB1.out.cell 3) (hO.below H1.out) (by omega) hbd
  rw [hl, show ((s.g + q : Nat) : Int) - (s.g : Int) = (q : Int) by omega] at CL
  have CL : Hid _ := CL
  have HO : Hid (Ops w s.ao s.n s.cap (v :: t)) := hO
  have CT : Hid (∀ w', Blk w' b (prC r s) 75 → Ops w' s.ao s.n s.cap (v :: t) → Calls Tryd.prog 60 #[.pointer (some ⟨b, 2, none⟩), .int .i64 q] w' fun e w'' => e = .returned (.agg #[.int .i64 (pieceV v s.g q).kind, .int .i64 (pieceV v s.g q).n, .slice (pieceV v s.g q).ao (pieceV v s.g q).m (pieceV v s.g q).cap, .int .i64 (pieceV v s.g q).set, .int .i64 (pieceV v s.g q).clr, .bool (pieceV v s.g q).goes, .string (pieceV v s.g q).link]) ∧ Blk w'' b (prC r (s.next v t q)) 75 ∧ Kept w' w'' [b]) := fun w' h1 h2 => take2_any b r s v t q w' h1 h2 hfb hq (by omega) hbd
  clear hB hO hfb hl hbd hq
  generalize pieceV v s.g q = u at *
  generalize s.next v t q = nx at *
  go_enter Tryd.func46, Tryd.ntmps46
  go_upto_region 1 with fail
  change Code.wp Tryd.prog _ _ _ (boxp pv0 w)
  generalize boxp pv0 w = W at *
  go_wp2_with fail
  refine Calls.mono CL.out ?_
  rintro e w1 ⟨rfl, hb⟩
  have HB2 : Hid (Blk w1 b (prC r s) 75) := (hb.block _ HB1.out.lt).trans HB1.out
  have HR2 : Hid (Blk w1 w.heap.size (pvC pv0) 55) := (hb.block _ HR1.out.lt).trans HR1.out
  have H2 : Hid (Below w.heap.size w w1) := H1.out.trans (hb.mono H1.out.size)
  clear hb CL
  go_wp2_with fail
  refine (CT.out _ HB2.out (HO.out.below H2.out)).mono ?_
  rintro e w2 ⟨rfl, hb3, hk3⟩
  have HB3 : Hid (Blk w2 b (prC r nx) 75) := hb3
  have HR3 : Hid (Blk w2 w.heap.size (pvC pv0) 55) := hk3.blk HR2.out (by simp; omega)
  have HK : Hid (Kept w (putP w2 w.heap.size u) [b]) := (((kept_of_below H2.out).mono (fun x hx => by cases hx)).trans hk3).trans_new (putP_kept w2 w.heap.size u [w.heap.size] (by simp)) (fun x hx => by rw [List.mem_singleton.1 hx]; exact .inr (Nat.le_refl _))
  have HBF : Hid (Blk (putP w2 w.heap.size u) b (prC r nx) 75) := (putP_kept w2 w.heap.size u [w.heap.size] (by simp)).blk hb3 (by simp; omega)
  have r0 : w2.cell? ⟨w.heap.size, 0, none⟩ = some (.int .i64 0) := HR3.out.cell 0
  have g0 := HR3.out.frozen 0
  have r1 : w2.cell? ⟨w.heap.size, 1, none⟩ = some (.int .i64 0) := HR3.out.cell 1
  have g1 := HR3.out.frozen 1
  have r2 : w2.cell? ⟨w.heap.size, 2, none⟩ = some (.slice none 0 0) := HR3.out.cell 2
  have g2 := HR3.out.frozen 2
  have r3 : w2.cell? ⟨w.heap.size, 3, none⟩ = some (.int .i64 0) := HR3.out.cell 3
  have g3 := HR3.out.frozen 3
  have r4 : w2.cell? ⟨w.heap.size, 4, none⟩ = some (.int .i64 0) := HR3.out.cell 4
  have g4 := HR3.out.frozen 4
  have r5 : w2.cell? ⟨w.heap.size, 5, none⟩ = some (.bool false) := HR3.out.cell 5
  have g5 := HR3.out.frozen 5
  have r6 : w2.cell? ⟨w.heap.size, 6, none⟩ = some (.string ⟨#[]⟩) := HR3.out.cell 6
  have g6 := HR3.out.frozen 6
  clear hb3 hk3 CT
  go_wp2
  change bodyPost Tryd.prog _ _ Exit.ret _ (putP w2 w.heap.size u)
  exact bodyPost_ret (ret_part (k := u) rfl _ rfl (putP_blk HR3.out)) rfl ⟨rfl, HBF.out, HK.out⟩
end Go.Proofs.YtaigleblmbblcaaDoor
