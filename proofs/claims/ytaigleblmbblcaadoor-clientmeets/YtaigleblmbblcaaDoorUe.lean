/-
  Package ot: of both as many items as both have left.
-/
import Derived.Test.YtaigleblmbblcaaDoorUd
import Derived.Test.YtaigleblmbblcaaDoorUq
namespace Go.Proofs.YtaigleblmbblcaaDoor
open Go.RowKit

theorem Ops.off {w0 : World} {ao : Option Addr} {n cap b : Nat} {v : PV} {t : List PV} (h : Ops w0 ao n cap (v :: t)) (hb : w0.heap.size ≤ b) : ∀ a, ao = some a → a.block ≠ b := by
  obtain ⟨pb, po, e, hs, _, _⟩ := h.head
  intro a ha
  rw [e] at ha
  cases ha
  have : pb < w0.heap.size := cell_lt hs.c0
  show pb ≠ b
  omega
theorem Ops.under {w w' : World} {ao : Option Addr} {n cap : Nat} {vs : List PV} (h : Ops w ao n cap vs) (hb : Below w.heap.size w w') : Ops w' ao n cap vs := h.below hb
set_option maxRecDepth 100000 in
set_option maxHeartbeats 3200000 in
theorem takeBoth_any (b : Nat) (r s : RV) (v : PV) (t : List PV) (v' : PV) (t' : List PV) (q : Nat) (w0 w : World) (hw : Below w0.heap.size w0 w) (hb0 : w0.heap.size ≤ b) (hB : Blk w b (prC r s) 75) (hO0 : Ops w0 r.ao r.n r.cap (v :: t)) (hO0' : Ops w0 s.ao s.n s.cap (v' :: t'))
    (hq : 1 ≤ q) (hl : ((r.g + q : Nat) : Int) ≤ lgV v) (hl' : ((s.g + q : Nat) : Int) ≤ lgV v') (hbd : lgV v ≤ 1000) (hbd' : lgV v' ≤ 1000) (hmin : min (lgV v - r.g) (lgV v' - s.g) = q) :
    Calls Tryd.prog 48 #[.pointer (some ⟨b, 0, none⟩)] w fun e w' => e = .returned (.agg #[.int .i64 (pieceV v r.g q).kind, .int .i64 (pieceV v r.g q).n, .slice (pieceV v r.g q).ao (pieceV v r.g q).m (pieceV v r.g q).cap, .int .i64 (pieceV v r.g q).set, .int .i64 (pieceV v r.g q).clr, .bool (pieceV v r.g q).goes, .string (pieceV v r.g q).link, .int .i64 (pieceV v' s.g q).kind, .int .i64 (pieceV v' s.g q).n, .slice (pieceV v' s.g q).ao (pieceV v' s.g q).m (pieceV v' s.g q).cap, .int .i64 (pieceV v' s.g q).set, .int .i64 (pieceV v' s.g q).clr, .bool (pieceV v' s.g q).goes, .string (pieceV v' s.g q).link]) ∧ Blk w' b (prC (r.next v t q) (s.next v' t' q)) 75 ∧ Kept w w' [b] := by
  have hfb := hO0.off hb0
  have hfb' := hO0'.off hb0
  have hO := hO0.under hw
  have hO' := hO0'.under hw
  have HLW : Hid (∀ w', Kept w w' [b] → Ops w' s.ao s.n s.cap (v' :: t')) := fun w' hk => hO0'.under (hw.trans (hk.below hw.size (fun x hx => by rw [List.mem_singleton.1 hx]; exact hb0)))
  have hblt := hB.lt
  have H1 : Hid (Below w.heap.size w (boxq pv0 pv0 w)) := boxq_below pv0 pv0 w
  have HR1 : Hid (Blk (boxq pv0 pv0 w) w.heap.size (ppC pv0 pv0) 93) := boxq_blk pv0 pv0 w
  have HB1 : Hid (Blk (boxq pv0 pv0 w) b (prC r s) 75) := hB.alloc _
  have HO : Hid (Ops w r.ao r.n r.cap (v :: t)) := hO
  have HO' : Hid (Ops w s.ao s.n s.cap (v' :: t')) := hO'
  have CL : Hid (∀ w', Blk w' b (prC r s) 75 → Ops w' r.ao r.n r.cap (v :: t) → Calls Tryd.prog 61 #[.pointer (some ⟨b, 0, none⟩)] w' fun e w'' => e = .returned (.int .i64 (lgV v - r.g)) ∧ Below w'.heap.size w' w'') := fun w' h1 h2 => left_any b 0 r.ao r.n r.cap v t r.g w' (h1.cell 0) (h1.cell 1) h2 (by omega) hbd
  have CL' : Hid (∀ w', Blk w' b (prC r s) 75 → Ops w' s.ao s.n s.cap (v' :: t') → Calls Tryd.prog 61 #[.pointer (some ⟨b, 2, none⟩)] w' fun e w'' => e = .returned (.int .i64 (lgV v' - s.g)) ∧ Below w'.heap.size w' w'') := fun w' h1 h2 => left_any b 2 s.ao s.n s.cap v' t' s.g w' (h1.cell 2) (h1.cell 3) h2 (by omega) hbd'
  have CT : Hid (∀ w', Blk w' b (prC r s) 75 → Ops w' r.ao r.n r.cap (v :: t) → Calls Tryd.prog 60 #[.pointer (some ⟨b, 0, none⟩), .int .i64 q] w' fun e w'' => e = .returned (.agg #[.int .i64 (pieceV v r.g q).kind, .int .i64 (pieceV v r.g q).n, .slice (pieceV v r.g q).ao (pieceV v r.g q).m (pieceV v r.g q).cap, .int .i64 (pieceV v r.g q).set, .int .i64 (pieceV v r.g q).clr, .bool (pieceV v r.g q).goes, .string (pieceV v r.g q).link]) ∧ Blk w'' b (prC (r.next v t q) s) 75 ∧ Kept w' w'' [b]) := fun w' h1 h2 => take0_any b r s v t q w' h1 h2 hfb hq hl hbd
  have CT' : Hid (∀ w' r', Blk w' b (prC r' s) 75 → Ops w' s.ao s.n s.cap (v' :: t') → Calls Tryd.prog 60 #[.pointer (some ⟨b, 2, none⟩), .int .i64 q] w' fun e w'' => e = .returned (.agg #[.int .i64 (pieceV v' s.g q).kind, .int .i64 (pieceV v' s.g q).n, .slice (pieceV v' s.g q).ao (pieceV v' s.g q).m (pieceV v' s.g q).cap, .int .i64 (pieceV v' s.g q).set, .int .i64 (pieceV v' s.g q).clr, .bool (pieceV v' s.g q).goes, .string (pieceV v' s.g q).link]) ∧ Blk w'' b (prC r' (s.next v' t' q)) 75 ∧ Kept w' w'' [b]) := fun w' r' h1 h2 => take2_any b r' s v' t' q w' h1 h2 hfb' hq hl' hbd'
  clear hB hO hO' hO0 hO0' hw hb0 hfb hl hbd hfb' hl' hbd' hq
  generalize pieceV v r.g q = u at *
  generalize pieceV v' s.g q = u' at *
  generalize r.next v t q = nx at *
  generalize s.next v' t' q = nx' at *
  generalize lgV v - r.g = L at *
  generalize lgV v' - s.g = L' at *
  go_enter Tryd.func48, Tryd.ntmps48
  go_upto_region 1 with fail
  change Code.wp Tryd.prog _ _ _ (boxq pv0 pv0 w)
  generalize boxq pv0 pv0 w = W at *
  go_region_with (first | (go_at_call 61; have hx := HB2; refine (CL'.out _ ?_ ?_).mono ?_; exact HB2; exact HO'.out.below H2; rintro e w2 ⟨rfl, hb⟩; have HB3 : Blk w2 b (prC r s) 75 := (hb.block _ HB2.lt).trans HB2; have H3 : Below w.heap.size w w2 := H2.trans (hb.mono H2.size); have HR3 : Blk w2 w.heap.size (ppC pv0 pv0) 93 := (hb.block _ HR2.lt).trans HR2; clear hb) | (go_at_call 61; refine (CL.out _ ?_ ?_).mono ?_; exact HB1.out; exact HO.out.below H1.out.drew; rintro e w1 ⟨rfl, hb⟩; have HB2 : Blk w1 b (prC r s) 75 := (hb.block _ HB1.out.lt).trans HB1.out; have H2 : Below w.heap.size w w1 := H1.out.drew.trans (hb.mono H1.out.size); have HR2 : Blk w1 w.heap.size (ppC pv0 pv0) 93 := (hb.block _ HR1.out.lt).trans HR1.out; clear hb))
  have HBX : Hid (Blk w2 b (prC r s) 75) := HB3
  have HX : Hid (Below w.heap.size w w2) := H3
  have HRX : Hid (Blk w2 w.heap.size (ppC pv0 pv0) 93) := HR3
  clear HB2 H2 HR2 HB3 H3 HR3 CL CL' hmin HB1 HR1 H1
  go_wp2_with fail
  go_region_with (first | (go_at_call 60; have hx := HB4; refine (CT'.out _ nx ?_ ?_).mono ?_; exact HB4; exact HO4; rintro e w4 ⟨rfl, HB5, hk⟩; have HR5 : Blk w4 w.heap.size (ppC pv0 pv0) 93 := hk.blk HR4 (by simp; omega); have HK5 : Kept w w4 [b] := HK4.trans hk; clear hk hx HB4 HR4 HK4 HO4; have z0 : w4.cell? ⟨w.heap.size, 0, none⟩ = some (.int .i64 0) := HR5.cell 0; have g0 := HR5.frozen 0; have z1 : w4.cell? ⟨w.heap.size, 1, none⟩ = some (.int .i64 0) := HR5.cell 1; have g1 := HR5.frozen 1; have z2 : w4.cell? ⟨w.heap.size, 2, none⟩ = some (.slice none 0 0) := HR5.cell 2; have g2 := HR5.frozen 2; have z3 : w4.cell? ⟨w.heap.size, 3, none⟩ = some (.int .i64 0) := HR5.cell 3; have g3 := HR5.frozen 3; have z4 : w4.cell? ⟨w.heap.size, 4, none⟩ = some (.int .i64 0) := HR5.cell 4; have g4 := HR5.frozen 4; have z5 : w4.cell? ⟨w.heap.size, 5, none⟩ = some (.bool false) := HR5.cell 5; have g5 := HR5.frozen 5; have z6 : w4.cell? ⟨w.heap.size, 6, none⟩ = some (.string ⟨#[]⟩) := HR5.cell 6; have g6 := HR5.frozen 6; have z7 : w4.cell? ⟨w.heap.size, 7, none⟩ = some (.int .i64 0) := HR5.cell 7; have g7 := HR5.frozen 7; have z8 : w4.cell? ⟨w.heap.size, 8, none⟩ = some (.int .i64 0) := HR5.cell 8; have g8 := HR5.frozen 8; have z9 : w4.cell? ⟨w.heap.size, 9, none⟩ = some (.slice none 0 0) := HR5.cell 9; have g9 := HR5.frozen 9; have z10 : w4.cell? ⟨w.heap.size, 10, none⟩ = some (.int .i64 0) := HR5.cell 10; have g10 := HR5.frozen 10; have z11 : w4.cell? ⟨w.heap.size, 11, none⟩ = some (.int .i64 0) := HR5.cell 11; have g11 := HR5.frozen 11; have z12 : w4.cell? ⟨w.heap.size, 12, none⟩ = some (.bool false) := HR5.cell 12; have g12 := HR5.frozen 12; have z13 : w4.cell? ⟨w.heap.size, 13, none⟩ = some (.string ⟨#[]⟩) := HR5.cell 13; have g13 := HR5.frozen 13) | (go_at_call 60; refine (CT.out _ ?_ ?_).mono ?_; exact HBX.out; exact HO.out.below HX.out.drew; rintro e w3 ⟨rfl, HB4, hk⟩; have HR4 : Blk w3 w.heap.size (ppC pv0 pv0) 93 := hk.blk HRX.out (by simp; omega); have HK4 : Kept w w3 [b] := ((kept_of_below HX.out.drew).mono (fun x hx => by cases hx)).trans hk; have HO4 : Ops w3 s.ao s.n s.cap (v' :: t') := HLW.out _ HK4; clear hk))
  have HB5 : Hid _ := HB5
  have HR5 : Hid _ := HR5
  have HK5 : Hid _ := HK5
  go_wp2
  change bodyPost Tryd.prog _ _ Exit.ret _ (putQ w4 w.heap.size u u')
  have hkq := putQ_kept w4 w.heap.size u u' [w.heap.size] (by simp)
  exact bodyPost_ret (ret_pp (u := u) (v := u') rfl _ rfl (putQ_blk HR5.out)) rfl ⟨rfl, hkq.blk HB5.out (by simp; omega), HK5.out.trans_new hkq (fun x hx => by rw [List.mem_singleton.1 hx]; exact .inr (Nat.le_refl _))⟩
end Go.Proofs.YtaigleblmbblcaaDoor
