/-
  Texts of this proof, one behind the other.
-/
import Derived.Test.YtbhcklkbckacpaaGreatDoorM7
import Derived.ChangeKeysEq
import Derived.Deep.RegionHeld3

/-
  Two parts in a block.
-/
namespace Go.Proofs.YtbhcklkbckacpaaGreatDoor
open Go.RowKit

def ppC (u v : PV) : List Value := [.int .i64 u.kind, .int .i64 u.n, .slice u.ao u.m u.cap, .int .i64 u.set, .int .i64 u.clr, .bool u.goes, .string u.link, .int .i64 v.kind, .int .i64 v.n, .slice v.ao v.m v.cap, .int .i64 v.set, .int .i64 v.clr, .bool v.goes, .string v.link]
def boxq (u v : PV) (w : World) : World := w.alloc (.cells #[.int .i64 u.kind, .int .i64 u.n, .slice u.ao u.m u.cap, .int .i64 u.set, .int .i64 u.clr, .bool u.goes, .string u.link, .int .i64 v.kind, .int .i64 v.n, .slice v.ao v.m v.cap, .int .i64 v.set, .int .i64 v.clr, .bool v.goes, .string v.link] 310)
theorem boxq_blk (u v : PV) (w : World) : Blk (boxq u v w) w.heap.size (ppC u v) 310 := Blk.new w _ _
theorem boxq_below (u v : PV) (w : World) : Below w.heap.size w (boxq u v w) := (Below.refl _ _).alloc (Nat.le_refl _) _
theorem boxq_size (u v : PV) (w : World) : (boxq u v w).heap.size = w.heap.size + 1 := World.size_alloc ..
theorem szPP (u v : PV) : (Tryz.prog.info? 310).map (·.size) = some (ppC u v).toArray.size := by
  have h : (Tryz.prog.info? 310).map (·.size) = some 14 := by kernel_rfl
  exact h
theorem ret_pp {fn : Func} {p : Tmp} {u v : PV} {w : World} {g : Nat} (h : fn.results = #[.cell p 310]) (tmps : Array Value) (hp : tmps.getD p undef = .pointer (some ⟨g, 0, none⟩)) (hB : Blk w g (ppC u v) 310) : (results fn tmps).run Tryz.prog w = .ok (.agg #[.int .i64 u.kind, .int .i64 u.n, .slice u.ao u.m u.cap, .int .i64 u.set, .int .i64 u.clr, .bool u.goes, .string u.link, .int .i64 v.kind, .int .i64 v.n, .slice v.ao v.m v.cap, .int .i64 v.set, .int .i64 v.clr, .bool v.goes, .string v.link]) w :=
  results_cell_row h tmps w g 310 (ppC u v).toArray (0, 0) _ hp hB Tryz.underlying310 rfl (szPP u v)
def putQ (w : World) (g : Nat) (u v : PV) : World := (((((((putP w g u).setCell ⟨g, 7, none⟩ (.int .i64 v.kind)).setCell ⟨g, 8, none⟩ (.int .i64 v.n)).setCell ⟨g, 9, none⟩ (.slice v.ao v.m v.cap)).setCell ⟨g, 10, none⟩ (.int .i64 v.set)).setCell ⟨g, 11, none⟩ (.int .i64 v.clr)).setCell ⟨g, 12, none⟩ (.bool v.goes)).setCell ⟨g, 13, none⟩ (.string v.link)
theorem putQ_blk {w : World} {g : Nat} {a b u v : PV} (h : Blk w g (ppC a b) 310) : Blk (putQ w g u v) g (ppC u v) 310 :=
  (((((((((((((h.set 0 (.int .i64 u.kind)).set 1 (.int .i64 u.n)).set 2 (.slice u.ao u.m u.cap)).set 3 (.int .i64 u.set)).set 4 (.int .i64 u.clr)).set 5 (.bool u.goes)).set 6 (.string u.link)).set 7 (.int .i64 v.kind)).set 8 (.int .i64 v.n)).set 9 (.slice v.ao v.m v.cap)).set 10 (.int .i64 v.set)).set 11 (.int .i64 v.clr)).set 12 (.bool v.goes)).set 13 (.string v.link)
theorem putQ_kept (w : World) (g : Nat) (u v : PV) (S : List Nat) (h : g ∈ S) : Kept w (putQ w g u v) S := by
  unfold putQ
  exact (((((((putP_kept w g u S h).setCell _ _ (.inl h)).setCell _ _ (.inl h)).setCell _ _ (.inl h)).setCell _ _ (.inl h)).setCell _ _ (.inl h)).setCell _ _ (.inl h)).setCell _ _ (.inl h)

end Go.Proofs.YtbhcklkbckacpaaGreatDoor

/-
  Package ot: of both as many items as both have left.
-/
namespace Go.Proofs.YtbhcklkbckacpaaGreatDoor
open Go.RowKit

theorem Ops.off {w0 : World} {ao : Option Addr} {n cap b : Nat} {v : PV} {t : List PV} (h : Ops w0 ao n cap (v :: t)) (hb : w0.heap.size ≤ b) : ∀ a, ao = some a → a.block ≠ b := by
  obtain ⟨pb, po, e, hs, _, _⟩ := h.head
  intro a ha
  rw [e] at ha
  cases ha
  have : pb < w0.heap.size := cell_lt hs.c0
  show pb ≠ b
  omega
theorem Ops.under {w w' : World} {ao : Option Addr} {n cap : Nat} {vs : List PV} (h : Ops w ao n cap vs) (hb : Below w.heap.size w w') : Ops w' ao n cap vs := h.below hb
set_option maxRecDepth 100000 in
set_option maxHeartbeats 3200000 in
theorem takeBoth_any (b : Nat) (r s : RV) (v : PV) (t : List PV) (v' : PV) (t' : List PV) (q : Nat) (w0 w : World) (hw : Below w0.heap.size w0 w) (hb0 : w0.heap.size ≤ b) (hB : Blk w b (prC r s) 272) (hO0 : Ops w0 r.ao r.n r.cap (v :: t)) (hO0' : Ops w0 s.ao s.n s.cap (v' :: t'))
    (hq : 1 ≤ q) (hl : ((r.g + q : Nat) : Int) ≤ lgV v) (hl' : ((s.g + q : Nat) : Int) ≤ lgV v') (hbd : lgV v ≤ 1000) (hbd' : lgV v' ≤ 1000) (hmin : min (lgV v - r.g) (lgV v' - s.g) = q) :
    Calls Tryz.prog 261 #[.pointer (some ⟨b, 0, none⟩)] w fun e w' => e = .returned (.agg #[.int .i64 (pieceV v r.g q).kind, .int .i64 (pieceV v r.g q).n, .slice (pieceV v r.g q).ao (pieceV v r.g q).m (pieceV v r.g q).cap, .int .i64 (pieceV v r.g q).set, .int .i64 (pieceV v r.g q).clr, .bool (pieceV v r.g q).goes, .string (pieceV v r.g q).link, .int .i64 (pieceV v' s.g q).kind, .int .i64 (pieceV v' s.g q).n, .slice (pieceV v' s.g q).ao (pieceV v' s.g q).m (pieceV v' s.g q).cap, .int .i64 (pieceV v' s.g q).set, .int .i64 (pieceV v' s.g q).clr, .bool (pieceV v' s.g q).goes, .string (pieceV v' s.g q).link]) ∧ Blk w' b (prC (r.next v t q) (s.next v' t' q)) 272 ∧ Kept w w' [b] := by
  have hfb := hO0.off hb0
  have hfb' := hO0'.off hb0
  have hO := hO0.under hw
  have hO' := hO0'.under hw
  have HLW : Hid (∀ w', Kept w w' [b] → Ops w' s.ao s.n s.cap (v' :: t')) := fun w' hk => hO0'.under (hw.trans (hk.below hw.size (fun x hx => by rw [List.mem_singleton.1 hx]; exact hb0)))
  have hblt := hB.lt
  have H1 : Hid (Below w.heap.size w (boxq pv0 pv0 w)) := boxq_below pv0 pv0 w
  have HR1 : Hid (Blk (boxq pv0 pv0 w) w.heap.size (ppC pv0 pv0) 310) := boxq_blk pv0 pv0 w
  have HB1 : Hid (Blk (boxq pv0 pv0 w) b (prC r s) 272) := hB.alloc _
  have HO : Hid (Ops w r.ao r.n r.cap (v :: t)) := hO
  have HO' : Hid (Ops w s.ao s.n s.cap (v' :: t')) := hO'
  have CL : Hid (∀ w', Blk w' b (prC r s) 272 → Ops w' r.ao r.n r.cap (v :: t) → Calls Tryz.prog 284 #[.pointer (some ⟨b, 0, none⟩)] w' fun e w'' => e = .returned (.int .i64 (lgV v - r.g)) ∧ Below w'.heap.size w' w'') := fun w' h1 h2 => left_any b 0 r.ao r.n r.cap v t r.g w' (h1.cell 0) (h1.cell 1) h2 (by omega) hbd
  have CL' : Hid (∀ w', Blk w' b (prC r s) 272 → Ops w' s.ao s.n s.cap (v' :: t') → Calls Tryz.prog 284 #[.pointer (some ⟨b, 2, none⟩)] w' fun e w'' => e = .returned (.int .i64 (lgV v' - s.g)) ∧ Below w'.heap.size w' w'') := fun w' h1 h2 => left_any b 2 s.ao s.n s.cap v' t' s.g w' (h1.cell 2) (h1.cell 3) h2 (by omega) hbd'
  have CT : Hid (∀ w', Blk w' b (prC r s) 272 → Ops w' r.ao r.n r.cap (v :: t) → Calls Tryz.prog 283 #[.pointer (some ⟨b, 0, none⟩), .int .i64 q] w' fun e w'' => e = .returned (.agg #[.int .i64 (pieceV v r.g q).kind, .int .i64 (pieceV v r.g q).n, .slice (pieceV v r.g q).ao (pieceV v r.g q).m (pieceV v r.g q).cap, .int .i64 (pieceV v r.g q).set, .int .i64 (pieceV v r.g q).clr, .bool (pieceV v r.g q).goes, .string (pieceV v r.g q).link]) ∧ Blk w'' b (prC (r.next v t q) s) 272 ∧ Kept w' w'' [b]) := fun w' h1 h2 => take0_any b r s v t q w' h1 h2 hfb hq hl hbd
  have CT' : Hid (∀ w' r', Blk w' b (prC r' s) 272 → Ops w' s.ao s.n s.cap (v' :: t') → Calls Tryz.prog 283 #[.pointer (some ⟨b, 2, none⟩), .int .i64 q] w' fun e w'' => e = .returned (.agg #[.int .i64 (pieceV v' s.g q).kind, .int .i64 (pieceV v' s.g q).n, .slice (pieceV v' s.g q).ao (pieceV v' s.g q).m (pieceV v' s.g q).cap, .int .i64 (pieceV v' s.g q).set, .int .i64 (pieceV v' s.g q).clr, .bool (pieceV v' s.g q).goes, .string (pieceV v' s.g q).link]) ∧ Blk w'' b (prC r' (s.next v' t' q)) 272 ∧ Kept w' w'' [b]) := fun w' r' h1 h2 => take2_any b r' s v' t' q w' h1 h2 hfb' hq hl' hbd'
  clear hB hO hO' hO0 hO0' hw hb0 hfb hl hbd hfb' hl' hbd' hq
  generalize pieceV v r.g q = u at *
  generalize pieceV v' s.g q = u' at *
  generalize r.next v t q = nx at *
  generalize s.next v' t' q = nx' at *
  generalize lgV v - r.g = L at *
  generalize lgV v' - s.g = L' at *
  go_enter Tryz.func261, Tryz.ntmps261
  go_upto_region 1 with fail
  change Code.wp Tryz.prog _ _ _ (boxq pv0 pv0 w)
  generalize boxq pv0 pv0 w = W at *
  go_region_with (first | (go_at_call 284; have hx := HB2; refine (CL'.out _ ?_ ?_).mono ?_; exact HB2; exact HO'.out.below H2; rintro e w2 ⟨rfl, hb⟩; have HB3 : Blk w2 b (prC r s) 272 := (hb.block _ HB2.lt).trans HB2; have H3 : Below w.heap.size w w2 := H2.trans (hb.mono H2.size); have HR3 : Blk w2 w.heap.size (ppC pv0 pv0) 310 := (hb.block _ HR2.lt).trans HR2; clear hb) | (go_at_call 284; refine (CL.out _ ?_ ?_).mono ?_; exact HB1.out; exact HO.out.below H1.out.drew; rintro e w1 ⟨rfl, hb⟩; have HB2 : Blk w1 b (prC r s) 272 := (hb.block _ HB1.out.lt).trans HB1.out; have H2 : Below w.heap.size w w1 := H1.out.drew.trans (hb.mono H1.out.size); have HR2 : Blk w1 w.heap.size (ppC pv0 pv0) 310 := (hb.block _ HR1.out.lt).trans HR1.out; clear hb))
  have HBX : Hid (Blk w2 b (prC r s) 272) := HB3
  have HX : Hid (Below w.heap.size w w2) := H3
  have HRX : Hid (Blk w2 w.heap.size (ppC pv0 pv0) 310) := HR3
  clear HB2 H2 HR2 HB3 H3 HR3 CL CL' hmin HB1 HR1 H1
  go_wp2_with fail
  go_region_with (first | (go_at_call 283; have hx := HB4; refine (CT'.out _ nx ?_ ?_).mono ?_; exact HB4; exact HO4; rintro e w4 ⟨rfl, HB5, hk⟩; have HR5 : Blk w4 w.heap.size (ppC pv0 pv0) 310 := hk.blk HR4 (by simp; omega); have HK5 : Kept w w4 [b] := HK4.trans hk; clear hk hx HB4 HR4 HK4 HO4; have z0 : w4.cell? ⟨w.heap.size, 0, none⟩ = some (.int .i64 0) := HR5.cell 0; have g0 := HR5.frozen 0; have z1 : w4.cell? ⟨w.heap.size, 1, none⟩ = some (.int .i64 0) := HR5.cell 1; have g1 := HR5.frozen 1; have z2 : w4.cell? ⟨w.heap.size, 2, none⟩ = some (.slice none 0 0) := HR5.cell 2; have g2 := HR5.frozen 2; have z3 : w4.cell? ⟨w.heap.size, 3, none⟩ = some (.int .i64 0) := HR5.cell 3; have g3 := HR5.frozen 3; have z4 : w4.cell? ⟨w.heap.size, 4, none⟩ = some (.int .i64 0) := HR5.cell 4; have g4 := HR5.frozen 4; have z5 : w4.cell? ⟨w.heap.size, 5, none⟩ = some (.bool false) := HR5.cell 5; have g5 := HR5.frozen 5; have z6 : w4.cell? ⟨w.heap.size, 6, none⟩ = some (.string ⟨#[]⟩) := HR5.cell 6; have g6 := HR5.frozen 6; have z7 : w4.cell? ⟨w.heap.size, 7, none⟩ = some (.int .i64 0) := HR5.cell 7; have g7 := HR5.frozen 7; have z8 : w4.cell? ⟨w.heap.size, 8, none⟩ = some (.int .i64 0) := HR5.cell 8; have g8 := HR5.frozen 8; have z9 : w4.cell? ⟨w.heap.size, 9, none⟩ = some (.slice none 0 0) := HR5.cell 9; have g9 := HR5.frozen 9; have z10 : w4.cell? ⟨w.heap.size, 10, none⟩ = some (.int .i64 0) := HR5.cell 10; have g10 := HR5.frozen 10; have z11 : w4.cell? ⟨w.heap.size, 11, none⟩ = some (.int .i64 0) := HR5.cell 11; have g11 := HR5.frozen 11; have z12 : w4.cell? ⟨w.heap.size, 12, none⟩ = some (.bool false) := HR5.cell 12; have g12 := HR5.frozen 12; have z13 : w4.cell? ⟨w.heap.size, 13, none⟩ = some (.string ⟨#[]⟩) := HR5.cell 13; have g13 := HR5.frozen 13) | (go_at_call 283; refine (CT.out _ ?_ ?_).mono ?_; exact HBX.out; exact HO.out.below HX.out.drew; rintro e w3 ⟨rfl, HB4, hk⟩; have HR4 : Blk w3 w.heap.size (ppC pv0 pv0) 310 := hk.blk HRX.out (by simp; omega); have HK4 : Kept w w3 [b] := ((kept_of_below HX.out.drew).mono (fun x hx => by cases hx)).trans hk; have HO4 : Ops w3 s.ao s.n s.cap (v' :: t') := HLW.out _ HK4; clear hk))
  have HB5 : Hid _ := HB5
  have HR5 : Hid _ := HR5
  have HK5 : Hid _ := HK5
  go_wp2
  change bodyPost Tryz.prog _ _ Exit.ret _ (putQ w4 w.heap.size u u')
  have hkq := putQ_kept w4 w.heap.size u u' [w.heap.size] (by simp)
  exact bodyPost_ret (ret_pp (u := u) (v := u') rfl _ rfl (putQ_blk HR5.out)) rfl ⟨rfl, hkq.blk HB5.out (by simp; omega), HK5.out.trans_new hkq (fun x hx => by rw [List.mem_singleton.1 hx]; exact .inr (Nat.le_refl _))⟩
end Go.Proofs.YtbhcklkbckacpaaGreatDoor

/-
  Package ot: what is left to do of each of two parts for the same items, once the other one is done.
-/
namespace Go.Proofs.YtbhcklkbckacpaaGreatDoor
open Go.RowKit

theorem guardK : Tryz.prog.eqGuardType Tryz.prog.depth 339 = false := by kernel_rfl
theorem infoK : ∃ i, Tryz.prog.info? 3 = some i := by
  have h : (Tryz.prog.info? 3).isSome = true := by kernel_rfl
  exact Option.isSome_iff_exists.1 h
theorem cellsK : Tryz.prog.cellsOf 3 = 1 := by kernel_rfl
theorem eql_kinds (a b c d : Int) (w : World) : (binOp .eql 339 (.agg #[.int .i64 a, .int .i64 b]) (.agg #[.int .i64 c, .int .i64 d])).run Tryz.prog w = .ok (.bool ((a == c) && (b == d))) w := by
  obtain ⟨i, hi⟩ := infoK
  have hu := Tryz.underlying339
  have hv := Tryz.underlying3
  rw [run_eql_struct, run_equalIn_array w 9999 _ _ hu hi, cellsK]
  simp [Op.eqItems, List.range, List.range.loop, go_sem, hv, part]
  by_cases h1 : a = c <;> by_cases h2 : b = d <;> simp [h1, h2]
def box0 (w : World) : World := w.alloc (.cells #[] 162)
theorem box0_below (w : World) : Below w.heap.size w (box0 w) := (Below.refl _ _).alloc (Nat.le_refl _) _
theorem box0_size (w : World) : (box0 w).heap.size = w.heap.size + 1 := World.size_alloc ..
def Fresh (w : World) (ao : Option Addr) (n : Nat) : Prop := ∀ a, n ≠ 0 → ao = some a → w.heap.size ≤ a.block
theorem fresh_zero (w : World) (ao : Option Addr) : Fresh w ao 0 := fun _ h _ => absurd rfl h
theorem fresh_some {w : World} {g n : Nat} (h : w.heap.size ≤ g) : Fresh w (some ⟨g, 0, none⟩) n := fun a _ e => by cases e; exact h
theorem Row.kept {w w' : World} {ao : Option Addr} {n cap sz : Nat} {cs : List Value} {S : List Nat} (h : Row w ao n cap sz cs) (hs : 0 < sz) (hk : Kept w w' S) (hn : ∀ a, n ≠ 0 → ao = some a → a.block ∉ S) : Row w' ao n cap sz cs :=
  ⟨h.len, h.room, h.big, fun hm => by
    obtain ⟨b, off, e, hc⟩ := h.lies hm
    have hl : 0 < cs.length := by rw [h.len]; exact Nat.mul_pos (Nat.pos_of_ne_zero hm) hs
    have h0 := hc 0 cs[0] (List.getElem?_eq_getElem hl)
    have he := hk.block b (cell_lt h0) (hn _ hm e)
    exact ⟨b, off, e, fun j u hu => (World.cell?_of_block (w := w) he).trans (hc j u hu)⟩⟩
def boxo (w : World) : World := w.alloc (.cells #[.slice none 0 0, .slice none 0 0] 133)
def behXV (p q : PV) : List PV := if q.kind = 1 then [p] else []
def behYV (p q : PV) : List PV := if p.kind = 1 then (if q.kind = 1 then [yieldV q p] else [q]) else []
theorem ops_one {w : World} {v : PV} (h : Pvt w v) : Ops (boxp v w) (some ⟨w.heap.size, 0, none⟩) 1 1 [v] := by
  have hB := boxp_blk v w
  refine ⟨⟨rfl, Nat.le_refl _, by decide, fun _ => ⟨_, 0, rfl, fun j u hu => ?_⟩⟩, fun u hu => ?_⟩
  · rw [Nat.zero_add]
    rw [pvCells_one] at hu
    exact (hB.cell j).trans hu
  · rw [List.mem_singleton.1 hu]
    exact h.below (boxp_below v w)
theorem boxo_blk (w : World) : Blk (boxo w) w.heap.size [.slice none 0 0, .slice none 0 0] 133 := Blk.new w _ _
theorem boxo_below (w : World) : Below w.heap.size w (boxo w) := (Below.refl _ _).alloc (Nat.le_refl _) _
theorem pp_cells {w : World} {b : Nat} {p q : PV} (h : Blk w b (ppC p q) 310) : w.cell? ⟨b, 0, none⟩ = some (.int .i64 p.kind) ∧ w.cell? ⟨b, 1, none⟩ = some (.int .i64 p.n) ∧ w.cell? ⟨b, 2, none⟩ = some (.slice p.ao p.m p.cap) ∧ w.cell? ⟨b, 3, none⟩ = some (.int .i64 p.set) ∧ w.cell? ⟨b, 4, none⟩ = some (.int .i64 p.clr) ∧ w.cell? ⟨b, 5, none⟩ = some (.bool p.goes) ∧ w.cell? ⟨b, 6, none⟩ = some (.string p.link) ∧ w.cell? ⟨b, 7, none⟩ = some (.int .i64 q.kind) ∧ w.cell? ⟨b, 8, none⟩ = some (.int .i64 q.n) ∧ w.cell? ⟨b, 9, none⟩ = some (.slice q.ao q.m q.cap) ∧ w.cell? ⟨b, 10, none⟩ = some (.int .i64 q.set) ∧ w.cell? ⟨b, 11, none⟩ = some (.int .i64 q.clr) ∧ w.cell? ⟨b, 12, none⟩ = some (.bool q.goes) ∧ w.cell? ⟨b, 13, none⟩ = some (.string q.link) :=
  ⟨h.cell 0, h.cell 1, h.cell 2, h.cell 3, h.cell 4, h.cell 5, h.cell 6, h.cell 7, h.cell 8, h.cell 9, h.cell 10, h.cell 11, h.cell 12, h.cell 13⟩
structure Bq (w0 w : World) (p q : PV) (x y : Value) : Prop where
  pb : Blk w w0.heap.size (ppC p q) 310
  rb : Blk w (w0.heap.size + 1) [x, y] 133
  blw : Below w0.heap.size w0 w
theorem Bq.start (p q : PV) (w : World) : Bq w (boxo (boxq p q w)) p q (.slice none 0 0) (.slice none 0 0) := by
  refine ⟨(boxq_blk p q w).alloc _, ?_, (boxq_below p q w).trans ((boxo_below _).mono (by rw [boxq_size]; omega))⟩
  have := boxo_blk (boxq p q w)
  rw [boxq_size] at this
  exact this
theorem Bq.under {w0 w w' : World} {p q : PV} {x y : Value} (h : Bq w0 w p q x y) (hb : Below w.heap.size w w') : Bq w0 w' p q x y :=
  ⟨(hb.block _ h.pb.lt).trans h.pb, (hb.block _ h.rb.lt).trans h.rb, h.blw.trans (hb.mono h.blw.size)⟩

def set2 (w : World) (R : Nat) (x y : Value) : World := (w.setCell ⟨R, 0, none⟩ x).setCell ⟨R, 1, none⟩ y
theorem set2_size (w : World) (R : Nat) (x y : Value) : (set2 w R x y).heap.size = w.heap.size := by simp [set2]
theorem Bq.set2 {w0 w : World} {p q : PV} {x y : Value} (h : Bq w0 w p q x y) (x' y' : Value) : Bq w0 (set2 w (w0.heap.size + 1) x' y') p q x' y' :=
  ⟨(h.pb.other _ _ (by simp)).other _ _ (by simp), (h.rb.set 0 x').set 1 y', (h.blw.setCell (by simp) _).setCell (by simp) _⟩
theorem szO2 (x y : Value) : (Tryz.prog.info? 133).map (·.size) = some [x, y].toArray.size := by
  have h : (Tryz.prog.info? 133).map (·.size) = some 2 := by kernel_rfl
  exact h
theorem ret_oo {fn : Func} {p : Tmp} {x y : Value} {w : World} {g : Nat} (h : fn.results = #[.cell p 133]) (tmps : Array Value) (hp : tmps.getD p undef = .pointer (some ⟨g, 0, none⟩)) (hB : Blk w g [x, y] 133) : (results fn tmps).run Tryz.prog w = .ok (.agg #[x, y]) w :=
  results_cell_row h tmps w g 133 [x, y].toArray (0, 0) _ hp hB Tryz.underlying133 rfl (szO2 x y)
theorem ops_zero (w : World) (ao : Option Addr) : Ops w ao 0 0 [] := ⟨⟨rfl, Nat.le_refl _, by decide, fun h => absurd rfl h⟩, fun v hv => absurd hv (by simp)⟩
theorem yieldV_pvt {w : World} {q : PV} (h : Pvt w q) (p : PV) : Pvt w (yieldV q p) := ⟨h.doc, by show (if p.goes then (⟨#[]⟩ : ByteArray) else q.link).size ≤ _; split; exact Nat.zero_le _; exact h.fit⟩
theorem ops_blk {w : World} {g : Nat} {v : PV} (hB : Blk w g (pvC v) 162) (h : Pvt w v) : Ops w (some ⟨g, 0, none⟩) 1 1 [v] := by
  refine ⟨⟨rfl, Nat.le_refl _, by decide, fun _ => ⟨_, 0, rfl, fun j u hu => ?_⟩⟩, fun u hu => ?_⟩
  · rw [Nat.zero_add]
    rw [pvCells_one] at hu
    exact (hB.cell j).trans hu
  · rw [List.mem_singleton.1 hu]
    exact h
theorem Bq.two {w0 w : World} {p q : PV} {x y : Value} (h : Bq w0 w p q x y) (u v : PV) (x' y' : Value) (hu : Pvt w0 u) (hv : Pvt w0 v) :
    Bq w0 (boxp v (boxp u (Go.Proofs.YtbhcklkbckacpaaGreatDoor.set2 w (w0.heap.size + 1) x' y'))) p q x' y' ∧ Ops (boxp v (boxp u (Go.Proofs.YtbhcklkbckacpaaGreatDoor.set2 w (w0.heap.size + 1) x' y'))) (some ⟨w.heap.size, 0, none⟩) 1 1 [u] ∧ Ops (boxp v (boxp u (Go.Proofs.YtbhcklkbckacpaaGreatDoor.set2 w (w0.heap.size + 1) x' y'))) (some ⟨w.heap.size + 1, 0, none⟩) 1 1 [v] := by
  have h2 := h.set2 x' y'
  have hz := set2_size w (w0.heap.size + 1) x' y'
  have h3 := h2.under (boxp_below u _)
  have h4 := h3.under (boxp_below v _)
  have o1 := (ops_one (hu.below h2.blw)).below (boxp_below v (boxp u (Go.Proofs.YtbhcklkbckacpaaGreatDoor.set2 w (w0.heap.size + 1) x' y')))
  have o2 := ops_one (hv.below h3.blw)
  rw [hz] at o1
  rw [boxp_size, hz] at o2
  exact ⟨h4, o1, o2⟩
theorem Bq.one {w0 w : World} {p q : PV} {x y : Value} (h : Bq w0 w p q x y) (v : PV) (x' y' : Value) (hv : Pvt w0 v) :
    Bq w0 (boxp v (Go.Proofs.YtbhcklkbckacpaaGreatDoor.set2 w (w0.heap.size + 1) x' y')) p q x' y' ∧ Ops (boxp v (Go.Proofs.YtbhcklkbckacpaaGreatDoor.set2 w (w0.heap.size + 1) x' y')) (some ⟨w.heap.size, 0, none⟩) 1 1 [v] := by
  have h2 := h.set2 x' y'
  have o2 := ops_one (hv.below h2.blw)
  rw [set2_size] at o2
  exact ⟨h2.under (boxp_below v _), o2⟩

set_option maxRecDepth 100000 in
set_option maxHeartbeats 3200000 in
theorem beh_kk (pn : Int) (pao : Option Addr) (pm pcap : Nat) (pit : List It) (pst pcl : Int) (pgs : Bool) (plk : ByteArray) (qn : Int) (qao : Option Addr) (qm qcap : Nat) (qit : List It) (qst qcl : Int) (qgs : Bool) (qlk : ByteArray) (w : World)
    (hp : Pvt w ⟨1, pn, pao, pm, pcap, pit, pst, pcl, pgs, plk⟩) (hq : Pvt w ⟨1, qn, qao, qm, qcap, qit, qst, qcl, qgs, qlk⟩) (h1 : Ac.m4 pst) (h2 : Ac.m4 pcl) (h3 : Ac.m4 qst) (h4 : Ac.m4 qcl) :
    Calls Tryz.prog 260 #[.agg #[.int .i64 1, .int .i64 pn, .slice pao pm pcap, .int .i64 pst, .int .i64 pcl, .bool pgs, .string plk, .int .i64 1, .int .i64 qn, .slice qao qm qcap, .int .i64 qst, .int .i64 qcl, .bool qgs, .string qlk]] w fun e w' => (∃ g0 g1, e = .returned (.agg #[.slice (some ⟨g0, 0, none⟩) 1 1, .slice (some ⟨g1, 0, none⟩) 1 1]) ∧ Ops w' (some ⟨g0, 0, none⟩) 1 1 [⟨1, pn, pao, pm, pcap, pit, pst, pcl, pgs, plk⟩] ∧ Ops w' (some ⟨g1, 0, none⟩) 1 1 [yieldV ⟨1, qn, qao, qm, qcap, qit, qst, qcl, qgs, qlk⟩ ⟨1, pn, pao, pm, pcap, pit, pst, pcl, pgs, plk⟩] ∧ w.heap.size ≤ g0 ∧ w.heap.size ≤ g1) ∧ Below w.heap.size w w' := by
  have HT : Hid (Bq w (boxo (boxq ⟨1, pn, pao, pm, pcap, pit, pst, pcl, pgs, plk⟩ ⟨1, qn, qao, qm, qcap, qit, qst, qcl, qgs, qlk⟩ w)) ⟨1, pn, pao, pm, pcap, pit, pst, pcl, pgs, plk⟩ ⟨1, qn, qao, qm, qcap, qit, qst, qcl, qgs, qlk⟩ (.slice none 0 0) (.slice none 0 0)) := Bq.start _ _ w
  have CY : Hid (∀ w', Calls Tryz.prog 285 #[.agg #[.int .i64 1, .int .i64 qn, .slice qao qm qcap, .int .i64 qst, .int .i64 qcl, .bool qgs, .string qlk], .agg #[.int .i64 1, .int .i64 pn, .slice pao pm pcap, .int .i64 pst, .int .i64 pcl, .bool pgs, .string plk]] w' fun e w'' => e = .returned (.agg #[.int .i64 (yieldV ⟨1, qn, qao, qm, qcap, qit, qst, qcl, qgs, qlk⟩ ⟨1, pn, pao, pm, pcap, pit, pst, pcl, pgs, plk⟩).kind, .int .i64 (yieldV ⟨1, qn, qao, qm, qcap, qit, qst, qcl, qgs, qlk⟩ ⟨1, pn, pao, pm, pcap, pit, pst, pcl, pgs, plk⟩).n, .slice (yieldV ⟨1, qn, qao, qm, qcap, qit, qst, qcl, qgs, qlk⟩ ⟨1, pn, pao, pm, pcap, pit, pst, pcl, pgs, plk⟩).ao (yieldV ⟨1, qn, qao, qm, qcap, qit, qst, qcl, qgs, qlk⟩ ⟨1, pn, pao, pm, pcap, pit, pst, pcl, pgs, plk⟩).m (yieldV ⟨1, qn, qao, qm, qcap, qit, qst, qcl, qgs, qlk⟩ ⟨1, pn, pao, pm, pcap, pit, pst, pcl, pgs, plk⟩).cap, .int .i64 (yieldV ⟨1, qn, qao, qm, qcap, qit, qst, qcl, qgs, qlk⟩ ⟨1, pn, pao, pm, pcap, pit, pst, pcl, pgs, plk⟩).set, .int .i64 (yieldV ⟨1, qn, qao, qm, qcap, qit, qst, qcl, qgs, qlk⟩ ⟨1, pn, pao, pm, pcap, pit, pst, pcl, pgs, plk⟩).clr, .bool (yieldV ⟨1, qn, qao, qm, qcap, qit, qst, qcl, qgs, qlk⟩ ⟨1, pn, pao, pm, pcap, pit, pst, pcl, pgs, plk⟩).goes, .string (yieldV ⟨1, qn, qao, qm, qcap, qit, qst, qcl, qgs, qlk⟩ ⟨1, pn, pao, pm, pcap, pit, pst, pcl, pgs, plk⟩).link]) ∧ Below w'.heap.size w' w'') := fun w' => yield_any ⟨1, qn, qao, qm, qcap, qit, qst, qcl, qgs, qlk⟩ ⟨1, pn, pao, pm, pcap, pit, pst, pcl, pgs, plk⟩ w' h3 h4 h1 h2
  have HY : Hid (Pvt w (yieldV ⟨1, qn, qao, qm, qcap, qit, qst, qcl, qgs, qlk⟩ ⟨1, pn, pao, pm, pcap, pit, pst, pcl, pgs, plk⟩)) := yieldV_pvt hq _
  have HP : Hid (Pvt w ⟨1, pn, pao, pm, pcap, pit, pst, pcl, pgs, plk⟩) := hp
  have hek := eql_kinds 1 1 1 1
  have hgk := guardK
  clear hp hq h1 h2 h3 h4
  generalize yieldV ⟨1, qn, qao, qm, qcap, qit, qst, qcl, qgs, qlk⟩ ⟨1, pn, pao, pm, pcap, pit, pst, pcl, pgs, plk⟩ = y at *
  go_enter Tryz.func260, Tryz.ntmps260
  go_upto_region 1 with fail
  change Code.wp Tryz.prog _ _ _ (boxo (boxq ⟨1, pn, pao, pm, pcap, pit, pst, pcl, pgs, plk⟩ ⟨1, qn, qao, qm, qcap, qit, qst, qcl, qgs, qlk⟩ w))
  generalize boxo (boxq ⟨1, pn, pao, pm, pcap, pit, pst, pcl, pgs, plk⟩ ⟨1, qn, qao, qm, qcap, qit, qst, qcl, qgs, qlk⟩ w) = W at *
  have c0 : W.cell? ⟨w.heap.size, 0, none⟩ = some (.int .i64 1) := HT.out.pb.cell 0
  have c1 : W.cell? ⟨w.heap.size, 1, none⟩ = some (.int .i64 pn) := HT.out.pb.cell 1
  have c2 : W.cell? ⟨w.heap.size, 2, none⟩ = some (.slice pao pm pcap) := HT.out.pb.cell 2
  have c3 : W.cell? ⟨w.heap.size, 3, none⟩ = some (.int .i64 pst) := HT.out.pb.cell 3
  have c4 : W.cell? ⟨w.heap.size, 4, none⟩ = some (.int .i64 pcl) := HT.out.pb.cell 4
  have c5 : W.cell? ⟨w.heap.size, 5, none⟩ = some (.bool pgs) := HT.out.pb.cell 5
  have c6 : W.cell? ⟨w.heap.size, 6, none⟩ = some (.string plk) := HT.out.pb.cell 6
  have c7 : W.cell? ⟨w.heap.size, 7, none⟩ = some (.int .i64 1) := HT.out.pb.cell 7
  have c8 : W.cell? ⟨w.heap.size, 8, none⟩ = some (.int .i64 qn) := HT.out.pb.cell 8
  have c9 : W.cell? ⟨w.heap.size, 9, none⟩ = some (.slice qao qm qcap) := HT.out.pb.cell 9
  have c10 : W.cell? ⟨w.heap.size, 10, none⟩ = some (.int .i64 qst) := HT.out.pb.cell 10
  have c11 : W.cell? ⟨w.heap.size, 11, none⟩ = some (.int .i64 qcl) := HT.out.pb.cell 11
  have c12 : W.cell? ⟨w.heap.size, 12, none⟩ = some (.bool qgs) := HT.out.pb.cell 12
  have c13 : W.cell? ⟨w.heap.size, 13, none⟩ = some (.string qlk) := HT.out.pb.cell 13
  have r0 : W.cell? ⟨w.heap.size + 1, 0, none⟩ = some (.slice none 0 0) := HT.out.rb.cell 0
  have r1 : W.cell? ⟨w.heap.size + 1, 1, none⟩ = some (.slice none 0 0) := HT.out.rb.cell 1
  have f0 := HT.out.rb.frozen 0
  have f1 := HT.out.rb.frozen 1
  have hz : w.heap.size + 1 < W.heap.size := HT.out.rb.lt
  have hz0 : w.heap.size < W.heap.size := by omega
  go_upto_region 3 with fail
  go_region_held3 (fun w' => w'.cell? ⟨w.heap.size, 0, none⟩ = some (.int .i64 1) ∧ w'.cell? ⟨w.heap.size, 1, none⟩ = some (.int .i64 pn) ∧ w'.cell? ⟨w.heap.size, 2, none⟩ = some (.slice pao pm pcap) ∧ w'.cell? ⟨w.heap.size, 3, none⟩ = some (.int .i64 pst) ∧ w'.cell? ⟨w.heap.size, 4, none⟩ = some (.int .i64 pcl) ∧ w'.cell? ⟨w.heap.size, 5, none⟩ = some (.bool pgs) ∧ w'.cell? ⟨w.heap.size, 6, none⟩ = some (.string plk) ∧ w'.cell? ⟨w.heap.size, 7, none⟩ = some (.int .i64 1) ∧ w'.cell? ⟨w.heap.size, 8, none⟩ = some (.int .i64 qn) ∧ w'.cell? ⟨w.heap.size, 9, none⟩ = some (.slice qao qm qcap) ∧ w'.cell? ⟨w.heap.size, 10, none⟩ = some (.int .i64 qst) ∧ w'.cell? ⟨w.heap.size, 11, none⟩ = some (.int .i64 qcl) ∧ w'.cell? ⟨w.heap.size, 12, none⟩ = some (.bool qgs) ∧ w'.cell? ⟨w.heap.size, 13, none⟩ = some (.string qlk)) (first | go_keep | exact pp_cells ((((HT1.pb.other _ _ (by simp)).other _ _ (by simp)).alloc _).alloc _) | exact pp_cells (((HT1.pb.other _ _ (by simp)).other _ _ (by simp)).alloc _) | exact pp_cells ((HT1.pb.other _ _ (by simp)).other _ _ (by simp)) | exact pp_cells (HT1.pb.alloc _) | exact pp_cells ((HT1.pb.alloc _).alloc _) | exact ⟨d0, d1, d2, d3, d4, d5, d6, d7, d8, d9, d10, d11, d12, d13⟩ | exact ⟨c0, c1, c2, c3, c4, c5, c6, c7, c8, c9, c10, c11, c12, c13⟩) ((go_at_call 285; refine (CY.out _).mono ?_; rintro e w1 ⟨rfl, hb⟩; have HB1 : Below W.heap.size W w1 := (by first | exact (Below.refl W.heap.size W).drew.trans hb | exact ((Below.refl W.heap.size W).drew.alloc (Nat.le_refl _) _).trans (hb.mono (by simp))); have HT1 := HT.out.under HB1; have d0 : w1.cell? ⟨w.heap.size, 0, none⟩ = some (.int .i64 1) := HT1.pb.cell 0; have d1 : w1.cell? ⟨w.heap.size, 1, none⟩ = some (.int .i64 pn) := HT1.pb.cell 1; have d2 : w1.cell? ⟨w.heap.size, 2, none⟩ = some (.slice pao pm pcap) := HT1.pb.cell 2; have d3 : w1.cell? ⟨w.heap.size, 3, none⟩ = some (.int .i64 pst) := HT1.pb.cell 3; have d4 : w1.cell? ⟨w.heap.size, 4, none⟩ = some (.int .i64 pcl) := HT1.pb.cell 4; have d5 : w1.cell? ⟨w.heap.size, 5, none⟩ = some (.bool pgs) := HT1.pb.cell 5; have d6 : w1.cell? ⟨w.heap.size, 6, none⟩ = some (.string plk) := HT1.pb.cell 6; have d7 : w1.cell? ⟨w.heap.size, 7, none⟩ = some (.int .i64 1) := HT1.pb.cell 7; have d8 : w1.cell? ⟨w.heap.size, 8, none⟩ = some (.int .i64 qn) := HT1.pb.cell 8; have d9 : w1.cell? ⟨w.heap.size, 9, none⟩ = some (.slice qao qm qcap) := HT1.pb.cell 9; have d10 : w1.cell? ⟨w.heap.size, 10, none⟩ = some (.int .i64 qst) := HT1.pb.cell 10; have d11 : w1.cell? ⟨w.heap.size, 11, none⟩ = some (.int .i64 qcl) := HT1.pb.cell 11; have d12 : w1.cell? ⟨w.heap.size, 12, none⟩ = some (.bool qgs) := HT1.pb.cell 12; have d13 : w1.cell? ⟨w.heap.size, 13, none⟩ = some (.string qlk) := HT1.pb.cell 13; have s0 : w1.cell? ⟨w.heap.size + 1, 0, none⟩ = some (.slice none 0 0) := HT1.rb.cell 0; have s1 : w1.cell? ⟨w.heap.size + 1, 1, none⟩ = some (.slice none 0 0) := HT1.rb.cell 1; have t0 := HT1.rb.frozen 0; have t1 := HT1.rb.frozen 1; have hz2 : w.heap.size + 1 < w1.heap.size := HT1.rb.lt; have hz3 : w.heap.size < w1.heap.size := by omega))
  · obtain ⟨k1, k2⟩ := HT1.one y (.slice (some ⟨W.heap.size, 0, none⟩) 1 1) (.slice (some ⟨w1.heap.size, 0, none⟩) 1 1) HY.out
    have hB0 : Blk w1 W.heap.size (pvC ⟨1, pn, pao, pm, pcap, pit, pst, pcl, pgs, plk⟩) 162 := (hb.block _ (boxp_blk ⟨1, pn, pao, pm, pcap, pit, pst, pcl, pgs, plk⟩ W.drew).lt).trans (boxp_blk ⟨1, pn, pao, pm, pcap, pit, pst, pcl, pgs, plk⟩ W.drew)
    have k3 : Blk (boxp y (set2 w1 (w.heap.size + 1) (.slice (some ⟨W.heap.size, 0, none⟩) 1 1) (.slice (some ⟨w1.heap.size, 0, none⟩) 1 1))) W.heap.size (pvC ⟨1, pn, pao, pm, pcap, pit, pst, pcl, pgs, plk⟩) 162 := ((hB0.other ⟨w.heap.size + 1, 0, none⟩ (.slice (some ⟨W.heap.size, 0, none⟩) 1 1) (by simp; omega)).other ⟨w.heap.size + 1, 1, none⟩ (.slice (some ⟨w1.heap.size, 0, none⟩) 1 1) (by simp; omega)).alloc _
    clear hb HB1 HT1 hB0
    go_wp2
    change bodyPost Tryz.prog _ _ Exit.ret _ (boxp y (set2 w1 (w.heap.size + 1) (.slice (some ⟨W.heap.size, 0, none⟩) 1 1) (.slice (some ⟨w1.heap.size, 0, none⟩) 1 1)))
    exact bodyPost_ret (ret_oo rfl _ rfl k1.rb) rfl ⟨⟨_, _, rfl, ops_blk k3 (HP.out.below k1.blw), k2, by omega, by omega⟩, k1.blw⟩
  · obtain ⟨k1, k2, k3⟩ := HT1.two ⟨1, pn, pao, pm, pcap, pit, pst, pcl, pgs, plk⟩ y (.slice (some ⟨w1.heap.size, 0, none⟩) 1 1) (.slice (some ⟨w1.heap.size + 1, 0, none⟩) 1 1) HP.out HY.out
    clear hb HB1 HT1
    go_wp2
    change bodyPost Tryz.prog _ _ Exit.ret _ (boxp y (boxp ⟨1, pn, pao, pm, pcap, pit, pst, pcl, pgs, plk⟩ (set2 w1 (w.heap.size + 1) (.slice (some ⟨w1.heap.size, 0, none⟩) 1 1) (.slice (some ⟨w1.heap.size + 1, 0, none⟩) 1 1))))
    exact bodyPost_ret (ret_oo rfl _ rfl k1.rb) rfl ⟨⟨_, _, rfl, k2, k3, by omega, by omega⟩, k1.blw⟩
  · obtain ⟨k1, k2, k3⟩ := HT1.two y ⟨1, pn, pao, pm, pcap, pit, pst, pcl, pgs, plk⟩ (.slice (some ⟨w1.heap.size + 1, 0, none⟩) 1 1) (.slice (some ⟨w1.heap.size, 0, none⟩) 1 1) HY.out HP.out
    clear hb HB1 HT1
    go_wp2
    change bodyPost Tryz.prog _ _ Exit.ret _ (boxp ⟨1, pn, pao, pm, pcap, pit, pst, pcl, pgs, plk⟩ (boxp y (set2 w1 (w.heap.size + 1) (.slice (some ⟨w1.heap.size + 1, 0, none⟩) 1 1) (.slice (some ⟨w1.heap.size, 0, none⟩) 1 1))))
    exact bodyPost_ret (ret_oo rfl _ rfl k1.rb) rfl ⟨⟨_, _, rfl, k3, k2, by omega, by omega⟩, k1.blw⟩

set_option maxRecDepth 100000 in
set_option maxHeartbeats 3200000 in
theorem beh_kc (pn : Int) (pao : Option Addr) (pm pcap : Nat) (pit : List It) (pst pcl : Int) (pgs : Bool) (plk : ByteArray) (qn : Int) (qao : Option Addr) (qm qcap : Nat) (qit : List It) (qst qcl : Int) (qgs : Bool) (qlk : ByteArray) (w : World)
    (hq : Pvt w ⟨3, qn, qao, qm, qcap, qit, qst, qcl, qgs, qlk⟩) :
    Calls Tryz.prog 260 #[.agg #[.int .i64 1, .int .i64 pn, .slice pao pm pcap, .int .i64 pst, .int .i64 pcl, .bool pgs, .string plk, .int .i64 3, .int .i64 qn, .slice qao qm qcap, .int .i64 qst, .int .i64 qcl, .bool qgs, .string qlk]] w fun e w' => (∃ a0 g1, e = .returned (.agg #[.slice a0 0 0, .slice (some ⟨g1, 0, none⟩) 1 1]) ∧ Ops w' (some ⟨g1, 0, none⟩) 1 1 [⟨3, qn, qao, qm, qcap, qit, qst, qcl, qgs, qlk⟩] ∧ w.heap.size ≤ g1) ∧ Below w.heap.size w w' := by
  have HT : Hid (Bq w (boxo (boxq ⟨1, pn, pao, pm, pcap, pit, pst, pcl, pgs, plk⟩ ⟨3, qn, qao, qm, qcap, qit, qst, qcl, qgs, qlk⟩ w)) ⟨1, pn, pao, pm, pcap, pit, pst, pcl, pgs, plk⟩ ⟨3, qn, qao, qm, qcap, qit, qst, qcl, qgs, qlk⟩ (.slice none 0 0) (.slice none 0 0)) := Bq.start _ _ w
  have he1 := eql_kinds 1 3 1 1
  have he2 := eql_kinds 1 3 3 1
  have he3 := eql_kinds 1 3 1 3
  have hgk := guardK
  go_enter Tryz.func260, Tryz.ntmps260
  go_upto_region 1 with fail
  change Code.wp Tryz.prog _ _ _ (boxo (boxq ⟨1, pn, pao, pm, pcap, pit, pst, pcl, pgs, plk⟩ ⟨3, qn, qao, qm, qcap, qit, qst, qcl, qgs, qlk⟩ w))
  generalize boxo (boxq ⟨1, pn, pao, pm, pcap, pit, pst, pcl, pgs, plk⟩ ⟨3, qn, qao, qm, qcap, qit, qst, qcl, qgs, qlk⟩ w) = W at *
  have c0 : W.cell? ⟨w.heap.size, 0, none⟩ = some (.int .i64 1) := HT.out.pb.cell 0
  have c1 : W.cell? ⟨w.heap.size, 1, none⟩ = some (.int .i64 pn) := HT.out.pb.cell 1
  have c2 : W.cell? ⟨w.heap.size, 2, none⟩ = some (.slice pao pm pcap) := HT.out.pb.cell 2
  have c3 : W.cell? ⟨w.heap.size, 3, none⟩ = some (.int .i64 pst) := HT.out.pb.cell 3
  have c4 : W.cell? ⟨w.heap.size, 4, none⟩ = some (.int .i64 pcl) := HT.out.pb.cell 4
  have c5 : W.cell? ⟨w.heap.size, 5, none⟩ = some (.bool pgs) := HT.out.pb.cell 5
  have c6 : W.cell? ⟨w.heap.size, 6, none⟩ = some (.string plk) := HT.out.pb.cell 6
  have c7 : W.cell? ⟨w.heap.size, 7, none⟩ = some (.int .i64 3) := HT.out.pb.cell 7
  have c8 : W.cell? ⟨w.heap.size, 8, none⟩ = some (.int .i64 qn) := HT.out.pb.cell 8
  have c9 : W.cell? ⟨w.heap.size, 9, none⟩ = some (.slice qao qm qcap) := HT.out.pb.cell 9
  have c10 : W.cell? ⟨w.heap.size, 10, none⟩ = some (.int .i64 qst) := HT.out.pb.cell 10
  have c11 : W.cell? ⟨w.heap.size, 11, none⟩ = some (.int .i64 qcl) := HT.out.pb.cell 11
  have c12 : W.cell? ⟨w.heap.size, 12, none⟩ = some (.bool qgs) := HT.out.pb.cell 12
  have c13 : W.cell? ⟨w.heap.size, 13, none⟩ = some (.string qlk) := HT.out.pb.cell 13
  have r0 : W.cell? ⟨w.heap.size + 1, 0, none⟩ = some (.slice none 0 0) := HT.out.rb.cell 0
  have r1 : W.cell? ⟨w.heap.size + 1, 1, none⟩ = some (.slice none 0 0) := HT.out.rb.cell 1
  have f0 := HT.out.rb.frozen 0
  have f1 := HT.out.rb.frozen 1
  have hz : w.heap.size + 1 < W.heap.size := HT.out.rb.lt
  have hz0 : w.heap.size < W.heap.size := by omega
  go_wp2
  change bodyPost Tryz.prog _ _ Exit.ret _ (boxp ⟨3, qn, qao, qm, qcap, qit, qst, qcl, qgs, qlk⟩ (box0 (set2 W (w.heap.size + 1) (.slice (some ⟨W.heap.size, 0, none⟩) 0 0) (.slice (some ⟨W.heap.size + 1, 0, none⟩) 1 1))))
  have k1 := ((HT.out.set2 (.slice (some ⟨W.heap.size, 0, none⟩) 0 0) (.slice (some ⟨W.heap.size + 1, 0, none⟩) 1 1)).under (box0_below _)).under (boxp_below ⟨3, qn, qao, qm, qcap, qit, qst, qcl, qgs, qlk⟩ _)
  have k2 := boxp_blk ⟨3, qn, qao, qm, qcap, qit, qst, qcl, qgs, qlk⟩ (box0 (set2 W (w.heap.size + 1) (.slice (some ⟨W.heap.size, 0, none⟩) 0 0) (.slice (some ⟨W.heap.size + 1, 0, none⟩) 1 1)))
  rw [box0_size, set2_size] at k2
  exact bodyPost_ret (ret_oo rfl _ rfl k1.rb) rfl ⟨⟨_, _, rfl, ops_blk k2 (hq.below k1.blw), by omega⟩, k1.blw⟩

set_option maxRecDepth 100000 in
set_option maxHeartbeats 3200000 in
theorem beh_ck (pn : Int) (pao : Option Addr) (pm pcap : Nat) (pit : List It) (pst pcl : Int) (pgs : Bool) (plk : ByteArray) (qn : Int) (qao : Option Addr) (qm qcap : Nat) (qit : List It) (qst qcl : Int) (qgs : Bool) (qlk : ByteArray) (w : World)
    (hp : Pvt w ⟨3, pn, pao, pm, pcap, pit, pst, pcl, pgs, plk⟩) :
    Calls Tryz.prog 260 #[.agg #[.int .i64 3, .int .i64 pn, .slice pao pm pcap, .int .i64 pst, .int .i64 pcl, .bool pgs, .string plk, .int .i64 1, .int .i64 qn, .slice qao qm qcap, .int .i64 qst, .int .i64 qcl, .bool qgs, .string qlk]] w fun e w' => (∃ g0 a1, e = .returned (.agg #[.slice (some ⟨g0, 0, none⟩) 1 1, .slice a1 0 0]) ∧ Ops w' (some ⟨g0, 0, none⟩) 1 1 [⟨3, pn, pao, pm, pcap, pit, pst, pcl, pgs, plk⟩] ∧ w.heap.size ≤ g0) ∧ Below w.heap.size w w' := by
  have HT : Hid (Bq w (boxo (boxq ⟨3, pn, pao, pm, pcap, pit, pst, pcl, pgs, plk⟩ ⟨1, qn, qao, qm, qcap, qit, qst, qcl, qgs, qlk⟩ w)) ⟨3, pn, pao, pm, pcap, pit, pst, pcl, pgs, plk⟩ ⟨1, qn, qao, qm, qcap, qit, qst, qcl, qgs, qlk⟩ (.slice none 0 0) (.slice none 0 0)) := Bq.start _ _ w
  have he1 := eql_kinds 3 1 1 1
  have he2 := eql_kinds 3 1 3 1
  have hgk := guardK
  go_enter Tryz.func260, Tryz.ntmps260
  go_upto_region 1 with fail
  change Code.wp Tryz.prog _ _ _ (boxo (boxq ⟨3, pn, pao, pm, pcap, pit, pst, pcl, pgs, plk⟩ ⟨1, qn, qao, qm, qcap, qit, qst, qcl, qgs, qlk⟩ w))
  generalize boxo (boxq ⟨3, pn, pao, pm, pcap, pit, pst, pcl, pgs, plk⟩ ⟨1, qn, qao, qm, qcap, qit, qst, qcl, qgs, qlk⟩ w) = W at *
  have c0 : W.cell? ⟨w.heap.size, 0, none⟩ = some (.int .i64 3) := HT.out.pb.cell 0
  have c1 : W.cell? ⟨w.heap.size, 1, none⟩ = some (.int .i64 pn) := HT.out.pb.cell 1
  have c2 : W.cell? ⟨w.heap.size, 2, none⟩ = some (.slice pao pm pcap) := HT.out.pb.cell 2
  have c3 : W.cell? ⟨w.heap.size, 3, none⟩ = some (.int .i64 pst) := HT.out.pb.cell 3
  have c4 : W.cell? ⟨w.heap.size, 4, none⟩ = some (.int .i64 pcl) := HT.out.pb.cell 4
  have c5 : W.cell? ⟨w.heap.size, 5, none⟩ = some (.bool pgs) := HT.out.pb.cell 5
  have c6 : W.cell? ⟨w.heap.size, 6, none⟩ = some (.string plk) := HT.out.pb.cell 6
  have c7 : W.cell? ⟨w.heap.size, 7, none⟩ = some (.int .i64 1) := HT.out.pb.cell 7
  have c8 : W.cell? ⟨w.heap.size, 8, none⟩ = some (.int .i64 qn) := HT.out.pb.cell 8
  have c9 : W.cell? ⟨w.heap.size, 9, none⟩ = some (.slice qao qm qcap) := HT.out.pb.cell 9
  have c10 : W.cell? ⟨w.heap.size, 10, none⟩ = some (.int .i64 qst) := HT.out.pb.cell 10
  have c11 : W.cell? ⟨w.heap.size, 11, none⟩ = some (.int .i64 qcl) := HT.out.pb.cell 11
  have c12 : W.cell? ⟨w.heap.size, 12, none⟩ = some (.bool qgs) := HT.out.pb.cell 12
  have c13 : W.cell? ⟨w.heap.size, 13, none⟩ = some (.string qlk) := HT.out.pb.cell 13
  have r0 : W.cell? ⟨w.heap.size + 1, 0, none⟩ = some (.slice none 0 0) := HT.out.rb.cell 0
  have r1 : W.cell? ⟨w.heap.size + 1, 1, none⟩ = some (.slice none 0 0) := HT.out.rb.cell 1
  have f0 := HT.out.rb.frozen 0
  have f1 := HT.out.rb.frozen 1
  have hz : w.heap.size + 1 < W.heap.size := HT.out.rb.lt
  have hz0 : w.heap.size < W.heap.size := by omega
  go_wp2
  change bodyPost Tryz.prog _ _ Exit.ret _ (box0 (boxp ⟨3, pn, pao, pm, pcap, pit, pst, pcl, pgs, plk⟩ (set2 W (w.heap.size + 1) (.slice (some ⟨W.heap.size, 0, none⟩) 1 1) (.slice (some ⟨W.heap.size + 1, 0, none⟩) 0 0))))
  have k1 := ((HT.out.set2 (.slice (some ⟨W.heap.size, 0, none⟩) 1 1) (.slice (some ⟨W.heap.size + 1, 0, none⟩) 0 0)).under (boxp_below ⟨3, pn, pao, pm, pcap, pit, pst, pcl, pgs, plk⟩ _)).under (box0_below _)
  have k2 := (boxp_blk ⟨3, pn, pao, pm, pcap, pit, pst, pcl, pgs, plk⟩ (set2 W (w.heap.size + 1) (.slice (some ⟨W.heap.size, 0, none⟩) 1 1) (.slice (some ⟨W.heap.size + 1, 0, none⟩) 0 0))).alloc (.cells #[] 162)
  rw [set2_size] at k2
  exact bodyPost_ret (ret_oo rfl _ rfl k1.rb) rfl ⟨⟨_, _, rfl, ops_blk k2 (hp.below k1.blw), by omega⟩, k1.blw⟩

set_option maxRecDepth 100000 in
set_option maxHeartbeats 3200000 in
theorem beh_cc (pn : Int) (pao : Option Addr) (pm pcap : Nat) (pit : List It) (pst pcl : Int) (pgs : Bool) (plk : ByteArray) (qn : Int) (qao : Option Addr) (qm qcap : Nat) (qit : List It) (qst qcl : Int) (qgs : Bool) (qlk : ByteArray) (w : World)
     :
    Calls Tryz.prog 260 #[.agg #[.int .i64 3, .int .i64 pn, .slice pao pm pcap, .int .i64 pst, .int .i64 pcl, .bool pgs, .string plk, .int .i64 3, .int .i64 qn, .slice qao qm qcap, .int .i64 qst, .int .i64 qcl, .bool qgs, .string qlk]] w fun e w' => (e = .returned (.agg #[.slice none 0 0, .slice none 0 0])) ∧ Below w.heap.size w w' := by
  have HT : Hid (Bq w (boxo (boxq ⟨3, pn, pao, pm, pcap, pit, pst, pcl, pgs, plk⟩ ⟨3, qn, qao, qm, qcap, qit, qst, qcl, qgs, qlk⟩ w)) ⟨3, pn, pao, pm, pcap, pit, pst, pcl, pgs, plk⟩ ⟨3, qn, qao, qm, qcap, qit, qst, qcl, qgs, qlk⟩ (.slice none 0 0) (.slice none 0 0)) := Bq.start _ _ w
  have he1 := eql_kinds 3 3 1 1
  have he2 := eql_kinds 3 3 3 1
  have he3 := eql_kinds 3 3 1 3
  have hgk := guardK
  go_enter Tryz.func260, Tryz.ntmps260
  go_upto_region 1 with fail
  change Code.wp Tryz.prog _ _ _ (boxo (boxq ⟨3, pn, pao, pm, pcap, pit, pst, pcl, pgs, plk⟩ ⟨3, qn, qao, qm, qcap, qit, qst, qcl, qgs, qlk⟩ w))
  generalize boxo (boxq ⟨3, pn, pao, pm, pcap, pit, pst, pcl, pgs, plk⟩ ⟨3, qn, qao, qm, qcap, qit, qst, qcl, qgs, qlk⟩ w) = W at *
  have c0 : W.cell? ⟨w.heap.size, 0, none⟩ = some (.int .i64 3) := HT.out.pb.cell 0
  have c1 : W.cell? ⟨w.heap.size, 1, none⟩ = some (.int .i64 pn) := HT.out.pb.cell 1
  have c2 : W.cell? ⟨w.heap.size, 2, none⟩ = some (.slice pao pm pcap) := HT.out.pb.cell 2
  have c3 : W.cell? ⟨w.heap.size, 3, none⟩ = some (.int .i64 pst) := HT.out.pb.cell 3
  have c4 : W.cell? ⟨w.heap.size, 4, none⟩ = some (.int .i64 pcl) := HT.out.pb.cell 4
  have c5 : W.cell? ⟨w.heap.size, 5, none⟩ = some (.bool pgs) := HT.out.pb.cell 5
  have c6 : W.cell? ⟨w.heap.size, 6, none⟩ = some (.string plk) := HT.out.pb.cell 6
  have c7 : W.cell? ⟨w.heap.size, 7, none⟩ = some (.int .i64 3) := HT.out.pb.cell 7
  have c8 : W.cell? ⟨w.heap.size, 8, none⟩ = some (.int .i64 qn) := HT.out.pb.cell 8
  have c9 : W.cell? ⟨w.heap.size, 9, none⟩ = some (.slice qao qm qcap) := HT.out.pb.cell 9
  have c10 : W.cell? ⟨w.heap.size, 10, none⟩ = some (.int .i64 qst) := HT.out.pb.cell 10
  have c11 : W.cell? ⟨w.heap.size, 11, none⟩ = some (.int .i64 qcl) := HT.out.pb.cell 11
  have c12 : W.cell? ⟨w.heap.size, 12, none⟩ = some (.bool qgs) := HT.out.pb.cell 12
  have c13 : W.cell? ⟨w.heap.size, 13, none⟩ = some (.string qlk) := HT.out.pb.cell 13
  have r0 : W.cell? ⟨w.heap.size + 1, 0, none⟩ = some (.slice none 0 0) := HT.out.rb.cell 0
  have r1 : W.cell? ⟨w.heap.size + 1, 1, none⟩ = some (.slice none 0 0) := HT.out.rb.cell 1
  have f0 := HT.out.rb.frozen 0
  have f1 := HT.out.rb.frozen 1
  have hz : w.heap.size + 1 < W.heap.size := HT.out.rb.lt
  have hz0 : w.heap.size < W.heap.size := by omega
  go_wp2
  change bodyPost Tryz.prog _ _ Exit.ret _ (set2 W (w.heap.size + 1) (.slice none 0 0) (.slice none 0 0))
  have k1 := HT.out.set2 (.slice none 0 0) (.slice none 0 0)
  exact bodyPost_ret (ret_oo rfl _ rfl k1.rb) rfl ⟨rfl, k1.blw⟩

theorem beh_any (p q : PV) (w : World) (hp : Pvt w p) (hq : Pvt w q) (kp : p.kind = 1 ∨ p.kind = 3) (kq : q.kind = 1 ∨ q.kind = 3) (h1 : Ac.m4 p.set) (h2 : Ac.m4 p.clr) (h3 : Ac.m4 q.set) (h4 : Ac.m4 q.clr) :
    Calls Tryz.prog 260 #[.agg #[.int .i64 p.kind, .int .i64 p.n, .slice p.ao p.m p.cap, .int .i64 p.set, .int .i64 p.clr, .bool p.goes, .string p.link, .int .i64 q.kind, .int .i64 q.n, .slice q.ao q.m q.cap, .int .i64 q.set, .int .i64 q.clr, .bool q.goes, .string q.link]] w fun e w' => (∃ a0 n0 c0 a1 n1 c1, e = .returned (.agg #[.slice a0 n0 c0, .slice a1 n1 c1]) ∧ Ops w' a0 n0 c0 (behXV p q) ∧ Ops w' a1 n1 c1 (behYV p q) ∧ Fresh w a0 n0 ∧ Fresh w a1 n1) ∧ Below w.heap.size w w' := by
  obtain ⟨pk, pn, pao, pm, pcap, pit, pst, pcl, pgs, plk⟩ := p
  obtain ⟨qk, qn, qao, qm, qcap, qit, qst, qcl, qgs, qlk⟩ := q
  simp only at *
  rcases kp with rfl | rfl
  · rcases kq with rfl | rfl
    · refine (beh_kk pn pao pm pcap pit pst pcl pgs plk qn qao qm qcap qit qst qcl qgs qlk w hp hq h1 h2 h3 h4).mono ?_
      rintro e w' ⟨⟨g0, g1, he, o0, o1, f0, f1⟩, hb⟩
      exact ⟨⟨_, _, _, _, _, _, he, o0, o1, fresh_some f0, fresh_some f1⟩, hb⟩
    · refine (beh_kc pn pao pm pcap pit pst pcl pgs plk qn qao qm qcap qit qst qcl qgs qlk w hq).mono ?_
      rintro e w' ⟨⟨a0, g1, he, o1, f1⟩, hb⟩
      exact ⟨⟨_, _, _, _, _, _, he, ops_zero w' a0, o1, fresh_zero w _, fresh_some f1⟩, hb⟩
  · rcases kq with rfl | rfl
    · refine (beh_ck pn pao pm pcap pit pst pcl pgs plk qn qao qm qcap qit qst qcl qgs qlk w hp).mono ?_
      rintro e w' ⟨⟨g0, a1, he, o0, f0⟩, hb⟩
      exact ⟨⟨_, _, _, _, _, _, he, o0, ops_zero w' a1, fresh_some f0, fresh_zero w _⟩, hb⟩
    · refine (beh_cc pn pao pm pcap pit pst pcl pgs plk qn qao qm qcap qit qst qcl qgs qlk w).mono ?_
      rintro e w' ⟨he, hb⟩
      exact ⟨⟨_, _, _, _, _, _, he, ops_zero w' none, ops_zero w' none, fresh_zero w _, fresh_zero w _⟩, hb⟩
end Go.Proofs.YtbhcklkbckacpaaGreatDoor

/-
  Package ot: two operations that are gone through together, in memory; what is made of them.
-/
namespace Go.Proofs.YtbhcklkbckacpaaGreatDoor
open Go.RowKit

theorem grown_self (w : World) (r : Option Nat) : w.grownBy w r := ⟨rfl, rfl, rfl, Nat.le_refl _, fun _ _ _ => rfl⟩
theorem wpList_append_row {P : Program} (w : World) {ops : Array Oper} {rest : List Oper} {o : Oper} {a : Act} {Q : Exit → Act → World → Prop} (hgd : o.guard = none) (s x : Operand) (t : TypeId)
    (ho : o.op = .call { callee := .builtin .append, args := #[s, x], argTypes := #[t, t] })
    (base : Nat) (e : TypeId) (i : TypeInfo) (z : Value) (size bytes : Nat) (ht : P.underlying t = some (.slice e)) (hi : P.info? e = some i) (hz : i.zero = some z)
    (hsize : i.size = size) (hby : i.bytes = bytes) (hzs : z.cells.size = size) (hsz : 0 < size)
    (v : Value) (n : Nat) (xs : List Value) (hs : a.eval s = v) (hown : w.ownsRow base e size v n xs)
    (ao : Option Addr) (m c : Nat) (news : List Value) (hx : a.eval x = .slice ao m c) (hrow : Row w ao m c size news) (h1 : ∀ u ∈ news, u.oneCell' = true)
    (h63 : n + m ≤ maxLen) (hbytes : (n + m) * bytes ≤ 140737488355328) (hbase : base ≤ w.heap.size)
    (h : ∀ v' w', w'.ownsRow base e size v' (n + m) (xs ++ news) → w.grownBy w' v.ownBlock → (∀ k, v'.ownBlock = some k → v.ownBlock = some k ∨ k = w.heap.size) → wpList P ops Q rest (a.put o.dst v') w') : wpList P ops Q (o :: rest) a w := by
  by_cases hm : m = 0
  · subst hm
    have hn : news = [] := by have := hrow.len; rw [Nat.zero_mul] at this; exact List.length_eq_zero_iff.1 this
    subst hn
    obtain ⟨ao', cap', hv, hr⟩ := own_row hown
    refine wpList_app hgd s x #[t, t] ho v (.slice ao 0 c) v w hs hx ?_ ?_
    · rw [hv]
      exact run_append_nothing w t t o.type e i ht hi ao' n cap' hr.room (.slice ao 0 c) (src_none ht)
    · exact h v w (by rw [List.append_nil]; exact hown) (grown_self w _) (fun k e => .inl e)
  · obtain ⟨b, off, rfl, hc⟩ := hrow.lies hm
    refine wpList_append_lies w hgd s x t ho base e i z size bytes ht hi hz hsize hby hzs hsz v n xs hs hown ⟨b, off, none⟩ m c news hx hrow.len (fun j u hu => by rw [add_off]; exact hc j u hu) h1 (by omega) h63 hbytes hbase _ rfl ?_
    intro g cap w' h2 h3 h4 h5
    exact h _ w' h2 h3 (fun k e => by
      have : g = k := by simpa [Value.ownBlock] using e
      subst this
      exact h4)
structure TurnW (w wr : World) (r s : RV) (x y : Value) (ux uy : List PV) : Prop where
  pb : Blk wr w.heap.size (prC r s) 272
  rb : Blk wr (w.heap.size + 1) [.slice none 0 0, .slice none 0 0] 133
  mb : Blk wr (w.heap.size + 2) [x, y] 133
  hr : Ops w r.ao r.n r.cap r.vs
  hs : Ops w s.ao s.n s.cap s.vs
  mx : wr.ownsRow (w.heap.size + 3) 162 7 x ux.length (pvCells ux)
  my : wr.ownsRow (w.heap.size + 3) 162 7 y uy.length (pvCells uy)
  px : ∀ u ∈ ux, Pvt w u
  py : ∀ u ∈ uy, Pvt w u
  apart : ∀ k, x.ownBlock = some k → y.ownBlock ≠ some k
  blw : Below w.heap.size w wr
theorem TurnW.under {w wr wr' : World} {r s : RV} {x y : Value} {ux uy : List PV} (h : TurnW w wr r s x y ux uy) (hb : Below wr.heap.size wr wr') : TurnW w wr' r s x y ux uy :=
  ⟨(hb.block _ h.pb.lt).trans h.pb, (hb.block _ h.rb.lt).trans h.rb, (hb.block _ h.mb.lt).trans h.mb, h.hr, h.hs, own_under h.mx hb, own_under h.my hb, h.px, h.py, h.apart, h.blw.trans (hb.mono h.blw.size)⟩
theorem TurnW.pair {w wr wr' : World} {r s r' s' : RV} {x y : Value} {ux uy : List PV} (h : TurnW w wr r s x y ux uy) (hk : Kept wr wr' [w.heap.size]) (hb : Blk wr' w.heap.size (prC r' s') 272) (hr : Ops w r'.ao r'.n r'.cap r'.vs) (hs : Ops w s'.ao s'.n s'.cap s'.vs) : TurnW w wr' r' s' x y ux uy :=
  ⟨hb, hk.blk h.rb (by simp), hk.blk h.mb (by simp), hr, hs, own_keeps h.mx hk (fun k hk e => by have := ownBlk_ge h.mx k e; rw [List.mem_singleton] at hk; omega), own_keeps h.my hk (fun k hk e => by have := ownBlk_ge h.my k e; rw [List.mem_singleton] at hk; omega), h.px, h.py, h.apart, h.blw.trans (hk.below h.blw.size (fun k hk => by rw [List.mem_singleton.1 hk]; exact Nat.le_refl _))⟩
theorem ob_lo {w : World} {B n sz : Nat} {e : TypeId} {v : Value} {xs : List Value} (h : w.ownsRow B e sz v n xs) : ∀ k ∈ ob v, B ≤ k := fun k hk => ownBlk_ge h k (ob_mem hk)
theorem TurnW.midX {w wr wa w3 : World} {r s : RV} {x y : Value} {ux uy : List PV} (h : TurnW w wr r s x y ux uy) (hal : Below wr.heap.size wr wa) (hg : wa.grownBy w3 x.ownBlock) : Kept wr w3 (ob x) ∧ Blk w3 (w.heap.size + 2) [x, y] 133 := by
  have hk : Kept wr w3 (ob x) := ((kept_of_below hal).mono (fun k hk => by cases hk)).trans (grown_kept hg)
  exact ⟨hk, hk.blk h.mb (fun hx => by have := ob_lo h.mx _ hx; omega)⟩
theorem TurnW.midY {w wr wa w3 : World} {r s : RV} {x y : Value} {ux uy : List PV} (h : TurnW w wr r s x y ux uy) (hal : Below wr.heap.size wr wa) (hg : wa.grownBy w3 y.ownBlock) : Kept wr w3 (ob y) ∧ Blk w3 (w.heap.size + 2) [x, y] 133 := by
  have hk : Kept wr w3 (ob y) := ((kept_of_below hal).mono (fun k hk => by cases hk)).trans (grown_kept hg)
  exact ⟨hk, hk.blk h.mb (fun hx => by have := ob_lo h.my _ hx; omega)⟩
theorem own_set {w : World} {B n sz : Nat} {e : TypeId} {v : Value} {xs : List Value} (h : w.ownsRow B e sz v n xs) {k : Nat} (hk : k < B) (j : Nat) (z : Value) : (w.setCell ⟨k, j, none⟩ z).ownsRow B e sz v n xs := ownsRow_setCell_below h hk z
theorem TurnW.growX {w wr wa w3 : World} {r s : RV} {x y : Value} {ux uy us : List PV} {m : Nat} {xv : Value} (h : TurnW w wr r s x y ux uy) (hal : Below wr.heap.size wr wa) (hp : ∀ u ∈ us, Pvt w u) (hm : (ux ++ us).length = m)
    (hown : w3.ownsRow (w.heap.size + 3) 162 7 xv m (pvCells ux ++ pvCells us)) (hg : wa.grownBy w3 x.ownBlock) (hat : ∀ k, xv.ownBlock = some k → x.ownBlock = some k ∨ k = wa.heap.size) :
    TurnW w (w3.setCell ⟨w.heap.size + 2, 0, none⟩ xv) r s xv y (ux ++ us) uy := by
  obtain ⟨hk, hb⟩ := h.midX hal hg
  have hlo := ob_lo h.mx
  refine ⟨(hk.blk h.pb (fun hx => by have := hlo _ hx; omega)).other _ _ (by simp), (hk.blk h.rb (fun hx => by have := hlo _ hx; omega)).other _ _ (by simp), hb.set 0 _, h.hr, h.hs, ?_, ?_, fun u hu => ?_, h.py, fun k e e2 => ?_, ?_⟩
  · rw [hm, pvCells_app]
    exact own_set hown (by omega) _ _
  · refine own_set (own_keeps h.my hk (fun k hk e => h.apart k (ob_mem hk) e)) (by omega) _ _
  · rcases List.mem_append.1 hu with hu | hu
    · exact h.px u hu
    · exact hp u hu
  · rcases hat k e with e3 | e3
    · exact h.apart k e3 e2
    · have := (h.my.lt k e2).2
      have := hal.size
      omega
  · exact (h.blw.trans (hk.below h.blw.size (fun k hk => by have := hlo k hk; omega))).setCell (by simp) _
theorem TurnW.growY {w wr wa w3 : World} {r s : RV} {x y : Value} {ux uy us : List PV} {m : Nat} {xv : Value} (h : TurnW w wr r s x y ux uy) (hal : Below wr.heap.size wr wa) (hp : ∀ u ∈ us, Pvt w u) (hm : (uy ++ us).length = m)
    (hown : w3.ownsRow (w.heap.size + 3) 162 7 xv m (pvCells uy ++ pvCells us)) (hg : wa.grownBy w3 y.ownBlock) (hat : ∀ k, xv.ownBlock = some k → y.ownBlock = some k ∨ k = wa.heap.size) :
    TurnW w (w3.setCell ⟨w.heap.size + 2, 1, none⟩ xv) r s x xv ux (uy ++ us) := by
  obtain ⟨hk, hb⟩ := h.midY hal hg
  have hlo := ob_lo h.my
  refine ⟨(hk.blk h.pb (fun hx => by have := hlo _ hx; omega)).other _ _ (by simp), (hk.blk h.rb (fun hx => by have := hlo _ hx; omega)).other _ _ (by simp), hb.set 1 _, h.hr, h.hs, ?_, ?_, h.px, fun u hu => ?_, fun k e e2 => ?_, ?_⟩
  · refine own_set (own_keeps h.mx hk (fun k hk e => h.apart k e (ob_mem hk))) (by omega) _ _
  · rw [hm, pvCells_app]
    exact own_set hown (by omega) _ _
  · rcases List.mem_append.1 hu with hu | hu
    · exact h.py u hu
    · exact hp u hu
  · rcases hat k e2 with e3 | e3
    · exact h.apart k e e3
    · have := (h.mx.lt k e).2
      have := hal.size
      omega
  · exact (h.blw.trans (hk.below h.blw.size (fun k hk => by have := hlo k hk; omega))).setCell (by simp) _
theorem TurnW.pushX {w wr wa w3 : World} {r s : RV} {x y : Value} {ux uy us : List PV} {g cap m : Nat} (h : TurnW w wr r s x y ux uy) (hal : Below wr.heap.size wr wa) (hp : ∀ u ∈ us, Pvt w u) (hm : (ux ++ us).length = m)
    (hown : w3.ownsRow (w.heap.size + 3) 162 7 (.slice (some ⟨g, 0, none⟩) m cap) m (pvCells ux ++ pvCells us)) (hg : wa.grownBy w3 x.ownBlock) (hat : x.ownBlock = some g ∨ g = wa.heap.size) :
    TurnW w (w3.setCell ⟨w.heap.size + 2, 0, none⟩ (.slice (some ⟨g, 0, none⟩) m cap)) r s (.slice (some ⟨g, 0, none⟩) m cap) y (ux ++ us) uy :=
  h.growX hal hp hm hown hg (fun k e => by
    have : g = k := by simpa [Value.ownBlock] using e
    subst this
    exact hat)
theorem TurnW.pushY {w wr wa w3 : World} {r s : RV} {x y : Value} {ux uy us : List PV} {g cap m : Nat} (h : TurnW w wr r s x y ux uy) (hal : Below wr.heap.size wr wa) (hp : ∀ u ∈ us, Pvt w u) (hm : (uy ++ us).length = m)
    (hown : w3.ownsRow (w.heap.size + 3) 162 7 (.slice (some ⟨g, 0, none⟩) m cap) m (pvCells uy ++ pvCells us)) (hg : wa.grownBy w3 y.ownBlock) (hat : y.ownBlock = some g ∨ g = wa.heap.size) :
    TurnW w (w3.setCell ⟨w.heap.size + 2, 1, none⟩ (.slice (some ⟨g, 0, none⟩) m cap)) r s x (.slice (some ⟨g, 0, none⟩) m cap) ux (uy ++ us) :=
  h.growY hal hp hm hown hg (fun k e => by
    have : g = k := by simpa [Value.ownBlock] using e
    subst this
    exact hat)
theorem own_ops {w wr : World} {B : Nat} {x : Value} {us : List PV} (h : wr.ownsRow B 162 7 x us.length (pvCells us)) (hp : ∀ u ∈ us, Pvt w u) (hb : Below w.heap.size w wr) : ∃ a n c, x = .slice a n c ∧ Ops wr a n c us := by
  obtain ⟨a, c, e, hr⟩ := own_row h
  exact ⟨a, _, c, e, hr, fun u hu => (hp u hu).below hb⟩
theorem TurnW.ret {w wr : World} {r s : RV} {x y : Value} {ux uy : List PV} (h : TurnW w wr r s x y ux uy) : Blk (set2 wr (w.heap.size + 1) x y) (w.heap.size + 1) [x, y] 133 ∧ (∃ a n c, x = .slice a n c ∧ Ops (set2 wr (w.heap.size + 1) x y) a n c ux) ∧ (∃ a n c, y = .slice a n c ∧ Ops (set2 wr (w.heap.size + 1) x y) a n c uy) ∧ Below w.heap.size w (set2 wr (w.heap.size + 1) x y) := by
  have hb : Below w.heap.size w (set2 wr (w.heap.size + 1) x y) := (h.blw.setCell (by simp) _).setCell (by simp) _
  exact ⟨(h.rb.set 0 x).set 1 y, own_ops (own_set (own_set h.mx (by omega) 0 x) (by omega) 1 y) h.px hb, own_ops (own_set (own_set h.my (by omega) 0 x) (by omega) 1 y) h.py hb, hb⟩
def boxr (r s : RV) (w : World) : World := w.alloc (.cells #[.slice r.ao r.n r.cap, .int .i64 r.g, .slice s.ao s.n s.cap, .int .i64 s.g] 272)
theorem boxr_size (r s : RV) (w : World) : (boxr r s w).heap.size = w.heap.size + 1 := World.size_alloc ..
theorem boxo_size (w : World) : (boxo w).heap.size = w.heap.size + 1 := World.size_alloc ..
theorem TurnW.start (r s : RV) (w : World) (hr : Ops w r.ao r.n r.cap r.vs) (hs : Ops w s.ao s.n s.cap s.vs) : TurnW w (boxo (boxo (boxr r s w))) r s (.slice none 0 0) (.slice none 0 0) [] [] := by
  have h1 : Blk (boxr r s w) w.heap.size (prC r s) 272 := Blk.new w _ _
  have h2 := boxo_blk (boxr r s w)
  have h3 := boxo_blk (boxo (boxr r s w))
  rw [boxr_size] at h2
  rw [boxo_size, boxr_size] at h3
  refine ⟨(h1.alloc _).alloc _, h2.alloc _, h3, hr, hs, World.ownsRow_nil _ _ _ _, World.ownsRow_nil _ _ _ _, fun u hu => absurd hu (by simp), fun u hu => absurd hu (by simp), fun k e => (by cases e), ?_⟩
  exact (((Below.refl _ _).alloc (Nat.le_refl _) _).alloc (by simp) _).alloc (by simp; omega) _
def lenAt (w : World) (a : Addr) : Nat := match w.cell? a with
  | some (.slice _ n _) => n
  | _ => 0
theorem TurnW.left {w wr : World} {r s : RV} {x y : Value} {ux uy : List PV} (h : TurnW w wr r s x y ux uy) : lenAt wr ⟨w.heap.size, 0, none⟩ + lenAt wr ⟨w.heap.size, 2, none⟩ = r.vs.length + s.vs.length := by
  have h0 : wr.cell? ⟨w.heap.size, 0, none⟩ = some (.slice r.ao r.n r.cap) := h.pb.cell 0
  have h2 : wr.cell? ⟨w.heap.size, 2, none⟩ = some (.slice s.ao s.n s.cap) := h.pb.cell 2
  unfold lenAt
  rw [h0, h2, h.hr.len, h.hs.len]
theorem lg_lgV {w : World} {v : PV} (h : Pvt w v) (he : Ac.err1 v.pt = 0) : lgV v = (Ac.lg v.pt : Int) := by
  unfold lgV Ac.lg
  have e : v.pt.kind = v.kind := rfl
  rw [e]
  by_cases k : v.kind = 2
  · rw [if_pos k, if_pos k]
    have := h.doc.len
    show (v.m : Int) = (v.items.length : Int)
    omega
  · rw [if_neg k, if_neg k]
    have := (Ac.err1_n he).1
    show v.n = (v.n.toNat : Int)
    change 0 ≤ v.n at this
    omega
theorem next_pt {w : World} {r : RV} {v : PV} {t : List PV} (h : Pvt w v) (he : Ac.err1 v.pt = 0) (q : Nat) : (r.next v t q).vs.map PV.pt = Ac.nxtP v.pt (t.map PV.pt) r.g q ∧ (r.next v t q).g = Ac.nxtG v.pt r.g q := by
  have e := lg_lgV h he
  unfold RV.next Ac.nxtP Ac.nxtG
  by_cases k : r.g + q = Ac.lg v.pt
  · rw [if_pos (by rw [e, k]), if_pos k, if_pos k]
    exact ⟨rfl, rfl⟩
  · rw [if_neg (by rw [e]; omega), if_neg k, if_neg k]
    exact ⟨rfl, rfl⟩
theorem idx0 (x y : Value) (w : World) : (Instr.index 133 (.agg #[x, y]) (.int .i64 0)).run Tryz.prog w = .ok x w := by kernel_rfl
theorem idx1 (x y : Value) (w : World) : (Instr.index 133 (.agg #[x, y]) (.int .i64 1)).run Tryz.prog w = .ok y w := by kernel_rfl
theorem behXV_pt (p q : PV) : (behXV p q).map PV.pt = Ac.behX p.pt q.pt := by
  unfold behXV Ac.behX
  have e : q.pt.kind = q.kind := rfl
  rw [e]
  split <;> rfl
theorem behYV_pt (p q : PV) : (behYV p q).map PV.pt = Ac.behY p.pt q.pt := by
  unfold behYV Ac.behY
  have e : q.pt.kind = q.kind := rfl
  have e' : p.pt.kind = p.kind := rfl
  rw [e, e']
  split
  · split <;> rfl
  · rfl
theorem behXV_pvt {w : World} {p q : PV} (h : Pvt w p) : ∀ z ∈ behXV p q, Pvt w z := by
  unfold behXV
  intro z hz
  split at hz
  · rw [List.mem_singleton.1 hz]; exact h
  · cases hz
theorem behYV_pvt {w : World} {p q : PV} (h : Pvt w q) : ∀ z ∈ behYV p q, Pvt w z := by
  unfold behYV
  intro z hz
  split at hz
  · split at hz
    · rw [List.mem_singleton.1 hz]; exact yieldV_pvt h p
    · rw [List.mem_singleton.1 hz]; exact h
  · cases hz
theorem behXV_len (p q : PV) : (behXV p q).length ≤ 1 := by unfold behXV; split <;> simp
theorem behYV_len (p q : PV) : (behYV p q).length ≤ 1 := by
  unfold behYV
  split
  · split <;> simp
  · simp
theorem Ac.piece_m4 {p : Ac.Pt} (h : Ac.err1 p = 0) (k : ¬ p.kind = 2) (g n : Nat) : Ac.m4 (Ac.piece p g n).set ∧ Ac.m4 (Ac.piece p g n).clr := by
  rw [Ac.piece_not k]
  rcases Ac.gd_of h with ⟨_, hm, _⟩ | ⟨ps, e, _⟩ | ⟨m, e, _⟩
  · exact ⟨(Ac.marks_of hm).1, (Ac.marks_of hm).2.1⟩
  · rw [e] at k; exact absurd rfl k
  · rw [e]
    show Ac.m4 0 ∧ Ac.m4 0
    exact ⟨⟨by decide, by decide⟩, ⟨by decide, by decide⟩⟩
end Go.Proofs.YtbhcklkbckacpaaGreatDoor
