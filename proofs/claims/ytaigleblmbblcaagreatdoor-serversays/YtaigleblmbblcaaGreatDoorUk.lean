/-
  Package ot: Turn and Join, of whatever operations.
-/
import Derived.Test.YtaigleblmbblcaaGreatDoorUh
import Derived.Test.YtaigleblmbblcaaGreatDoorUj
namespace Go.Proofs.YtaigleblmbblcaaGreatDoor
open Go.RowKit
namespace Ac
/-- Acts, tidied, as an operation. -/
def tA (l : List A) : List Pt := tdy [] [] 0 l
theorem tidy_tA (o : List Pt) : tidy o = tA (acts o) := rfl
def tx (a b : List Pt) : List Pt := tA (turn (acts a) (acts b)).1
def ty (a b : List Pt) : List Pt := tA (turn (acts a) (acts b)).2
def jx (a b : List Pt) : List Pt := tA (join (acts a) (acts b))
/-- What is wrong with the first one, or else with the other one. -/
def fst2 (a b : List Pt) : Int := if chk a = 0 then chk b else chk a
def trnE (a b : List Pt) : Int := if fst2 a b = 0 then (if nd a = nd b then fst2 (tx a b) (ty a b) else 6) else fst2 a b
def trnX (a b : List Pt) : List Pt := if trnE a b = 0 then tx a b else []
def trnY (a b : List Pt) : List Pt := if trnE a b = 0 then ty a b else []
def jonE (a b : List Pt) : Int := if fst2 a b = 0 then (if lv a = nd b then chk (jx a b) else 6) else fst2 a b
def jonX (a b : List Pt) : List Pt := if jonE a b = 0 then jx a b else []
theorem fst2_right {a b : List Pt} (h : fst2 a b = 0) : Right a ∧ Right b := by
  unfold fst2 at h
  by_cases ha : chk a = 0
  · rw [if_pos ha] at h
    exact ⟨chk_right.1 ha, chk_right.1 h⟩
  · rw [if_neg ha] at h
    exact absurd h ha
end Ac

set_option maxRecDepth 100000 in
set_option maxHeartbeats 1600000 in
theorem firstError_any (ao ao' : Option Addr) (n cap n' cap' : Nat) (vs vs' : List PV) (w : World) (hO : Ops w ao n cap vs) (hO' : Ops w ao' n' cap' vs') (hS : Sch w) :
    Calls Tryz.prog 93 #[.agg #[.slice ao n cap, .slice ao' n' cap']] w fun e w' => e = .returned (.int .i64 (Ac.fst2 (vs.map PV.pt) (vs'.map PV.pt))) ∧ Below w.heap.size w w' := by
  have C0 : Hid (∀ w', Below w.heap.size w w' → Calls Tryz.prog 75 #[.slice ao n cap] w' fun e w'' => e = .returned (.int .i64 (Ac.chk (vs.map PV.pt))) ∧ Below w'.heap.size w' w'') := fun w' hb => chk_any ao n cap vs w' (hO.below hb) (hS.below hb)
  have C1 : Hid (∀ w', Below w.heap.size w w' → Calls Tryz.prog 75 #[.slice ao' n' cap'] w' fun e w'' => e = .returned (.int .i64 (Ac.chk (vs'.map PV.pt))) ∧ Below w'.heap.size w' w'') := fun w' hb => chk_any ao' n' cap' vs' w' (hO'.below hb) (hS.below hb)
  obtain ⟨R, hR⟩ : ∃ R, Ac.fst2 (vs.map PV.pt) (vs'.map PV.pt) = R := ⟨_, rfl⟩
  rw [hR]
  unfold Ac.fst2 at hR
  have ix0 := idx0 (.slice ao n cap) (.slice ao' n' cap')
  have ix1 := idx1 (.slice ao n cap) (.slice ao' n' cap')
  have H1 : Hid (Below w.heap.size w (w.alloc (.cells #[.slice ao n cap, .slice ao' n' cap'] 86))) := (Below.refl _ _).alloc (Nat.le_refl _) _
  clear hO hO' hS
  generalize Ac.chk (vs.map PV.pt) = r at *
  generalize Ac.chk (vs'.map PV.pt) = r' at *
  by_cases hr : r = 0
  · rw [if_pos hr] at hR
    subst hR hr
    by_cases hr' : r' = 0
    · subst hr'
      go_enter Tryz.func93, Tryz.ntmps93
      go_wp2_with fail
      refine wp_loop_rounds 3 ?_
      rw [rounds_succ]
      go_wp2_with fail
      refine (C0.out _ H1.out).mono ?_
      rintro e w1 ⟨rfl, hb⟩
      have H2 : Hid (Below w.heap.size w w1) := H1.out.trans (hb.mono H1.out.size)
      clear hb
      go_wp2_with fail
      rw [rounds_succ]
      go_wp2_with fail
      refine (C1.out _ H2.out).mono ?_
      rintro e w2 ⟨rfl, hb⟩
      have H3 : Hid (Below w.heap.size w w2) := H2.out.trans (hb.mono H2.out.size)
      clear hb
      go_wp2_with fail
      rw [rounds_succ]
      go_wp2
      go_ret
      exact ⟨rfl, H3.out⟩
    · have hne : (r' != 0) = true := by simp [hr']
      clear hr'
      go_enter Tryz.func93, Tryz.ntmps93
      go_wp2_with fail
      refine wp_loop_rounds 3 ?_
      rw [rounds_succ]
      go_wp2_with fail
      refine (C0.out _ H1.out).mono ?_
      rintro e w1 ⟨rfl, hb⟩
      have H2 : Hid (Below w.heap.size w w1) := H1.out.trans (hb.mono H1.out.size)
      clear hb
      go_wp2_with fail
      rw [rounds_succ]
      go_wp2_with fail
      refine (C1.out _ H2.out).mono ?_
      rintro e w2 ⟨rfl, hb⟩
      have H3 : Hid (Below w.heap.size w w2) := H2.out.trans (hb.mono H2.out.size)
      clear hb
      go_wp2
      go_ret
      exact ⟨rfl, H3.out⟩
  · rw [if_neg hr] at hR
    subst hR
    have hne : (r != 0) = true := by simp [hr]
    clear hr
    go_enter Tryz.func93, Tryz.ntmps93
    go_wp2_with fail
    refine wp_loop_rounds 3 ?_
    rw [rounds_succ]
    go_wp2_with fail
    refine (C0.out _ H1.out).mono ?_
    rintro e w1 ⟨rfl, hb⟩
    have H2 : Hid (Below w.heap.size w w1) := H1.out.trans (hb.mono H1.out.size)
    clear hb
    go_wp2
    go_ret
    exact ⟨rfl, H2.out⟩

set_option maxRecDepth 100000 in
set_option maxHeartbeats 3200000 in
theorem turnE_bad (ao ao' : Option Addr) (n cap n' cap' : Nat) (vs vs' : List PV) (w : World) (hO : Ops w ao n cap vs) (hO' : Ops w ao' n' cap' vs') (hS : Sch w) (hE : ¬ Ac.fst2 (vs.map PV.pt) (vs'.map PV.pt) = 0) :
    Calls Tryz.prog 68 #[.slice ao n cap, .slice ao' n' cap'] w fun e w' => e = .returned (.tuple #[.slice none 0 0, .slice none 0 0, .int .i64 (Ac.fst2 (vs.map PV.pt) (vs'.map PV.pt))]) ∧ Below w.heap.size w w' := by
  have CF : Hid (Calls Tryz.prog 93 #[.agg #[.slice ao n cap, .slice ao' n' cap']] w fun e w' => e = .returned (.int .i64 (Ac.fst2 (vs.map PV.pt) (vs'.map PV.pt))) ∧ Below w.heap.size w w') := firstError_any ao ao' n cap n' cap' vs vs' w hO hO' hS
  have CA : Hid (∀ w', Below w.heap.size w w' → Calls Tryz.prog 94 #[.slice ao n cap] w' fun e w'' => e = .returned (.tuple #[.int .i64 (Ac.lf (vs.map PV.pt)), .int .i64 (Ac.lt (vs.map PV.pt))]) ∧ Below w'.heap.size w' w'') := fun w' hb => long_any ao n cap vs w' (hO.below hb)
  have CB : Hid (∀ w', Below w.heap.size w w' → Calls Tryz.prog 94 #[.slice ao' n' cap'] w' fun e w'' => e = .returned (.tuple #[.int .i64 (Ac.lf (vs'.map PV.pt)), .int .i64 (Ac.lt (vs'.map PV.pt))]) ∧ Below w'.heap.size w' w'') := fun w' hb => long_any ao' n' cap' vs' w' (hO'.below hb)

  clear hO hO' hS CA CB
  generalize Ac.fst2 (vs.map PV.pt) (vs'.map PV.pt) = r at *
  have hne : (r != 0) = true := by simp [hE]
  clear hE
  go_enter Tryz.func68, Tryz.ntmps68
  go_wp2_with fail
  refine CF.out.mono ?_
  rintro e w1 ⟨rfl, hb⟩
  have H1 : Hid (Below w.heap.size w w1) := hb
  clear hb
  go_wp2
  exact bodyPost_ret (v := .tuple #[.slice none 0 0, .slice none 0 0, .int .i64 r]) (by simp [results, Tryz.results68, go_sem]) rfl ⟨rfl, H1.out⟩

set_option maxRecDepth 100000 in
set_option maxHeartbeats 3200000 in
theorem turnE_base (ao ao' : Option Addr) (n cap n' cap' : Nat) (vs vs' : List PV) (w : World) (hO : Ops w ao n cap vs) (hO' : Ops w ao' n' cap' vs') (hS : Sch w) (hE : Ac.fst2 (vs.map PV.pt) (vs'.map PV.pt) = 0) (hN : ¬ Ac.nd (vs.map PV.pt) = Ac.nd (vs'.map PV.pt)) :
    Calls Tryz.prog 68 #[.slice ao n cap, .slice ao' n' cap'] w fun e w' => e = .returned (.tuple #[.slice none 0 0, .slice none 0 0, .int .i64 6]) ∧ Below w.heap.size w w' := by
  have CF : Hid (Calls Tryz.prog 93 #[.agg #[.slice ao n cap, .slice ao' n' cap']] w fun e w' => e = .returned (.int .i64 (Ac.fst2 (vs.map PV.pt) (vs'.map PV.pt))) ∧ Below w.heap.size w w') := firstError_any ao ao' n cap n' cap' vs vs' w hO hO' hS
  have CA : Hid (∀ w', Below w.heap.size w w' → Calls Tryz.prog 94 #[.slice ao n cap] w' fun e w'' => e = .returned (.tuple #[.int .i64 (Ac.lf (vs.map PV.pt)), .int .i64 (Ac.lt (vs.map PV.pt))]) ∧ Below w'.heap.size w' w'') := fun w' hb => long_any ao n cap vs w' (hO.below hb)
  have CB : Hid (∀ w', Below w.heap.size w w' → Calls Tryz.prog 94 #[.slice ao' n' cap'] w' fun e w'' => e = .returned (.tuple #[.int .i64 (Ac.lf (vs'.map PV.pt)), .int .i64 (Ac.lt (vs'.map PV.pt))]) ∧ Below w'.heap.size w' w'') := fun w' hb => long_any ao' n' cap' vs' w' (hO'.below hb)

  obtain ⟨r1, r2⟩ := Ac.fst2_right hE
  rw [hE] at CF
  rw [r1.lf] at CA
  rw [r2.lf] at CB
  clear hO hO' hS hE r1 r2
  generalize Ac.nd (vs.map PV.pt) = k at *
  generalize Ac.nd (vs'.map PV.pt) = k' at *
  generalize Ac.lt (vs.map PV.pt) = l at *
  generalize Ac.lt (vs'.map PV.pt) = l' at *
  have hne : ((k : Int) != (k' : Int)) = true := by simp; omega
  have hne' : (k != k') = true := by simp; omega
  clear hN
  go_enter Tryz.func68, Tryz.ntmps68
  go_wp2_with fail
  refine CF.out.mono ?_
  rintro e w1 ⟨rfl, hb⟩
  have H1 : Hid (Below w.heap.size w w1) := hb
  clear hb
  go_wp2_with fail
  refine (CA.out _ H1.out).mono ?_
  rintro e w2 ⟨rfl, hb⟩
  have H2 : Hid (Below w.heap.size w w2) := H1.out.trans (hb.mono H1.out.size)
  clear hb
  go_wp2_with fail
  refine (CB.out _ H2.out).mono ?_
  rintro e w3 ⟨rfl, hb⟩
  have H3 : Hid (Below w.heap.size w w3) := H2.out.trans (hb.mono H2.out.size)
  clear hb
  go_wp2
  exact bodyPost_ret (v := .tuple #[.slice none 0 0, .slice none 0 0, .int .i64 6]) (by simp [results, Tryz.results68, go_sem]) rfl ⟨rfl, H3.out⟩

/-- Two operations that are made, in a variable. -/
structure Md (w0 w : World) (x y : Value) : Prop where
  mb : Blk w w0.heap.size [x, y] 86
  blw : Below w0.heap.size w0 w
def boxm (x y : Value) (w : World) : World := w.alloc (.cells #[x, y] 86)
theorem Md.start (x y : Value) (w : World) : Md w (boxm x y w) x y := ⟨Blk.new w _ _, (Below.refl _ _).alloc (Nat.le_refl _) _⟩
theorem Md.under {w0 w w' : World} {x y : Value} (h : Md w0 w x y) (hb : Below w.heap.size w w') : Md w0 w' x y := ⟨(hb.block _ h.mb.lt).trans h.mb, h.blw.trans (hb.mono h.blw.size)⟩
theorem Md.set0 {w0 w : World} {x y : Value} (h : Md w0 w x y) (z : Value) : Md w0 (w.setCell ⟨w0.heap.size, 0, none⟩ z) z y := ⟨h.mb.set 0 z, h.blw.setCell (Nat.le_refl _) _⟩
theorem Md.set1 {w0 w : World} {x y : Value} (h : Md w0 w x y) (z : Value) : Md w0 (w.setCell ⟨w0.heap.size, 1, none⟩ z) x z := ⟨h.mb.set 1 z, h.blw.setCell (Nat.le_refl _) _⟩
theorem Tide.low {w : World} {B : Nat} {tv : Value} {out : List PV} (h : Tide w B tv out) {k : Nat} (hk : k < B) (j : Nat) (z : Value) : Tide (w.setCell ⟨k, j, none⟩ z) B tv out :=
  h.kept (kept_set w k j z [k] (by simp)) (fun x hx e => by have := ownBlk_ge h.own x e; rw [List.mem_singleton] at hx; omega) (fun v hv a hm ha hx => by have := h.hi v hv a hm ha; rw [List.mem_singleton] at hx; omega)

/-- What Turn answers: two operations, and an error. -/
theorem Ops.kept {w w' : World} {a : Option Addr} {n c : Nat} {vs : List PV} {S : List Nat} (h : Ops w a n c vs) (hk : Kept w w' S) (h1 : ∀ ad : Addr, n ≠ 0 → a = some ad → ad.block ∉ S) (h2 : ∀ v ∈ vs, ∀ ad : Addr, v.m ≠ 0 → v.ao = some ad → ad.block ∉ S) : Ops w' a n c vs :=
  ⟨h.row.kept (by decide) hk h1, fun v hv => (h.pts v hv).kept hk (h2 v hv)⟩
/-- An operation that lies in blocks from B on. -/
structure OpsFrom (B : Nat) (w : World) (a : Option Addr) (n c : Nat) (vs : List PV) : Prop where
  ops : Ops w a n c vs
  row : ∀ ad : Addr, n ≠ 0 → a = some ad → B ≤ ad.block
  its : ∀ v ∈ vs, ∀ ad : Addr, v.m ≠ 0 → v.ao = some ad → B ≤ ad.block
theorem OpsFrom.nil (B : Nat) (w : World) : OpsFrom B w none 0 0 [] := ⟨ops_nil w, fun _ h _ => absurd rfl h, fun v hv => absurd hv (by simp)⟩
theorem OpsFrom.below {B : Nat} {w w' : World} {a : Option Addr} {n c : Nat} {vs : List PV} (h : OpsFrom B w a n c vs) (hb : Below w.heap.size w w') : OpsFrom B w' a n c vs := ⟨h.ops.below hb, h.row, h.its⟩
theorem OpsFrom.mono {B B' : Nat} {w : World} {a : Option Addr} {n c : Nat} {vs : List PV} (h : OpsFrom B w a n c vs) (hb : B' ≤ B) : OpsFrom B' w a n c vs := ⟨h.ops, fun ad h1 h2 => Nat.le_trans hb (h.row ad h1 h2), fun v hv ad h1 h2 => Nat.le_trans hb (h.its v hv ad h1 h2)⟩
theorem OpsFrom.kept {B : Nat} {w w' : World} {a : Option Addr} {n c : Nat} {vs : List PV} {S : List Nat} (h : OpsFrom B w a n c vs) (hk : Kept w w' S) (hS : ∀ x ∈ S, x < B) : OpsFrom B w' a n c vs :=
  ⟨h.ops.kept hk (fun ad h1 h2 hx => by have := h.row ad h1 h2; have := hS _ hx; omega) (fun v hv ad h1 h2 hx => by have := h.its v hv ad h1 h2; have := hS _ hx; omega), h.row, h.its⟩
theorem Tide.from {w : World} {B n c : Nat} {a : Option Addr} {us : List PV} (h : Tide w B (.slice a n c) us) : OpsFrom B w a n c us := by
  obtain ⟨a', c', e, hr⟩ := own_row h.own
  simp only [Value.slice.injEq] at e
  obtain ⟨rfl, rfl, rfl⟩ := e
  exact ⟨⟨hr, h.pts⟩, fun ad _ e => ownBlk_ge h.own _ (by rw [e]; rfl), fun v hv => h.hi v hv⟩
/-- What Turn answers, and where it lies. -/
def TurnF (B : Nat) (X Y : List Ac.Pt) (E : Int) (e : Ending) (w' : World) : Prop := ∃ a0 n0 c0 u0 a1 n1 c1 u1, e = .returned (.tuple #[.slice a0 n0 c0, .slice a1 n1 c1, .int .i64 E]) ∧ OpsFrom B w' a0 n0 c0 u0 ∧ OpsFrom B w' a1 n1 c1 u1 ∧ u0.map PV.pt = X ∧ u1.map PV.pt = Y
theorem turnF_nil (B : Nat) (E : Int) (w' : World) : TurnF B [] [] E (.returned (.tuple #[.slice none 0 0, .slice none 0 0, .int .i64 E])) w' := ⟨none, 0, 0, [], none, 0, 0, [], rfl, OpsFrom.nil B w', OpsFrom.nil B w', rfl, rfl⟩
def TurnP (X Y : List Ac.Pt) (E : Int) (e : Ending) (w' : World) : Prop := ∃ a0 n0 c0 u0 a1 n1 c1 u1, e = .returned (.tuple #[.slice a0 n0 c0, .slice a1 n1 c1, .int .i64 E]) ∧ Ops w' a0 n0 c0 u0 ∧ Ops w' a1 n1 c1 u1 ∧ u0.map PV.pt = X ∧ u1.map PV.pt = Y
theorem turnP_nil (E : Int) (w' : World) : TurnP [] [] E (.returned (.tuple #[.slice none 0 0, .slice none 0 0, .int .i64 E])) w' := ⟨none, 0, 0, [], none, 0, 0, [], rfl, ops_nil w', ops_nil w', rfl, rfl⟩
set_option maxRecDepth 100000 in
set_option maxHeartbeats 6400000 in
theorem turn_main (ao ao' : Option Addr) (n cap n' cap' : Nat) (vs vs' : List PV) (w : World) (hO : Ops w ao n cap vs) (hO' : Ops w ao' n' cap' vs') (hS : Sch w) (hE : Ac.fst2 (vs.map PV.pt) (vs'.map PV.pt) = 0) (hN : Ac.nd (vs.map PV.pt) = Ac.nd (vs'.map PV.pt)) :
    Calls Tryz.prog 68 #[.slice ao n cap, .slice ao' n' cap'] w fun e w' => TurnF w.heap.size (if Ac.fst2 (Ac.tx (vs.map PV.pt) (vs'.map PV.pt)) (Ac.ty (vs.map PV.pt) (vs'.map PV.pt)) = 0 then Ac.tx (vs.map PV.pt) (vs'.map PV.pt) else []) (if Ac.fst2 (Ac.tx (vs.map PV.pt) (vs'.map PV.pt)) (Ac.ty (vs.map PV.pt) (vs'.map PV.pt)) = 0 then Ac.ty (vs.map PV.pt) (vs'.map PV.pt) else []) (Ac.fst2 (Ac.tx (vs.map PV.pt) (vs'.map PV.pt)) (Ac.ty (vs.map PV.pt) (vs'.map PV.pt))) e w' ∧ Below w.heap.size w w' := by
  have CF : Hid (Calls Tryz.prog 93 #[.agg #[.slice ao n cap, .slice ao' n' cap']] w fun e w' => e = .returned (.int .i64 (Ac.fst2 (vs.map PV.pt) (vs'.map PV.pt))) ∧ Below w.heap.size w w') := firstError_any ao ao' n cap n' cap' vs vs' w hO hO' hS
  have CA : Hid (∀ w', Below w.heap.size w w' → Calls Tryz.prog 94 #[.slice ao n cap] w' fun e w'' => e = .returned (.tuple #[.int .i64 (Ac.lf (vs.map PV.pt)), .int .i64 (Ac.lt (vs.map PV.pt))]) ∧ Below w'.heap.size w' w'') := fun w' hb => long_any ao n cap vs w' (hO.below hb)
  have CB : Hid (∀ w', Below w.heap.size w w' → Calls Tryz.prog 94 #[.slice ao' n' cap'] w' fun e w'' => e = .returned (.tuple #[.int .i64 (Ac.lf (vs'.map PV.pt)), .int .i64 (Ac.lt (vs'.map PV.pt))]) ∧ Below w'.heap.size w' w'') := fun w' hb => long_any ao' n' cap' vs' w' (hO'.below hb)

  obtain ⟨r1, r2⟩ := Ac.fst2_right hE
  rw [hE] at CF
  rw [r1.lf] at CA
  rw [r2.lf, ← hN] at CB
  have CT : Hid (∀ w', Below w.heap.size w w' → Calls Tryz.prog 95 #[.agg #[.slice ao n cap, .int .i64 0, .slice ao' n' cap', .int .i64 0]] w' fun e w'' => (∃ a0 n0 c0 u0 a1 n1 c1 u1, e = .returned (.agg #[.slice a0 n0 c0, .slice a1 n1 c1]) ∧ Ops w'' a0 n0 c0 u0 ∧ Ops w'' a1 n1 c1 u1 ∧ Ac.turn (Ac.acts (vs.map PV.pt)) (Ac.acts (vs'.map PV.pt)) = (Ac.acts (u0.map PV.pt), Ac.acts (u1.map PV.pt)) ∧ (∀ v ∈ u0, Ac.err1 v.pt = 0) ∧ (∀ v ∈ u1, Ac.err1 v.pt = 0) ∧ u0.length ≤ 80 ∧ u1.length ≤ 80) ∧ Below w'.heap.size w' w'') := fun w' hb => turned_any ao ao' n cap n' cap' vs vs' w' (hO.below hb) (hO'.below hb) r1 r2 hN
  have HSC : Hid (∀ w', Below w.heap.size w w' → Sch w') := fun w' hb => hS.below hb
  obtain ⟨X, hX⟩ : ∃ X, Ac.tx (vs.map PV.pt) (vs'.map PV.pt) = X := ⟨_, rfl⟩
  obtain ⟨Y, hY⟩ : ∃ Y, Ac.ty (vs.map PV.pt) (vs'.map PV.pt) = Y := ⟨_, rfl⟩
  have HX : Hid (Ac.tA (Ac.turn (Ac.acts (vs.map PV.pt)) (Ac.acts (vs'.map PV.pt))).1 = X) := hX
  have HY : Hid (Ac.tA (Ac.turn (Ac.acts (vs.map PV.pt)) (Ac.acts (vs'.map PV.pt))).2 = Y) := hY
  rw [hX, hY]
  clear hO hO' hS hE hN r1 r2 hX hY
  generalize Ac.turn (Ac.acts (vs.map PV.pt)) (Ac.acts (vs'.map PV.pt)) = TT at *
  generalize Ac.nd (vs.map PV.pt) = k at *
  generalize Ac.lt (vs.map PV.pt) = l at *
  generalize Ac.lt (vs'.map PV.pt) = l' at *
  have hne : ((k : Int) != (k : Int)) = false := by simp
  obtain ⟨E, hEE⟩ : ∃ E, Ac.fst2 X Y = E := ⟨_, rfl⟩
  have HE : Hid (Ac.fst2 X Y = E) := hEE
  rw [hEE]
  clear hEE
  go_enter Tryz.func68, Tryz.ntmps68
  go_wp2_with fail
  refine CF.out.mono ?_
  rintro e w1 ⟨rfl, hb⟩
  have H1 : Hid (Below w.heap.size w w1) := hb
  clear hb
  go_wp2_with fail
  refine (CA.out _ H1.out).mono ?_
  rintro e w2 ⟨rfl, hb⟩
  have H2 : Hid (Below w.heap.size w w2) := H1.out.trans (hb.mono H1.out.size)
  clear hb
  go_wp2_with fail
  refine (CB.out _ H2.out).mono ?_
  rintro e w3 ⟨rfl, hb⟩
  have H3 : Hid (Below w.heap.size w w3) := H2.out.trans (hb.mono H2.out.size)
  clear hb CF CA CB
  go_wp2_with fail
  refine (CT.out _ H3.out).mono ?_
  rintro e w4 ⟨⟨a0, n0, c0, u0, a1, n1, c1, u1, rfl, o0, o1, ht, e0, e1, l0, l1⟩, hb⟩
  have H4 : Hid (Below w.heap.size w w4) := H3.out.trans (hb.mono H3.out.size)
  have HX0 : Hid (Ac.tidy (u0.map PV.pt) = X) := by show _ = _; rw [Ac.tidy_tA, ← HX.out, ht]
  have HY0 : Hid (Ac.tidy (u1.map PV.pt) = Y) := by show _ = _; rw [Ac.tidy_tA, ← HY.out, ht]
  have CD0 : Hid (∀ w', Below w4.heap.size w4 w' → Calls Tryz.prog 96 #[.slice a0 n0 c0] w' fun e w'' => (∃ tv us, e = .returned tv ∧ Tide w'' w'.heap.size tv us ∧ us.map PV.pt = X) ∧ Below w'.heap.size w' w'') := fun w' hb => by
    have := made_tidy a0 n0 c0 u0 w' (o0.below hb) e0 (by omega)
    rw [HX0.out] at this
    exact this
  have CD1 : Hid (∀ w', Below w4.heap.size w4 w' → Calls Tryz.prog 96 #[.slice a1 n1 c1] w' fun e w'' => (∃ tv us, e = .returned tv ∧ Tide w'' w'.heap.size tv us ∧ us.map PV.pt = Y) ∧ Below w'.heap.size w' w'') := fun w' hb => by
    have := made_tidy a1 n1 c1 u1 w' (o1.below hb) e1 (by omega)
    rw [HY0.out] at this
    exact this
  have HM : Hid (Md w4 (boxm (.slice a0 n0 c0) (.slice a1 n1 c1) w4) (.slice a0 n0 c0) (.slice a1 n1 c1)) := Md.start _ _ w4
  have ix0 := idx0 (.slice a0 n0 c0) (.slice a1 n1 c1)
  have ix1 := idx1 (.slice a0 n0 c0) (.slice a1 n1 c1)
  clear hb o0 o1 ht e0 e1 l0 l1 CT HX HY HX0 HY0
  go_upto_region 9 with fail
  change Code.wp Tryz.prog _ _ _ (boxm (.slice a0 n0 c0) (.slice a1 n1 c1) w4)
  generalize boxm (.slice a0 n0 c0) (.slice a1 n1 c1) w4 = W5 at *
  have m0 : W5.cell? ⟨w4.heap.size, 0, none⟩ = some (.slice a0 n0 c0) := HM.out.mb.cell 0
  have m1 : W5.cell? ⟨w4.heap.size, 1, none⟩ = some (.slice a1 n1 c1) := HM.out.mb.cell 1
  go_wp2_with fail
  refine wp_loop_rounds 3 ?_
  rw [rounds_succ]
  go_wp2_with fail
  refine (CD0.out _ HM.out.blw).mono ?_
  rintro e w6 ⟨⟨tv, us, rfl, hT, hp⟩, hb⟩
  have hM6 := HM.out.under hb
  have HM7 := hM6.set0 tv
  have HT7 := hT.low (k := w4.heap.size) HM.out.mb.lt 0 tv
  have HP7 : Hid (us.map PV.pt = X) := hp
  have d0 : w6.cell? ⟨w4.heap.size, 0, none⟩ = some (.slice a0 n0 c0) := hM6.mb.cell 0
  have f0 := hM6.mb.frozen 0
  obtain ⟨ta, tc, htv, -⟩ := own_row hT.own
  obtain ⟨tl, htl⟩ : ∃ tl, us.length = tl := ⟨_, rfl⟩
  rw [htl] at htv
  subst htv
  clear hT hp hb hM6 htl m0 m1
  go_wp2_with fail
  generalize w6.setCell ⟨w4.heap.size, 0, none⟩ (.slice ta tl tc) = W7 at *
  have HM7 : Hid (Md w4 W7 (.slice ta tl tc) (.slice a1 n1 c1)) := HM7
  have HT7 : Hid (Tide W7 W5.heap.size (.slice ta tl tc) us) := HT7
  have HW5 : Hid (w4.heap.size < W5.heap.size) := HM.out.mb.lt
  clear d0 f0
  rw [rounds_succ]
  go_wp2_with fail
  refine (CD1.out _ HM7.out.blw).mono ?_
  rintro e w8 ⟨⟨tv1, us1, rfl, hT, hp⟩, hb⟩
  have hM8 := HM7.out.under hb
  have HM9 := hM8.set1 tv1
  have HT9 := (HT7.out.under hb).low (k := w4.heap.size) HW5.out 1 tv1
  have HTY := hT.low (k := w4.heap.size) HM7.out.mb.lt 1 tv1
  have HP9 : Hid (us1.map PV.pt = Y) := hp
  have d1 : w8.cell? ⟨w4.heap.size, 1, none⟩ = some (.slice a1 n1 c1) := hM8.mb.cell 1
  have f1 := hM8.mb.frozen 1
  obtain ⟨ta1, tc1, htv, -⟩ := own_row hT.own
  obtain ⟨tl1, htl⟩ : ∃ tl1, us1.length = tl1 := ⟨_, rfl⟩
  rw [htl] at htv
  subst htv
  clear hT hp hb hM8 htl
  go_wp2_with fail
  generalize w8.setCell ⟨w4.heap.size, 1, none⟩ (.slice ta1 tl1 tc1) = W9 at *
  clear d1 f1
  have HM9 : Hid (Md w4 W9 (.slice ta tl tc) (.slice ta1 tl1 tc1)) := HM9
  have HBB : w.heap.size ≤ W5.heap.size ∧ w.heap.size ≤ W7.heap.size := ⟨Nat.le_trans H4.out.size (Nat.le_of_lt HW5.out), Nat.le_trans H4.out.size HM7.out.blw.size⟩
  have HOXF : Hid (OpsFrom w.heap.size W9 ta tl tc us) := (Tide.from HT9).mono HBB.1
  have HOYF : Hid (OpsFrom w.heap.size W9 ta1 tl1 tc1 us1) := (Tide.from HTY).mono HBB.2
  have HOX : Hid (Ops W9 ta tl tc us) := HOXF.out.ops
  have HOY : Hid (Ops W9 ta1 tl1 tc1 us1) := HOYF.out.ops
  clear HBB
  have H9 : Hid (Below w.heap.size w W9) := H4.out.trans (HM9.out.blw.mono H4.out.size)
  have CG := firstError_any ta ta1 tl tc tl1 tc1 us us1 W9 HOX.out HOY.out (HSC.out _ H9.out)
  rw [HP7.out, HP9.out, HE.out] at CG
  have CG : Hid (Calls Tryz.prog 93 #[.agg #[.slice ta tl tc, .slice ta1 tl1 tc1]] W9 fun e w' => e = .returned (.int .i64 E) ∧ Below W9.heap.size W9 w') := CG
  clear HT9 HTY HT7 HM7 CD0 CD1
  have m0 : W9.cell? ⟨w4.heap.size, 0, none⟩ = some (.slice ta tl tc) := HM9.out.mb.cell 0
  have m1 : W9.cell? ⟨w4.heap.size, 1, none⟩ = some (.slice ta1 tl1 tc1) := HM9.out.mb.cell 1
  rw [rounds_succ]
  go_wp2_with fail
  refine CG.out.mono ?_
  rintro e w10 ⟨rfl, hb⟩
  have HM10 : Hid (Md w4 w10 (.slice ta tl tc) (.slice ta1 tl1 tc1)) := HM9.out.under hb
  have H10 : Hid (Below w.heap.size w w10) := H9.out.trans (hb.mono H9.out.size)
  have HOX2 : Hid (OpsFrom w.heap.size w10 ta tl tc us) := HOXF.out.below hb
  have HOY2 : Hid (OpsFrom w.heap.size w10 ta1 tl1 tc1 us1) := HOYF.out.below hb
  clear hb CG m0 m1
  by_cases hE0 : E = 0
  · subst hE0
    have m0 : w10.cell? ⟨w4.heap.size, 0, none⟩ = some (.slice ta tl tc) := HM10.out.mb.cell 0
    have m1 : w10.cell? ⟨w4.heap.size, 1, none⟩ = some (.slice ta1 tl1 tc1) := HM10.out.mb.cell 1
    go_wp2
    go_quiet (fail)
    go_wp2
    exact bodyPost_ret (v := .tuple #[.slice ta tl tc, .slice ta1 tl1 tc1, .int .i64 0]) (by simp [results, Tryz.results68, go_sem]) rfl ⟨by show TurnF w.heap.size X Y 0 _ _; exact ⟨_, _, _, us, _, _, _, us1, rfl, HOX2.out.below (drewN_blw _ _), HOY2.out.below (drewN_blw _ _), HP7.out, HP9.out⟩, H10.out.trans ((drewN_blw _ _).mono H10.out.size)⟩
  · have hne2 : (E != 0) = true := by simp [hE0]
    have HE0 : Hid (¬ E = 0) := hE0
    clear hE0
    go_wp2
    exact bodyPost_ret (v := .tuple #[.slice none 0 0, .slice none 0 0, .int .i64 E]) (by simp [results, Tryz.results68, go_sem]) rfl ⟨by first | exact turnF_nil _ _ _ | (rw [if_neg HE0.out, if_neg HE0.out]; exact turnF_nil _ _ _), H10.out⟩

theorem turnF_any (ao ao' : Option Addr) (n cap n' cap' : Nat) (vs vs' : List PV) (w : World) (hO : Ops w ao n cap vs) (hO' : Ops w ao' n' cap' vs') (hS : Sch w) :
    Calls Tryz.prog 68 #[.slice ao n cap, .slice ao' n' cap'] w fun e w' => TurnF w.heap.size (Ac.trnX (vs.map PV.pt) (vs'.map PV.pt)) (Ac.trnY (vs.map PV.pt) (vs'.map PV.pt)) (Ac.trnE (vs.map PV.pt) (vs'.map PV.pt)) e w' ∧ Below w.heap.size w w' := by
  unfold Ac.trnX Ac.trnY Ac.trnE
  by_cases h1 : Ac.fst2 (vs.map PV.pt) (vs'.map PV.pt) = 0
  · rw [if_pos h1]
    by_cases h2 : Ac.nd (vs.map PV.pt) = Ac.nd (vs'.map PV.pt)
    · rw [if_pos h2]
      exact turn_main ao ao' n cap n' cap' vs vs' w hO hO' hS h1 h2
    · rw [if_neg h2, if_neg (show ¬ (6 : Int) = 0 by decide), if_neg (show ¬ (6 : Int) = 0 by decide)]
      refine (turnE_base ao ao' n cap n' cap' vs vs' w hO hO' hS h1 h2).mono ?_
      rintro e w' ⟨rfl, hb⟩
      exact ⟨turnF_nil _ _ _, hb⟩
  · rw [if_neg h1, if_neg h1, if_neg h1]
    refine (turnE_bad ao ao' n cap n' cap' vs vs' w hO hO' hS h1).mono ?_
    rintro e w' ⟨rfl, hb⟩
    exact ⟨turnF_nil _ _ _, hb⟩
theorem turn_any (ao ao' : Option Addr) (n cap n' cap' : Nat) (vs vs' : List PV) (w : World) (hO : Ops w ao n cap vs) (hO' : Ops w ao' n' cap' vs') (hS : Sch w) :
    Calls Tryz.prog 68 #[.slice ao n cap, .slice ao' n' cap'] w fun e w' => TurnP (Ac.trnX (vs.map PV.pt) (vs'.map PV.pt)) (Ac.trnY (vs.map PV.pt) (vs'.map PV.pt)) (Ac.trnE (vs.map PV.pt) (vs'.map PV.pt)) e w' ∧ Below w.heap.size w w' := by
  refine (turnF_any ao ao' n cap n' cap' vs vs' w hO hO' hS).mono ?_
  rintro e w' ⟨⟨a0, n0, c0, u0, a1, n1, c1, u1, h1, h2, h3, h4⟩, hb⟩
  exact ⟨⟨a0, n0, c0, u0, a1, n1, c1, u1, h1, h2.ops, h3.ops, h4⟩, hb⟩
/-- What Join answers. -/
def JoinP (X : List Ac.Pt) (E : Int) (e : Ending) (w' : World) : Prop := ∃ a0 n0 c0 u0, e = .returned (.tuple #[.slice a0 n0 c0, .int .i64 E]) ∧ Ops w' a0 n0 c0 u0 ∧ u0.map PV.pt = X
theorem joinP_nil (E : Int) (w' : World) : JoinP [] E (.returned (.tuple #[.slice none 0 0, .int .i64 E])) w' := ⟨none, 0, 0, [], rfl, ops_nil w', rfl⟩

set_option maxRecDepth 100000 in
set_option maxHeartbeats 3200000 in
theorem joinE_bad (ao ao' : Option Addr) (n cap n' cap' : Nat) (vs vs' : List PV) (w : World) (hO : Ops w ao n cap vs) (hO' : Ops w ao' n' cap' vs') (hS : Sch w) (hE : ¬ Ac.fst2 (vs.map PV.pt) (vs'.map PV.pt) = 0) :
    Calls Tryz.prog 85 #[.slice ao n cap, .slice ao' n' cap'] w fun e w' => e = .returned (.tuple #[.slice none 0 0, .int .i64 (Ac.fst2 (vs.map PV.pt) (vs'.map PV.pt))]) ∧ Below w.heap.size w w' := by
  have CF : Hid (Calls Tryz.prog 93 #[.agg #[.slice ao n cap, .slice ao' n' cap']] w fun e w' => e = .returned (.int .i64 (Ac.fst2 (vs.map PV.pt) (vs'.map PV.pt))) ∧ Below w.heap.size w w') := firstError_any ao ao' n cap n' cap' vs vs' w hO hO' hS
  have CA : Hid (∀ w', Below w.heap.size w w' → Calls Tryz.prog 94 #[.slice ao n cap] w' fun e w'' => e = .returned (.tuple #[.int .i64 (Ac.lf (vs.map PV.pt)), .int .i64 (Ac.lt (vs.map PV.pt))]) ∧ Below w'.heap.size w' w'') := fun w' hb => long_any ao n cap vs w' (hO.below hb)
  have CB : Hid (∀ w', Below w.heap.size w w' → Calls Tryz.prog 94 #[.slice ao' n' cap'] w' fun e w'' => e = .returned (.tuple #[.int .i64 (Ac.lf (vs'.map PV.pt)), .int .i64 (Ac.lt (vs'.map PV.pt))]) ∧ Below w'.heap.size w' w'') := fun w' hb => long_any ao' n' cap' vs' w' (hO'.below hb)

  clear hO hO' hS CA CB
  generalize Ac.fst2 (vs.map PV.pt) (vs'.map PV.pt) = r at *
  have hne : (r != 0) = true := by simp [hE]
  clear hE
  go_enter Tryz.func85, Tryz.ntmps85
  go_wp2_with fail
  refine CF.out.mono ?_
  rintro e w1 ⟨rfl, hb⟩
  have H1 : Hid (Below w.heap.size w w1) := hb
  clear hb
  go_wp2
  go_ret2
  exact ⟨rfl, H1.out⟩

set_option maxRecDepth 100000 in
set_option maxHeartbeats 3200000 in
theorem joinE_base (ao ao' : Option Addr) (n cap n' cap' : Nat) (vs vs' : List PV) (w : World) (hO : Ops w ao n cap vs) (hO' : Ops w ao' n' cap' vs') (hS : Sch w) (hE : Ac.fst2 (vs.map PV.pt) (vs'.map PV.pt) = 0) (hN : ¬ Ac.lv (vs.map PV.pt) = Ac.nd (vs'.map PV.pt)) :
    Calls Tryz.prog 85 #[.slice ao n cap, .slice ao' n' cap'] w fun e w' => e = .returned (.tuple #[.slice none 0 0, .int .i64 6]) ∧ Below w.heap.size w w' := by
  have CF : Hid (Calls Tryz.prog 93 #[.agg #[.slice ao n cap, .slice ao' n' cap']] w fun e w' => e = .returned (.int .i64 (Ac.fst2 (vs.map PV.pt) (vs'.map PV.pt))) ∧ Below w.heap.size w w') := firstError_any ao ao' n cap n' cap' vs vs' w hO hO' hS
  have CA : Hid (∀ w', Below w.heap.size w w' → Calls Tryz.prog 94 #[.slice ao n cap] w' fun e w'' => e = .returned (.tuple #[.int .i64 (Ac.lf (vs.map PV.pt)), .int .i64 (Ac.lt (vs.map PV.pt))]) ∧ Below w'.heap.size w' w'') := fun w' hb => long_any ao n cap vs w' (hO.below hb)
  have CB : Hid (∀ w', Below w.heap.size w w' → Calls Tryz.prog 94 #[.slice ao' n' cap'] w' fun e w'' => e = .returned (.tuple #[.int .i64 (Ac.lf (vs'.map PV.pt)), .int .i64 (Ac.lt (vs'.map PV.pt))]) ∧ Below w'.heap.size w' w'') := fun w' hb => long_any ao' n' cap' vs' w' (hO'.below hb)

  obtain ⟨r1, r2⟩ := Ac.fst2_right hE
  rw [hE] at CF
  rw [r1.lt] at CA
  rw [r2.lf] at CB
  clear hO hO' hS hE r1 r2
  generalize Ac.lv (vs.map PV.pt) = k at *
  generalize Ac.nd (vs'.map PV.pt) = k' at *
  generalize Ac.lf (vs.map PV.pt) = l at *
  generalize Ac.lt (vs'.map PV.pt) = l' at *
  have hne : ((k : Int) != (k' : Int)) = true := by simp; omega
  have hne' : (k != k') = true := by simp; omega
  clear hN
  go_enter Tryz.func85, Tryz.ntmps85
  go_wp2_with fail
  refine CF.out.mono ?_
  rintro e w1 ⟨rfl, hb⟩
  have H1 : Hid (Below w.heap.size w w1) := hb
  clear hb
  go_wp2_with fail
  refine (CA.out _ H1.out).mono ?_
  rintro e w2 ⟨rfl, hb⟩
  have H2 : Hid (Below w.heap.size w w2) := H1.out.trans (hb.mono H1.out.size)
  clear hb
  go_wp2_with fail
  refine (CB.out _ H2.out).mono ?_
  rintro e w3 ⟨rfl, hb⟩
  have H3 : Hid (Below w.heap.size w w3) := H2.out.trans (hb.mono H2.out.size)
  clear hb
  go_wp2
  go_ret2
  exact ⟨rfl, H3.out⟩

set_option maxRecDepth 100000 in
set_option maxHeartbeats 6400000 in
theorem join_main (ao ao' : Option Addr) (n cap n' cap' : Nat) (vs vs' : List PV) (w : World) (hO : Ops w ao n cap vs) (hO' : Ops w ao' n' cap' vs') (hS : Sch w) (hE : Ac.fst2 (vs.map PV.pt) (vs'.map PV.pt) = 0) (hN : Ac.lv (vs.map PV.pt) = Ac.nd (vs'.map PV.pt)) :
    Calls Tryz.prog 85 #[.slice ao n cap, .slice ao' n' cap'] w fun e w' => JoinP (if Ac.chk (Ac.jx (vs.map PV.pt) (vs'.map PV.pt)) = 0 then Ac.jx (vs.map PV.pt) (vs'.map PV.pt) else []) (Ac.chk (Ac.jx (vs.map PV.pt) (vs'.map PV.pt))) e w' ∧ Below w.heap.size w w' := by
  have CF : Hid (Calls Tryz.prog 93 #[.agg #[.slice ao n cap, .slice ao' n' cap']] w fun e w' => e = .returned (.int .i64 (Ac.fst2 (vs.map PV.pt) (vs'.map PV.pt))) ∧ Below w.heap.size w w') := firstError_any ao ao' n cap n' cap' vs vs' w hO hO' hS
  have CA : Hid (∀ w', Below w.heap.size w w' → Calls Tryz.prog 94 #[.slice ao n cap] w' fun e w'' => e = .returned (.tuple #[.int .i64 (Ac.lf (vs.map PV.pt)), .int .i64 (Ac.lt (vs.map PV.pt))]) ∧ Below w'.heap.size w' w'') := fun w' hb => long_any ao n cap vs w' (hO.below hb)
  have CB : Hid (∀ w', Below w.heap.size w w' → Calls Tryz.prog 94 #[.slice ao' n' cap'] w' fun e w'' => e = .returned (.tuple #[.int .i64 (Ac.lf (vs'.map PV.pt)), .int .i64 (Ac.lt (vs'.map PV.pt))]) ∧ Below w'.heap.size w' w'') := fun w' hb => long_any ao' n' cap' vs' w' (hO'.below hb)

  obtain ⟨r1, r2⟩ := Ac.fst2_right hE
  rw [hE] at CF
  rw [r1.lt] at CA
  rw [r2.lf, ← hN] at CB
  have CT : Hid (∀ w', Below w.heap.size w w' → Calls Tryz.prog 102 #[.agg #[.slice ao n cap, .int .i64 0, .slice ao' n' cap', .int .i64 0]] w' fun e w'' => (∃ a0 n0 c0 u0, e = .returned (.slice a0 n0 c0) ∧ Ops w'' a0 n0 c0 u0 ∧ Ac.join (Ac.acts (vs.map PV.pt)) (Ac.acts (vs'.map PV.pt)) = Ac.acts (u0.map PV.pt) ∧ (∀ v ∈ u0, Ac.err1 v.pt = 0) ∧ u0.length ≤ 80) ∧ Below w'.heap.size w' w'') := fun w' hb => joined_any ao ao' n cap n' cap' vs vs' w' (hO.below hb) (hO'.below hb) r1 r2 hN
  have HSC : Hid (∀ w', Below w.heap.size w w' → Sch w') := fun w' hb => hS.below hb
  obtain ⟨X, hX⟩ : ∃ X, Ac.jx (vs.map PV.pt) (vs'.map PV.pt) = X := ⟨_, rfl⟩
  have HX : Hid (Ac.tA (Ac.join (Ac.acts (vs.map PV.pt)) (Ac.acts (vs'.map PV.pt))) = X) := hX
  rw [hX]
  clear hO hO' hS hE hN r1 r2 hX
  generalize Ac.join (Ac.acts (vs.map PV.pt)) (Ac.acts (vs'.map PV.pt)) = TT at *
  generalize Ac.lv (vs.map PV.pt) = k at *
  generalize Ac.lf (vs.map PV.pt) = l at *
  generalize Ac.lt (vs'.map PV.pt) = l' at *
  have hne : ((k : Int) != (k : Int)) = false := by simp
  obtain ⟨E, hEE⟩ : ∃ E, Ac.chk X = E := ⟨_, rfl⟩
  have HE : Hid (Ac.chk X = E) := hEE
  rw [hEE]
  clear hEE
  go_enter Tryz.func85, Tryz.ntmps85
  go_wp2_with fail
  refine CF.out.mono ?_
  rintro e w1 ⟨rfl, hb⟩
  have H1 : Hid (Below w.heap.size w w1) := hb
  clear hb
  go_wp2_with fail
  refine (CA.out _ H1.out).mono ?_
  rintro e w2 ⟨rfl, hb⟩
  have H2 : Hid (Below w.heap.size w w2) := H1.out.trans (hb.mono H1.out.size)
  clear hb
  go_wp2_with fail
  refine (CB.out _ H2.out).mono ?_
  rintro e w3 ⟨rfl, hb⟩
  have H3 : Hid (Below w.heap.size w w3) := H2.out.trans (hb.mono H2.out.size)
  clear hb CF CA CB
  go_wp2_with fail
  refine (CT.out _ H3.out).mono ?_
  rintro e w4 ⟨⟨a0, n0, c0, u0, rfl, o0, ht, e0, l0⟩, hb⟩
  have H4 : Hid (Below w.heap.size w w4) := H3.out.trans (hb.mono H3.out.size)
  have hX0 : Ac.tidy (u0.map PV.pt) = X := by rw [Ac.tidy_tA, ← HX.out, ht]
  have CD := made_tidy a0 n0 c0 u0 w4 o0 e0 (by omega)
  rw [hX0] at CD
  have CD : Hid (Calls Tryz.prog 96 #[.slice a0 n0 c0] w4 fun e w' => (∃ tv us, e = .returned tv ∧ Tide w' w4.heap.size tv us ∧ us.map PV.pt = X) ∧ Below w4.heap.size w4 w') := CD
  clear hb o0 ht e0 l0 CT HX hX0
  go_wp2_with fail
  refine CD.out.mono ?_
  rintro e w5 ⟨⟨tv, us, rfl, hT, hp⟩, hb⟩
  have H5 : Hid (Below w.heap.size w w5) := H4.out.trans (hb.mono H4.out.size)
  obtain ⟨ta, tc, htv, hops⟩ := hT.ops
  obtain ⟨tl, htl⟩ : ∃ tl, us.length = tl := ⟨_, rfl⟩
  rw [htl] at htv hops
  have HOX : Hid (Ops w5 ta tl tc us) := hops
  have HP : Hid (us.map PV.pt = X) := hp
  have CG := chk_any ta tl tc us w5 hops (HSC.out _ H5.out)
  rw [hp, HE.out] at CG
  have CG : Hid (Calls Tryz.prog 75 #[.slice ta tl tc] w5 fun e w' => e = .returned (.int .i64 E) ∧ Below w5.heap.size w5 w') := CG
  subst htv
  clear hT hp hb hops htl CD
  go_wp2_with fail
  refine CG.out.mono ?_
  rintro e w6 ⟨rfl, hb⟩
  have H6 : Hid (Below w.heap.size w w6) := H5.out.trans (hb.mono H5.out.size)
  have HOX2 : Hid (Ops w6 ta tl tc us) := HOX.out.below hb
  clear hb CG
  by_cases hE0 : E = 0
  · subst hE0
    go_wp2
    go_ret2
    exact ⟨by show JoinP X 0 _ _; exact ⟨_, _, _, us, rfl, HOX2.out, HP.out⟩, H6.out⟩
  · have hne2 : (E != 0) = true := by simp [hE0]
    have HE0 : Hid (¬ E = 0) := hE0
    clear hE0
    go_wp2
    go_ret2
    exact ⟨by first | exact joinP_nil _ _ | (rw [if_neg HE0.out]; exact joinP_nil _ _), H6.out⟩
theorem join_any (ao ao' : Option Addr) (n cap n' cap' : Nat) (vs vs' : List PV) (w : World) (hO : Ops w ao n cap vs) (hO' : Ops w ao' n' cap' vs') (hS : Sch w) :
    Calls Tryz.prog 85 #[.slice ao n cap, .slice ao' n' cap'] w fun e w' => JoinP (Ac.jonX (vs.map PV.pt) (vs'.map PV.pt)) (Ac.jonE (vs.map PV.pt) (vs'.map PV.pt)) e w' ∧ Below w.heap.size w w' := by
  unfold Ac.jonX Ac.jonE
  by_cases h1 : Ac.fst2 (vs.map PV.pt) (vs'.map PV.pt) = 0
  · rw [if_pos h1]
    by_cases h2 : Ac.lv (vs.map PV.pt) = Ac.nd (vs'.map PV.pt)
    · rw [if_pos h2]
      exact join_main ao ao' n cap n' cap' vs vs' w hO hO' hS h1 h2
    · rw [if_neg h2, if_neg (show ¬ (6 : Int) = 0 by decide)]
      refine (joinE_base ao ao' n cap n' cap' vs vs' w hO hO' hS h1 h2).mono ?_
      rintro e w' ⟨rfl, hb⟩
      exact ⟨joinP_nil _ _, hb⟩
  · rw [if_neg h1, if_neg h1]
    refine (joinE_bad ao ao' n cap n' cap' vs vs' w hO hO' hS h1).mono ?_
    rintro e w' ⟨rfl, hb⟩
    exact ⟨joinP_nil _ _, hb⟩
end Go.Proofs.YtaigleblmbblcaaGreatDoor
