/-
  Texts of this proof, one behind the other.
-/
import Derived.Test.YtbhcklkbckacpaaDoorG8
import Derived.Deep.Onto
import Derived.Test.YtbhcklkbckacpaaDoorG5
import Derived.Laws.ResultCell

/-
  Package ot: Turn and Join, of whatever operations.
-/
namespace Go.Proofs.YtbhcklkbckacpaaDoor
open Go.RowKit
namespace Ac
/-- Acts, tidied, as an operation. -/
def tA (l : List A) : List Pt := tdy [] [] 0 l
theorem tidy_tA (o : List Pt) : tidy o = tA (acts o) := rfl
def tx (a b : List Pt) : List Pt := tA (turn (acts a) (acts b)).1
def ty (a b : List Pt) : List Pt := tA (turn (acts a) (acts b)).2
def jx (a b : List Pt) : List Pt := tA (join (acts a) (acts b))
/-- What is wrong with the first one, or else with the other one. -/
def fst2 (a b : List Pt) : Int := if chk a = 0 then chk b else chk a
def trnE (a b : List Pt) : Int := if fst2 a b = 0 then (if nd a = nd b then fst2 (tx a b) (ty a b) else 6) else fst2 a b
def trnX (a b : List Pt) : List Pt := if trnE a b = 0 then tx a b else []
def trnY (a b : List Pt) : List Pt := if trnE a b = 0 then ty a b else []
def jonE (a b : List Pt) : Int := if fst2 a b = 0 then (if lv a = nd b then chk (jx a b) else 6) else fst2 a b
def jonX (a b : List Pt) : List Pt := if jonE a b = 0 then jx a b else []
theorem fst2_right {a b : List Pt} (h : fst2 a b = 0) : Right a ∧ Right b := by
  unfold fst2 at h
  by_cases ha : chk a = 0
  · rw [if_pos ha] at h
    exact ⟨chk_right.1 ha, chk_right.1 h⟩
  · rw [if_neg ha] at h
    exact absurd h ha
end Ac

set_option maxRecDepth 100000 in
set_option maxHeartbeats 1600000 in
theorem firstError_any (ao ao' : Option Addr) (n cap n' cap' : Nat) (vs vs' : List PV) (w : World) (hO : Ops w ao n cap vs) (hO' : Ops w ao' n' cap' vs') (hS : Sch w) :
    Calls Tryd.prog 30 #[.agg #[.slice ao n cap, .slice ao' n' cap']] w fun e w' => e = .returned (.int .i64 (Ac.fst2 (vs.map PV.pt) (vs'.map PV.pt))) ∧ Below w.heap.size w w' := by
  have C0 : Hid (∀ w', Below w.heap.size w w' → Calls Tryd.prog 35 #[.slice ao n cap] w' fun e w'' => e = .returned (.int .i64 (Ac.chk (vs.map PV.pt))) ∧ Below w'.heap.size w' w'') := fun w' hb => chk_any ao n cap vs w' (hO.below hb) (hS.below hb)
  have C1 : Hid (∀ w', Below w.heap.size w w' → Calls Tryd.prog 35 #[.slice ao' n' cap'] w' fun e w'' => e = .returned (.int .i64 (Ac.chk (vs'.map PV.pt))) ∧ Below w'.heap.size w' w'') := fun w' hb => chk_any ao' n' cap' vs' w' (hO'.below hb) (hS.below hb)
  obtain ⟨R, hR⟩ : ∃ R, Ac.fst2 (vs.map PV.pt) (vs'.map PV.pt) = R := ⟨_, rfl⟩
  rw [hR]
  unfold Ac.fst2 at hR
  have ix0 := idx0 (.slice ao n cap) (.slice ao' n' cap')
  have ix1 := idx1 (.slice ao n cap) (.slice ao' n' cap')
  have H1 : Hid (Below w.heap.size w (w.alloc (.cells #[.slice ao n cap, .slice ao' n' cap'] 59))) := (Below.refl _ _).alloc (Nat.le_refl _) _
  clear hO hO' hS
  generalize Ac.chk (vs.map PV.pt) = r at *
  generalize Ac.chk (vs'.map PV.pt) = r' at *
  by_cases hr : r = 0
  · rw [if_pos hr] at hR
    subst hR hr
    by_cases hr' : r' = 0
    · subst hr'
      go_enter Tryd.func30, Tryd.ntmps30
      go_wp2_with fail
      refine wp_loop_rounds 3 ?_
      rw [rounds_succ]
      go_wp2_with fail
      refine (C0.out _ H1.out).mono ?_
      rintro e w1 ⟨rfl, hb⟩
      have H2 : Hid (Below w.heap.size w w1) := H1.out.trans (hb.mono H1.out.size)
      clear hb
      go_wp2_with fail
      rw [rounds_succ]
      go_wp2_with fail
      refine (C1.out _ H2.out).mono ?_
      rintro e w2 ⟨rfl, hb⟩
      have H3 : Hid (Below w.heap.size w w2) := H2.out.trans (hb.mono H2.out.size)
      clear hb
      go_wp2_with fail
      rw [rounds_succ]
      go_wp2
      go_ret
      exact ⟨rfl, H3.out⟩
    · have hne : (r' != 0) = true := by simp [hr']
      clear hr'
      go_enter Tryd.func30, Tryd.ntmps30
      go_wp2_with fail
      refine wp_loop_rounds 3 ?_
      rw [rounds_succ]
      go_wp2_with fail
      refine (C0.out _ H1.out).mono ?_
      rintro e w1 ⟨rfl, hb⟩
      have H2 : Hid (Below w.heap.size w w1) := H1.out.trans (hb.mono H1.out.size)
      clear hb
      go_wp2_with fail
      rw [rounds_succ]
      go_wp2_with fail
      refine (C1.out _ H2.out).mono ?_
      rintro e w2 ⟨rfl, hb⟩
      have H3 : Hid (Below w.heap.size w w2) := H2.out.trans (hb.mono H2.out.size)
      clear hb
      go_wp2
      go_ret
      exact ⟨rfl, H3.out⟩
  · rw [if_neg hr] at hR
    subst hR
    have hne : (r != 0) = true := by simp [hr]
    clear hr
    go_enter Tryd.func30, Tryd.ntmps30
    go_wp2_with fail
    refine wp_loop_rounds 3 ?_
    rw [rounds_succ]
    go_wp2_with fail
    refine (C0.out _ H1.out).mono ?_
    rintro e w1 ⟨rfl, hb⟩
    have H2 : Hid (Below w.heap.size w w1) := H1.out.trans (hb.mono H1.out.size)
    clear hb
    go_wp2
    go_ret
    exact ⟨rfl, H2.out⟩

set_option maxRecDepth 100000 in
set_option maxHeartbeats 3200000 in
theorem turnE_bad (ao ao' : Option Addr) (n cap n' cap' : Nat) (vs vs' : List PV) (w : World) (hO : Ops w ao n cap vs) (hO' : Ops w ao' n' cap' vs') (hS : Sch w) (hE : ¬ Ac.fst2 (vs.map PV.pt) (vs'.map PV.pt) = 0) :
    Calls Tryd.prog 9 #[.slice ao n cap, .slice ao' n' cap'] w fun e w' => e = .returned (.tuple #[.slice none 0 0, .slice none 0 0, .int .i64 (Ac.fst2 (vs.map PV.pt) (vs'.map PV.pt))]) ∧ Below w.heap.size w w' := by
  have CF : Hid (Calls Tryd.prog 30 #[.agg #[.slice ao n cap, .slice ao' n' cap']] w fun e w' => e = .returned (.int .i64 (Ac.fst2 (vs.map PV.pt) (vs'.map PV.pt))) ∧ Below w.heap.size w w') := firstError_any ao ao' n cap n' cap' vs vs' w hO hO' hS
  have CA : Hid (∀ w', Below w.heap.size w w' → Calls Tryd.prog 31 #[.slice ao n cap] w' fun e w'' => e = .returned (.tuple #[.int .i64 (Ac.lf (vs.map PV.pt)), .int .i64 (Ac.lt (vs.map PV.pt))]) ∧ Below w'.heap.size w' w'') := fun w' hb => long_any ao n cap vs w' (hO.below hb)
  have CB : Hid (∀ w', Below w.heap.size w w' → Calls Tryd.prog 31 #[.slice ao' n' cap'] w' fun e w'' => e = .returned (.tuple #[.int .i64 (Ac.lf (vs'.map PV.pt)), .int .i64 (Ac.lt (vs'.map PV.pt))]) ∧ Below w'.heap.size w' w'') := fun w' hb => long_any ao' n' cap' vs' w' (hO'.below hb)

  clear hO hO' hS CA CB
  generalize Ac.fst2 (vs.map PV.pt) (vs'.map PV.pt) = r at *
  have hne : (r != 0) = true := by simp [hE]
  clear hE
  go_enter Tryd.func9, Tryd.ntmps9
  go_wp2_with fail
  refine CF.out.mono ?_
  rintro e w1 ⟨rfl, hb⟩
  have H1 : Hid (Below w.heap.size w w1) := hb
  clear hb
  go_wp2
  exact bodyPost_ret (v := .tuple #[.slice none 0 0, .slice none 0 0, .int .i64 r]) (by simp [results, Tryd.results9, go_sem]) rfl ⟨rfl, H1.out⟩

set_option maxRecDepth 100000 in
set_option maxHeartbeats 3200000 in
theorem turnE_base (ao ao' : Option Addr) (n cap n' cap' : Nat) (vs vs' : List PV) (w : World) (hO : Ops w ao n cap vs) (hO' : Ops w ao' n' cap' vs') (hS : Sch w) (hE : Ac.fst2 (vs.map PV.pt) (vs'.map PV.pt) = 0) (hN : ¬ Ac.nd (vs.map PV.pt) = Ac.nd (vs'.map PV.pt)) :
    Calls Tryd.prog 9 #[.slice ao n cap, .slice ao' n' cap'] w fun e w' => e = .returned (.tuple #[.slice none 0 0, .slice none 0 0, .int .i64 6]) ∧ Below w.heap.size w w' := by
  have CF : Hid (Calls Tryd.prog 30 #[.agg #[.slice ao n cap, .slice ao' n' cap']] w fun e w' => e = .returned (.int .i64 (Ac.fst2 (vs.map PV.pt) (vs'.map PV.pt))) ∧ Below w.heap.size w w') := firstError_any ao ao' n cap n' cap' vs vs' w hO hO' hS
  have CA : Hid (∀ w', Below w.heap.size w w' → Calls Tryd.prog 31 #[.slice ao n cap] w' fun e w'' => e = .returned (.tuple #[.int .i64 (Ac.lf (vs.map PV.pt)), .int .i64 (Ac.lt (vs.map PV.pt))]) ∧ Below w'.heap.size w' w'') := fun w' hb => long_any ao n cap vs w' (hO.below hb)
  have CB : Hid (∀ w', Below w.heap.size w w' → Calls Tryd.prog 31 #[.slice ao' n' cap'] w' fun e w'' => e = .returned (.tuple #[.int .i64 (Ac.lf (vs'.map PV.pt)), .int .i64 (Ac.lt (vs'.map PV.pt))]) ∧ Below w'.heap.size w' w'') := fun w' hb => long_any ao' n' cap' vs' w' (hO'.below hb)

  obtain ⟨r1, r2⟩ := Ac.fst2_right hE
  rw [hE] at CF
  rw [r1.lf] at CA
  rw [r2.lf] at CB
  clear hO hO' hS hE r1 r2
  generalize Ac.nd (vs.map PV.pt) = k at *
  generalize Ac.nd (vs'.map PV.pt) = k' at *
  generalize Ac.lt (vs.map PV.pt) = l at *
  generalize Ac.lt (vs'.map PV.pt) = l' at *
  have hne : ((k : Int) != (k' : Int)) = true := by simp; omega
  have hne' : (k != k') = true := by simp; omega
  clear hN
  go_enter Tryd.func9, Tryd.ntmps9
  go_wp2_with fail
  refine CF.out.mono ?_
  rintro e w1 ⟨rfl, hb⟩
  have H1 : Hid (Below w.heap.size w w1) := hb
  clear hb
  go_wp2_with fail
  refine (CA.out _ H1.out).mono ?_
  rintro e w2 ⟨rfl, hb⟩
  have H2 : Hid (Below w.heap.size w w2) := H1.out.trans (hb.mono H1.out.size)
  clear hb
  go_wp2_with fail
  refine (CB.out _ H2.out).mono ?_
  rintro e w3 ⟨rfl, hb⟩
  have H3 : Hid (Below w.heap.size w w3) := H2.out.trans (hb.mono H2.out.size)
  clear hb
  go_wp2
  exact bodyPost_ret (v := .tuple #[.slice none 0 0, .slice none 0 0, .int .i64 6]) (by simp [results, Tryd.results9, go_sem]) rfl ⟨rfl, H3.out⟩

/-- Two operations that are made, in a variable. -/
structure Md (w0 w : World) (x y : Value) : Prop where
  mb : Blk w w0.heap.size [x, y] 59
  blw : Below w0.heap.size w0 w
def boxm (x y : Value) (w : World) : World := w.alloc (.cells #[x, y] 59)
theorem Md.start (x y : Value) (w : World) : Md w (boxm x y w) x y := ⟨Blk.new w _ _, (Below.refl _ _).alloc (Nat.le_refl _) _⟩
theorem Md.under {w0 w w' : World} {x y : Value} (h : Md w0 w x y) (hb : Below w.heap.size w w') : Md w0 w' x y := ⟨(hb.block _ h.mb.lt).trans h.mb, h.blw.trans (hb.mono h.blw.size)⟩
theorem Md.set0 {w0 w : World} {x y : Value} (h : Md w0 w x y) (z : Value) : Md w0 (w.setCell ⟨w0.heap.size, 0, none⟩ z) z y := ⟨h.mb.set 0 z, h.blw.setCell (Nat.le_refl _) _⟩
theorem Md.set1 {w0 w : World} {x y : Value} (h : Md w0 w x y) (z : Value) : Md w0 (w.setCell ⟨w0.heap.size, 1, none⟩ z) x z := ⟨h.mb.set 1 z, h.blw.setCell (Nat.le_refl _) _⟩
theorem Tide.low {w : World} {B : Nat} {tv : Value} {out : List PV} (h : Tide w B tv out) {k : Nat} (hk : k < B) (j : Nat) (z : Value) : Tide (w.setCell ⟨k, j, none⟩ z) B tv out :=
  h.kept (kept_set w k j z [k] (by simp)) (fun x hx e => by have := ownBlk_ge h.own x e; rw [List.mem_singleton] at hx; omega) (fun v hv a hm ha hx => by have := h.hi v hv a hm ha; rw [List.mem_singleton] at hx; omega)

/-- What Turn answers: two operations, and an error. -/
theorem Ops.kept {w w' : World} {a : Option Addr} {n c : Nat} {vs : List PV} {S : List Nat} (h : Ops w a n c vs) (hk : Kept w w' S) (h1 : ∀ ad : Addr, n ≠ 0 → a = some ad → ad.block ∉ S) (h2 : ∀ v ∈ vs, ∀ ad : Addr, v.m ≠ 0 → v.ao = some ad → ad.block ∉ S) : Ops w' a n c vs :=
  ⟨h.row.kept (by decide) hk h1, fun v hv => (h.pts v hv).kept hk (h2 v hv)⟩
/-- An operation that lies in blocks from B on. -/
structure OpsFrom (B : Nat) (w : World) (a : Option Addr) (n c : Nat) (vs : List PV) : Prop where
  ops : Ops w a n c vs
  row : ∀ ad : Addr, n ≠ 0 → a = some ad → B ≤ ad.block
  its : ∀ v ∈ vs, ∀ ad : Addr, v.m ≠ 0 → v.ao = some ad → B ≤ ad.block
theorem OpsFrom.nil (B : Nat) (w : World) : OpsFrom B w none 0 0 [] := ⟨ops_nil w, fun _ h _ => absurd rfl h, fun v hv => absurd hv (by simp)⟩
theorem OpsFrom.below {B : Nat} {w w' : World} {a : Option Addr} {n c : Nat} {vs : List PV} (h : OpsFrom B w a n c vs) (hb : Below w.heap.size w w') : OpsFrom B w' a n c vs := ⟨h.ops.below hb, h.row, h.its⟩
theorem OpsFrom.mono {B B' : Nat} {w : World} {a : Option Addr} {n c : Nat} {vs : List PV} (h : OpsFrom B w a n c vs) (hb : B' ≤ B) : OpsFrom B' w a n c vs := ⟨h.ops, fun ad h1 h2 => Nat.le_trans hb (h.row ad h1 h2), fun v hv ad h1 h2 => Nat.le_trans hb (h.its v hv ad h1 h2)⟩
theorem OpsFrom.kept {B : Nat} {w w' : World} {a : Option Addr} {n c : Nat} {vs : List PV} {S : List Nat} (h : OpsFrom B w a n c vs) (hk : Kept w w' S) (hS : ∀ x ∈ S, x < B) : OpsFrom B w' a n c vs :=
  ⟨h.ops.kept hk (fun ad h1 h2 hx => by have := h.row ad h1 h2; have := hS _ hx; omega) (fun v hv ad h1 h2 hx => by have := h.its v hv ad h1 h2; have := hS _ hx; omega), h.row, h.its⟩
theorem Tide.from {w : World} {B n c : Nat} {a : Option Addr} {us : List PV} (h : Tide w B (.slice a n c) us) : OpsFrom B w a n c us := by
  obtain ⟨a', c', e, hr⟩ := own_row h.own
  simp only [Value.slice.injEq] at e
  obtain ⟨rfl, rfl, rfl⟩ := e
  exact ⟨⟨hr, h.pts⟩, fun ad _ e => ownBlk_ge h.own _ (by rw [e]; rfl), fun v hv => h.hi v hv⟩
/-- What Turn answers, and where it lies. -/
def TurnF (B : Nat) (X Y : List Ac.Pt) (E : Int) (e : Ending) (w' : World) : Prop := ∃ a0 n0 c0 u0 a1 n1 c1 u1, e = .returned (.tuple #[.slice a0 n0 c0, .slice a1 n1 c1, .int .i64 E]) ∧ OpsFrom B w' a0 n0 c0 u0 ∧ OpsFrom B w' a1 n1 c1 u1 ∧ u0.map PV.pt = X ∧ u1.map PV.pt = Y
theorem turnF_nil (B : Nat) (E : Int) (w' : World) : TurnF B [] [] E (.returned (.tuple #[.slice none 0 0, .slice none 0 0, .int .i64 E])) w' := ⟨none, 0, 0, [], none, 0, 0, [], rfl, OpsFrom.nil B w', OpsFrom.nil B w', rfl, rfl⟩
def TurnP (X Y : List Ac.Pt) (E : Int) (e : Ending) (w' : World) : Prop := ∃ a0 n0 c0 u0 a1 n1 c1 u1, e = .returned (.tuple #[.slice a0 n0 c0, .slice a1 n1 c1, .int .i64 E]) ∧ Ops w' a0 n0 c0 u0 ∧ Ops w' a1 n1 c1 u1 ∧ u0.map PV.pt = X ∧ u1.map PV.pt = Y
theorem turnP_nil (E : Int) (w' : World) : TurnP [] [] E (.returned (.tuple #[.slice none 0 0, .slice none 0 0, .int .i64 E])) w' := ⟨none, 0, 0, [], none, 0, 0, [], rfl, ops_nil w', ops_nil w', rfl, rfl⟩
set_option maxRecDepth 100000 in
set_option maxHeartbeats 6400000 in
theorem turn_main (ao ao' : Option Addr) (n cap n' cap' : Nat) (vs vs' : List PV) (w : World) (hO : Ops w ao n cap vs) (hO' : Ops w ao' n' cap' vs') (hS : Sch w) (hE : Ac.fst2 (vs.map PV.pt) (vs'.map PV.pt) = 0) (hN : Ac.nd (vs.map PV.pt) = Ac.nd (vs'.map PV.pt)) :
    Calls Tryd.prog 9 #[.slice ao n cap, .slice ao' n' cap'] w fun e w' => TurnF w.heap.size (if Ac.fst2 (Ac.tx (vs.map PV.pt) (vs'.map PV.pt)) (Ac.ty (vs.map PV.pt) (vs'.map PV.pt)) = 0 then Ac.tx (vs.map PV.pt) (vs'.map PV.pt) else []) (if Ac.fst2 (Ac.tx (vs.map PV.pt) (vs'.map PV.pt)) (Ac.ty (vs.map PV.pt) (vs'.map PV.pt)) = 0 then Ac.ty (vs.map PV.pt) (vs'.map PV.pt) else []) (Ac.fst2 (Ac.tx (vs.map PV.pt) (vs'.map PV.pt)) (Ac.ty (vs.map PV.pt) (vs'.map PV.pt))) e w' ∧ Below w.heap.size w w' := by
  have CF : Hid (Calls Tryd.prog 30 #[.agg #[.slice ao n cap, .slice ao' n' cap']] w fun e w' => e = .returned (.int .i64 (Ac.fst2 (vs.map PV.pt) (vs'.map PV.pt))) ∧ Below w.heap.size w w') := firstError_any ao ao' n cap n' cap' vs vs' w hO hO' hS
  have CA : Hid (∀ w', Below w.heap.size w w' → Calls Tryd.prog 31 #[.slice ao n cap] w' fun e w'' => e = .returned (.tuple #[.int .i64 (Ac.lf (vs.map PV.pt)), .int .i64 (Ac.lt (vs.map PV.pt))]) ∧ Below w'.heap.size w' w'') := fun w' hb => long_any ao n cap vs w' (hO.below hb)
  have CB : Hid (∀ w', Below w.heap.size w w' → Calls Tryd.prog 31 #[.slice ao' n' cap'] w' fun e w'' => e = .returned (.tuple #[.int .i64 (Ac.lf (vs'.map PV.pt)), .int .i64 (Ac.lt (vs'.map PV.pt))]) ∧ Below w'.heap.size w' w'') := fun w' hb => long_any ao' n' cap' vs' w' (hO'.below hb)

  obtain ⟨r1, r2⟩ := Ac.fst2_right hE
  rw [hE] at CF
  rw [r1.lf] at CA
  rw [r2.lf, ← hN] at CB
  have CT : Hid (∀ w', Below w.heap.size w w' → Calls Tryd.prog 32 #[.agg #[.slice ao n cap, .int .i64 0, .slice ao' n' cap', .int .i64 0]] w' fun e w'' => (∃ a0 n0 c0 u0 a1 n1 c1 u1, e = .returned (.agg #[.slice a0 n0 c0, .slice a1 n1 c1]) ∧ Ops w'' a0 n0 c0 u0 ∧ Ops w'' a1 n1 c1 u1 ∧ Ac.turn (Ac.acts (vs.map PV.pt)) (Ac.acts (vs'.map PV.pt)) = (Ac.acts (u0.map PV.pt), Ac.acts (u1.map PV.pt)) ∧ (∀ v ∈ u0, Ac.err1 v.pt = 0) ∧ (∀ v ∈ u1, Ac.err1 v.pt = 0) ∧ u0.length ≤ 80 ∧ u1.length ≤ 80) ∧ Below w'.heap.size w' w'') := fun w' hb => turned_any ao ao' n cap n' cap' vs vs' w' (hO.below hb) (hO'.below hb) r1 r2 hN
  have HSC : Hid (∀ w', Below w.heap.size w w' → Sch w') := fun w' hb => hS.below hb
  obtain ⟨X, hX⟩ : ∃ X, Ac.tx (vs.map PV.pt) (vs'.map PV.pt) = X := ⟨_, rfl⟩
  obtain ⟨Y, hY⟩ : ∃ Y, Ac.ty (vs.map PV.pt) (vs'.map PV.pt) = Y := ⟨_, rfl⟩
  have HX : Hid (Ac.tA (Ac.turn (Ac.acts (vs.map PV.pt)) (Ac.acts (vs'.map PV.pt))).1 = X) := hX
  have HY : Hid (Ac.tA (Ac.turn (Ac.acts (vs.map PV.pt)) (Ac.acts (vs'.map PV.pt))).2 = Y) := hY
  rw [hX, hY]
  clear hO hO' hS hE hN r1 r2 hX hY
  generalize Ac.turn (Ac.acts (vs.map PV.pt)) (Ac.acts (vs'.map PV.pt)) = TT at *
  generalize Ac.nd (vs.map PV.pt) = k at *
  generalize Ac.lt (vs.map PV.pt) = l at *
  generalize Ac.lt (vs'.map PV.pt) = l' at *
  have hne : ((k : Int) != (k : Int)) = false := by simp
  obtain ⟨E, hEE⟩ : ∃ E, Ac.fst2 X Y = E := ⟨_, rfl⟩
  have HE : Hid (Ac.fst2 X Y = E) := hEE
  rw [hEE]
  clear hEE
  go_enter Tryd.func9, Tryd.ntmps9
  go_wp2_with fail
  refine CF.out.mono ?_
  rintro e w1 ⟨rfl, hb⟩
  have H1 : Hid (Below w.heap.size w w1) := hb
  clear hb
  go_wp2_with fail
  refine (CA.out _ H1.out).mono ?_
  rintro e w2 ⟨rfl, hb⟩
  have H2 : Hid (Below w.heap.size w w2) := H1.out.trans (hb.mono H1.out.size)
  clear hb
  go_wp2_with fail
  refine (CB.out _ H2.out).mono ?_
  rintro e w3 ⟨rfl, hb⟩
  have H3 : Hid (Below w.heap.size w w3) := H2.out.trans (hb.mono H2.out.size)
  clear hb CF CA CB
  go_wp2_with fail
  refine (CT.out _ H3.out).mono ?_
  rintro e w4 ⟨⟨a0, n0, c0, u0, a1, n1, c1, u1, rfl, o0, o1, ht, e0, e1, l0, l1⟩, hb⟩
  have H4 : Hid (Below w.heap.size w w4) := H3.out.trans (hb.mono H3.out.size)
  have HX0 : Hid (Ac.tidy (u0.map PV.pt) = X) := by show _ = _; rw [Ac.tidy_tA, ← HX.out, ht]
  have HY0 : Hid (Ac.tidy (u1.map PV.pt) = Y) := by show _ = _; rw [Ac.tidy_tA, ← HY.out, ht]
  have CD0 : Hid (∀ w', Below w4.heap.size w4 w' → Calls Tryd.prog 33 #[.slice a0 n0 c0] w' fun e w'' => (∃ tv us, e = .returned tv ∧ Tide w'' w'.heap.size tv us ∧ us.map PV.pt = X) ∧ Below w'.heap.size w' w'') := fun w' hb => by
    have := made_tidy a0 n0 c0 u0 w' (o0.below hb) e0 (by omega)
    rw [HX0.out] at this
    exact this
  have CD1 : Hid (∀ w', Below w4.heap.size w4 w' → Calls Tryd.prog 33 #[.slice a1 n1 c1] w' fun e w'' => (∃ tv us, e = .returned tv ∧ Tide w'' w'.heap.size tv us ∧ us.map PV.pt = Y) ∧ Below w'.heap.size w' w'') := fun w' hb => by
    have := made_tidy a1 n1 c1 u1 w' (o1.below hb) e1 (by omega)
    rw [HY0.out] at this
    exact this
  have HM : Hid (Md w4 (boxm (.slice a0 n0 c0) (.slice a1 n1 c1) w4) (.slice a0 n0 c0) (.slice a1 n1 c1)) := Md.start _ _ w4
  have ix0 := idx0 (.slice a0 n0 c0) (.slice a1 n1 c1)
  have ix1 := idx1 (.slice a0 n0 c0) (.slice a1 n1 c1)
  clear hb o0 o1 ht e0 e1 l0 l1 CT HX HY HX0 HY0
  go_upto_region 9 with fail
  change Code.wp Tryd.prog _ _ _ (boxm (.slice a0 n0 c0) (.slice a1 n1 c1) w4)
  generalize boxm (.slice a0 n0 c0) (.slice a1 n1 c1) w4 = W5 at *
  have m0 : W5.cell? ⟨w4.heap.size, 0, none⟩ = some (.slice a0 n0 c0) := HM.out.mb.cell 0
  have m1 : W5.cell? ⟨w4.heap.size, 1, none⟩ = some (.slice a1 n1 c1) := HM.out.mb.cell 1
  go_wp2_with fail
  refine wp_loop_rounds 3 ?_
  rw [rounds_succ]
  go_wp2_with fail
  refine (CD0.out _ HM.out.blw).mono ?_
  rintro e w6 ⟨⟨tv, us, rfl, hT, hp⟩, hb⟩
  have hM6 := HM.out.under hb
  have HM7 := hM6.set0 tv
  have HT7 := hT.low (k := w4.heap.size) HM.out.mb.lt 0 tv
  have HP7 : Hid (us.map PV.pt = X) := hp
  have d0 : w6.cell? ⟨w4.heap.size, 0, none⟩ = some (.slice a0 n0 c0) := hM6.mb.cell 0
  have f0 := hM6.mb.frozen 0
  obtain ⟨ta, tc, htv, -⟩ := own_row hT.own
  obtain ⟨tl, htl⟩ : ∃ tl, us.length = tl := ⟨_, rfl⟩
  rw [htl] at htv
  subst htv
  clear hT hp hb hM6 htl m0 m1
  go_wp2_with fail
  generalize w6.setCell ⟨w4.heap.size, 0, none⟩ (.slice ta tl tc) = W7 at *
  have HM7 : Hid (Md w4 W7 (.slice ta tl tc) (.slice a1 n1 c1)) := HM7
  have HT7 : Hid (Tide W7 W5.heap.size (.slice ta tl tc) us) := HT7
  have HW5 : Hid (w4.heap.size < W5.heap.size) := HM.out.mb.lt
  clear d0 f0
  rw [rounds_succ]
  go_wp2_with fail
  refine (CD1.out _ HM7.out.blw).mono ?_
  rintro e w8 ⟨⟨tv1, us1, rfl, hT, hp⟩, hb⟩
  have hM8 := HM7.out.under hb
  have HM9 := hM8.set1 tv1
  have HT9 := (HT7.out.under hb).low (k := w4.heap.size) HW5.out 1 tv1
  have HTY := hT.low (k := w4.heap.size) HM7.out.mb.lt 1 tv1
  have HP9 : Hid (us1.map PV.pt = Y) := hp
  have d1 : w8.cell? ⟨w4.heap.size, 1, none⟩ = some (.slice a1 n1 c1) := hM8.mb.cell 1
  have f1 := hM8.mb.frozen 1
  obtain ⟨ta1, tc1, htv, -⟩ := own_row hT.own
  obtain ⟨tl1, htl⟩ : ∃ tl1, us1.length = tl1 := ⟨_, rfl⟩
  rw [htl] at htv
  subst htv
  clear hT hp hb hM8 htl
  go_wp2_with fail
  generalize w8.setCell ⟨w4.heap.size, 1, none⟩ (.slice ta1 tl1 tc1) = W9 at *
  clear d1 f1
  have HM9 : Hid (Md w4 W9 (.slice ta tl tc) (.slice ta1 tl1 tc1)) := HM9
  have HBB : w.heap.size ≤ W5.heap.size ∧ w.heap.size ≤ W7.heap.size := ⟨Nat.le_trans H4.out.size (Nat.le_of_lt HW5.out), Nat.le_trans H4.out.size HM7.out.blw.size⟩
  have HOXF : Hid (OpsFrom w.heap.size W9 ta tl tc us) := (Tide.from HT9).mono HBB.1
  have HOYF : Hid (OpsFrom w.heap.size W9 ta1 tl1 tc1 us1) := (Tide.from HTY).mono HBB.2
  have HOX : Hid (Ops W9 ta tl tc us) := HOXF.out.ops
  have HOY : Hid (Ops W9 ta1 tl1 tc1 us1) := HOYF.out.ops
  clear HBB
  have H9 : Hid (Below w.heap.size w W9) := H4.out.trans (HM9.out.blw.mono H4.out.size)
  have CG := firstError_any ta ta1 tl tc tl1 tc1 us us1 W9 HOX.out HOY.out (HSC.out _ H9.out)
  rw [HP7.out, HP9.out, HE.out] at CG
  have CG : Hid (Calls Tryd.prog 30 #[.agg #[.slice ta tl tc, .slice ta1 tl1 tc1]] W9 fun e w' => e = .returned (.int .i64 E) ∧ Below W9.heap.size W9 w') := CG
  clear HT9 HTY HT7 HM7 CD0 CD1
  have m0 : W9.cell? ⟨w4.heap.size, 0, none⟩ = some (.slice ta tl tc) := HM9.out.mb.cell 0
  have m1 : W9.cell? ⟨w4.heap.size, 1, none⟩ = some (.slice ta1 tl1 tc1) := HM9.out.mb.cell 1
  rw [rounds_succ]
  go_wp2_with fail
  refine CG.out.mono ?_
  rintro e w10 ⟨rfl, hb⟩
  have HM10 : Hid (Md w4 w10 (.slice ta tl tc) (.slice ta1 tl1 tc1)) := HM9.out.under hb
  have H10 : Hid (Below w.heap.size w w10) := H9.out.trans (hb.mono H9.out.size)
  have HOX2 : Hid (OpsFrom w.heap.size w10 ta tl tc us) := HOXF.out.below hb
  have HOY2 : Hid (OpsFrom w.heap.size w10 ta1 tl1 tc1 us1) := HOYF.out.below hb
  clear hb CG m0 m1
  by_cases hE0 : E = 0
  · subst hE0
    have m0 : w10.cell? ⟨w4.heap.size, 0, none⟩ = some (.slice ta tl tc) := HM10.out.mb.cell 0
    have m1 : w10.cell? ⟨w4.heap.size, 1, none⟩ = some (.slice ta1 tl1 tc1) := HM10.out.mb.cell 1
    go_wp2
    go_quiet (fail)
    go_wp2
    exact bodyPost_ret (v := .tuple #[.slice ta tl tc, .slice ta1 tl1 tc1, .int .i64 0]) (by simp [results, Tryd.results9, go_sem]) rfl ⟨by show TurnF w.heap.size X Y 0 _ _; exact ⟨_, _, _, us, _, _, _, us1, rfl, HOX2.out.below (drewN_blw _ _), HOY2.out.below (drewN_blw _ _), HP7.out, HP9.out⟩, H10.out.trans ((drewN_blw _ _).mono H10.out.size)⟩
  · have hne2 : (E != 0) = true := by simp [hE0]
    have HE0 : Hid (¬ E = 0) := hE0
    clear hE0
    go_wp2
    exact bodyPost_ret (v := .tuple #[.slice none 0 0, .slice none 0 0, .int .i64 E]) (by simp [results, Tryd.results9, go_sem]) rfl ⟨by first | exact turnF_nil _ _ _ | (rw [if_neg HE0.out, if_neg HE0.out]; exact turnF_nil _ _ _), H10.out⟩

theorem turnF_any (ao ao' : Option Addr) (n cap n' cap' : Nat) (vs vs' : List PV) (w : World) (hO : Ops w ao n cap vs) (hO' : Ops w ao' n' cap' vs') (hS : Sch w) :
    Calls Tryd.prog 9 #[.slice ao n cap, .slice ao' n' cap'] w fun e w' => TurnF w.heap.size (Ac.trnX (vs.map PV.pt) (vs'.map PV.pt)) (Ac.trnY (vs.map PV.pt) (vs'.map PV.pt)) (Ac.trnE (vs.map PV.pt) (vs'.map PV.pt)) e w' ∧ Below w.heap.size w w' := by
  unfold Ac.trnX Ac.trnY Ac.trnE
  by_cases h1 : Ac.fst2 (vs.map PV.pt) (vs'.map PV.pt) = 0
  · rw [if_pos h1]
    by_cases h2 : Ac.nd (vs.map PV.pt) = Ac.nd (vs'.map PV.pt)
    · rw [if_pos h2]
      exact turn_main ao ao' n cap n' cap' vs vs' w hO hO' hS h1 h2
    · rw [if_neg h2, if_neg (show ¬ (6 : Int) = 0 by decide), if_neg (show ¬ (6 : Int) = 0 by decide)]
      refine (turnE_base ao ao' n cap n' cap' vs vs' w hO hO' hS h1 h2).mono ?_
      rintro e w' ⟨rfl, hb⟩
      exact ⟨turnF_nil _ _ _, hb⟩
  · rw [if_neg h1, if_neg h1, if_neg h1]
    refine (turnE_bad ao ao' n cap n' cap' vs vs' w hO hO' hS h1).mono ?_
    rintro e w' ⟨rfl, hb⟩
    exact ⟨turnF_nil _ _ _, hb⟩
theorem turn_any (ao ao' : Option Addr) (n cap n' cap' : Nat) (vs vs' : List PV) (w : World) (hO : Ops w ao n cap vs) (hO' : Ops w ao' n' cap' vs') (hS : Sch w) :
    Calls Tryd.prog 9 #[.slice ao n cap, .slice ao' n' cap'] w fun e w' => TurnP (Ac.trnX (vs.map PV.pt) (vs'.map PV.pt)) (Ac.trnY (vs.map PV.pt) (vs'.map PV.pt)) (Ac.trnE (vs.map PV.pt) (vs'.map PV.pt)) e w' ∧ Below w.heap.size w w' := by
  refine (turnF_any ao ao' n cap n' cap' vs vs' w hO hO' hS).mono ?_
  rintro e w' ⟨⟨a0, n0, c0, u0, a1, n1, c1, u1, h1, h2, h3, h4⟩, hb⟩
  exact ⟨⟨a0, n0, c0, u0, a1, n1, c1, u1, h1, h2.ops, h3.ops, h4⟩, hb⟩
/-- What Join answers. -/
def JoinP (X : List Ac.Pt) (E : Int) (e : Ending) (w' : World) : Prop := ∃ a0 n0 c0 u0, e = .returned (.tuple #[.slice a0 n0 c0, .int .i64 E]) ∧ Ops w' a0 n0 c0 u0 ∧ u0.map PV.pt = X
theorem joinP_nil (E : Int) (w' : World) : JoinP [] E (.returned (.tuple #[.slice none 0 0, .int .i64 E])) w' := ⟨none, 0, 0, [], rfl, ops_nil w', rfl⟩

set_option maxRecDepth 100000 in
set_option maxHeartbeats 3200000 in
theorem joinE_bad (ao ao' : Option Addr) (n cap n' cap' : Nat) (vs vs' : List PV) (w : World) (hO : Ops w ao n cap vs) (hO' : Ops w ao' n' cap' vs') (hS : Sch w) (hE : ¬ Ac.fst2 (vs.map PV.pt) (vs'.map PV.pt) = 0) :
    Calls Tryd.prog 10 #[.slice ao n cap, .slice ao' n' cap'] w fun e w' => e = .returned (.tuple #[.slice none 0 0, .int .i64 (Ac.fst2 (vs.map PV.pt) (vs'.map PV.pt))]) ∧ Below w.heap.size w w' := by
  have CF : Hid (Calls Tryd.prog 30 #[.agg #[.slice ao n cap, .slice ao' n' cap']] w fun e w' => e = .returned (.int .i64 (Ac.fst2 (vs.map PV.pt) (vs'.map PV.pt))) ∧ Below w.heap.size w w') := firstError_any ao ao' n cap n' cap' vs vs' w hO hO' hS
  have CA : Hid (∀ w', Below w.heap.size w w' → Calls Tryd.prog 31 #[.slice ao n cap] w' fun e w'' => e = .returned (.tuple #[.int .i64 (Ac.lf (vs.map PV.pt)), .int .i64 (Ac.lt (vs.map PV.pt))]) ∧ Below w'.heap.size w' w'') := fun w' hb => long_any ao n cap vs w' (hO.below hb)
  have CB : Hid (∀ w', Below w.heap.size w w' → Calls Tryd.prog 31 #[.slice ao' n' cap'] w' fun e w'' => e = .returned (.tuple #[.int .i64 (Ac.lf (vs'.map PV.pt)), .int .i64 (Ac.lt (vs'.map PV.pt))]) ∧ Below w'.heap.size w' w'') := fun w' hb => long_any ao' n' cap' vs' w' (hO'.below hb)

  clear hO hO' hS CA CB
  generalize Ac.fst2 (vs.map PV.pt) (vs'.map PV.pt) = r at *
  have hne : (r != 0) = true := by simp [hE]
  clear hE
  go_enter Tryd.func10, Tryd.ntmps10
  go_wp2_with fail
  refine CF.out.mono ?_
  rintro e w1 ⟨rfl, hb⟩
  have H1 : Hid (Below w.heap.size w w1) := hb
  clear hb
  go_wp2
  go_ret2
  exact ⟨rfl, H1.out⟩

set_option maxRecDepth 100000 in
set_option maxHeartbeats 3200000 in
theorem joinE_base (ao ao' : Option Addr) (n cap n' cap' : Nat) (vs vs' : List PV) (w : World) (hO : Ops w ao n cap vs) (hO' : Ops w ao' n' cap' vs') (hS : Sch w) (hE : Ac.fst2 (vs.map PV.pt) (vs'.map PV.pt) = 0) (hN : ¬ Ac.lv (vs.map PV.pt) = Ac.nd (vs'.map PV.pt)) :
    Calls Tryd.prog 10 #[.slice ao n cap, .slice ao' n' cap'] w fun e w' => e = .returned (.tuple #[.slice none 0 0, .int .i64 6]) ∧ Below w.heap.size w w' := by
  have CF : Hid (Calls Tryd.prog 30 #[.agg #[.slice ao n cap, .slice ao' n' cap']] w fun e w' => e = .returned (.int .i64 (Ac.fst2 (vs.map PV.pt) (vs'.map PV.pt))) ∧ Below w.heap.size w w') := firstError_any ao ao' n cap n' cap' vs vs' w hO hO' hS
  have CA : Hid (∀ w', Below w.heap.size w w' → Calls Tryd.prog 31 #[.slice ao n cap] w' fun e w'' => e = .returned (.tuple #[.int .i64 (Ac.lf (vs.map PV.pt)), .int .i64 (Ac.lt (vs.map PV.pt))]) ∧ Below w'.heap.size w' w'') := fun w' hb => long_any ao n cap vs w' (hO.below hb)
  have CB : Hid (∀ w', Below w.heap.size w w' → Calls Tryd.prog 31 #[.slice ao' n' cap'] w' fun e w'' => e = .returned (.tuple #[.int .i64 (Ac.lf (vs'.map PV.pt)), .int .i64 (Ac.lt (vs'.map PV.pt))]) ∧ Below w'.heap.size w' w'') := fun w' hb => long_any ao' n' cap' vs' w' (hO'.below hb)

  obtain ⟨r1, r2⟩ := Ac.fst2_right hE
  rw [hE] at CF
  rw [r1.lt] at CA
  rw [r2.lf] at CB
  clear hO hO' hS hE r1 r2
  generalize Ac.lv (vs.map PV.pt) = k at *
  generalize Ac.nd (vs'.map PV.pt) = k' at *
  generalize Ac.lf (vs.map PV.pt) = l at *
  generalize Ac.lt (vs'.map PV.pt) = l' at *
  have hne : ((k : Int) != (k' : Int)) = true := by simp; omega
  have hne' : (k != k') = true := by simp; omega
  clear hN
  go_enter Tryd.func10, Tryd.ntmps10
  go_wp2_with fail
  refine CF.out.mono ?_
  rintro e w1 ⟨rfl, hb⟩
  have H1 : Hid (Below w.heap.size w w1) := hb
  clear hb
  go_wp2_with fail
  refine (CA.out _ H1.out).mono ?_
  rintro e w2 ⟨rfl, hb⟩
  have H2 : Hid (Below w.heap.size w w2) := H1.out.trans (hb.mono H1.out.size)
  clear hb
  go_wp2_with fail
  refine (CB.out _ H2.out).mono ?_
  rintro e w3 ⟨rfl, hb⟩
  have H3 : Hid (Below w.heap.size w w3) := H2.out.trans (hb.mono H2.out.size)
  clear hb
  go_wp2
  go_ret2
  exact ⟨rfl, H3.out⟩

set_option maxRecDepth 100000 in
set_option maxHeartbeats 6400000 in
theorem join_main (ao ao' : Option Addr) (n cap n' cap' : Nat) (vs vs' : List PV) (w : World) (hO : Ops w ao n cap vs) (hO' : Ops w ao' n' cap' vs') (hS : Sch w) (hE : Ac.fst2 (vs.map PV.pt) (vs'.map PV.pt) = 0) (hN : Ac.lv (vs.map PV.pt) = Ac.nd (vs'.map PV.pt)) :
    Calls Tryd.prog 10 #[.slice ao n cap, .slice ao' n' cap'] w fun e w' => JoinP (if Ac.chk (Ac.jx (vs.map PV.pt) (vs'.map PV.pt)) = 0 then Ac.jx (vs.map PV.pt) (vs'.map PV.pt) else []) (Ac.chk (Ac.jx (vs.map PV.pt) (vs'.map PV.pt))) e w' ∧ Below w.heap.size w w' := by
  have CF : Hid (Calls Tryd.prog 30 #[.agg #[.slice ao n cap, .slice ao' n' cap']] w fun e w' => e = .returned (.int .i64 (Ac.fst2 (vs.map PV.pt) (vs'.map PV.pt))) ∧ Below w.heap.size w w') := firstError_any ao ao' n cap n' cap' vs vs' w hO hO' hS
  have CA : Hid (∀ w', Below w.heap.size w w' → Calls Tryd.prog 31 #[.slice ao n cap] w' fun e w'' => e = .returned (.tuple #[.int .i64 (Ac.lf (vs.map PV.pt)), .int .i64 (Ac.lt (vs.map PV.pt))]) ∧ Below w'.heap.size w' w'') := fun w' hb => long_any ao n cap vs w' (hO.below hb)
  have CB : Hid (∀ w', Below w.heap.size w w' → Calls Tryd.prog 31 #[.slice ao' n' cap'] w' fun e w'' => e = .returned (.tuple #[.int .i64 (Ac.lf (vs'.map PV.pt)), .int .i64 (Ac.lt (vs'.map PV.pt))]) ∧ Below w'.heap.size w' w'') := fun w' hb => long_any ao' n' cap' vs' w' (hO'.below hb)

  obtain ⟨r1, r2⟩ := Ac.fst2_right hE
  rw [hE] at CF
  rw [r1.lt] at CA
  rw [r2.lf, ← hN] at CB
  have CT : Hid (∀ w', Below w.heap.size w w' → Calls Tryd.prog 34 #[.agg #[.slice ao n cap, .int .i64 0, .slice ao' n' cap', .int .i64 0]] w' fun e w'' => (∃ a0 n0 c0 u0, e = .returned (.slice a0 n0 c0) ∧ Ops w'' a0 n0 c0 u0 ∧ Ac.join (Ac.acts (vs.map PV.pt)) (Ac.acts (vs'.map PV.pt)) = Ac.acts (u0.map PV.pt) ∧ (∀ v ∈ u0, Ac.err1 v.pt = 0) ∧ u0.length ≤ 80) ∧ Below w'.heap.size w' w'') := fun w' hb => joined_any ao ao' n cap n' cap' vs vs' w' (hO.below hb) (hO'.below hb) r1 r2 hN
  have HSC : Hid (∀ w', Below w.heap.size w w' → Sch w') := fun w' hb => hS.below hb
  obtain ⟨X, hX⟩ : ∃ X, Ac.jx (vs.map PV.pt) (vs'.map PV.pt) = X := ⟨_, rfl⟩
  have HX : Hid (Ac.tA (Ac.join (Ac.acts (vs.map PV.pt)) (Ac.acts (vs'.map PV.pt))) = X) := hX
  rw [hX]
  clear hO hO' hS hE hN r1 r2 hX
  generalize Ac.join (Ac.acts (vs.map PV.pt)) (Ac.acts (vs'.map PV.pt)) = TT at *
  generalize Ac.lv (vs.map PV.pt) = k at *
  generalize Ac.lf (vs.map PV.pt) = l at *
  generalize Ac.lt (vs'.map PV.pt) = l' at *
  have hne : ((k : Int) != (k : Int)) = false := by simp
  obtain ⟨E, hEE⟩ : ∃ E, Ac.chk X = E := ⟨_, rfl⟩
  have HE : Hid (Ac.chk X = E) := hEE
  rw [hEE]
  clear hEE
  go_enter Tryd.func10, Tryd.ntmps10
  go_wp2_with fail
  refine CF.out.mono ?_
  rintro e w1 ⟨rfl, hb⟩
  have H1 : Hid (Below w.heap.size w w1) := hb
  clear hb
  go_wp2_with fail
  refine (CA.out _ H1.out).mono ?_
  rintro e w2 ⟨rfl, hb⟩
  have H2 : Hid (Below w.heap.size w w2) := H1.out.trans (hb.mono H1.out.size)
  clear hb
  go_wp2_with fail
  refine (CB.out _ H2.out).mono ?_
  rintro e w3 ⟨rfl, hb⟩
  have H3 : Hid (Below w.heap.size w w3) := H2.out.trans (hb.mono H2.out.size)
  clear hb CF CA CB
  go_wp2_with fail
  refine (CT.out _ H3.out).mono ?_
  rintro e w4 ⟨⟨a0, n0, c0, u0, rfl, o0, ht, e0, l0⟩, hb⟩
  have H4 : Hid (Below w.heap.size w w4) := H3.out.trans (hb.mono H3.out.size)
  have hX0 : Ac.tidy (u0.map PV.pt) = X := by rw [Ac.tidy_tA, ← HX.out, ht]
  have CD := made_tidy a0 n0 c0 u0 w4 o0 e0 (by omega)
  rw [hX0] at CD
  have CD : Hid (Calls Tryd.prog 33 #[.slice a0 n0 c0] w4 fun e w' => (∃ tv us, e = .returned tv ∧ Tide w' w4.heap.size tv us ∧ us.map PV.pt = X) ∧ Below w4.heap.size w4 w') := CD
  clear hb o0 ht e0 l0 CT HX hX0
  go_wp2_with fail
  refine CD.out.mono ?_
  rintro e w5 ⟨⟨tv, us, rfl, hT, hp⟩, hb⟩
  have H5 : Hid (Below w.heap.size w w5) := H4.out.trans (hb.mono H4.out.size)
  obtain ⟨ta, tc, htv, hops⟩ := hT.ops
  obtain ⟨tl, htl⟩ : ∃ tl, us.length = tl := ⟨_, rfl⟩
  rw [htl] at htv hops
  have HOX : Hid (Ops w5 ta tl tc us) := hops
  have HP : Hid (us.map PV.pt = X) := hp
  have CG := chk_any ta tl tc us w5 hops (HSC.out _ H5.out)
  rw [hp, HE.out] at CG
  have CG : Hid (Calls Tryd.prog 35 #[.slice ta tl tc] w5 fun e w' => e = .returned (.int .i64 E) ∧ Below w5.heap.size w5 w') := CG
  subst htv
  clear hT hp hb hops htl CD
  go_wp2_with fail
  refine CG.out.mono ?_
  rintro e w6 ⟨rfl, hb⟩
  have H6 : Hid (Below w.heap.size w w6) := H5.out.trans (hb.mono H5.out.size)
  have HOX2 : Hid (Ops w6 ta tl tc us) := HOX.out.below hb
  clear hb CG
  by_cases hE0 : E = 0
  · subst hE0
    go_wp2
    go_ret2
    exact ⟨by show JoinP X 0 _ _; exact ⟨_, _, _, us, rfl, HOX2.out, HP.out⟩, H6.out⟩
  · have hne2 : (E != 0) = true := by simp [hE0]
    have HE0 : Hid (¬ E = 0) := hE0
    clear hE0
    go_wp2
    go_ret2
    exact ⟨by first | exact joinP_nil _ _ | (rw [if_neg HE0.out]; exact joinP_nil _ _), H6.out⟩
theorem join_any (ao ao' : Option Addr) (n cap n' cap' : Nat) (vs vs' : List PV) (w : World) (hO : Ops w ao n cap vs) (hO' : Ops w ao' n' cap' vs') (hS : Sch w) :
    Calls Tryd.prog 10 #[.slice ao n cap, .slice ao' n' cap'] w fun e w' => JoinP (Ac.jonX (vs.map PV.pt) (vs'.map PV.pt)) (Ac.jonE (vs.map PV.pt) (vs'.map PV.pt)) e w' ∧ Below w.heap.size w w' := by
  unfold Ac.jonX Ac.jonE
  by_cases h1 : Ac.fst2 (vs.map PV.pt) (vs'.map PV.pt) = 0
  · rw [if_pos h1]
    by_cases h2 : Ac.lv (vs.map PV.pt) = Ac.nd (vs'.map PV.pt)
    · rw [if_pos h2]
      exact join_main ao ao' n cap n' cap' vs vs' w hO hO' hS h1 h2
    · rw [if_neg h2, if_neg (show ¬ (6 : Int) = 0 by decide)]
      refine (joinE_base ao ao' n cap n' cap' vs vs' w hO hO' hS h1 h2).mono ?_
      rintro e w' ⟨rfl, hb⟩
      exact ⟨joinP_nil _ _, hb⟩
  · rw [if_neg h1, if_neg h1]
    refine (joinE_bad ao ao' n cap n' cap' vs vs' w hO hO' hS h1).mono ?_
    rintro e w' ⟨rfl, hb⟩
    exact ⟨joinP_nil _ _, hb⟩
end Go.Proofs.YtbhcklkbckacpaaDoor

/-
  Chapter 8 on acts: what is turned, and joined, is right but perhaps for its size; what it is for, and leaves; and that it ends with a Keep.
-/
namespace Go.Proofs.YtbhcklkbckacpaaDoor
open Go.RowKit
namespace Ac
theorem turn_ind {P : List A → List A → List A → List A → Prop} (h0 : P [] [] [] []) (hp : ∀ x a b u v, P a b u v → P (.put x :: a) b (.put x :: u) (.keep nop :: v))
    (hq : ∀ y a b u v, (∀ x a', a ≠ .put x :: a') → P a b u v → P a (.put y :: b) (.keep nop :: u) (.put y :: v)) (hkk : ∀ c d a b u v, P a b u v → P (.keep c :: a) (.keep d :: b) (.keep c :: u) (.keep (behind d c) :: v))
    (hck : ∀ d a b u v, P a b u v → P (.cut :: a) (.keep d :: b) (.cut :: u) v) (hkc : ∀ c a b u v, P a b u v → P (.keep c :: a) (.cut :: b) u (.cut :: v)) (hcc : ∀ a b u v, P a b u v → P (.cut :: a) (.cut :: b) u v) :
    ∀ (n : Nat) (a b : List A), a.length + b.length ≤ n → need a = need b → P a b (turn a b).1 (turn a b).2 := by
  intro n
  induction n with
  | zero =>
    intro a b hn h
    have ha : a = [] := List.length_eq_zero_iff.1 (by omega)
    have hb : b = [] := List.length_eq_zero_iff.1 (by omega)
    subst ha hb
    exact h0
  | succ n ih =>
    intro a b hn h
    rcases a with _ | ⟨k, a⟩
    · rcases b with _ | ⟨e, b⟩
      · exact h0
      · rcases e with _ | (d | y)
        · simp [need] at h
        · simp [need] at h
        · rw [turn_np]
          exact hq y _ _ _ _ (fun x a' e => by cases e) (ih [] b (by simp at hn ⊢; omega) h)
    · rcases k with _ | (c | x)
      · rcases b with _ | ⟨e, b⟩
        · simp [need] at h
        · rcases e with _ | (d | y)
          · rw [turn_cc]
            exact hcc _ _ _ _ (ih a b (by simp at hn; omega) (by simpa [need] using h))
          · rw [turn_ck]
            exact hck _ _ _ _ _ (ih a b (by simp at hn; omega) (by simpa [need] using h))
          · rw [turn_cp]
            exact hq y _ _ _ _ (fun x a' e => by cases e) (ih (.cut :: a) b (by simp at hn ⊢; omega) h)
      · rcases b with _ | ⟨e, b⟩
        · simp [need] at h
        · rcases e with _ | (d | y)
          · rw [turn_kc]
            exact hkc _ _ _ _ _ (ih a b (by simp at hn; omega) (by simpa [need] using h))
          · rw [turn_kk]
            exact hkk _ _ _ _ _ _ (ih a b (by simp at hn; omega) (by simpa [need] using h))
          · rw [turn_kp]
            exact hq y _ _ _ _ (fun x a' e => by cases e) (ih (.keep c :: a) b (by simp at hn ⊢; omega) h)
      · rw [turn_put]
        exact hp x _ _ _ _ (ih a b (by simp at hn; omega) h)
theorem join_ind {P : List A → List A → List A → Prop} (h0 : P [] [] []) (hc : ∀ a b u, P a b u → P (.cut :: a) b (.cut :: u))
    (hq : ∀ y a b u, (∀ a', a ≠ .cut :: a') → P a b u → P a (.put y :: b) (.put y :: u)) (hkk : ∀ c e a b u, P a b u → P (.keep c :: a) (.keep e :: b) (.keep (thenCh c e) :: u))
    (hkc : ∀ c a b u, P a b u → P (.keep c :: a) (.cut :: b) (.cut :: u)) (hpk : ∀ x e a b u, P a b u → P (.put x :: a) (.keep e :: b) (.put (change x e) :: u)) (hpc : ∀ x a b u, P a b u → P (.put x :: a) (.cut :: b) u) :
    ∀ (n : Nat) (a b : List A), a.length + b.length ≤ n → leave a = need b → P a b (join a b) := by
  intro n
  induction n with
  | zero =>
    intro a b hn h
    have ha : a = [] := List.length_eq_zero_iff.1 (by omega)
    have hb : b = [] := List.length_eq_zero_iff.1 (by omega)
    subst ha hb
    exact h0
  | succ n ih =>
    intro a b hn h
    rcases a with _ | ⟨k, a⟩
    · rcases b with _ | ⟨e, b⟩
      · exact h0
      · rcases e with _ | (d | y)
        · simp [need, leave] at h
        · simp [need, leave] at h
        · rw [join_np]
          exact hq y _ _ _ (fun a' e => by cases e) (ih [] b (by simp at hn ⊢; omega) h)
    · rcases k with _ | (c | x)
      · rw [join_cut]
        exact hc _ _ _ (ih a b (by simp at hn; omega) h)
      · rcases b with _ | ⟨e, b⟩
        · simp [need, leave] at h
        · rcases e with _ | (d | y)
          · rw [join_kc]
            exact hkc _ _ _ _ (ih a b (by simp at hn; omega) (by simpa [need, leave] using h))
          · rw [join_kk]
            exact hkk _ _ _ _ _ (ih a b (by simp at hn; omega) (by simpa [need, leave] using h))
          · rw [join_kp]
            exact hq y _ _ _ (fun a' e => by cases e) (ih (.keep c :: a) b (by simp at hn ⊢; omega) h)
      · rcases b with _ | ⟨e, b⟩
        · simp [need, leave] at h
        · rcases e with _ | (d | y)
          · rw [join_pc]
            exact hpc _ _ _ _ (ih a b (by simp at hn; omega) (by simpa [need, leave] using h))
          · rw [join_pk]
            exact hpk _ _ _ _ _ (ih a b (by simp at hn; omega) (by simpa [need, leave] using h))
          · rw [join_pp]
            exact hq y _ _ _ (fun a' e => by cases e) (ih (.put x :: a) b (by simp at hn ⊢; omega) h)
/-- Acts that are right. -/
def OkM (a : A) : Prop := match a with
  | some (.inl c) => marksBad c.set c.clr = false ∧ linkBad c.goes c.link = false
  | some (.inr x) => Dc.err x = 0
  | none => True
def OkL (l : List A) : Prop := ∀ a ∈ l, OkM a
theorem OkL.nil : OkL [] := fun a ha => by cases ha
theorem OkL.cons {a : A} {l : List A} (h : OkM a) (hl : OkL l) : OkL (a :: l) := fun b hb => by
  rcases List.mem_cons.1 hb with rfl | hb
  · exact h
  · exact hl b hb
theorem OkL.head {a : A} {l : List A} (h : OkL (a :: l)) : OkM a := h a (List.mem_cons_self ..)
theorem OkL.tail {a : A} {l : List A} (h : OkL (a :: l)) : OkL l := fun b hb => h b (List.mem_cons_of_mem _ hb)
theorem okm_nop : OkM (.keep nop) := ⟨by decide +kernel, by decide +kernel⟩
theorem link_behind {c d : Ch} (h : linkBad d.goes d.link = false) : linkBad (behind d c).goes (behind d c).link = false := by
  show linkBad (d.goes && !c.goes) (if c.goes then ⟨#[]⟩ else d.link) = false
  cases c.goes
  · rw [Bool.not_false, Bool.and_true]; exact h
  · exact linkBad_nil _
theorem link_then {c d : Ch} (hc : linkBad c.goes c.link = false) (h : linkBad d.goes d.link = false) : linkBad (thenCh c d).goes (thenCh c d).link = false := by
  show linkBad (c.goes || d.goes) (if d.goes then d.link else c.link) = false
  cases hg : d.goes
  · rw [Bool.or_false]; exact hc
  · rw [hg] at h; rw [Bool.or_true]; exact h
theorem err_change {x : It} {c : Ch} (hx : Dc.err x = 0) (hc : OkM (.keep c)) : Dc.err (change x c) = 0 := by
  obtain ⟨e1, e2, e3⟩ := err_parts hx
  obtain ⟨m1, m2, _⟩ := marks_of hc.1
  exact err_of e1 (mark_m4 e2 m2 m1) (link_change e3 hc.2)
theorem turn_okl {a b : List A} (h : need a = need b) (ha : OkL a) (hb : OkL b) : OkL (turn a b).1 ∧ OkL (turn a b).2 := by
  refine turn_ind (P := fun a b u v => OkL a → OkL b → OkL u ∧ OkL v) (fun _ _ => ⟨OkL.nil, OkL.nil⟩) ?_ ?_ ?_ ?_ ?_ ?_ _ a b (Nat.le_refl _) h ha hb
  · intro x a b u v ih ha hb
    obtain ⟨h1, h2⟩ := ih ha.tail hb
    exact ⟨h1.cons ha.head, h2.cons okm_nop⟩
  · intro y a b u v _ ih ha hb
    obtain ⟨h1, h2⟩ := ih ha hb.tail
    exact ⟨h1.cons okm_nop, h2.cons hb.head⟩
  · intro c d a b u v ih ha hb
    obtain ⟨h1, h2⟩ := ih ha.tail hb.tail
    exact ⟨h1.cons ha.head, h2.cons ⟨yield_marks hb.head.1 ha.head.1, link_behind hb.head.2⟩⟩
  · intro d a b u v ih ha hb
    obtain ⟨h1, h2⟩ := ih ha.tail hb.tail
    exact ⟨h1.cons trivial, h2⟩
  · intro c a b u v ih ha hb
    obtain ⟨h1, h2⟩ := ih ha.tail hb.tail
    exact ⟨h1, h2.cons trivial⟩
  · intro a b u v ih ha hb
    exact ih ha.tail hb.tail
theorem join_okl {a b : List A} (h : leave a = need b) (ha : OkL a) (hb : OkL b) : OkL (join a b) := by
  refine join_ind (P := fun a b u => OkL a → OkL b → OkL u) (fun _ _ => OkL.nil) ?_ ?_ ?_ ?_ ?_ ?_ _ a b (Nat.le_refl _) h ha hb
  · intro a b u ih ha hb
    exact (ih ha.tail hb).cons trivial
  · intro y a b u _ ih ha hb
    exact (ih ha hb.tail).cons hb.head
  · intro c e a b u ih ha hb
    exact (ih ha.tail hb.tail).cons ⟨one_marks ha.head.1 hb.head.1, link_then ha.head.2 hb.head.2⟩
  · intro c a b u ih ha hb
    exact (ih ha.tail hb.tail).cons trivial
  · intro x e a b u ih ha hb
    exact (ih ha.tail hb.tail).cons (err_change ha.head hb.head)
  · intro x a b u ih ha hb
    exact ih ha.tail hb.tail
theorem turn_snoc {a b : List A} (h : need a = need b) (c d : Ch) : turn (a ++ [.keep c]) (b ++ [.keep d]) = ((turn a b).1 ++ [.keep c], (turn a b).2 ++ [.keep (behind d c)]) := by
  refine turn_ind (P := fun a b u v => turn (a ++ [.keep c]) (b ++ [.keep d]) = (u ++ [.keep c], v ++ [.keep (behind d c)])) rfl ?_ ?_ ?_ ?_ ?_ ?_ _ a b (Nat.le_refl _) h
  · intro x a b u v ih
    rw [List.cons_append, turn_put, ih]; rfl
  · intro y a b u v ha ih
    rw [List.cons_append]
    rcases a with _ | ⟨_ | (e | x), a⟩
    · rw [List.nil_append, turn_kp]; rw [List.nil_append] at ih; rw [ih]; rfl
    · rw [List.cons_append, turn_cp]; rw [List.cons_append] at ih; rw [ih]; rfl
    · rw [List.cons_append, turn_kp]; rw [List.cons_append] at ih; rw [ih]; rfl
    · exact absurd rfl (ha x a)
  · intro e f a b u v ih
    rw [List.cons_append, List.cons_append, turn_kk, ih]; rfl
  · intro e a b u v ih
    rw [List.cons_append, List.cons_append, turn_ck, ih]; rfl
  · intro e a b u v ih
    rw [List.cons_append, List.cons_append, turn_kc, ih]; rfl
  · intro a b u v ih
    rw [List.cons_append, List.cons_append, turn_cc, ih]
theorem join_snoc {a b : List A} (h : leave a = need b) (c d : Ch) : join (a ++ [.keep c]) (b ++ [.keep d]) = join a b ++ [.keep (thenCh c d)] := by
  refine join_ind (P := fun a b u => join (a ++ [.keep c]) (b ++ [.keep d]) = u ++ [.keep (thenCh c d)]) rfl ?_ ?_ ?_ ?_ ?_ ?_ _ a b (Nat.le_refl _) h
  · intro a b u ih
    rw [List.cons_append, join_cut, ih]; rfl
  · intro y a b u ha ih
    rw [List.cons_append, join_put _ _ y (fun a' e => by
      rcases a with _ | ⟨_ | (e1 | x), a⟩
      · cases e
      · exact ha a rfl
      · cases e
      · cases e), ih]; rfl
  · intro e f a b u ih
    rw [List.cons_append, List.cons_append, join_kk, ih]; rfl
  · intro e a b u ih
    rw [List.cons_append, List.cons_append, join_kc, ih]; rfl
  · intro x e a b u ih
    rw [List.cons_append, List.cons_append, join_pk, ih]; rfl
  · intro x a b u ih
    rw [List.cons_append, List.cons_append, join_pc, ih]
/-- How many items are put. -/
def pn : List A → Nat
  | [] => 0
  | some (.inr _) :: r => pn r + 1
  | some (.inl _) :: r => pn r
  | none :: r => pn r
theorem pn_app : ∀ (a b : List A), pn (a ++ b) = pn a + pn b
  | [], b => by simp [pn]
  | some (.inl c) :: a, b => by rw [List.cons_append, pn, pn, pn_app a b]
  | some (.inr x) :: a, b => by rw [List.cons_append, pn, pn, pn_app a b]; omega
  | none :: a, b => by rw [List.cons_append, pn, pn, pn_app a b]
theorem pn_leave : ∀ a : List A, pn a ≤ leave a
  | [] => Nat.le_refl _
  | some (.inl c) :: a => by rw [pn, leave]; have := pn_leave a; omega
  | some (.inr x) :: a => by rw [pn, leave]; have := pn_leave a; omega
  | none :: a => by rw [pn, leave]; exact pn_leave a
theorem turn_pn {a b : List A} (h : need a = need b) : pn (turn a b).1 = pn a ∧ pn (turn a b).2 = pn b := by
  refine turn_ind (P := fun a b u v => pn u = pn a ∧ pn v = pn b) ⟨rfl, rfl⟩ ?_ ?_ ?_ ?_ ?_ ?_ _ a b (Nat.le_refl _) h
  · intro x a b u v ih
    exact ⟨congrArg (· + 1) ih.1, ih.2⟩
  · intro y a b u v _ ih
    exact ⟨ih.1, congrArg (· + 1) ih.2⟩
  · intro c d a b u v ih
    exact ih
  · intro d a b u v ih
    exact ih
  · intro c a b u v ih
    exact ih
  · intro a b u v ih
    exact ih
theorem pn_puts : ∀ l : List It, pn (l.map A.put) = l.length
  | [] => rfl
  | x :: l => by rw [List.map_cons, pn, pn_puts l]; rfl
theorem pn_cuts : ∀ n : Nat, pn (List.replicate n A.cut) = 0
  | 0 => rfl
  | n + 1 => by rw [List.replicate_succ, pn, pn_cuts n]
theorem pn_norm : ∀ (l : List A) (ps : List It) (n : Nat), pn (norm ps n l) = ps.length + pn l
  | [], ps, n => by rw [norm, group, pn_app, pn_puts, pn_cuts]; rfl
  | some (.inr x) :: r, ps, n => by rw [norm, pn_norm r, pn]; simp; omega
  | none :: r, ps, n => by rw [norm, pn_norm r, pn]
  | some (.inl c) :: r, ps, n => by rw [norm, group, pn_app, pn_app, pn_puts, pn_cuts, pn, pn_norm r, pn]; simp
theorem pn_mem : ∀ {o : List Pt} {z : Pt}, z ∈ o → z.kind = 2 → z.items.length ≤ pn (acts o)
  | p :: o, z, h, k => by
    rw [acts_cons, pn_app]
    rcases List.mem_cons.1 h with rfl | h
    · rw [acts1_p k, pn_puts]; omega
    · have := pn_mem h k; omega
theorem acts_tA (l : List A) : acts (tA l) = nf l := by
  unfold tA
  rw [acts_tdy _ _ _ _ (fun p hp => by cases hp), acts_nil]
  rfl
theorem tdy_snoc (c : Ch) : ∀ (l : List A) (out : List Pt) (ps : List It) (n : Nat), tdy out ps n (l ++ [.keep c]) = addK (tdy out ps n l) c
  | [], out, ps, n => by
    show tdy (addK (out ++ flushP ps n) c) [] 0 [] = _
    rw [tdy, tdy]
    show _ ++ [] = _
    rw [List.append_nil]
  | some (.inr x) :: r, out, ps, n => by rw [List.cons_append, tdy, tdy_snoc c r, tdy]
  | none :: r, out, ps, n => by rw [List.cons_append, tdy, tdy_snoc c r, tdy]
  | some (.inl e) :: r, out, ps, n => by rw [List.cons_append, tdy, tdy_snoc c r, tdy]
theorem addK_last (o : List Pt) (c : Ch) : ∃ o' q, addK o c = o' ++ [q] ∧ q.kind = 1 := by
  rcases List.eq_nil_or_concat o with e | ⟨o', q, e⟩
  · rw [e]; exact ⟨[], _, rfl, rfl⟩
  · rw [List.concat_eq_append] at e
    rw [e, addK_snoc]
    by_cases h : likeK q c = true
    · rw [if_pos h]; exact ⟨o', _, rfl, (likeK_ch h).1⟩
    · rw [if_neg h]; exact ⟨_, _, rfl, rfl⟩
theorem gd_addK {o : List Pt} {c : Ch} (ho : ∀ z ∈ o, Gd z) (hc : OkM (.keep c)) : ∀ z ∈ addK o c, Gd z := by
  have hk : Gd (keepP c 1) := .inl ⟨rfl, hc.1, hc.2, rfl, Int.le_refl _⟩
  rcases List.eq_nil_or_concat o with e | ⟨o', q, e⟩
  · rw [e]
    intro z hz
    rw [List.mem_singleton.1 hz]
    exact hk
  · rw [List.concat_eq_append] at e
    rw [e] at ho ⊢
    rw [addK_snoc]
    by_cases h : likeK q c = true
    · rw [if_pos h]
      intro z hz
      rcases List.mem_append.1 hz with hz | hz
      · exact ho z (List.mem_append_left _ hz)
      · rw [List.mem_singleton.1 hz]
        rcases ho q (by simp) with ⟨k, a, b, i, d⟩ | ⟨ps, e2, _⟩ | ⟨n, e2, _⟩
        · exact .inl ⟨k, a, b, i, by simp only; omega⟩
        · have := (likeK_ch h).1; rw [e2] at this; cases this
        · have := (likeK_ch h).1; rw [e2] at this; cases this
    · rw [if_neg h]
      intro z hz
      rcases List.mem_append.1 hz with hz | hz
      · exact ho z hz
      · rw [List.mem_singleton.1 hz]; exact hk
theorem gd_tdy : ∀ (l : List A) (out : List Pt) (ps : List It) (n : Nat), (∀ z ∈ out, Gd z) → (∀ x ∈ ps, Dc.err x = 0) → OkL l → ∀ z ∈ tdy out ps n l, Gd z
  | [], out, ps, n, ho, hp, _ => by
    rw [tdy]
    intro z hz
    rcases List.mem_append.1 hz with hz | hz
    · exact ho z hz
    · exact gd_flush hp z hz
  | some (.inr x) :: r, out, ps, n, ho, hp, hl => by
    rw [tdy]
    refine gd_tdy r out _ n ho (fun y hy => ?_) hl.tail
    rcases List.mem_append.1 hy with hy | hy
    · exact hp y hy
    · rw [List.mem_singleton.1 hy]; exact hl.head
  | none :: r, out, ps, n, ho, hp, hl => by
    rw [tdy]
    exact gd_tdy r out ps _ ho hp hl.tail
  | some (.inl c) :: r, out, ps, n, ho, hp, hl => by
    rw [tdy]
    refine gd_tdy r _ [] 0 (gd_addK (fun z hz => ?_) hl.head) (fun y hy => by cases hy) hl.tail
    rcases List.mem_append.1 hz with hz | hz
    · exact ho z hz
    · exact gd_flush hp z hz
theorem gd_tA {l : List A} (h : OkL l) : ∀ z ∈ tA l, Gd z := gd_tdy l [] [] 0 (fun z hz => by cases hz) (fun x hx => by cases hx) h
/-- Tidied, it is for as many, and leaves as many. -/
theorem long_tA {l : List A} (h : OkL l) : nd (tA l) = need l ∧ lv (tA l) = leave l := by
  have h1 := need_acts (fun z hz => gd_kind (gd_tA h z hz))
  rw [acts_tA, need_nf, leave_nf] at h1
  exact ⟨h1.1.symm, h1.2.symm⟩
/-- Tidied, it is right, but perhaps for how many parts it has. -/
theorem chk_tA {l : List A} (h : OkL l) {l' : List A} {c : Ch} (hl : l = l' ++ [.keep c]) (hn : need l ≤ 80) (hp : pn l ≤ 80) : chk (tA l) = 0 ∨ chk (tA l) = 2 := by
  have hlast : ∃ o' q, tA l = o' ++ [q] ∧ q.kind = 1 := by
    unfold tA
    rw [hl, tdy_snoc]
    exact addK_last _ _
  obtain ⟨o', q, e, hq⟩ := hlast
  have hg := gd_tA h
  have hL := long_tA h
  have hok : ∀ z ∈ tA l, err1 z = 0 := fun z hz => by
    have h1 := nd_mem hz
    refine gd_right (hg z hz) (by omega) ?_
    rcases hg z hz with ⟨k, _⟩ | ⟨ps, e2, _⟩ | ⟨n, e2, _⟩
    · have e3 : lv1 z = nd1 z := by unfold lv1 nd1; rw [if_pos k, if_neg (by omega)]
      omega
    · have k2 : z.kind = 2 := by rw [e2]; rfl
      have h2 := pn_mem hz k2
      rw [acts_tA] at h2
      have h3 := pn_norm l [] 0
      unfold nf at h2
      rw [h3] at h2
      have e3 : lv1 z = z.items.length := by unfold lv1; rw [if_neg (by omega), if_pos k2]
      simp at h2
      omega
    · have e3 : lv1 z = 0 := by rw [e2]; rfl
      omega
  by_cases h40 : 40 < (tA l).length
  · right
    unfold chk
    rw [if_pos (.inr h40)]
  · left
    refine chk_right.2 ⟨by rw [e]; simp, by omega, hok, by omega, o', q, e, hq⟩
theorem Right.okl {o : List Pt} (h : Right o) : OkL (acts o) := by
  intro a ha
  obtain ⟨p, hp, ha⟩ := List.mem_flatMap.1 ha
  have he := h.ok p hp
  unfold acts1 at ha
  rcases gd_of he with ⟨k, hm, hl, _⟩ | ⟨ps, e, hne, hx⟩ | ⟨n, e, _⟩
  · rw [if_neg (by omega), if_pos k] at ha
    rw [(List.mem_replicate.1 ha).2]
    exact ⟨hm, hl⟩
  · rw [if_pos (by rw [e]; rfl)] at ha
    obtain ⟨x, hx2, rfl⟩ := List.mem_map.1 ha
    exact hx x (by rw [e] at hx2; exact hx2)
  · have k : p.kind = 3 := by rw [e]; rfl
    rw [if_neg (by omega), if_neg (by omega)] at ha
    rw [(List.mem_replicate.1 ha).2]
    trivial
theorem Right.snoc {o : List Pt} (h : Right o) : ∃ l c, acts o = l ++ [.keep c] := by
  obtain ⟨o', p, e, hk⟩ := h.last
  obtain ⟨_, _, h1, _⟩ := keep_m4 (h.ok p (by rw [e]; simp)) hk
  obtain ⟨m, hm⟩ : ∃ m : Nat, p.n.toNat = m + 1 := ⟨p.n.toNat - 1, by omega⟩
  refine ⟨acts o' ++ List.replicate m (A.keep (chOf p)), chOf p, ?_⟩
  rw [e, acts_app, acts_one, List.append_assoc]
  congr 1
  unfold acts1
  rw [if_neg (by omega), if_pos hk, hm, List.replicate_succ']
theorem Right.need {o : List Pt} (h : Right o) : Ac.need (acts o) = nd o ∧ leave (acts o) = lv o := need_acts (kinds_of h.ok)
theorem okl_ok {l : List A} (h : OkL l) : Ok l := fun a ha => by
  have := h a ha
  rcases a with _ | (c | x)
  · trivial
  · exact ⟨(marks_of this.1).1, (marks_of this.1).2.1⟩
  · exact (err_parts this).2.1
theorem snoc_need (l : List A) (c : Ch) : need (l ++ [.keep c]) = need l + 1 ∧ leave (l ++ [.keep c]) = leave l + 1 := by
  rw [need_app, leave_app]
  exact ⟨rfl, rfl⟩
end Ac
end Go.Proofs.YtbhcklkbckacpaaDoor

/-
  Chapter 8's promises on parts: two operations, done in either order, each turned behind the other one, make the same; joined they do what the one and then the other one does; who keeps all turns nothing.
-/
namespace Go.Proofs.YtbhcklkbckacpaaDoor
open Go.RowKit
namespace Ac
theorem fst2_of {a b : List Pt} (ha : Right a) (hb : Right b) : fst2 a b = 0 := by
  unfold fst2
  rw [if_pos (chk_right.2 ha)]
  exact chk_right.2 hb
theorem fst2_02 {a b : List Pt} (ha : chk a = 0 ∨ chk a = 2) (hb : chk b = 0 ∨ chk b = 2) : fst2 a b = 0 ∨ fst2 a b = 2 := by
  unfold fst2
  split
  · exact hb
  · exact ha
theorem fitE_eq {d : List It} {o : List Pt} (h : Dc.check d = 0) (hr : Right o) (hn : nd o = d.length) : fitE d o = if 80 < lv o then 2 else 0 := by
  unfold fitE
  rw [if_pos h, if_pos (chk_right.2 hr), if_pos (by rw [hr.lf, hn]), hr.lt]
  by_cases h80 : 80 < lv o
  · rw [if_pos h80, if_pos (by omega)]
  · rw [if_neg h80, if_neg (by omega)]
theorem done_is {d : List It} {o : List Pt} (h : fitE d o = 0) : ap (acts o) d = some (done d o) ∧ Dc.check (done d o) = 0 ∧ (done d o).length = lv o := by
  obtain ⟨hd, hr, hn, hl⟩ := fit_0 h
  obtain ⟨h1, h2, _⟩ := made_doc hd hr hn hl
  unfold done
  rw [if_pos h]
  exact ⟨mk_some hr hn, h1, h2⟩
/-- Two operations for as many items, turned. -/
structure TurnQ (a b : List Pt) : Prop where
  E : trnE a b = fst2 (tx a b) (ty a b)
  ex : chk (tx a b) = 0 ∨ chk (tx a b) = 2
  ey : chk (ty a b) = 0 ∨ chk (ty a b) = 2
  nx : nd (tx a b) = lv b
  ny : nd (ty a b) = lv a
  lxy : lv (tx a b) = lv (ty a b)
theorem turnQ {a b : List Pt} (ra : Right a) (rb : Right b) (hn : nd a = nd b) (la : lv a ≤ 80) (lb : lv b ≤ 80) : TurnQ a b := by
  have hN : Ac.need (acts a) = Ac.need (acts b) := by rw [ra.need.1, rb.need.1, hn]
  obtain ⟨k1, k2⟩ := turn_okl hN ra.okl rb.okl
  obtain ⟨g1, g2, g3⟩ := turn_long _ (acts a) (acts b) (Nat.le_refl _) hN
  obtain ⟨p1, p2⟩ := turn_pn hN
  obtain ⟨al, ca, ea⟩ := ra.snoc
  obtain ⟨bl, cb, eb⟩ := rb.snoc
  have hN2 : Ac.need al = Ac.need bl := by
    rw [ea, eb, (snoc_need al ca).1, (snoc_need bl cb).1] at hN
    omega
  have hsn := turn_snoc hN2 ca cb
  rw [← ea, ← eb] at hsn
  have e1 : (turn (acts a) (acts b)).1 = (turn al bl).1 ++ [A.keep ca] := by rw [hsn]
  have e2 : (turn (acts a) (acts b)).2 = (turn al bl).2 ++ [A.keep (behind cb ca)] := by rw [hsn]
  have q1 := pn_leave (acts a)
  have q2 := pn_leave (acts b)
  rw [ra.need.2] at q1 g2
  rw [rb.need.2] at q2 g1
  have l1 := long_tA k1
  have l2 := long_tA k2
  refine ⟨?_, chk_tA k1 e1 (by omega) (by omega), chk_tA k2 e2 (by omega) (by omega), l1.1.trans g1, l2.1.trans g2, ?_⟩
  · unfold trnE
    rw [if_pos (fst2_of ra rb), if_pos hn]
  · unfold tx ty
    rw [l1.2, l2.2, g3]
theorem meets_E {d : List It} {a b : List Pt} (ha : fitE d a = 0) (hb : fitE d b = 0) : trnE a b = 0 ∨ trnE a b = 2 := by
  obtain ⟨_, ra, na, la⟩ := fit_0 ha
  obtain ⟨_, rb, nb, lb⟩ := fit_0 hb
  have Q := turnQ ra rb (na.trans nb.symm) la lb
  rw [Q.E]
  exact fst2_02 Q.ex Q.ey
theorem trn_is {a b : List Pt} (h : trnE a b = 0) : trnX a b = tx a b ∧ trnY a b = ty a b := ⟨if_pos h, if_pos h⟩
/-- Done in either order they make the same. -/
theorem meets_same {d : List It} {a b : List Pt} (ha : fitE d a = 0) (hb : fitE d b = 0) (hE : trnE a b = 0) :
    fitE (done d a) (trnY a b) = fitE (done d b) (trnX a b) ∧ (fitE (done d a) (trnY a b) = 0 ∨ fitE (done d a) (trnY a b) = 2) ∧ done (done d a) (trnY a b) = done (done d b) (trnX a b) := by
  obtain ⟨hd, ra, na, la⟩ := fit_0 ha
  obtain ⟨_, rb, nb, lb⟩ := fit_0 hb
  obtain ⟨pa, ca, ea⟩ := done_is ha
  obtain ⟨pb, cb, eb⟩ := done_is hb
  have Q := turnQ ra rb (na.trans nb.symm) la lb
  have hE2 := hE
  rw [Q.E] at hE2
  obtain ⟨rx, ry⟩ := fst2_right hE2
  obtain ⟨x1, y1⟩ := trn_is hE
  rw [x1, y1]
  have f1 := fitE_eq ca ry (Q.ny.trans ea.symm)
  have f2 := fitE_eq cb rx (Q.nx.trans eb.symm)
  have e12 : fitE (done d a) (ty a b) = fitE (done d b) (tx a b) := by rw [f1, f2, Q.lxy]
  refine ⟨e12, ?_, ?_⟩
  · rw [f1]
    split
    · exact .inr rfl
    · exact .inl rfl
  · obtain ⟨r, hr1, hr2⟩ := turn_meets _ (acts a) (acts b) (Nat.le_refl _) d _ _ (check_m4 hd) (okl_ok ra.okl) (okl_ok rb.okl) pa pb
    have m1 := mk_some ry (d := done d a) (Q.ny.trans ea.symm)
    have m2 := mk_some rx (d := done d b) (Q.nx.trans eb.symm)
    unfold ty at m1
    unfold tx at m2
    rw [acts_tA, ap_nf, hr1] at m1
    rw [acts_tA, ap_nf, hr2] at m2
    have e : (mk (done d a) (ty a b)).1 = (mk (done d b) (tx a b)).1 := (Option.some.inj m1).symm.trans (Option.some.inj m2)
    show (if fitE (done d a) (ty a b) = 0 then (mk (done d a) (ty a b)).1 else []) = (if fitE (done d b) (tx a b) = 0 then (mk (done d b) (tx a b)).1 else [])
    rw [e12, e]
/-- Two operations that fit one behind the other, joined. -/
structure JoinQ (a b : List Pt) : Prop where
  E : jonE a b = chk (jx a b)
  ex : lv b ≤ 80 → chk (jx a b) = 0 ∨ chk (jx a b) = 2
  nx : nd (jx a b) = nd a
  lx : lv (jx a b) = lv b
  okl : OkL (join (acts a) (acts b))
theorem joinQ {a b : List Pt} (ra : Right a) (rb : Right b) (hn : lv a = nd b) : JoinQ a b := by
  have hN : leave (acts a) = Ac.need (acts b) := by rw [ra.need.2, rb.need.1, hn]
  have k := join_okl hN ra.okl rb.okl
  obtain ⟨g1, g2⟩ := join_long _ (acts a) (acts b) (Nat.le_refl _) hN
  obtain ⟨al, ca, ea⟩ := ra.snoc
  obtain ⟨bl, cb, eb⟩ := rb.snoc
  have hN2 : leave al = Ac.need bl := by
    rw [ea, eb, (snoc_need al ca).2, (snoc_need bl cb).1] at hN
    omega
  have hsn := join_snoc hN2 ca cb
  rw [← ea, ← eb] at hsn
  have q := pn_leave (join (acts a) (acts b))
  rw [ra.need.1] at g1
  rw [rb.need.2] at g2
  have l := long_tA k
  have hs := ra.sum
  refine ⟨?_, fun lb => chk_tA k hsn (by omega) (by omega), l.1.trans g1, l.2.trans g2, k⟩
  unfold jonE
  rw [if_pos (fst2_of ra rb), if_pos hn]
theorem jon_is {a b : List Pt} (h : jonE a b = 0) : jonX a b = jx a b := if_pos h
theorem tA_nf (l : List A) : tA (nf l) = tA l := tdy_norm l [] [] 0 [] 0
theorem joins_E {d : List It} {a b : List Pt} (ha : fitE d a = 0) (hb : fitE (done d a) b = 0) : jonE a b = 0 ∨ jonE a b = 2 := by
  obtain ⟨_, ra, na, la⟩ := fit_0 ha
  obtain ⟨_, rb, nb, lb⟩ := fit_0 hb
  have Q := joinQ ra rb ((done_is ha).2.2.symm.trans nb.symm)
  rw [Q.E]
  exact Q.ex lb
/-- Joined they do what the one and then the other one does. -/
theorem joins_same {d : List It} {a b : List Pt} (ha : fitE d a = 0) (hb : fitE (done d a) b = 0) (hE : jonE a b = 0) : fitE d (jonX a b) = 0 ∧ done d (jonX a b) = done (done d a) b ∧ Right (jonX a b) := by
  obtain ⟨hd, ra, na, la⟩ := fit_0 ha
  obtain ⟨_, rb, nb, lb⟩ := fit_0 hb
  obtain ⟨pa, ca, ea⟩ := done_is ha
  obtain ⟨pb, cb, eb⟩ := done_is hb
  have Q := joinQ ra rb (ea.symm.trans nb.symm)
  rw [jon_is hE]
  rw [Q.E] at hE
  have rj := chk_right.1 hE
  have hf : fitE d (jx a b) = 0 := fit_of hd rj (Q.nx.trans na) (by rw [Q.lx]; exact lb)
  refine ⟨hf, ?_, rj⟩
  have h1 := (done_is hf).1
  unfold jx at h1
  rw [acts_tA, ap_nf, ap_join _ (acts a) (acts b) (Nat.le_refl _) d _ _ (check_m4 hd) (okl_ok ra.okl) (okl_ok rb.okl) pa pb] at h1
  exact (Option.some.inj h1).symm
/-- Joined three in either way are the same. -/
theorem joins_three {d : List It} {a b c : List Pt} (ha : fitE d a = 0) (hb : fitE (done d a) b = 0) (hc : fitE (done (done d a) b) c = 0) (h1 : jonE a b = 0) (h2 : jonE b c = 0) (h3 : jonE (jonX a b) c = 0) :
    jonE a (jonX b c) = 0 ∧ jonX a (jonX b c) = jonX (jonX a b) c ∧ fitE d (jonX (jonX a b) c) = 0 ∧ done d (jonX (jonX a b) c) = done (done (done d a) b) c := by
  obtain ⟨hd, ra, na, la⟩ := fit_0 ha
  obtain ⟨_, rb, nb, lb⟩ := fit_0 hb
  obtain ⟨_, rc, nc, lc⟩ := fit_0 hc
  have ea := (done_is ha).2.2
  have eb := (done_is hb).2.2
  obtain ⟨fj, dj, rj⟩ := joins_same ha hb h1
  obtain ⟨fk, dk, rk⟩ := joins_same hb hc h2
  have Qab := joinQ ra rb (ea.symm.trans nb.symm)
  have Qbc := joinQ rb rc (eb.symm.trans nc.symm)
  have fm := joins_same fj (by rw [dj]; exact hc) h3
  rw [dj] at fm
  rw [jon_is h2] at rk ⊢
  have hak : lv a = nd (jx b c) := ea.symm.trans (nb.symm.trans Qbc.nx.symm)
  have Qak := joinQ ra rk hak
  have key : jx a (jx b c) = jx (jx a b) c := by
    have hA := nf_assoc (acts a) (acts b) (acts c) (okl_ok ra.okl) (okl_ok rb.okl) (okl_ok rc.okl) (by rw [ra.need.2, rb.need.1]; exact ea.symm.trans nb.symm) (by rw [rb.need.2, rc.need.1]; exact eb.symm.trans nc.symm)
    unfold jx
    rw [acts_tA, acts_tA, ← tA_nf, ← tA_nf (join (nf (join (acts a) (acts b))) (acts c)), hA]
  have hE4 : jonE a (jx b c) = 0 := by
    rw [Qak.E, key]
    have hx := fm.2.2
    rw [jon_is h3, jon_is h1] at hx
    exact chk_right.2 hx
  refine ⟨hE4, ?_, fm.1, fm.2.1⟩
  rw [jon_is hE4, jon_is h3, jon_is h1, key]
/- Who keeps all. -/
theorem behind_nop (c : Ch) : behind nop c = nop := by
  show (⟨less 0 (both c.set c.clr), less 0 (both c.set c.clr), false && !c.goes, if c.goes then ⟨#[]⟩ else ⟨#[]⟩⟩ : Ch) = nop
  have e : ∀ b, less 0 b = 0 := fun b => by unfold less; simp
  rw [e]
  cases c.goes <;> rfl
theorem then_nop {c : Ch} (h : ChOk c) : thenCh c nop = c := by
  obtain ⟨s, hs, e1⟩ := m4_nat h.set
  obtain ⟨l, hl, e2⟩ := m4_nat h.clr
  have k : ∀ x : Nat, ((x - (x &&& 0)) ||| 0) = x := fun x => by simp
  refine ch_ext ?_ ?_ (Bool.or_false _) rfl
  · show both (less c.set 0) 0 = c.set
    rw [e1]
    exact congrArg Int.ofNat (k s)
  · show both (less c.clr 0) 0 = c.clr
    rw [e2]
    exact congrArg Int.ofNat (k l)
theorem nop_then {c : Ch} (h : ChOk c) (hl : linkBad c.goes c.link = false) : thenCh nop c = c := by
  obtain ⟨s, hs, e1⟩ := m4_nat h.set
  obtain ⟨l, hl2, e2⟩ := m4_nat h.clr
  have k : ∀ x y : Nat, ((0 - (0 &&& y)) ||| x) = x := fun x y => by simp
  refine ch_ext ?_ ?_ (Bool.false_or _) ?_
  · show both (less 0 c.clr) c.set = c.set
    rw [e1]
    exact congrArg Int.ofNat (k s _)
  · show both (less 0 c.set) c.clr = c.clr
    rw [e2]
    exact congrArg Int.ofNat (k l _)
  · show (if c.goes then c.link else ⟨#[]⟩) = c.link
    cases hg : c.goes
    · rw [hg] at hl
      unfold linkBad at hl
      simp at hl
      have : c.link = ⟨#[]⟩ := ext_list (by rw [show (⟨#[]⟩ : ByteArray).data.toList = [] from rfl, ← Lib.toList_data]; exact hl)
      rw [this]
      rfl
    · rfl
theorem turn_nop : ∀ l : List A, turn l (List.replicate (need l) (A.keep nop)) = (l, List.replicate (leave l) (A.keep nop))
  | [] => rfl
  | some (.inr x) :: l => by
    rw [need, leave, turn_put, turn_nop l]
    rfl
  | some (.inl c) :: l => by
    rw [need, leave, List.replicate_succ, turn_kk, turn_nop l, behind_nop]
    rfl
  | none :: l => by
    rw [need, leave, List.replicate_succ, turn_ck, turn_nop l]
theorem join_nop_r : ∀ l : List A, Ok l → join l (List.replicate (leave l) (A.keep nop)) = l
  | [], _ => rfl
  | some (.inr x) :: l, h => by
    rw [leave, List.replicate_succ, join_pk, join_nop_r l (fun a ha => h a (List.mem_cons_of_mem _ ha)), change_nop (h _ (List.mem_cons_self ..))]
  | some (.inl c) :: l, h => by
    rw [leave, List.replicate_succ, join_kk, join_nop_r l (fun a ha => h a (List.mem_cons_of_mem _ ha)), then_nop (h _ (List.mem_cons_self ..))]
  | none :: l, h => by
    rw [leave, join_cut, join_nop_r l (fun a ha => h a (List.mem_cons_of_mem _ ha))]
theorem join_nop_l : ∀ l : List A, OkL l → join (List.replicate (need l) (A.keep nop)) l = l
  | [], _ => rfl
  | some (.inr x) :: l, h => by
    rw [need, join_put _ _ x (fun a' e => by
      cases hn : need l with
      | zero => rw [hn] at e; cases e
      | succ k => rw [hn, List.replicate_succ] at e; cases e), join_nop_l l h.tail]
  | some (.inl c) :: l, h => by
    rw [need, List.replicate_succ, join_kk, join_nop_l l h.tail, nop_then ⟨(marks_of h.head.1).1, (marks_of h.head.1).2.1⟩ h.head.2]
  | none :: l, h => by
    rw [need, List.replicate_succ, join_kc, join_nop_l l h.tail]
theorem acts_nops (n : Nat) : acts [keepP nop n] = List.replicate n (A.keep nop) := by
  rw [acts_one, acts1_keep, Int.toNat_natCast]
theorem tA_nops (k : Nat) : tA (List.replicate (k + 1) (A.keep nop)) = [keepP nop ((k + 1 : Nat) : Int)] := by
  have h := tdy_keeps nop (k + 1) [] []
  rw [List.append_nil] at h
  unfold tA
  rw [h, tdy]
  have e2 : addK [] nop = [] ++ [keepP nop 1] := rfl
  have e3 : addKs [] nop (k + 1) = [{ keepP nop 1 with n := (keepP nop 1).n + k }] := by rw [addKs, e2, addKs_like k [] _ _ (keepP_like _ _)]; rfl
  rw [e3]
  show [keepP nop ((1 : Int) + k)] ++ [] = _
  rw [List.append_nil, show (1 : Int) + k = ((k + 1 : Nat) : Int) by omega]
theorem nothing_all {o : List Pt} (h : Right o) (ht : chk (tidy o) = 0) (hl : lv o ≤ 80) :
    trnE o [keepP nop (nd o : Nat)] = 0 ∧ trnX o [keepP nop (nd o : Nat)] = tidy o ∧ trnY o [keepP nop (nd o : Nat)] = [keepP nop (lv o : Nat)] ∧ jonE o [keepP nop (lv o : Nat)] = 0 ∧ jonX o [keepP nop (lv o : Nat)] = tidy o ∧ jonE [keepP nop (nd o : Nat)] o = 0 ∧ jonX [keepP nop (nd o : Nat)] o = tidy o := by
  obtain ⟨l, c, e⟩ := h.snoc
  have h1 := h.need
  have hb : 1 ≤ nd o ∧ 1 ≤ lv o := by
    rw [e, (snoc_need l c).1, (snoc_need l c).2] at h1
    omega
  have hs := h.sum
  have rn := keep_right hb.1 hs
  have rm := keep_right hb.2 hl
  have n1 : nd [keepP nop (nd o : Nat)] = nd o ∧ lv [keepP nop (nd o : Nat)] = nd o := by
    refine ⟨?_, ?_⟩
    · rw [nd_cons]; show ((nd o : Nat) : Int).toNat + 0 = nd o; omega
    · rw [lv_cons]; show ((nd o : Nat) : Int).toNat + 0 = nd o; omega
  have n2 : nd [keepP nop (lv o : Nat)] = lv o := by rw [nd_cons]; show ((lv o : Nat) : Int).toNat + 0 = lv o; omega
  obtain ⟨k, hk⟩ : ∃ k, lv o = k + 1 := ⟨lv o - 1, by omega⟩
  have T : turn (acts o) (acts [keepP nop (nd o : Nat)]) = (acts o, List.replicate (lv o) (A.keep nop)) := by rw [acts_nops, ← h1.1, turn_nop, h1.2]
  have X : tx o [keepP nop (nd o : Nat)] = tidy o := by unfold tx; rw [T]; rfl
  have Y : ty o [keepP nop (nd o : Nat)] = [keepP nop (lv o : Nat)] := by unfold ty; rw [T, hk]; exact tA_nops k
  have E1 : trnE o [keepP nop (nd o : Nat)] = 0 := by
    unfold trnE
    rw [if_pos (fst2_of h rn), if_pos n1.1.symm, X, Y]
    exact fst2_of (chk_right.1 ht) rm
  have J : jx o [keepP nop (lv o : Nat)] = tidy o := by unfold jx; rw [acts_nops, ← h1.2, join_nop_r _ (okl_ok h.okl)]; rfl
  have J2 : jx [keepP nop (nd o : Nat)] o = tidy o := by unfold jx; rw [acts_nops, ← h1.1, join_nop_l _ h.okl]; rfl
  have E2 : jonE o [keepP nop (lv o : Nat)] = 0 := by
    unfold jonE
    rw [if_pos (fst2_of h rm), if_pos n2.symm, J]
    exact ht
  have E3 : jonE [keepP nop (nd o : Nat)] o = 0 := by
    unfold jonE
    rw [if_pos (fst2_of rn h), if_pos n1.2, J2]
    exact ht
  exact ⟨E1, (trn_is E1).1.trans X, (trn_is E1).2.trans Y, E2, (jon_is E2).trans J, E3, (jon_is E3).trans J2⟩
end Ac
end Go.Proofs.YtbhcklkbckacpaaDoor

/-
  Chapter 9: entries and servers, and how they lie in memory.
-/
namespace Go.Proofs.YtbhcklkbckacpaaDoor
open Go.RowKit
namespace Sv
/-- An entry. -/
structure En where
  who : Int
  seq : Int
  o : List Ac.Pt
/-- A server. -/
structure Se where
  first : List It
  log : List En
  now : List It
def entE (x : En) : Int := if x.who < 0 ∨ 4 ≤ x.who then 5 else if x.seq < 1 ∨ 10000 < x.seq then 3 else Ac.chk x.o
def entsE : List En → Int
  | [] => 0
  | x :: l => if entE x = 0 then entsE l else entE x
theorem entsE_step (l : List En) (k : Nat) (h : k < l.length) : entsE (l.drop k) = if entE l[k] = 0 then entsE (l.drop (k + 1)) else entE l[k] := by
  rw [List.drop_eq_getElem_cons h]
  rfl
def foldE : List It → List En → Int
  | _, [] => 0
  | d, x :: l => if Ac.fitE d x.o = 0 then foldE (Ac.done d x.o) l else Ac.fitE d x.o
def foldD : List It → List En → List It
  | d, [] => d
  | d, x :: l => if Ac.fitE d x.o = 0 then foldD (Ac.done d x.o) l else Ac.done d x.o
def fldE (d : List It) (l : List En) : Int := if Dc.check d = 0 then (if 60 < l.length then 2 else foldE d l) else Dc.check d
def fldD (d : List It) (l : List En) : List It := if Dc.check d = 0 then (if 60 < l.length then [] else foldD d l) else []
def srvE (s : Se) : Int := if 60 < s.log.length then 2 else if entsE s.log = 0 then (if fldE s.first s.log = 0 then (if Dc.same s.now (fldD s.first s.log) = true then 0 else 4) else fldE s.first s.log) else entsE s.log
def isE (c q : Int) (x : En) : Bool := (x.who == c) && (x.seq == q)
def has (s : Se) (c q : Int) : Bool := s.log.any (isE c q)
def sameE (a b : En) : Bool := (a.who == b.who) && ((a.seq == b.seq) && Ac.sameO a.o b.o)
def sameL : List En → List En → Bool
  | [], [] => true
  | x :: l, y :: m => sameE x y && sameL l m
  | _, _ => false
theorem sameL_len : ∀ (s t : List En), ¬ s.length = t.length → sameL s t = false
  | [], [], h => absurd rfl h
  | [], _ :: _, _ => rfl
  | _ :: _, [], _ => rfl
  | x :: s, y :: t, h => by
    unfold sameL
    rw [sameL_len s t (fun e => h (by simp [e])), Bool.and_false]
theorem sameL_step (s t : List En) (k : Nat) (h : k < s.length) (h' : k < t.length) : sameL (s.drop k) (t.drop k) = (sameE s[k] t[k] && sameL (s.drop (k + 1)) (t.drop (k + 1))) := by
  rw [List.drop_eq_getElem_cons h, List.drop_eq_getElem_cons h']
  rfl
def sameS (a b : Se) : Bool := (Dc.same a.first b.first && sameL a.log b.log) && Dc.same a.now b.now
def behE : List En → List Ac.Pt → Int
  | [], _ => 0
  | x :: l, o => if Ac.trnE x.o o = 0 then behE l (Ac.trnY x.o o) else Ac.trnE x.o o
def behO : List En → List Ac.Pt → List Ac.Pt
  | [], o => o
  | x :: l, o => if Ac.trnE x.o o = 0 then behO l (Ac.trnY x.o o) else Ac.trnY x.o o
def takE (s : Se) (rev : Int) (x : En) : Int :=
  if srvE s = 0 then (if entE x = 0 then (if has s x.who x.seq = true then 0 else if rev < 0 ∨ (s.log.length : Int) < rev then 6 else if s.log.length = 60 then 2 else
    if behE (s.log.drop rev.toNat) x.o = 0 then Ac.fitE s.now (behO (s.log.drop rev.toNat) x.o) else behE (s.log.drop rev.toNat) x.o) else entE x) else srvE s
def takS (s : Se) (rev : Int) (x : En) : Se :=
  if takE s rev x = 0 then (if has s x.who x.seq = true then s else ⟨s.first, s.log ++ [⟨x.who, x.seq, behO (s.log.drop rev.toNat) x.o⟩], Ac.done s.now (behO (s.log.drop rev.toNat) x.o)⟩) else ⟨[], [], []⟩
end Sv
/-- An entry in memory. -/
structure EV where
  who : Int
  seq : Int
  ao : Option Addr
  n : Nat
  cap : Nat
  vs : List PV
def EV.en (v : EV) : Sv.En := ⟨v.who, v.seq, v.vs.map PV.pt⟩
def evA (v : EV) : Value := .agg #[.int .i64 v.who, .int .i64 v.seq, .slice v.ao v.n v.cap]
def evC (v : EV) : List Value := [.int .i64 v.who, .int .i64 v.seq, .slice v.ao v.n v.cap]
def evCells (l : List EV) : List Value := l.flatMap evC
theorem evCells_app (l l' : List EV) : evCells (l ++ l') = evCells l ++ evCells l' := List.flatMap_append
theorem evCells_one (v : EV) : evCells [v] = evC v := by simp [evCells]
theorem evCells_len : ∀ l : List EV, (evCells l).length = l.length * 3
  | [] => rfl
  | a :: l => by
    show (evC a ++ evCells l).length = _
    rw [List.length_append, evCells_len l, List.length_cons]
    show 3 + _ = _
    omega
theorem evCells_at : ∀ (l : List EV) (i : Nat) (h : i < l.length) (j : Nat), j < 3 → (evCells l)[i * 3 + j]? = (evC l[i])[j]?
  | [], _, h, _, _ => by simp at h
  | a :: l, 0, _, j, hj => by
    show (evC a ++ evCells l)[0 * 3 + j]? = _
    rw [Nat.zero_mul, Nat.zero_add, List.getElem?_append_left (by show j < 3; exact hj)]
    rfl
  | a :: l, i + 1, h, j, hj => by
    have := evCells_at l i (by simpa using h) j hj
    show (evC a ++ evCells l)[(i + 1) * 3 + j]? = _
    rw [List.getElem?_append_right (by show 3 ≤ _; omega), show (i + 1) * 3 + j - (evC a).length = i * 3 + j by show _ - 3 = _; omega, this]
    rfl
theorem evCells_oneCell (l : List EV) : ∀ u ∈ evCells l, u.oneCell' = true := by
  intro u hu
  obtain ⟨v, -, h⟩ := List.mem_flatMap.1 hu
  unfold evC at h
  simp only [List.mem_cons, List.not_mem_nil, or_false] at h
  rcases h with rfl | rfl | rfl <;> rfl
/-- The cells of an entry. -/
structure Thr (w : World) (b off : Nat) (v : EV) : Prop where
  c0 : w.cell? ⟨b, off, none⟩ = some (.int .i64 v.who)
  c1 : w.cell? ⟨b, off + 1, none⟩ = some (.int .i64 v.seq)
  c2 : w.cell? ⟨b, off + 2, none⟩ = some (.slice v.ao v.n v.cap)
theorem Thr.below {w w' : World} {b off : Nat} {v : EV} (h : Thr w b off v) (hb : Below w.heap.size w w') : Thr w' b off v :=
  ⟨cell_below h.c0 hb, cell_below h.c1 hb, cell_below h.c2 hb⟩
/-- A slice of entries. -/
structure Ents (w : World) (ao : Option Addr) (n cap : Nat) (es : List EV) : Prop where
  row : Row w ao n cap 3 (evCells es)
  ops : ∀ v ∈ es, Ops w v.ao v.n v.cap v.vs
theorem Ents.below {w w' : World} {ao : Option Addr} {n cap : Nat} {es : List EV} (h : Ents w ao n cap es) (hb : Below w.heap.size w w') : Ents w' ao n cap es :=
  ⟨h.row.below hb, fun v hv => (h.ops v hv).below hb⟩
theorem Ents.len {w : World} {ao : Option Addr} {n cap : Nat} {es : List EV} (h : Ents w ao n cap es) : es.length = n := by
  have := h.row.len
  rw [evCells_len] at this
  omega
theorem Ents.nil (w : World) : Ents w none 0 0 [] := ⟨Row.nil w 3, fun v hv => absurd hv (by simp)⟩
theorem Ents.get {w : World} {ao : Option Addr} {n cap : Nat} {es : List EV} (h : Ents w ao n cap es) (hn : n ≠ 0) : ∃ b off, ao = some ⟨b, off, none⟩ ∧ ∀ i (hi : i < es.length), Thr w b (off + i * 3) es[i] := by
  obtain ⟨b, off, e, hc⟩ := h.row.lies hn
  refine ⟨b, off, e, fun i hi => ?_⟩
  have h0 := evCells_at es i hi 0 (by decide)
  have h1 := evCells_at es i hi 1 (by decide)
  have h2 := evCells_at es i hi 2 (by decide)
  exact ⟨hc _ _ h0, by rw [Nat.add_assoc]; exact hc _ _ h1, by rw [Nat.add_assoc]; exact hc _ _ h2⟩
/-- A call that is handed an entry lays it in a block of its own. -/
def boxe (v : EV) (w : World) : World := w.alloc (.cells #[.int .i64 v.who, .int .i64 v.seq, .slice v.ao v.n v.cap] 37)
theorem boxe_below (v : EV) (w : World) : Below w.heap.size w (boxe v w) := (Below.refl _ _).alloc (Nat.le_refl _) _
theorem boxe_size (v : EV) (w : World) : (boxe v w).heap.size = w.heap.size + 1 := World.size_alloc ..
theorem boxe_blk (v : EV) (w : World) : Blk (boxe v w) w.heap.size (evC v) 37 := Blk.new w _ _
theorem thr_blk {w : World} {b : Nat} {v : EV} (h : Blk w b (evC v) 37) : Thr w b 0 v := ⟨h.cell 0, h.cell 1, h.cell 2⟩
theorem boxe_at (v : EV) (w : World) : Thr (boxe v w) w.heap.size 0 v := thr_blk (boxe_blk v w)
theorem boxe2_below (v u : EV) (w : World) : Below w.heap.size w (boxe u (boxe v w)) := (boxe_below v w).trans ((boxe_below u _).mono (boxe_below v w).size)
theorem boxe2_fst (v u : EV) (w : World) : Thr (boxe u (boxe v w)) w.heap.size 0 v := (boxe_at v w).below (boxe_below u _)
theorem boxe2_snd (v u : EV) (w : World) : Thr (boxe u (boxe v w)) (w.heap.size + 1) 0 u := by
  have := boxe_at u (boxe v w)
  rw [boxe_size] at this
  exact this
/-- A server in memory. -/
structure SV where
  fa : Option Addr
  fn : Nat
  fc : Nat
  first : List It
  la : Option Addr
  ln : Nat
  lc : Nat
  log : List EV
  na : Option Addr
  nn : Nat
  nc : Nat
  now : List It
def SV.se (s : SV) : Sv.Se := ⟨s.first, s.log.map EV.en, s.now⟩
def svA (s : SV) : Value := .agg #[.slice s.fa s.fn s.fc, .slice s.la s.ln s.lc, .slice s.na s.nn s.nc]
def svC (s : SV) : List Value := [.slice s.fa s.fn s.fc, .slice s.la s.ln s.lc, .slice s.na s.nn s.nc]
structure Srv (w : World) (s : SV) : Prop where
  first : Doc w s.fa s.fn s.fc s.first
  log : Ents w s.la s.ln s.lc s.log
  now : Doc w s.na s.nn s.nc s.now
theorem Srv.below {w w' : World} {s : SV} (h : Srv w s) (hb : Below w.heap.size w w') : Srv w' s := ⟨h.first.below hb, h.log.below hb, h.now.below hb⟩
def boxs (s : SV) (w : World) : World := w.alloc (.cells #[.slice s.fa s.fn s.fc, .slice s.la s.ln s.lc, .slice s.na s.nn s.nc] 35)
theorem boxs_below (s : SV) (w : World) : Below w.heap.size w (boxs s w) := (Below.refl _ _).alloc (Nat.le_refl _) _
theorem boxs_size (s : SV) (w : World) : (boxs s w).heap.size = w.heap.size + 1 := World.size_alloc ..
theorem boxs_blk (s : SV) (w : World) : Blk (boxs s w) w.heap.size (svC s) 35 := Blk.new w _ _
def sv0 : SV := ⟨none, 0, 0, [], none, 0, 0, [], none, 0, 0, []⟩
end Go.Proofs.YtbhcklkbckacpaaDoor

/-
  Package server: entries checked, held against each other, handed on one by one.
-/
namespace Go.Proofs.YtbhcklkbckacpaaDoor
open Go.RowKit

set_option maxRecDepth 100000 in
set_option maxHeartbeats 1600000 in
theorem entE_any (v : EV) (w : World) (hO : Ops w v.ao v.n v.cap v.vs) (hS : Sch w) :
    Calls Tryd.prog 54 #[.agg #[.int .i64 v.who, .int .i64 v.seq, .slice v.ao v.n v.cap]] w fun e w' => e = .returned (.int .i64 (Sv.entE v.en)) ∧ Below w.heap.size w w' := by
  have H1 : Hid (Below w.heap.size w (boxe v w)) := boxe_below v w
  have CC : Hid (Calls Tryd.prog 35 #[.slice v.ao v.n v.cap] (boxe v w) fun e w' => e = .returned (.int .i64 (Ac.chk (v.vs.map PV.pt))) ∧ Below (boxe v w).heap.size (boxe v w) w') := chk_any v.ao v.n v.cap v.vs _ (hO.below (boxe_below v w)) (hS.below (boxe_below v w))
  clear hO hS
  obtain ⟨r, hr⟩ : ∃ r, Sv.entE v.en = r := ⟨_, rfl⟩
  rw [hr]
  change (if v.who < 0 ∨ 4 ≤ v.who then (5 : Int) else if v.seq < 1 ∨ 10000 < v.seq then 3 else Ac.chk (v.vs.map PV.pt)) = r at hr
  generalize Ac.chk (v.vs.map PV.pt) = c at *
  by_cases h1 : v.who < 0
  · obtain rfl : r = 5 := by rw [← hr, if_pos (show v.who < 0 ∨ 4 ≤ v.who from Or.inl h1)]
    clear hr
    go_enter Tryd.func54, Tryd.ntmps54
    go_wp2
    go_ret
    exact ⟨rfl, H1.out⟩
  · by_cases h2 : 4 ≤ v.who
    · obtain rfl : r = 5 := by rw [← hr, if_pos (show v.who < 0 ∨ 4 ≤ v.who from Or.inr h2)]
      clear hr
      go_enter Tryd.func54, Tryd.ntmps54
      go_wp2
      go_ret
      exact ⟨rfl, H1.out⟩
    · by_cases h3 : v.seq < 1
      · obtain rfl : r = 3 := by rw [← hr, if_neg (show ¬ (v.who < 0 ∨ 4 ≤ v.who) by omega), if_pos (show v.seq < 1 ∨ 10000 < v.seq from Or.inl h3)]
        clear hr
        go_enter Tryd.func54, Tryd.ntmps54
        go_wp2
        go_ret
        exact ⟨rfl, H1.out⟩
      · by_cases h4 : 10000 < v.seq
        · obtain rfl : r = 3 := by rw [← hr, if_neg (show ¬ (v.who < 0 ∨ 4 ≤ v.who) by omega), if_pos (show v.seq < 1 ∨ 10000 < v.seq from Or.inr h4)]
          clear hr
          go_enter Tryd.func54, Tryd.ntmps54
          go_wp2
          go_ret
          exact ⟨rfl, H1.out⟩
        · obtain rfl : r = c := by rw [← hr, if_neg (show ¬ (v.who < 0 ∨ 4 ≤ v.who) by omega), if_neg (show ¬ (v.seq < 1 ∨ 10000 < v.seq) by omega)]
          clear hr
          go_enter Tryd.func54, Tryd.ntmps54
          go_wp2_with fail
          change Calls Tryd.prog 35 _ (boxe v w) _
          refine CC.out.mono ?_
          rintro e w1 ⟨rfl, hb⟩
          have H2 : Hid (Below w.heap.size w w1) := H1.out.trans (hb.mono H1.out.size)
          clear hb
          go_wp2
          go_ret
          exact ⟨rfl, H2.out⟩

set_option maxRecDepth 100000 in
set_option maxHeartbeats 1600000 in
theorem sameE_any (a b : EV) (w : World) (ha : Ops w a.ao a.n a.cap a.vs) (hb : Ops w b.ao b.n b.cap b.vs) :
    Calls Tryd.prog 19 #[.agg #[.int .i64 a.who, .int .i64 a.seq, .slice a.ao a.n a.cap], .agg #[.int .i64 b.who, .int .i64 b.seq, .slice b.ao b.n b.cap]] w fun e w' => e = .returned (.bool (Sv.sameE a.en b.en)) ∧ Below w.heap.size w w' := by
  have H1 : Hid (Below w.heap.size w (boxe b (boxe a w))) := boxe2_below a b w
  have CC : Hid (Calls Tryd.prog 25 #[.slice a.ao a.n a.cap, .slice b.ao b.n b.cap] (boxe b (boxe a w)) fun e w' => e = .returned (.bool (Ac.sameO (a.vs.map PV.pt) (b.vs.map PV.pt))) ∧ Below (boxe b (boxe a w)).heap.size (boxe b (boxe a w)) w') := sameO_any a.ao b.ao a.n a.cap b.n b.cap a.vs b.vs _ (ha.below H1.out) (hb.below H1.out)
  clear ha hb
  obtain ⟨r, hr⟩ : ∃ r, Sv.sameE a.en b.en = r := ⟨_, rfl⟩
  rw [hr]
  unfold Sv.sameE at hr
  simp only [EV.en] at hr
  generalize Ac.sameO (a.vs.map PV.pt) (b.vs.map PV.pt) = c at *
  cases h1 : (a.who == b.who)
  · obtain rfl := hr.symm.trans (show _ = false by rw [h1]; rfl)
    clear hr
    go_enter Tryd.func19, Tryd.ntmps19
    go_wp2
    go_ret
    exact ⟨rfl, H1.out⟩
  · cases h2 : (a.seq == b.seq)
    · obtain rfl := hr.symm.trans (show _ = false by rw [h1, h2]; rfl)
      clear hr
      go_enter Tryd.func19, Tryd.ntmps19
      go_wp2
      go_ret
      exact ⟨rfl, H1.out⟩
    · obtain rfl := hr.symm.trans (show _ = c by rw [h1, h2]; rfl)
      clear hr
      go_enter Tryd.func19, Tryd.ntmps19
      go_wp2_with fail
      change Calls Tryd.prog 25 _ (boxe b (boxe a w)) _
      refine CC.out.mono ?_
      rintro e w1 ⟨rfl, hb⟩
      have H2 : Hid (Below w.heap.size w w1) := H1.out.trans (hb.mono H1.out.size)
      clear hb
      go_wp2
      go_ret
      exact ⟨rfl, H2.out⟩

set_option maxRecDepth 100000 in
set_option maxHeartbeats 1600000 in
theorem eqFuncE_any (ao ao' : Option Addr) (n cap n' cap' : Nat) (es us : List EV) (w : World) (hO : Ents w ao n cap es) (hO' : Ents w ao' n' cap' us) :
    Calls Tryd.prog 18 #[.slice ao n cap, .slice ao' n' cap', .func (.func 19) #[] #[]] w fun e w' => e = .returned (.bool (Sv.sameL (es.map EV.en) (us.map EV.en))) ∧ Below w.heap.size w w' := by
  have HO : Hid (Ents w ao n cap es) := hO
  have HO' : Hid (Ents w ao' n' cap' us) := hO'
  have HN : Hid (es.length = n) := hO.len
  have HN' : Hid (us.length = n') := hO'.len
  have hcap := hO.row.room
  have hbig := hO.row.big
  clear hO hO'
  obtain ⟨r, hr⟩ : ∃ r, Sv.sameL (es.map EV.en) (us.map EV.en) = r := ⟨_, rfl⟩
  have HR : Hid (Sv.sameL (es.map EV.en) (us.map EV.en) = r) := hr
  rw [hr]
  clear hr
  by_cases hnn : n = n'
  · subst hnn
    go_enter Tryd.func18, Tryd.ntmps18
    go_wp2
    go_loopw [17] (fun i wr => ∃ k : Nat, k ≤ n ∧ i = .int .i64 k ∧ Below w.heap.size w wr ∧ Sv.sameL ((es.map EV.en).drop k) ((us.map EV.en).drop k) = r) (fun i _ => n - (intOf i).toNat)
    case atStart => exact ⟨0, Nat.zero_le _, rfl, Below.refl _ _, HR.out⟩
    case round =>
      obtain ⟨k, hk, rfl, hbr, hsm⟩ := hrel
      have HM : Hid (Sv.sameL ((es.map EV.en).drop k) ((us.map EV.en).drop k) = r) := hsm
      have HBR : Hid (Below w.heap.size w wr) := hbr
      clear hsm hbr
      by_cases hlt : k < n
      · obtain ⟨b, off, rfl, hGt⟩ := HO.out.get (by omega)
        obtain ⟨b', off', rfl, hGt'⟩ := HO'.out.get (by omega)
        have h1 : k < es.length := by rw [HN.out]; exact hlt
        have h2 : k < us.length := by rw [HN'.out]; exact hlt
        have HX : Hid (Sv.sameL ((es.map EV.en).drop k) ((us.map EV.en).drop k) = (Sv.sameE es[k].en us[k].en && Sv.sameL ((es.map EV.en).drop (k + 1)) ((us.map EV.en).drop (k + 1)))) := by
          have := Sv.sameL_step (es.map EV.en) (us.map EV.en) k (by rw [List.length_map]; exact h1) (by rw [List.length_map]; exact h2)
          rw [List.getElem_map, List.getElem_map] at this
          exact this
        obtain ⟨a0, a1, a2⟩ := (hGt k h1).below HBR.out
        have Sb := hGt' k h2
        obtain ⟨b0, b1, b2⟩ := Sb.below (HBR.out.trans ((boxe_below es[k] wr).mono HBR.out.size))
        have HB1 : Hid (Below w.heap.size w (boxe us[k] (boxe es[k] wr))) := HBR.out.trans ((boxe2_below _ _ wr).mono HBR.out.size)
        have HPa : Hid (Ops (boxe us[k] (boxe es[k] wr)) es[k].ao es[k].n es[k].cap es[k].vs) := (HO.out.ops _ (List.getElem_mem h1)).below HB1.out
        have HPb : Hid (Ops (boxe us[k] (boxe es[k] wr)) us[k].ao us[k].n us[k].cap us[k].vs) := (HO'.out.ops _ (List.getElem_mem h2)).below HB1.out
        have HS1 : Hid (Thr (boxe us[k] (boxe es[k] wr)) wr.heap.size 0 es[k]) := boxe2_fst es[k] us[k] wr
        have HS2 : Hid (Thr (boxe us[k] (boxe es[k] wr)) (boxe es[k] wr).heap.size 0 us[k]) := boxe_at us[k] (boxe es[k] wr)
        clear hGt hGt' Sb
        generalize es[k] = v at *
        generalize us[k] = u at *
        clear h1 h2
        go_upto_region 6 with fail
        change Code.wp Tryd.prog _ _ _ (boxe v wr)
        go_upto_region 7 with fail
        change Code.wp Tryd.prog _ _ _ (boxe u (boxe v wr))
        generalize boxe u (boxe v wr) = W at *
        clear a0 a1 a2 b0 b1 b2
        obtain ⟨a0, a1, a2⟩ := HS1.out
        obtain ⟨b0, b1, b2⟩ := HS2.out
        simp only [Nat.zero_add] at a0 a1 a2 b0 b1 b2
        go_wp2_with fail
        refine (sameE_any v u _ HPa.out HPb.out).mono ?_
        rintro e w1 ⟨rfl, hb⟩
        have H2 : Hid (Below w.heap.size w w1) := HB1.out.trans (hb.mono HB1.out.size)
        clear hb a0 a1 a2 b0 b1 b2
        cases hal : Sv.sameE v.en u.en
        · obtain rfl : r = false := by rw [← HM.out, HX.out, hal]; rfl
          clear hal
          go_wp2
          go_ret
          exact ⟨rfl, H2.out⟩
        · have HM2 : Hid (Sv.sameL ((es.map EV.en).drop (k + 1)) ((us.map EV.en).drop (k + 1)) = r) := by show _ = _; rw [← HM.out, HX.out, hal, Bool.true_and]
          clear hal
          go_wp2
          go_roundw
          case rel => exact ⟨k + 1, by omega, by go_num, H2.out, HM2.out⟩
          case measure => simp [intOf]; omega
      · obtain rfl : k = n := by omega
        obtain rfl : r = true := by
          rw [← HM.out, List.drop_eq_nil_of_le (by rw [List.length_map, HN.out]; exact Nat.le_refl _), List.drop_eq_nil_of_le (by rw [List.length_map, HN'.out]; exact Nat.le_refl _)]
          rfl
        go_wp2
        go_ret
        exact ⟨rfl, HBR.out⟩
  · obtain rfl : r = false := by rw [← HR.out]; exact Sv.sameL_len _ _ (by rw [List.length_map, List.length_map, HN.out, HN'.out]; exact hnn)
    have hne : ((n : Int) != (n' : Int)) = true := by simp; omega
    have hne' : (n != n') = true := by simp; omega
    go_enter Tryd.func18, Tryd.ntmps18
    go_wp2
    go_ret
    exact ⟨rfl, Below.refl _ _⟩

set_option maxRecDepth 100000 in
set_option maxHeartbeats 1600000 in
theorem eachE_any (ao : Option Addr) (n cap : Nat) (es : List EV) (w : World) (hE : Ents w ao n cap es) (hS : Sch w) :
    Calls Tryd.prog 53 #[.slice ao n cap, .func (.func 54) #[] #[]] w fun e w' => e = .returned (.int .i64 (Sv.entsE (es.map EV.en))) ∧ Below w.heap.size w w' := by
  have HE : Hid (Ents w ao n cap es) := hE
  have HS : Hid (Sch w) := hS
  have HN : Hid (es.length = n) := hE.len
  have hcap := hE.row.room
  have hbig := hE.row.big
  clear hE hS
  obtain ⟨r, hr⟩ : ∃ r, Sv.entsE (es.map EV.en) = r := ⟨_, rfl⟩
  have HR : Hid (Sv.entsE (es.map EV.en) = r) := hr
  rw [hr]
  clear hr
  go_enter Tryd.func53, Tryd.ntmps53
  go_wp2
  go_loopw [10] (fun i wr => ∃ k : Nat, k ≤ n ∧ i = .int .i64 k ∧ Below w.heap.size w wr ∧ Sv.entsE ((es.map EV.en).drop k) = r) (fun i _ => n - (intOf i).toNat)
  case atStart => exact ⟨0, Nat.zero_le _, rfl, Below.refl _ _, HR.out⟩
  case round =>
    obtain ⟨k, hk, rfl, hbr, hsm⟩ := hrel
    have HM : Hid (Sv.entsE ((es.map EV.en).drop k) = r) := hsm
    have HBR : Hid (Below w.heap.size w wr) := hbr
    clear hsm hbr
    by_cases hlt : k < n
    · obtain ⟨b, off, rfl, hGt⟩ := HE.out.get (by omega)
      have h1 : k < es.length := by rw [HN.out]; exact hlt
      have HX : Hid (Sv.entsE ((es.map EV.en).drop k) = if Sv.entE es[k].en = 0 then Sv.entsE ((es.map EV.en).drop (k + 1)) else Sv.entE es[k].en) := by
        have := Sv.entsE_step (es.map EV.en) k (by rw [List.length_map]; exact h1)
        rw [List.getElem_map] at this
        exact this
      obtain ⟨a0, a1, a2⟩ := (hGt k h1).below HBR.out
      have HB1 : Hid (Below w.heap.size w (boxe es[k] wr)) := HBR.out.trans ((boxe_below _ wr).mono HBR.out.size)
      have HOP : Hid (Ops (boxe es[k] wr) es[k].ao es[k].n es[k].cap es[k].vs) := (HE.out.ops _ (List.getElem_mem h1)).below HB1.out
      have HS1 : Hid (Sch (boxe es[k] wr)) := HS.out.below HB1.out
      have HT : Hid (Thr (boxe es[k] wr) wr.heap.size 0 es[k]) := boxe_at es[k] wr
      clear hGt
      generalize es[k] = v at *
      go_upto_region 4 with fail
      change Code.wp Tryd.prog _ _ _ (boxe v wr)
      generalize boxe v wr = W at *
      clear a0 a1 a2
      obtain ⟨a0, a1, a2⟩ := HT.out
      simp only [Nat.zero_add] at a0 a1 a2
      go_wp2_with fail
      refine (entE_any v _ HOP.out HS1.out).mono ?_
      rintro e w1 ⟨rfl, hb⟩
      have H2 : Hid (Below w.heap.size w w1) := HB1.out.trans (hb.mono HB1.out.size)
      clear hb a0 a1 a2
      obtain ⟨q, hq⟩ : ∃ q, Sv.entE v.en = q := ⟨_, rfl⟩
      rw [hq] at HX ⊢
      clear hq
      by_cases hz : q = 0
      · have HM2 : Hid (Sv.entsE ((es.map EV.en).drop (k + 1)) = r) := by show _ = _; rw [← HM.out, HX.out, if_pos hz]
        subst hz
        go_wp2
        go_roundw
        case rel => exact ⟨k + 1, by omega, by go_num, H2.out, HM2.out⟩
        case measure => simp [intOf]; omega
      · have hne : (q != 0) = true := by simp [hz]
        obtain rfl : r = q := by rw [← HM.out, HX.out, if_neg hz]
        go_wp2
        go_ret
        exact ⟨rfl, H2.out⟩
    · obtain rfl : k = n := by omega
      obtain rfl : r = 0 := by
        rw [← HM.out, List.drop_eq_nil_of_le (by rw [List.length_map, HN.out]; exact Nat.le_refl _)]
        rfl
      go_wp2
      go_ret
      exact ⟨rfl, HBR.out⟩

set_option maxRecDepth 100000 in
set_option maxHeartbeats 1600000 in
theorem each_any (F : FuncId) (c : Value) (ao : Option Addr) (n cap : Nat) (es : List EV) (Inv : Nat → World → Prop) (Bad : Int → World → Prop) (w : World) (hF : F = 59 ∨ F = 86) (hR : n ≤ cap ∧ cap ≤ 9223372036854775807 ∧ es.length = n)
    (hE : ∀ k wr, Inv k wr → Ents wr ao n cap es) (hx : ∀ k wr (v : EV), Inv k wr → Inv k (boxe v wr)) (h0 : Inv 0 w)
    (hst : ∀ k (hk : k < es.length) wr, Inv k wr → Calls Tryd.prog F #[.agg #[.int .i64 es[k].who, .int .i64 es[k].seq, .slice es[k].ao es[k].n es[k].cap], c] wr fun e w' => ∃ E, e = .returned (.int .i64 E) ∧ (E = 0 → Inv (k + 1) w') ∧ (E ≠ 0 → Bad E w')) :
    Calls Tryd.prog 53 #[.slice ao n cap, .func (.func F) #[] #[c]] w fun e w' => ∃ E, e = .returned (.int .i64 E) ∧ (E = 0 → Inv n w') ∧ (E ≠ 0 → Bad E w') := by
  obtain ⟨hcap, hbig, hlen⟩ := hR
  have HN : Hid (es.length = n) := hlen
  have HE : Hid (∀ k wr, Inv k wr → Ents wr ao n cap es) := hE
  have HX : Hid (∀ k wr (v : EV), Inv k wr → Inv k (boxe v wr)) := hx
  have HST : Hid (∀ k (hk : k < es.length) wr, Inv k wr → Calls Tryd.prog F #[.agg #[.int .i64 es[k].who, .int .i64 es[k].seq, .slice es[k].ao es[k].n es[k].cap], c] wr fun e w' => ∃ E, e = .returned (.int .i64 E) ∧ (E = 0 → Inv (k + 1) w') ∧ (E ≠ 0 → Bad E w')) := hst
  have HF : Hid (F = 59 ∨ F = 86) := hF
  have H0 : Hid (Inv 0 w) := h0
  clear hE hx hst hF h0 hlen
  go_enter Tryd.func53, Tryd.ntmps53
  go_wp2
  go_loopw [10] (fun i wr => ∃ k : Nat, k ≤ n ∧ i = .int .i64 k ∧ Inv k wr) (fun i _ => n - (intOf i).toNat)
  case atStart => exact ⟨0, Nat.zero_le _, rfl, H0.out⟩
  case round =>
    obtain ⟨k, hk, rfl, hinv⟩ := hrel
    have HI : Hid (Inv k wr) := hinv
    clear hinv
    by_cases hlt : k < n
    · obtain ⟨b, off, rfl, hGt⟩ := (HE.out k wr HI.out).get (by omega)
      have h1 : k < es.length := by rw [HN.out]; exact hlt
      obtain ⟨a0, a1, a2⟩ := hGt k h1
      have CF : Hid (Calls Tryd.prog F #[.agg #[.int .i64 es[k].who, .int .i64 es[k].seq, .slice es[k].ao es[k].n es[k].cap], c] (boxe es[k] wr) fun e w' => ∃ E, e = .returned (.int .i64 E) ∧ (E = 0 → Inv (k + 1) w') ∧ (E ≠ 0 → Bad E w')) := HST.out k h1 _ (HX.out k wr _ HI.out)
      have HT : Hid (Thr (boxe es[k] wr) wr.heap.size 0 es[k]) := boxe_at es[k] wr
      clear hGt
      generalize es[k] = v at *
      go_upto_region 4 with fail
      change Code.wp Tryd.prog _ _ _ (boxe v wr)
      generalize boxe v wr = W at *
      clear a0 a1 a2
      obtain ⟨a0, a1, a2⟩ := HT.out
      simp only [Nat.zero_add] at a0 a1 a2
      rcases HF.out with rfl | rfl
      all_goals
        go_wp2_with fail
        refine CF.out.mono ?_
        rintro e w1 ⟨q, rfl, hi, hb⟩
        have HI2 : Hid (q = 0 → Inv (k + 1) w1) := hi
        have HB2 : Hid (q ≠ 0 → Bad q w1) := hb
        clear hi hb a0 a1 a2
        by_cases hz : q = 0
        · have HI3 : Hid (Inv (k + 1) w1) := HI2.out hz
          subst hz
          go_wp2
          go_roundw
          case rel => exact ⟨k + 1, by omega, by go_num, HI3.out⟩
          case measure => simp [intOf]; omega
        · have hne : (q != 0) = true := by simp [hz]
          go_wp2
          go_ret
          exact ⟨q, rfl, fun e => absurd e hz, HB2.out⟩
    · obtain rfl : k = n := by omega
      go_wp2
      go_ret
      exact ⟨0, rfl, fun _ => HI.out, fun h => absurd rfl h⟩
end Go.Proofs.YtbhcklkbckacpaaDoor

/-
  Package server: what the log has; servers held against each other.
-/
namespace Go.Proofs.YtbhcklkbckacpaaDoor
open Go.RowKit
def boxi (x : Int) (w : World) : World := w.alloc (.cells #[.int .i64 x] 3)
theorem boxi_below (x : Int) (w : World) : Below w.heap.size w (boxi x w) := (Below.refl _ _).alloc (Nat.le_refl _) _
theorem boxi_blk (x : Int) (w : World) : Blk (boxi x w) w.heap.size [.int .i64 x] 3 := Blk.new w _ _

set_option maxRecDepth 100000 in
set_option maxHeartbeats 1600000 in
theorem isE_any (v : EV) (cb qb : Nat) (c q : Int) (w : World) (hc : w.cell? ⟨cb, 0, none⟩ = some (.int .i64 c)) (hq : w.cell? ⟨qb, 0, none⟩ = some (.int .i64 q)) :
    Calls Tryd.prog 56 #[.agg #[.int .i64 v.who, .int .i64 v.seq, .slice v.ao v.n v.cap], .pointer (some ⟨cb, 0, none⟩), .pointer (some ⟨qb, 0, none⟩)] w fun e w' => e = .returned (.bool (Sv.isE c q v.en)) ∧ Below w.heap.size w w' := by
  have H1 : Hid (Below w.heap.size w (boxe v w)) := boxe_below v w
  have c0 : (boxe v w).cell? ⟨cb, 0, none⟩ = some (.int .i64 c) := cell_below hc (boxe_below v w)
  have q0 : (boxe v w).cell? ⟨qb, 0, none⟩ = some (.int .i64 q) := cell_below hq (boxe_below v w)
  have HT : Hid (Thr (boxe v w) w.heap.size 0 v) := boxe_at v w
  clear hc hq
  obtain ⟨r, hr⟩ : ∃ r, Sv.isE c q v.en = r := ⟨_, rfl⟩
  rw [hr]
  unfold Sv.isE at hr
  simp only [EV.en] at hr
  go_enter Tryd.func56, Tryd.ntmps56
  go_upto_region 1 with fail
  change Code.wp Tryd.prog _ _ _ (boxe v w)
  generalize boxe v w = W at *
  obtain ⟨a0, a1, a2⟩ := HT.out
  simp only [Nat.zero_add] at a0 a1 a2
  cases h1 : (v.who == c)
  · obtain rfl := hr.symm.trans (show _ = false by rw [h1]; rfl)
    clear hr
    go_wp2
    go_ret
    exact ⟨rfl, H1.out⟩
  · obtain rfl := hr.symm.trans (show _ = (v.seq == q) by rw [h1]; rfl)
    clear hr
    go_wp2
    go_ret
    exact ⟨rfl, H1.out⟩

set_option maxRecDepth 100000 in
set_option maxHeartbeats 1600000 in
theorem idxE_any (cb qb : Nat) (c q : Int) (ao : Option Addr) (n cap : Nat) (es : List EV) (w : World) (hE : Ents w ao n cap es) (hc : w.cell? ⟨cb, 0, none⟩ = some (.int .i64 c)) (hq : w.cell? ⟨qb, 0, none⟩ = some (.int .i64 q)) :
    Calls Tryd.prog 87 #[.slice ao n cap, .func (.func 56) #[] #[.pointer (some ⟨cb, 0, none⟩), .pointer (some ⟨qb, 0, none⟩)]] w fun e w' => (∃ i : Int, e = .returned (.int .i64 i) ∧ decide (0 ≤ i) = (es.map EV.en).any (Sv.isE c q)) ∧ Below w.heap.size w w' := by
  have HE : Hid (Ents w ao n cap es) := hE
  have HN : Hid (es.length = n) := hE.len
  have HC : Hid (w.cell? ⟨cb, 0, none⟩ = some (.int .i64 c)) := hc
  have HQ : Hid (w.cell? ⟨qb, 0, none⟩ = some (.int .i64 q)) := hq
  have hcap := hE.row.room
  have hbig := hE.row.big
  clear hE hc hq
  obtain ⟨r, hr⟩ : ∃ r, (es.map EV.en).any (Sv.isE c q) = r := ⟨_, rfl⟩
  have HR : Hid ((es.map EV.en).any (Sv.isE c q) = r) := hr
  rw [hr]
  clear hr
  go_enter Tryd.func87, Tryd.ntmps87
  go_wp2
  go_loopw [8] (fun i wr => ∃ k : Nat, k ≤ n ∧ i = .int .i64 k ∧ Below w.heap.size w wr ∧ ((es.map EV.en).drop k).any (Sv.isE c q) = r) (fun i _ => n - (intOf i).toNat)
  case atStart => exact ⟨0, Nat.zero_le _, rfl, Below.refl _ _, HR.out⟩
  case round =>
    obtain ⟨k, hk, rfl, hbr, hsm⟩ := hrel
    have HM : Hid (((es.map EV.en).drop k).any (Sv.isE c q) = r) := hsm
    have HBR : Hid (Below w.heap.size w wr) := hbr
    clear hsm hbr
    by_cases hlt : k < n
    · obtain ⟨b, off, rfl, hGt⟩ := HE.out.get (by omega)
      have h1 : k < es.length := by rw [HN.out]; exact hlt
      have HX : Hid (((es.map EV.en).drop k).any (Sv.isE c q) = (Sv.isE c q es[k].en || ((es.map EV.en).drop (k + 1)).any (Sv.isE c q))) := by
        show _ = _
        rw [List.drop_eq_getElem_cons (by rw [List.length_map]; exact h1), List.any_cons, List.getElem_map]
      obtain ⟨a0, a1, a2⟩ := (hGt k h1).below HBR.out
      clear hGt
      generalize es[k] = v at *
      go_wp2_with fail
      refine (isE_any v cb qb c q _ (cell_below HC.out HBR.out) (cell_below HQ.out HBR.out)).mono ?_
      rintro e w1 ⟨rfl, hb⟩
      have H2 : Hid (Below w.heap.size w w1) := HBR.out.trans (hb.mono HBR.out.size)
      clear hb a0 a1 a2
      cases hal : Sv.isE c q v.en
      · have HM2 : Hid (((es.map EV.en).drop (k + 1)).any (Sv.isE c q) = r) := by show _ = _; rw [← HM.out, HX.out, hal, Bool.false_or]
        clear hal
        go_wp2
        go_roundw
        case rel => exact ⟨k + 1, by omega, by go_num, H2.out, HM2.out⟩
        case measure => simp [intOf]; omega
      · obtain rfl : r = true := by rw [← HM.out, HX.out, hal]; rfl
        clear hal
        go_wp2
        go_ret
        exact ⟨⟨_, rfl, by simp⟩, H2.out⟩
    · obtain rfl : k = n := by omega
      obtain rfl : r = false := by
        rw [← HM.out, List.drop_eq_nil_of_le (by rw [List.length_map, HN.out]; exact Nat.le_refl _)]
        rfl
      go_wp2
      go_ret
      exact ⟨⟨_, rfl, by decide⟩, HBR.out⟩

set_option maxRecDepth 100000 in
set_option maxHeartbeats 1600000 in
theorem contE_any (cb qb : Nat) (c q : Int) (ao : Option Addr) (n cap : Nat) (es : List EV) (w : World) (hE : Ents w ao n cap es) (hc : w.cell? ⟨cb, 0, none⟩ = some (.int .i64 c)) (hq : w.cell? ⟨qb, 0, none⟩ = some (.int .i64 q)) :
    Calls Tryd.prog 55 #[.slice ao n cap, .func (.func 56) #[] #[.pointer (some ⟨cb, 0, none⟩), .pointer (some ⟨qb, 0, none⟩)]] w fun e w' => e = .returned (.bool ((es.map EV.en).any (Sv.isE c q))) ∧ Below w.heap.size w w' := by
  have CI := idxE_any cb qb c q ao n cap es w hE hc hq
  clear hE hc hq
  generalize (es.map EV.en).any (Sv.isE c q) = r at *
  have HI : Hid (Calls Tryd.prog 87 #[.slice ao n cap, .func (.func 56) #[] #[.pointer (some ⟨cb, 0, none⟩), .pointer (some ⟨qb, 0, none⟩)]] w fun e w' => (∃ i : Int, e = .returned (.int .i64 i) ∧ decide (0 ≤ i) = r) ∧ Below w.heap.size w w') := CI
  clear CI
  go_enter Tryd.func55, Tryd.ntmps55
  go_wp2_with fail
  refine HI.out.mono ?_
  rintro e w1 ⟨⟨i, rfl, hi⟩, hb⟩
  have H1 : Hid (Below w.heap.size w w1) := hb
  clear hb
  have HR : Hid (decide (0 ≤ i) = r) := hi
  clear hi
  go_wp2
  go_ret
  exact ⟨by rw [← HR.out]; rfl, H1.out⟩

set_option maxRecDepth 100000 in
set_option maxHeartbeats 1600000 in
theorem has_any (s : SV) (c q : Int) (w : World) (hS : Srv w s) :
    Calls Tryd.prog 20 #[.agg #[.slice s.fa s.fn s.fc, .slice s.la s.ln s.lc, .slice s.na s.nn s.nc], .int .i64 c, .int .i64 q] w fun e w' => e = .returned (.bool (Sv.has s.se c q)) ∧ Below w.heap.size w w' := by
  have H1 : Hid (Below w.heap.size w (boxi q (boxi c (boxs s w)))) := (boxs_below s w).trans (((boxi_below c _).trans ((boxi_below q _).mono (boxi_below c _).size)).mono (boxs_below s w).size)
  have CC : Hid (Calls Tryd.prog 55 #[.slice s.la s.ln s.lc, .func (.func 56) #[] #[.pointer (some ⟨w.heap.size + 1, 0, none⟩), .pointer (some ⟨w.heap.size + 1 + 1, 0, none⟩)]] (boxi q (boxi c (boxs s w))) fun e w' => e = .returned (.bool (Sv.has s.se c q)) ∧ Below (boxi q (boxi c (boxs s w))).heap.size (boxi q (boxi c (boxs s w))) w') :=
    contE_any _ _ c q s.la s.ln s.lc s.log _ (hS.log.below H1.out) (by
      have := cell_below ((boxi_blk c (boxs s w)).cell 0) (boxi_below q _)
      rw [boxs_size] at this
      exact this) (by
      have := (boxi_blk q (boxi c (boxs s w))).cell 0
      rw [show (boxi c (boxs s w)).heap.size = w.heap.size + 1 + 1 by unfold boxi; rw [World.size_alloc, boxs_size]] at this
      exact this)
  clear hS
  generalize Sv.has s.se c q = r at *
  go_enter Tryd.func20, Tryd.ntmps20
  go_wp2_with fail
  change Calls Tryd.prog 55 _ (boxi q (boxi c (boxs s w))) _
  refine CC.out.mono ?_
  rintro e w1 ⟨rfl, hb⟩
  have H2 : Hid (Below w.heap.size w w1) := H1.out.trans (hb.mono H1.out.size)
  clear hb
  go_wp2
  go_ret
  exact ⟨rfl, H2.out⟩

theorem drewN_belowS (w : World) (m : Nat) : Below w.heap.size w (w.drewN m) := drewN_blw w m
set_option maxRecDepth 100000 in
set_option maxHeartbeats 1600000 in
theorem sameS_any (a b : SV) (w : World) (ha : Srv w a) (hb : Srv w b) :
    Calls Tryd.prog 21 #[.agg #[.slice a.fa a.fn a.fc, .slice a.la a.ln a.lc, .slice a.na a.nn a.nc], .agg #[.slice b.fa b.fn b.fc, .slice b.la b.ln b.lc, .slice b.na b.nn b.nc]] w fun e w' => e = .returned (.bool (Sv.sameS a.se b.se)) ∧ Below w.heap.size w w' := by
  have H1 : Hid (Below w.heap.size w (boxs b (boxs a w))) := (boxs_below a w).trans ((boxs_below b _).mono (boxs_below a w).size)
  have HA : Hid (Blk (boxs b (boxs a w)) w.heap.size (svC a) 35) := (boxs_blk a w).alloc _
  have HB : Hid (Blk (boxs b (boxs a w)) (w.heap.size + 1) (svC b) 35) := by have := boxs_blk b (boxs a w); rw [boxs_size] at this; exact this
  have C0 : Hid (Calls Tryd.prog 23 #[.slice a.fa a.fn a.fc, .slice b.fa b.fn b.fc] (boxs b (boxs a w)) fun e w' => e = .returned (.bool (Dc.same a.first b.first)) ∧ Below (boxs b (boxs a w)).heap.size (boxs b (boxs a w)) w') := (same_any _ _ _ _ _ _ _ _ _ (ha.first.below H1.out) (hb.first.below H1.out)).mono fun e w' ⟨h, m, hm⟩ => ⟨h, by rw [hm]; exact drewN_blw _ m⟩
  have C1 : Hid (∀ w', Below (boxs b (boxs a w)).heap.size (boxs b (boxs a w)) w' → Calls Tryd.prog 18 #[.slice a.la a.ln a.lc, .slice b.la b.ln b.lc, .func (.func 19) #[] #[]] w' fun e w'' => e = .returned (.bool (Sv.sameL (a.log.map EV.en) (b.log.map EV.en))) ∧ Below w'.heap.size w' w'') := fun w' hw => eqFuncE_any _ _ _ _ _ _ _ _ _ ((ha.log.below H1.out).below hw) ((hb.log.below H1.out).below hw)
  have C2 : Hid (∀ w', Below (boxs b (boxs a w)).heap.size (boxs b (boxs a w)) w' → Calls Tryd.prog 23 #[.slice a.na a.nn a.nc, .slice b.na b.nn b.nc] w' fun e w'' => e = .returned (.bool (Dc.same a.now b.now)) ∧ Below w'.heap.size w' w'') := fun w' hw => (same_any _ _ _ _ _ _ _ _ _ ((ha.now.below H1.out).below hw) ((hb.now.below H1.out).below hw)).mono fun e w'' ⟨h, m, hm⟩ => ⟨h, by rw [hm]; exact drewN_blw _ m⟩
  clear ha hb
  obtain ⟨r, hr⟩ : ∃ r, Sv.sameS a.se b.se = r := ⟨_, rfl⟩
  rw [hr]
  unfold Sv.sameS at hr
  simp only [SV.se] at hr
  generalize Dc.same a.first b.first = x at *
  generalize Sv.sameL (a.log.map EV.en) (b.log.map EV.en) = y at *
  generalize Dc.same a.now b.now = z at *
  cases x
  · obtain rfl := hr.symm.trans (show _ = false from rfl)
    clear hr
    go_enter Tryd.func21, Tryd.ntmps21
    go_wp2_with fail
    change Calls Tryd.prog 23 _ (boxs b (boxs a w)) _
    refine C0.out.mono ?_
    rintro e w1 ⟨rfl, hb⟩
    have H2 : Hid (Below (boxs b (boxs a w)).heap.size (boxs b (boxs a w)) w1) := hb
    have H2w : Hid (Below w.heap.size w w1) := H1.out.trans (hb.mono H1.out.size)
    clear hb
    go_wp2
    go_ret
    exact ⟨rfl, H2w.out⟩
  · cases y
    · obtain rfl := hr.symm.trans (show _ = false from rfl)
      clear hr
      go_enter Tryd.func21, Tryd.ntmps21
      go_wp2_with fail
      change Calls Tryd.prog 23 _ (boxs b (boxs a w)) _
      refine C0.out.mono ?_
      rintro e w1 ⟨rfl, hb⟩
      have H2 : Hid (Below (boxs b (boxs a w)).heap.size (boxs b (boxs a w)) w1) := hb
      have H2w : Hid (Below w.heap.size w w1) := H1.out.trans (hb.mono H1.out.size)
      clear hb
      have e1 : w1.cell? ⟨w.heap.size, 1, none⟩ = some (.slice a.la a.ln a.lc) := cell_below (HA.out.cell 1) H2.out
      have e2 : w1.cell? ⟨w.heap.size + 1, 1, none⟩ = some (.slice b.la b.ln b.lc) := cell_below (HB.out.cell 1) H2.out
      go_wp2_with fail
      refine (C1.out _ H2.out).mono ?_
      rintro e w2 ⟨rfl, hb⟩
      have H3 : Hid (Below (boxs b (boxs a w)).heap.size (boxs b (boxs a w)) w2) := H2.out.trans (hb.mono H2.out.size)
      have H3w : Hid (Below w.heap.size w w2) := H1.out.trans (H3.out.mono H1.out.size)
      clear hb e1 e2
      go_wp2
      go_ret
      exact ⟨rfl, H3w.out⟩
    · obtain rfl := hr.symm.trans (show _ = z from rfl)
      clear hr
      go_enter Tryd.func21, Tryd.ntmps21
      go_wp2_with fail
      change Calls Tryd.prog 23 _ (boxs b (boxs a w)) _
      refine C0.out.mono ?_
      rintro e w1 ⟨rfl, hb⟩
      have H2 : Hid (Below (boxs b (boxs a w)).heap.size (boxs b (boxs a w)) w1) := hb
      have H2w : Hid (Below w.heap.size w w1) := H1.out.trans (hb.mono H1.out.size)
      clear hb
      have e1 : w1.cell? ⟨w.heap.size, 1, none⟩ = some (.slice a.la a.ln a.lc) := cell_below (HA.out.cell 1) H2.out
      have e2 : w1.cell? ⟨w.heap.size + 1, 1, none⟩ = some (.slice b.la b.ln b.lc) := cell_below (HB.out.cell 1) H2.out
      go_wp2_with fail
      refine (C1.out _ H2.out).mono ?_
      rintro e w2 ⟨rfl, hb⟩
      have H3 : Hid (Below (boxs b (boxs a w)).heap.size (boxs b (boxs a w)) w2) := H2.out.trans (hb.mono H2.out.size)
      have H3w : Hid (Below w.heap.size w w2) := H1.out.trans (H3.out.mono H1.out.size)
      clear hb e1 e2
      have e1 : w2.cell? ⟨w.heap.size, 2, none⟩ = some (.slice a.na a.nn a.nc) := cell_below (HA.out.cell 2) H3.out
      have e2 : w2.cell? ⟨w.heap.size + 1, 2, none⟩ = some (.slice b.na b.nn b.nc) := cell_below (HB.out.cell 2) H3.out
      go_wp2_with fail
      refine (C2.out _ H3.out).mono ?_
      rintro e w3 ⟨rfl, hb⟩
      have H4w : Hid (Below w.heap.size w w3) := H1.out.trans ((H3.out.trans (hb.mono H3.out.size)).mono H1.out.size)
      clear hb e1 e2
      go_wp2
      go_ret
      exact ⟨rfl, H4w.out⟩
end Go.Proofs.YtbhcklkbckacpaaDoor

/-
  Package server: what the operations of a log make of a document; whether it is a server.
-/
namespace Go.Proofs.YtbhcklkbckacpaaDoor
open Go.RowKit
theorem cell_apart {w : World} {g : Nat} {a : Option Addr} {n c : Nat} {T : TypeId} (h : Blk w g [.slice a n c] T) {b o : Nat} {u : Value} (hu : w.cell? ⟨b, o, none⟩ = some u) (hs : ∀ a n c, u ≠ .slice a n c) : b ≠ g := by
  rintro rfl
  rw [h.cell o] at hu
  cases o with
  | zero => exact hs _ _ _ (Option.some.inj hu).symm
  | succ o => cases hu
theorem docN (w : World) : Doc w none 0 0 [] := ⟨fun x hx => absurd hx (by simp), rfl, Nat.le_refl _, by decide, fun h => absurd rfl h⟩
theorem Doc.poke {w : World} {a : Option Addr} {n c : Nat} {l : List It} {g : Nat} {a0 : Option Addr} {n0 c0 : Nat} {T : TypeId} (h : Doc w a n c l) (hB : Blk w g [.slice a0 n0 c0] T) (v : Value) : Doc (w.setCell ⟨g, 0, none⟩ v) a n c l :=
  ⟨h.fit, h.len, h.room, h.big, fun hn => by
    obtain ⟨b, off, e, hA⟩ := h.lies hn
    have hne : b ≠ g := cell_apart hB (hA.c 0 (by rw [h.len]; omega)) (fun _ _ _ e => by cases e)
    have hk := Below.heap_setCell w ⟨g, 0, none⟩ v b hne
    exact ⟨b, off, e, ⟨fun i hi => (World.cell?_of_block (w := w) hk).trans (hA.c i hi), fun i hi => (World.cell?_of_block (w := w) hk).trans (hA.m i hi), fun i hi => (World.cell?_of_block (w := w) hk).trans (hA.l i hi)⟩⟩⟩
theorem Row.poke {w : World} {a : Option Addr} {n c sz : Nat} {cs : List Value} {g : Nat} {a0 : Option Addr} {n0 c0 : Nat} {T : TypeId} (h : Row w a n c sz cs) (hB : Blk w g [.slice a0 n0 c0] T) (hs : n ≠ 0 → ∃ u, cs[0]? = some u ∧ ∀ a n c, u ≠ .slice a n c) (v : Value) : Row (w.setCell ⟨g, 0, none⟩ v) a n c sz cs :=
  ⟨h.len, h.room, h.big, fun hn => by
    obtain ⟨b, off, e, hc⟩ := h.lies hn
    obtain ⟨u, hu, hne⟩ := hs hn
    have hk := Below.heap_setCell w ⟨g, 0, none⟩ v b (cell_apart hB (hc 0 u hu) hne)
    exact ⟨b, off, e, fun j u hu => (World.cell?_of_block (w := w) hk).trans (hc j u hu)⟩⟩
theorem Ops.poke {w : World} {a : Option Addr} {n c : Nat} {vs : List PV} {g : Nat} {a0 : Option Addr} {n0 c0 : Nat} {T : TypeId} (h : Ops w a n c vs) (hB : Blk w g [.slice a0 n0 c0] T) (v : Value) : Ops (w.setCell ⟨g, 0, none⟩ v) a n c vs :=
  ⟨h.row.poke hB (fun hn => by
    have hl := h.len
    match vs, hl with
    | [], hl => exact absurd hl.symm hn
    | x :: vs, _ => exact ⟨.int .i64 x.kind, rfl, fun _ _ _ e => by cases e⟩) v, fun x hx => ⟨(h.pts x hx).doc.poke hB v, (h.pts x hx).fit⟩⟩
theorem Ents.poke {w : World} {a : Option Addr} {n c : Nat} {es : List EV} {g : Nat} {a0 : Option Addr} {n0 c0 : Nat} {T : TypeId} (h : Ents w a n c es) (hB : Blk w g [.slice a0 n0 c0] T) (v : Value) : Ents (w.setCell ⟨g, 0, none⟩ v) a n c es :=
  ⟨h.row.poke hB (fun hn => by
    have hl := h.len
    match es, hl with
    | [], hl => exact absurd hl.symm hn
    | x :: es, _ => exact ⟨.int .i64 x.who, rfl, fun _ _ _ e => by cases e⟩) v, fun x hx => (h.ops x hx).poke hB v⟩
theorem Sch.poke {w : World} {g : Nat} {a0 : Option Addr} {n0 c0 : Nat} {T : TypeId} (h : Sch w) (hB : Blk w g [.slice a0 n0 c0] T) (v : Value) : Sch (w.setCell ⟨g, 0, none⟩ v) := by
  obtain ⟨t, fr, hh⟩ := h
  have hne : 0 ≠ g := by
    rintro rfl
    have e := hh.symm.trans hB
    simp only [Option.some.injEq, Obj.cells.injEq] at e
    have : scells.size = 1 := by rw [e.1]; rfl
    exact absurd this (by decide)
  exact ⟨t, fr, (Below.heap_setCell w ⟨g, 0, none⟩ v _ hne).trans hh⟩

set_option maxRecDepth 100000 in
set_option maxHeartbeats 1600000 in
theorem fold1_any (v : EV) (g : Nat) (a : Option Addr) (n c : Nat) (l : List It) (w : World) (hB : Blk w g [.slice a n c] 32) (hD : Doc w a n c l) (hO : Ops w v.ao v.n v.cap v.vs) (hS : Sch w) :
    Calls Tryd.prog 59 #[.agg #[.int .i64 v.who, .int .i64 v.seq, .slice v.ao v.n v.cap], .pointer (some ⟨g, 0, none⟩)] w fun e w' => e = .returned (.int .i64 (Ac.fitE l v.en.o)) ∧ ∃ w1 a' n' c', w' = w1.setCell ⟨g, 0, none⟩ (.slice a' n' c') ∧ Below w.heap.size w w1 ∧ Doc w1 a' n' c' (Ac.done l v.en.o) := by
  have CA : Hid (Calls Tryd.prog 24 #[.slice a n c, .slice v.ao v.n v.cap] (boxe v w) fun e w' => (∃ a c, e = .returned (.tuple #[.slice a (Ac.done l (v.vs.map PV.pt)).length c, .int .i64 (Ac.fitE l (v.vs.map PV.pt))]) ∧ Doc w' a (Ac.done l (v.vs.map PV.pt)).length c (Ac.done l (v.vs.map PV.pt))) ∧ Below (boxe v w).heap.size (boxe v w) w') := apply_any a v.ao n c v.n v.cap l v.vs _ (hD.below (boxe_below v w)) (hO.below (boxe_below v w)) (hS.below (boxe_below v w))
  have H1 : Hid (Below w.heap.size w (boxe v w)) := boxe_below v w
  have HB : Hid (Blk (boxe v w) g [.slice a n c] 32) := hB.alloc _
  have HT : Hid (Thr (boxe v w) w.heap.size 0 v) := boxe_at v w
  clear hB hD hO hS
  change Calls Tryd.prog _ _ _ fun e w' => e = .returned (.int .i64 (Ac.fitE l (v.vs.map PV.pt))) ∧ ∃ w1 a' n' c', w' = w1.setCell ⟨g, 0, none⟩ (.slice a' n' c') ∧ Below w.heap.size w w1 ∧ Doc w1 a' n' c' (Ac.done l (v.vs.map PV.pt))
  generalize Ac.fitE l (v.vs.map PV.pt) = E at *
  generalize Ac.done l (v.vs.map PV.pt) = D at *
  go_enter Tryd.func59, Tryd.ntmps59
  go_upto_region 1 with fail
  change Code.wp Tryd.prog _ _ _ (boxe v w)
  generalize boxe v w = W at *
  obtain ⟨a0, a1, a2⟩ := HT.out
  simp only [Nat.zero_add] at a0 a1 a2
  have g0 : W.cell? ⟨g, 0, none⟩ = some (.slice a n c) := HB.out.cell 0
  go_wp2_with fail
  refine CA.out.mono ?_
  rintro e w1 ⟨⟨a', c', rfl, hd⟩, hb⟩
  have HD : Hid (Doc w1 a' D.length c' D) := hd
  have H2 : Hid (Below w.heap.size w w1) := H1.out.trans (hb.mono H1.out.size)
  have HB1 : Hid (Blk w1 g [.slice a n c] 32) := (hb.block _ HB.out.lt).trans HB.out
  clear hd hb a0 a1 a2 g0
  have g0 : w1.cell? ⟨g, 0, none⟩ = some (.slice a n c) := HB1.out.cell 0
  have gf := HB1.out.frozen 0
  go_wp2
  go_ret
  exact ⟨rfl, w1, a', _, c', rfl, H2.out, HD.out⟩

theorem eachF_any (B g : Nat) (a : Option Addr) (n c : Nat) (l : List It) (la : Option Addr) (ln lc : Nat) (es : List EV) (w : World) (hg : B ≤ g) (hw : B ≤ w.heap.size) (hB : Blk w g [.slice a n c] 32) (hD : Doc w a n c l) (hE : Ents w la ln lc es) (hS : Sch w) :
    Calls Tryd.prog 53 #[.slice la ln lc, .func (.func 59) #[] #[.pointer (some ⟨g, 0, none⟩)]] w fun e w' => e = .returned (.int .i64 (Sv.foldE l (es.map EV.en))) ∧ (∃ a' n' c', Blk w' g [.slice a' n' c'] 32 ∧ Doc w' a' n' c' (Sv.foldD l (es.map EV.en))) ∧ Below B w w' := by
  refine (each_any 59 (.pointer (some ⟨g, 0, none⟩)) la ln lc es
    (fun k wr => Below B w wr ∧ Ents wr la ln lc es ∧ Sch wr ∧ ∃ a' n' c' l', Blk wr g [.slice a' n' c'] 32 ∧ Doc wr a' n' c' l' ∧ Sv.foldE l' ((es.map EV.en).drop k) = Sv.foldE l (es.map EV.en) ∧ Sv.foldD l' ((es.map EV.en).drop k) = Sv.foldD l (es.map EV.en))
    (fun E wr => Below B w wr ∧ E = Sv.foldE l (es.map EV.en) ∧ ∃ a' n' c', Blk wr g [.slice a' n' c'] 32 ∧ Doc wr a' n' c' (Sv.foldD l (es.map EV.en)))
    w (.inl rfl) ⟨hE.row.room, hE.row.big, hE.len⟩ (fun k wr h => h.2.1) (fun k wr v h => ?_) ⟨Below.refl _ _, hE, hS, a, n, c, l, hB, hD, rfl, rfl⟩ (fun k hk wr h => ?_)).mono ?_
  · obtain ⟨h1, h2, h3, a', n', c', l', h4, h5, h6, h7⟩ := h
    exact ⟨h1.trans ((boxe_below v wr).mono (Nat.le_trans hw h1.size)), h2.below (boxe_below v wr), h3.below (boxe_below v wr), a', n', c', l', h4.alloc _, h5.below (boxe_below v wr), h6, h7⟩
  · obtain ⟨h1, h2, h3, a', n', c', l', h4, h5, h6, h7⟩ := h
    refine (fold1_any es[k] g a' n' c' l' wr h4 h5 (h2.ops _ (List.getElem_mem hk)) h3).mono ?_
    rintro e w' ⟨rfl, w1, a1, n1, c1, rfl, hb, hd⟩
    have hB1 : Blk w1 g [.slice a' n' c'] 32 := (hb.block _ h4.lt).trans h4
    have hbb : Below B w (w1.setCell ⟨g, 0, none⟩ (.slice a1 n1 c1)) := (h1.trans (hb.mono (Nat.le_trans hw h1.size))).setCell hg _
    have hst : ∀ (x : List It), Sv.foldE x ((es.map EV.en).drop k) = (if Ac.fitE x es[k].en.o = 0 then Sv.foldE (Ac.done x es[k].en.o) ((es.map EV.en).drop (k + 1)) else Ac.fitE x es[k].en.o) ∧ Sv.foldD x ((es.map EV.en).drop k) = (if Ac.fitE x es[k].en.o = 0 then Sv.foldD (Ac.done x es[k].en.o) ((es.map EV.en).drop (k + 1)) else Ac.done x es[k].en.o) := fun x => by
      rw [List.drop_eq_getElem_cons (by rw [List.length_map]; exact hk), List.getElem_map]
      exact ⟨rfl, rfl⟩
    obtain ⟨s1, s2⟩ := hst l'
    refine ⟨_, rfl, fun hz => ?_, fun hz => ?_⟩
    · rw [if_pos hz] at s1 s2
      exact ⟨hbb, (h2.below hb).poke hB1 _, (h3.below hb).poke hB1 _, a1, n1, c1, _, hB1.set 0 _, hd.poke hB1 _, by rw [← s1]; exact h6, by rw [← s2]; exact h7⟩
    · rw [if_neg hz] at s1 s2
      exact ⟨hbb, by rw [← s1]; exact h6, a1, n1, c1, hB1.set 0 _, by rw [← h7, s2]; exact hd.poke hB1 _⟩
  · rintro e w' ⟨E, rfl, h0, h1⟩
    by_cases hz : E = 0
    · obtain ⟨b1, -, -, a', n', c', l', b4, b5, b6, b7⟩ := h0 hz
      have hn : (es.map EV.en).drop ln = [] := List.drop_eq_nil_of_le (by rw [List.length_map, hE.len]; exact Nat.le_refl _)
      rw [hn] at b6 b7
      exact ⟨by rw [hz, ← b6]; rfl, ⟨a', n', c', b4, by rw [← b7]; exact b5⟩, b1⟩
    · obtain ⟨b1, b2, b3⟩ := h1 hz
      exact ⟨by rw [b2], b3, b1⟩

set_option maxRecDepth 100000 in
set_option maxHeartbeats 1600000 in
theorem cloneD_any (ao : Option Addr) (n cap : Nat) (l : List It) (w : World) (hD : Doc w ao n cap l) (h0 : 0 < n) (h80 : n ≤ 80) :
    Calls Tryd.prog 58 #[.slice ao n cap] w fun e w' => (∃ g c, e = .returned (.slice (some ⟨g, 0, none⟩) n c) ∧ w.heap.size ≤ g ∧ Doc w' (some ⟨g, 0, none⟩) n c l) ∧ Below w.heap.size w w' := by
  obtain ⟨i0, hi, hz0, hz1, hz2⟩ := info_parts Tryd.infI
  obtain ⟨b, off, rfl, hA⟩ := hD.lies (by omega)
  have HA : Hid (At w b off l) := hA
  have HL : Hid (l.length = n) := hD.len
  have HFT : Hid (Fit l) := hD.fit
  have hnil : ∀ w, (binOp .eql 32 (.slice (some ⟨b, off, none⟩) n cap) (.slice none 0 0)).run Tryd.prog w = .ok (.bool false) w := fun w => Lib.run_eql_slice_nil (P := Tryd.prog) w 32 79 _ _ _ _ _ Tryd.underlying32
  clear hA hD
  go_enter Tryd.func58, Tryd.ntmps58
  go_wp2_with (at_builtin; refine wpList_append_lies _ rfl (.tmp 5) (.tmp 6) 32 rfl w.heap.size 79 i0 (.agg #[.int .u8 0, .int .i64 0, .string ⟨#[]⟩]) 3 32 Tryd.underlying32 hi hz0 hz1 hz2 rfl (by decide) _ 0 [] rfl ?c1 ⟨b, off, none⟩ n cap (itCells l) rfl ?c2 ?c3 (itCells_one l) h0 ?c4 ?c5 ?c6 _ rfl ?c7)
  case c1 => exact World.ownsRow_lit w #[] 0 (Nat.le_refl _) (by decide) rfl
  case c2 => rw [itCells_len, HL.out]
  case c3 => exact at_cells (HA.out.below ((Below.refl _ _).alloc (Nat.le_refl _) _))
  case c4 => unfold maxLen; omega
  case c5 => omega
  case c6 => simp
  case c7 =>
    intro g cap2 w1 hown hgrow _ _
    have H1 : Hid (Below w.heap.size w w1) := ((Below.refl w.heap.size w).alloc (Nat.le_refl _) (.cells #[] 79)).grown hgrow (by simp) (fun k hk => by simp [Value.ownBlock] at hk; omega)
    have hroom : n ≤ cap2 ∧ cap2 ≤ 9223372036854775807 := (own_row hown).elim fun a h => h.elim fun c h => by obtain ⟨e, hr⟩ := h; simp only [Value.slice.injEq] at e; obtain ⟨_, _, rfl⟩ := e; exact ⟨hr.room, hr.big⟩
    have HO : Hid (w.heap.size ≤ g ∧ Doc w1 (some ⟨g, 0, none⟩) n cap2 l) := ⟨ownBlk_ge hown g rfl, HFT.out, HL.out, hroom.1, hroom.2, fun _ => ⟨g, 0, rfl, own_at hown⟩⟩
    clear hown hgrow hroom
    go_wp2
    go_ret
    exact ⟨⟨g, cap2, rfl, HO.out.1, HO.out.2⟩, H1.out⟩
theorem Dc.check_few {l : List It} (h : Dc.check l = 0) : 0 < l.length ∧ l.length ≤ 80 := by
  by_cases h1 : 80 < l.length
  · rw [Dc.check_many h1] at h; cases h
  · refine ⟨?_, by omega⟩
    cases l with
    | nil => exact absurd h (by decide)
    | cons x l => simp
def boxd (a : Option Addr) (n c : Nat) (w : World) : World := w.alloc (.cells #[.slice a n c] 32)
theorem boxd_below (a : Option Addr) (n c : Nat) (w : World) : Below w.heap.size w (boxd a n c w) := (Below.refl _ _).alloc (Nat.le_refl _) _
theorem boxd_blk (a : Option Addr) (n c : Nat) (w : World) : Blk (boxd a n c w) w.heap.size [.slice a n c] 32 := Blk.new w _ _

set_option maxRecDepth 100000 in
set_option maxHeartbeats 1600000 in
theorem fold_any (ao : Option Addr) (n cap : Nat) (d : List It) (la : Option Addr) (ln lc : Nat) (es : List EV) (w : World) (hD : Doc w ao n cap d) (hE : Ents w la ln lc es) (hS : Sch w) :
    Calls Tryd.prog 22 #[.slice ao n cap, .slice la ln lc] w fun e w' => (∃ a n' c, e = .returned (.tuple #[.slice a n' c, .int .i64 (Sv.fldE d (es.map EV.en))]) ∧ Doc w' a n' c (Sv.fldD d (es.map EV.en))) ∧ Below w.heap.size w w' := by
  have CC : Hid (Calls Tryd.prog 57 #[.slice ao n cap] w fun e w' => e = .returned (.int .i64 (Dc.check d)) ∧ Below w.heap.size w w') := check_any ao n cap d w hD hS
  have hlen : (es.map EV.en).length = ln := by rw [List.length_map]; exact hE.len
  by_cases hc : Dc.check d = 0
  · by_cases hm : 60 < ln
    · have hE1 : Sv.fldE d (es.map EV.en) = 2 := by unfold Sv.fldE; rw [if_pos hc, if_pos (by omega)]
      have hD1 : Sv.fldD d (es.map EV.en) = [] := by unfold Sv.fldD; rw [if_pos hc, if_pos (by omega)]
      rw [hE1, hD1]
      rw [hc] at CC
      clear hE1 hD1 hlen hD hE hS hc
      go_enter Tryd.func22, Tryd.ntmps22
      go_wp2_with fail
      refine CC.out.mono ?_
      rintro e w1 ⟨rfl, hb⟩
      have H1 : Hid (Below w.heap.size w w1) := hb
      clear hb
      go_wp2
      exact bodyPost_ret (v := .tuple #[.slice none 0 0, .int .i64 2]) (by simp [results, Tryd.results22, go_sem]) rfl ⟨⟨none, 0, 0, rfl, docN w1⟩, H1.out⟩
    · have hE1 : Sv.fldE d (es.map EV.en) = Sv.foldE d (es.map EV.en) := by unfold Sv.fldE; rw [if_pos hc, if_neg (by omega)]
      have hD1 : Sv.fldD d (es.map EV.en) = Sv.foldD d (es.map EV.en) := by unfold Sv.fldD; rw [if_pos hc, if_neg (by omega)]
      have hf := Dc.check_few hc
      rw [hD.len] at hf
      obtain ⟨f1, f2⟩ := hf
      rw [hE1, hD1]
      rw [hc] at CC
      have CL : Hid (∀ w', Below w.heap.size w w' → Calls Tryd.prog 58 #[.slice ao n cap] w' fun e w'' => (∃ g c, e = .returned (.slice (some ⟨g, 0, none⟩) n c) ∧ w'.heap.size ≤ g ∧ Doc w'' (some ⟨g, 0, none⟩) n c d) ∧ Below w'.heap.size w' w'') := fun w' hb => cloneD_any ao n cap d w' (hD.below hb) f1 f2
      have CE : Hid (∀ a c w', Below w.heap.size w w' → Doc w' a n c d → Calls Tryd.prog 53 #[.slice la ln lc, .func (.func 59) #[] #[.pointer (some ⟨w'.heap.size, 0, none⟩)]] (boxd a n c w') fun e w'' => e = .returned (.int .i64 (Sv.foldE d (es.map EV.en))) ∧ (∃ a' n' c', Blk w'' w'.heap.size [.slice a' n' c'] 32 ∧ Doc w'' a' n' c' (Sv.foldD d (es.map EV.en))) ∧ Below w'.heap.size (boxd a n c w') w'') := fun a c w' hb hd =>
        eachF_any w'.heap.size w'.heap.size a n c d la ln lc es _ (Nat.le_refl _) (by unfold boxd; rw [World.size_alloc]; omega) (boxd_blk a n c w') (hd.below (boxd_below a n c w')) ((hE.below hb).below (boxd_below a n c w')) ((hS.below hb).below (boxd_below a n c w'))
      clear hE1 hD1 hlen hD hE hS hc
      generalize Sv.foldE d (es.map EV.en) = E at *
      generalize Sv.foldD d (es.map EV.en) = D at *
      go_enter Tryd.func22, Tryd.ntmps22
      go_wp2_with fail
      refine CC.out.mono ?_
      rintro e w1 ⟨rfl, hb⟩
      have H1 : Hid (Below w.heap.size w w1) := hb
      clear hb
      go_wp2_with fail
      refine (CL.out _ H1.out).mono ?_
      rintro e w2 ⟨⟨g, c, rfl, -, hd⟩, hb⟩
      have H2 : Hid (Below w.heap.size w w2) := H1.out.trans (hb.mono H1.out.size)
      have CE2 := CE.out _ c w2 H2.out hd
      have H3 : Hid (Below w2.heap.size w2 (boxd (some ⟨g, 0, none⟩) n c w2)) := boxd_below _ _ _ _
      clear hb hd
      go_wp2_with fail
      change Calls Tryd.prog _ _ (boxd (some ⟨g, 0, none⟩) n c w2) _
      generalize boxd (some ⟨g, 0, none⟩) n c w2 = W at *
      refine CE2.mono ?_
      rintro e w3 ⟨rfl, ⟨a', n', c', hB, hd⟩, hb⟩
      have HD : Hid (Doc w3 a' n' c' D) := hd
      have H4 : Hid (Below w.heap.size w w3) := H2.out.trans ((H3.out.trans hb).mono H2.out.size)
      have g0 : w3.cell? ⟨w2.heap.size, 0, none⟩ = some (.slice a' n' c') := hB.cell 0
      clear hd hb hB CE2
      go_wp2
      exact bodyPost_ret (v := .tuple #[.slice a' n' c', .int .i64 E]) (by simp [results, Tryd.results22, go_sem]) rfl ⟨⟨a', n', c', rfl, HD.out⟩, H4.out⟩
  · have hE1 : Sv.fldE d (es.map EV.en) = Dc.check d := by unfold Sv.fldE; rw [if_neg hc]
    have hD1 : Sv.fldD d (es.map EV.en) = [] := by unfold Sv.fldD; rw [if_neg hc]
    rw [hE1, hD1]
    clear hE1 hD1 hlen hD hE hS
    generalize Dc.check d = r at *
    have hne : (r != 0) = true := by simp [hc]
    go_enter Tryd.func22, Tryd.ntmps22
    go_wp2_with fail
    refine CC.out.mono ?_
    rintro e w1 ⟨rfl, hb⟩
    have H1 : Hid (Below w.heap.size w w1) := hb
    clear hb
    go_wp2
    exact bodyPost_ret (v := .tuple #[.slice none 0 0, .int .i64 r]) (by simp [results, Tryd.results22, go_sem]) rfl ⟨⟨none, 0, 0, rfl, docN w1⟩, H1.out⟩

set_option maxRecDepth 100000 in
set_option maxHeartbeats 1600000 in
theorem srvE_any (s : SV) (w : World) (hV : Srv w s) (hS : Sch w) :
    Calls Tryd.prog 17 #[.agg #[.slice s.fa s.fn s.fc, .slice s.la s.ln s.lc, .slice s.na s.nn s.nc]] w fun e w' => e = .returned (.int .i64 (Sv.srvE s.se)) ∧ Below w.heap.size w w' := by
  have H1 : Hid (Below w.heap.size w (boxs s w)) := boxs_below s w
  have HB : Hid (Blk (boxs s w) w.heap.size (svC s) 35) := boxs_blk s w
  have hV1 := hV.below H1.out
  have hS1 := hS.below H1.out
  have C1 : Hid (Calls Tryd.prog 53 #[.slice s.la s.ln s.lc, .func (.func 54) #[] #[]] (boxs s w) fun e w' => e = .returned (.int .i64 (Sv.entsE (s.log.map EV.en))) ∧ Below (boxs s w).heap.size (boxs s w) w') := eachE_any s.la s.ln s.lc s.log _ hV1.log hS1
  have C2 : Hid (∀ w', Below (boxs s w).heap.size (boxs s w) w' → Calls Tryd.prog 22 #[.slice s.fa s.fn s.fc, .slice s.la s.ln s.lc] w' fun e w'' => (∃ a n' c, e = .returned (.tuple #[.slice a n' c, .int .i64 (Sv.fldE s.first (s.log.map EV.en))]) ∧ Doc w'' a n' c (Sv.fldD s.first (s.log.map EV.en))) ∧ Below w'.heap.size w' w'') := fun w' hb => fold_any _ _ _ _ _ _ _ _ _ (hV1.first.below hb) (hV1.log.below hb) (hS1.below hb)
  have C3 : Hid (∀ w' a n c, Below (boxs s w).heap.size (boxs s w) w' → Doc w' a n c (Sv.fldD s.first (s.log.map EV.en)) → Calls Tryd.prog 23 #[.slice s.na s.nn s.nc, .slice a n c] w' fun e w'' => e = .returned (.bool (Dc.same s.now (Sv.fldD s.first (s.log.map EV.en)))) ∧ Below w'.heap.size w' w'') := fun w' a n c hb hd => (same_any _ _ _ _ _ _ _ _ _ (hV1.now.below hb) hd).mono fun e w'' ⟨h, m, hm⟩ => ⟨h, by rw [hm]; exact drewN_blw _ m⟩
  have hlen : (s.log.map EV.en).length = s.ln := by rw [List.length_map]; exact hV.log.len
  have hcap := hV.log.row.room
  have hbig := hV.log.row.big
  clear hV hS hV1 hS1
  obtain ⟨r, hr⟩ : ∃ r, Sv.srvE s.se = r := ⟨_, rfl⟩
  rw [hr]
  change (if 60 < (s.log.map EV.en).length then (2 : Int) else if Sv.entsE (s.log.map EV.en) = 0 then (if Sv.fldE s.first (s.log.map EV.en) = 0 then (if Dc.same s.now (Sv.fldD s.first (s.log.map EV.en)) = true then 0 else 4) else Sv.fldE s.first (s.log.map EV.en)) else Sv.entsE (s.log.map EV.en)) = r at hr
  rw [hlen] at hr
  clear hlen
  generalize Sv.entsE (s.log.map EV.en) = x at *
  generalize Sv.fldE s.first (s.log.map EV.en) = y at *
  generalize Sv.fldD s.first (s.log.map EV.en) = D at *
  generalize Dc.same s.now D = z at *
  by_cases h1 : 60 < s.ln
  · obtain rfl : r = 2 := by rw [← hr, if_pos h1]
    clear hr
    go_enter Tryd.func17, Tryd.ntmps17
    go_upto_region 1 with fail
    change Code.wp Tryd.prog _ _ _ (boxs s w)
    have c0 : (boxs s w).cell? ⟨w.heap.size, 0, none⟩ = some (.slice s.fa s.fn s.fc) := HB.out.cell 0
    have c1 : (boxs s w).cell? ⟨w.heap.size, 1, none⟩ = some (.slice s.la s.ln s.lc) := HB.out.cell 1
    have c2 : (boxs s w).cell? ⟨w.heap.size, 2, none⟩ = some (.slice s.na s.nn s.nc) := HB.out.cell 2
    generalize boxs s w = W at *
    go_wp2
    go_ret
    exact ⟨rfl, H1.out⟩
  · by_cases h2 : x = 0
    · by_cases h3 : y = 0
      · cases z
        · obtain rfl : r = 4 := by rw [← hr, if_neg h1, if_pos h2, if_pos h3]; rfl
          clear hr
          subst h2 h3
          go_enter Tryd.func17, Tryd.ntmps17
          go_upto_region 1 with fail
          change Code.wp Tryd.prog _ _ _ (boxs s w)
          have c0 : (boxs s w).cell? ⟨w.heap.size, 0, none⟩ = some (.slice s.fa s.fn s.fc) := HB.out.cell 0
          have c1 : (boxs s w).cell? ⟨w.heap.size, 1, none⟩ = some (.slice s.la s.ln s.lc) := HB.out.cell 1
          have c2 : (boxs s w).cell? ⟨w.heap.size, 2, none⟩ = some (.slice s.na s.nn s.nc) := HB.out.cell 2
          generalize boxs s w = W at *
          go_wp2_with fail
          refine C1.out.mono ?_
          rintro e w1 ⟨rfl, hb⟩
          have H2 : Hid (Below W.heap.size W w1) := hb
          clear hb c0 c1 c2
          have c0 : w1.cell? ⟨w.heap.size, 0, none⟩ = some (.slice s.fa s.fn s.fc) := cell_below (HB.out.cell 0) H2.out
          have c1 : w1.cell? ⟨w.heap.size, 1, none⟩ = some (.slice s.la s.ln s.lc) := cell_below (HB.out.cell 1) H2.out
          go_wp2_with fail
          refine (C2.out _ H2.out).mono ?_
          rintro e w2 ⟨⟨a, n, c, rfl, hd⟩, hb⟩
          have HD : Hid (Doc w2 a n c D) := hd
          have H3 : Hid (Below W.heap.size W w2) := H2.out.trans (hb.mono H2.out.size)
          clear hb hd c0 c1
          have c2 : w2.cell? ⟨w.heap.size, 2, none⟩ = some (.slice s.na s.nn s.nc) := cell_below (HB.out.cell 2) H3.out
          go_wp2_with fail
          refine (C3.out _ a n c H3.out HD.out).mono ?_
          rintro e w3 ⟨rfl, hb⟩
          have H4 : Hid (Below W.heap.size W w3) := H3.out.trans (hb.mono H3.out.size)
          clear hb c2
          go_wp2
          go_ret
          exact ⟨rfl, H1.out.trans (H4.out.mono H1.out.size)⟩
        · obtain rfl : r = 0 := by rw [← hr, if_neg h1, if_pos h2, if_pos h3]; rfl
          clear hr
          subst h2 h3
          go_enter Tryd.func17, Tryd.ntmps17
          go_upto_region 1 with fail
          change Code.wp Tryd.prog _ _ _ (boxs s w)
          have c0 : (boxs s w).cell? ⟨w.heap.size, 0, none⟩ = some (.slice s.fa s.fn s.fc) := HB.out.cell 0
          have c1 : (boxs s w).cell? ⟨w.heap.size, 1, none⟩ = some (.slice s.la s.ln s.lc) := HB.out.cell 1
          have c2 : (boxs s w).cell? ⟨w.heap.size, 2, none⟩ = some (.slice s.na s.nn s.nc) := HB.out.cell 2
          generalize boxs s w = W at *
          go_wp2_with fail
          refine C1.out.mono ?_
          rintro e w1 ⟨rfl, hb⟩
          have H2 : Hid (Below W.heap.size W w1) := hb
          clear hb c0 c1 c2
          have c0 : w1.cell? ⟨w.heap.size, 0, none⟩ = some (.slice s.fa s.fn s.fc) := cell_below (HB.out.cell 0) H2.out
          have c1 : w1.cell? ⟨w.heap.size, 1, none⟩ = some (.slice s.la s.ln s.lc) := cell_below (HB.out.cell 1) H2.out
          go_wp2_with fail
          refine (C2.out _ H2.out).mono ?_
          rintro e w2 ⟨⟨a, n, c, rfl, hd⟩, hb⟩
          have HD : Hid (Doc w2 a n c D) := hd
          have H3 : Hid (Below W.heap.size W w2) := H2.out.trans (hb.mono H2.out.size)
          clear hb hd c0 c1
          have c2 : w2.cell? ⟨w.heap.size, 2, none⟩ = some (.slice s.na s.nn s.nc) := cell_below (HB.out.cell 2) H3.out
          go_wp2_with fail
          refine (C3.out _ a n c H3.out HD.out).mono ?_
          rintro e w3 ⟨rfl, hb⟩
          have H4 : Hid (Below W.heap.size W w3) := H3.out.trans (hb.mono H3.out.size)
          clear hb c2
          go_wp2
          go_ret
          exact ⟨rfl, H1.out.trans (H4.out.mono H1.out.size)⟩
      · obtain rfl : r = y := by rw [← hr, if_neg h1, if_pos h2, if_neg h3]
        clear hr
        subst h2
        have hne : (r == 0) = false := by simp [h3]
        go_enter Tryd.func17, Tryd.ntmps17
        go_upto_region 1 with fail
        change Code.wp Tryd.prog _ _ _ (boxs s w)
        have c0 : (boxs s w).cell? ⟨w.heap.size, 0, none⟩ = some (.slice s.fa s.fn s.fc) := HB.out.cell 0
        have c1 : (boxs s w).cell? ⟨w.heap.size, 1, none⟩ = some (.slice s.la s.ln s.lc) := HB.out.cell 1
        have c2 : (boxs s w).cell? ⟨w.heap.size, 2, none⟩ = some (.slice s.na s.nn s.nc) := HB.out.cell 2
        generalize boxs s w = W at *
        go_wp2_with fail
        refine C1.out.mono ?_
        rintro e w1 ⟨rfl, hb⟩
        have H2 : Hid (Below W.heap.size W w1) := hb
        clear hb c0 c1 c2
        have c0 : w1.cell? ⟨w.heap.size, 0, none⟩ = some (.slice s.fa s.fn s.fc) := cell_below (HB.out.cell 0) H2.out
        have c1 : w1.cell? ⟨w.heap.size, 1, none⟩ = some (.slice s.la s.ln s.lc) := cell_below (HB.out.cell 1) H2.out
        go_wp2_with fail
        refine (C2.out _ H2.out).mono ?_
        rintro e w2 ⟨⟨a, n, c, rfl, hd⟩, hb⟩
        have HD : Hid (Doc w2 a n c D) := hd
        have H3 : Hid (Below W.heap.size W w2) := H2.out.trans (hb.mono H2.out.size)
        clear hb hd c0 c1
        have c2 : w2.cell? ⟨w.heap.size, 2, none⟩ = some (.slice s.na s.nn s.nc) := cell_below (HB.out.cell 2) H3.out
        go_wp2
        go_ret
        exact ⟨rfl, H1.out.trans (H3.out.mono H1.out.size)⟩
    · obtain rfl : r = x := by rw [← hr, if_neg h1, if_neg h2]
      clear hr
      have hne : (r != 0) = true := by simp [h2]
      go_enter Tryd.func17, Tryd.ntmps17
      go_upto_region 1 with fail
      change Code.wp Tryd.prog _ _ _ (boxs s w)
      have c0 : (boxs s w).cell? ⟨w.heap.size, 0, none⟩ = some (.slice s.fa s.fn s.fc) := HB.out.cell 0
      have c1 : (boxs s w).cell? ⟨w.heap.size, 1, none⟩ = some (.slice s.la s.ln s.lc) := HB.out.cell 1
      have c2 : (boxs s w).cell? ⟨w.heap.size, 2, none⟩ = some (.slice s.na s.nn s.nc) := HB.out.cell 2
      generalize boxs s w = W at *
      go_wp2_with fail
      refine C1.out.mono ?_
      rintro e w1 ⟨rfl, hb⟩
      have H2 : Hid (Below W.heap.size W w1) := hb
      clear hb c0 c1 c2
      have c0 : w1.cell? ⟨w.heap.size, 0, none⟩ = some (.slice s.fa s.fn s.fc) := cell_below (HB.out.cell 0) H2.out
      have c1 : w1.cell? ⟨w.heap.size, 1, none⟩ = some (.slice s.la s.ln s.lc) := cell_below (HB.out.cell 1) H2.out
      go_wp2
      go_ret
      exact ⟨rfl, H1.out.trans (H2.out.mono H1.out.size)⟩
end Go.Proofs.YtbhcklkbckacpaaDoor

/-
  Package server: copies.
-/
namespace Go.Proofs.YtbhcklkbckacpaaDoor
open Go.RowKit
theorem Tryd.infE : (Tryd.prog.info? 37).map (fun i => (i.zero, i.size, i.bytes)) = some (some (.agg #[.int .i64 0, .int .i64 0, .slice none 0 0]), 3, 40) := by kernel_rfl
theorem doc_row {w : World} {a : Option Addr} {n c : Nat} {l : List It} (h : Doc w a n c l) : Row w a n c 3 (itCells l) :=
  ⟨by rw [itCells_len, h.len], h.room, h.big, fun hn => by
    obtain ⟨b, off, e, hA⟩ := h.lies hn
    exact ⟨b, off, e, fun j u hu => by have := at_cells hA j u hu; rw [add_off] at this; exact this⟩⟩
theorem row_doc {w : World} {a : Option Addr} {n c : Nat} {l : List It} (h : Row w a n c 3 (itCells l)) (hf : Fit l) : Doc w a n c l :=
  ⟨hf, by have := h.len; rw [itCells_len] at this; omega, h.room, h.big, fun hn => by
    obtain ⟨b, off, e, hc⟩ := h.lies hn
    exact ⟨b, off, e, ⟨fun i hi => hc _ _ (itCells_at l i hi).1, fun i hi => by rw [Nat.add_assoc]; exact hc _ _ (itCells_at l i hi).2.1, fun i hi => by rw [Nat.add_assoc]; exact hc _ _ (itCells_at l i hi).2.2⟩⟩⟩
theorem Doc.kept {w w' : World} {a : Option Addr} {n c : Nat} {l : List It} {S : List Nat} (h : Doc w a n c l) (hk : Kept w w' S) (hn : ∀ ad : Addr, n ≠ 0 → a = some ad → ad.block ∉ S) : Doc w' a n c l := row_doc ((doc_row h).kept (by decide) hk hn) h.fit

set_option maxRecDepth 100000 in
set_option maxHeartbeats 1600000 in
theorem cloneI_any (ao : Option Addr) (n cap : Nat) (cs : List Value) (w : World) (hR : Row w ao n cap 3 cs) (h1 : ∀ u ∈ cs, u.oneCell' = true) (hn : n ≤ 80) :
    Calls Tryd.prog 90 #[.slice ao n cap] w fun e w' => (∃ v, e = .returned v ∧ w'.ownsRow w.heap.size 79 3 v n cs) ∧ Below w.heap.size w w' := by
  obtain ⟨i0, hi, hz0, hz1, hz2⟩ := info_parts Tryd.infI
  have HR : Hid (Row w ao n cap 3 cs) := hR
  have HO : Hid (∀ u ∈ cs, u.oneCell' = true) := h1
  have hlen := hR.len
  have hlies := hR.lies
  clear hR h1
  cases ao with
  | none =>
    have h0 : n = 0 := by
      by_cases hz : n = 0
      · exact hz
      · obtain ⟨b, off, e, _⟩ := hlies hz; cases e
    subst h0
    have hc : cs = [] := by rw [Nat.zero_mul] at hlen; exact List.length_eq_zero_iff.1 hlen
    subst hc
    have hnil : ∀ w, (binOp .eql 31 (.slice none 0 cap) (.slice none 0 0)).run Tryd.prog w = .ok (.bool true) w := fun w => Lib.run_eql_slice_nil (P := Tryd.prog) w 31 79 _ _ _ _ _ Tryd.underlying31
    clear hlies hlen
    go_enter Tryd.func90, Tryd.ntmps90
    go_wp2
    go_ret
    exact ⟨⟨_, rfl, World.ownsRow_nil _ _ _ _⟩, Below.refl _ _⟩
  | some ad =>
    have hnil : ∀ w, (binOp .eql 31 (.slice (some ad) n cap) (.slice none 0 0)).run Tryd.prog w = .ok (.bool false) w := fun w => Lib.run_eql_slice_nil (P := Tryd.prog) w 31 79 _ _ _ _ _ Tryd.underlying31
    clear hlies hlen
    have HB : Hid (Below w.heap.size w (w.alloc (.cells #[] 79))) := (Below.refl _ _).alloc (Nat.le_refl _) _
    go_enter Tryd.func90, Tryd.ntmps90
    go_wp2_with (at_builtin; refine wpList_append_row _ rfl (.tmp 5) (.tmp 6) 31 rfl w.heap.size 79 i0 (.agg #[.int .u8 0, .int .i64 0, .string ⟨#[]⟩]) 3 32 Tryd.underlying31 hi hz0 hz1 hz2 rfl (by decide) _ 0 [] rfl ?c1 (some ad) n cap cs rfl ?c2 HO.out ?c3 ?c4 ?c5 ?c6)
    case c1 => exact World.ownsRow_lit w #[] 0 (Nat.le_refl _) (by decide) rfl
    case c2 => exact HR.out.below HB.out
    case c3 => unfold maxLen; omega
    case c4 => omega
    case c5 => simp
    case c6 =>
      intro v w1 hown hgrow hat
      have H1 : Hid (Below w.heap.size w w1) := HB.out.grown hgrow (by simp) (fun k hk => by simp [Value.ownBlock] at hk; omega)
      have HW : Hid (w1.ownsRow w.heap.size 79 3 v n cs) := by first | exact hown | (rw [Nat.zero_add] at hown; exact hown)
      clear hown hgrow hat
      go_wp2
      go_ret
      exact ⟨⟨v, rfl, HW.out⟩, H1.out⟩

set_option maxRecDepth 100000 in
set_option maxHeartbeats 1600000 in
theorem cloneDR_any (ao : Option Addr) (n cap : Nat) (cs : List Value) (w : World) (hR : Row w ao n cap 3 cs) (h1 : ∀ u ∈ cs, u.oneCell' = true) (hn : n ≤ 80) :
    Calls Tryd.prog 58 #[.slice ao n cap] w fun e w' => (∃ v, e = .returned v ∧ w'.ownsRow w.heap.size 79 3 v n cs) ∧ Below w.heap.size w w' := by
  obtain ⟨i0, hi, hz0, hz1, hz2⟩ := info_parts Tryd.infI
  have HR : Hid (Row w ao n cap 3 cs) := hR
  have HO : Hid (∀ u ∈ cs, u.oneCell' = true) := h1
  have hlen := hR.len
  have hlies := hR.lies
  clear hR h1
  cases ao with
  | none =>
    have h0 : n = 0 := by
      by_cases hz : n = 0
      · exact hz
      · obtain ⟨b, off, e, _⟩ := hlies hz; cases e
    subst h0
    have hc : cs = [] := by rw [Nat.zero_mul] at hlen; exact List.length_eq_zero_iff.1 hlen
    subst hc
    have hnil : ∀ w, (binOp .eql 32 (.slice none 0 cap) (.slice none 0 0)).run Tryd.prog w = .ok (.bool true) w := fun w => Lib.run_eql_slice_nil (P := Tryd.prog) w 32 79 _ _ _ _ _ Tryd.underlying32
    clear hlies hlen
    go_enter Tryd.func58, Tryd.ntmps58
    go_wp2
    go_ret
    exact ⟨⟨_, rfl, World.ownsRow_nil _ _ _ _⟩, Below.refl _ _⟩
  | some ad =>
    have hnil : ∀ w, (binOp .eql 32 (.slice (some ad) n cap) (.slice none 0 0)).run Tryd.prog w = .ok (.bool false) w := fun w => Lib.run_eql_slice_nil (P := Tryd.prog) w 32 79 _ _ _ _ _ Tryd.underlying32
    clear hlies hlen
    have HB : Hid (Below w.heap.size w (w.alloc (.cells #[] 79))) := (Below.refl _ _).alloc (Nat.le_refl _) _
    go_enter Tryd.func58, Tryd.ntmps58
    go_wp2_with (at_builtin; refine wpList_append_row _ rfl (.tmp 5) (.tmp 6) 32 rfl w.heap.size 79 i0 (.agg #[.int .u8 0, .int .i64 0, .string ⟨#[]⟩]) 3 32 Tryd.underlying32 hi hz0 hz1 hz2 rfl (by decide) _ 0 [] rfl ?c1 (some ad) n cap cs rfl ?c2 HO.out ?c3 ?c4 ?c5 ?c6)
    case c1 => exact World.ownsRow_lit w #[] 0 (Nat.le_refl _) (by decide) rfl
    case c2 => exact HR.out.below HB.out
    case c3 => unfold maxLen; omega
    case c4 => omega
    case c5 => simp
    case c6 =>
      intro v w1 hown hgrow hat
      have H1 : Hid (Below w.heap.size w w1) := HB.out.grown hgrow (by simp) (fun k hk => by simp [Value.ownBlock] at hk; omega)
      have HW : Hid (w1.ownsRow w.heap.size 79 3 v n cs) := by first | exact hown | (rw [Nat.zero_add] at hown; exact hown)
      clear hown hgrow hat
      go_wp2
      go_ret
      exact ⟨⟨v, rfl, HW.out⟩, H1.out⟩

set_option maxRecDepth 100000 in
set_option maxHeartbeats 1600000 in
theorem cloneO_any (ao : Option Addr) (n cap : Nat) (cs : List Value) (w : World) (hR : Row w ao n cap 7 cs) (h1 : ∀ u ∈ cs, u.oneCell' = true) (hn : n ≤ 80) :
    Calls Tryd.prog 108 #[.slice ao n cap] w fun e w' => (∃ v, e = .returned v ∧ w'.ownsRow w.heap.size 77 7 v n cs) ∧ Below w.heap.size w w' := by
  obtain ⟨i0, hi, hz0, hz1, hz2⟩ := info_parts Tryd.infP
  have HR : Hid (Row w ao n cap 7 cs) := hR
  have HO : Hid (∀ u ∈ cs, u.oneCell' = true) := h1
  have hlen := hR.len
  have hlies := hR.lies
  clear hR h1
  cases ao with
  | none =>
    have h0 : n = 0 := by
      by_cases hz : n = 0
      · exact hz
      · obtain ⟨b, off, e, _⟩ := hlies hz; cases e
    subst h0
    have hc : cs = [] := by rw [Nat.zero_mul] at hlen; exact List.length_eq_zero_iff.1 hlen
    subst hc
    have hnil : ∀ w, (binOp .eql 23 (.slice none 0 cap) (.slice none 0 0)).run Tryd.prog w = .ok (.bool true) w := fun w => Lib.run_eql_slice_nil (P := Tryd.prog) w 23 77 _ _ _ _ _ Tryd.underlying23
    clear hlies hlen
    go_enter Tryd.func108, Tryd.ntmps108
    go_wp2
    go_ret
    exact ⟨⟨_, rfl, World.ownsRow_nil _ _ _ _⟩, Below.refl _ _⟩
  | some ad =>
    have hnil : ∀ w, (binOp .eql 23 (.slice (some ad) n cap) (.slice none 0 0)).run Tryd.prog w = .ok (.bool false) w := fun w => Lib.run_eql_slice_nil (P := Tryd.prog) w 23 77 _ _ _ _ _ Tryd.underlying23
    clear hlies hlen
    have HB : Hid (Below w.heap.size w (w.alloc (.cells #[] 77))) := (Below.refl _ _).alloc (Nat.le_refl _) _
    go_enter Tryd.func108, Tryd.ntmps108
    go_wp2_with (at_builtin; refine wpList_append_row _ rfl (.tmp 5) (.tmp 6) 23 rfl w.heap.size 77 i0 (.agg #[.int .i64 0, .int .i64 0, .slice none 0 0, .int .i64 0, .int .i64 0, .bool false, .string ⟨#[]⟩]) 7 80 Tryd.underlying23 hi hz0 hz1 hz2 rfl (by decide) _ 0 [] rfl ?c1 (some ad) n cap cs rfl ?c2 HO.out ?c3 ?c4 ?c5 ?c6)
    case c1 => exact World.ownsRow_lit w #[] 0 (Nat.le_refl _) (by decide) rfl
    case c2 => exact HR.out.below HB.out
    case c3 => unfold maxLen; omega
    case c4 => omega
    case c5 => simp
    case c6 =>
      intro v w1 hown hgrow hat
      have H1 : Hid (Below w.heap.size w w1) := HB.out.grown hgrow (by simp) (fun k hk => by simp [Value.ownBlock] at hk; omega)
      have HW : Hid (w1.ownsRow w.heap.size 77 7 v n cs) := by first | exact hown | (rw [Nat.zero_add] at hown; exact hown)
      clear hown hgrow hat
      go_wp2
      go_ret
      exact ⟨⟨v, rfl, HW.out⟩, H1.out⟩

set_option maxRecDepth 100000 in
set_option maxHeartbeats 1600000 in
theorem cloneE_any (ao : Option Addr) (n cap : Nat) (cs : List Value) (w : World) (hR : Row w ao n cap 3 cs) (h1 : ∀ u ∈ cs, u.oneCell' = true) (hn : n ≤ 80) :
    Calls Tryd.prog 84 #[.slice ao n cap] w fun e w' => (∃ v, e = .returned v ∧ w'.ownsRow w.heap.size 37 3 v n cs) ∧ Below w.heap.size w w' := by
  obtain ⟨i0, hi, hz0, hz1, hz2⟩ := info_parts Tryd.infE
  have HR : Hid (Row w ao n cap 3 cs) := hR
  have HO : Hid (∀ u ∈ cs, u.oneCell' = true) := h1
  have hlen := hR.len
  have hlies := hR.lies
  clear hR h1
  cases ao with
  | none =>
    have h0 : n = 0 := by
      by_cases hz : n = 0
      · exact hz
      · obtain ⟨b, off, e, _⟩ := hlies hz; cases e
    subst h0
    have hc : cs = [] := by rw [Nat.zero_mul] at hlen; exact List.length_eq_zero_iff.1 hlen
    subst hc
    have hnil : ∀ w, (binOp .eql 33 (.slice none 0 cap) (.slice none 0 0)).run Tryd.prog w = .ok (.bool true) w := fun w => Lib.run_eql_slice_nil (P := Tryd.prog) w 33 37 _ _ _ _ _ Tryd.underlying33
    clear hlies hlen
    go_enter Tryd.func84, Tryd.ntmps84
    go_wp2
    go_ret
    exact ⟨⟨_, rfl, World.ownsRow_nil _ _ _ _⟩, Below.refl _ _⟩
  | some ad =>
    have hnil : ∀ w, (binOp .eql 33 (.slice (some ad) n cap) (.slice none 0 0)).run Tryd.prog w = .ok (.bool false) w := fun w => Lib.run_eql_slice_nil (P := Tryd.prog) w 33 37 _ _ _ _ _ Tryd.underlying33
    clear hlies hlen
    have HB : Hid (Below w.heap.size w (w.alloc (.cells #[] 37))) := (Below.refl _ _).alloc (Nat.le_refl _) _
    go_enter Tryd.func84, Tryd.ntmps84
    go_wp2_with (at_builtin; refine wpList_append_row _ rfl (.tmp 5) (.tmp 6) 33 rfl w.heap.size 37 i0 (.agg #[.int .i64 0, .int .i64 0, .slice none 0 0]) 3 40 Tryd.underlying33 hi hz0 hz1 hz2 rfl (by decide) _ 0 [] rfl ?c1 (some ad) n cap cs rfl ?c2 HO.out ?c3 ?c4 ?c5 ?c6)
    case c1 => exact World.ownsRow_lit w #[] 0 (Nat.le_refl _) (by decide) rfl
    case c2 => exact HR.out.below HB.out
    case c3 => unfold maxLen; omega
    case c4 => omega
    case c5 => simp
    case c6 =>
      intro v w1 hown hgrow hat
      have H1 : Hid (Below w.heap.size w w1) := HB.out.grown hgrow (by simp) (fun k hk => by simp [Value.ownBlock] at hk; omega)
      have HW : Hid (w1.ownsRow w.heap.size 37 3 v n cs) := by first | exact hown | (rw [Nat.zero_add] at hown; exact hown)
      clear hown hgrow hat
      go_wp2
      go_ret
      exact ⟨⟨v, rfl, HW.out⟩, H1.out⟩

theorem own_slice {w : World} {B n sz : Nat} {e : TypeId} {v : Value} {xs : List Value} (h : w.ownsRow B e sz v n xs) : ∃ a c, v = .slice a n c ∧ Row w a n c sz xs ∧ (∀ ad : Addr, a = some ad → B ≤ ad.block ∧ ad.block < w.heap.size) ∧ (n ≠ 0 → ∃ g, a = some ⟨g, 0, none⟩) := by
  obtain ⟨a, c, hv, hr⟩ := own_row h
  refine ⟨a, c, hv, hr, fun ad e => ?_, fun hn => ?_⟩
  · exact h.lt _ (by rw [hv, e]; rfl)
  · rcases h.2 with ⟨h1, h2⟩ | ⟨g, cap, cur, h1, _⟩
    · exact absurd h2 hn
    · rw [hv] at h1
      simp only [Value.slice.injEq] at h1
      exact ⟨g, h1.1⟩
theorem pvCells_set2 : ∀ (l : List PV) (k : Nat) (h : k < l.length) (a : Option Addr) (m c : Nat), (pvCells l).set (k * 7 + 2) (.slice a m c) = pvCells (l.set k { l[k] with ao := a, m := m, cap := c })
  | [], _, h, _, _, _ => by simp at h
  | x :: l, 0, _, a, m, c => rfl
  | x :: l, k + 1, h, a, m, c => by
    have := pvCells_set2 l k (by simpa using h) a m c
    rw [show (k + 1) * 7 + 2 = k * 7 + 2 + 1 + 1 + 1 + 1 + 1 + 1 + 1 by omega]
    simp only [pvCells_cons, List.set_cons_succ, List.getElem_cons_succ]
    rw [this]
theorem set_mid {α : Type} (us vs : List α) (k : Nat) (h : k < vs.length) (hk : us.length = k) (y : α) : (us ++ vs.drop k).set k y = (us ++ [y]) ++ vs.drop (k + 1) := by
  subst hk
  rw [List.drop_eq_getElem_cons h, List.set_append_right _ _ (Nat.le_refl _), Nat.sub_self, List.set_cons_zero, List.append_assoc]
  rfl
theorem get_mid {α : Type} (us vs : List α) (k : Nat) (h : k < vs.length) (hk : us.length = k) (hm : k < (us ++ vs.drop k).length) : (us ++ vs.drop k)[k] = vs[k] := by
  subst hk
  rw [List.getElem_append_right (Nat.le_refl _)]
  simp

set_option maxRecDepth 100000 in
set_option maxHeartbeats 1600000 in
theorem copy_any (ao : Option Addr) (n cap : Nat) (vs : List PV) (w : World) (hO : Ops w ao n cap vs) (h0 : 0 < n) (hn : n ≤ 40) (hm : ∀ v ∈ vs, v.m ≤ 80) :
    Calls Tryd.prog 85 #[.slice ao n cap] w fun e w' => (∃ a c us, e = .returned (.slice a n c) ∧ OpsFrom w.heap.size w' a n c us ∧ us.map PV.pt = vs.map PV.pt) ∧ Below w.heap.size w w' := by
  have HO : Hid (Ops w ao n cap vs) := hO
  have HN : Hid (vs.length = n) := hO.len
  have HM : Hid (∀ v ∈ vs, v.m ≤ 80) := hm
  clear hO hm
  have CC : Hid (Calls Tryd.prog 108 #[.slice ao n cap] w fun e w' => (∃ v, e = .returned v ∧ w'.ownsRow w.heap.size 77 7 v n (pvCells vs)) ∧ Below w.heap.size w w') := cloneO_any ao n cap (pvCells vs) w HO.out.row (pvCells_oneCell vs) (by omega)
  go_enter Tryd.func85, Tryd.ntmps85
  go_wp2_with fail
  refine CC.out.mono ?_
  rintro e w1 ⟨⟨v, rfl, ho⟩, hb⟩
  obtain ⟨a, c, rfl, hr, hlo, hg⟩ := own_slice ho
  obtain ⟨g, rfl⟩ := hg (by omega)
  have hroom := hr.room
  have hbig := hr.big
  obtain ⟨hgl, hgu⟩ := hlo _ rfl
  have HOW : Hid (w1.ownsRow w.heap.size 77 7 (.slice (some ⟨g, 0, none⟩) n c) n (pvCells vs)) := ho
  have H1 : Hid (Below w.heap.size w w1) := hb
  have HGU : Hid (g < w1.heap.size) := hgu
  have HGL : Hid (w.heap.size ≤ g) := hgl
  clear ho hb hr hlo hg CC hgl hgu
  go_wp2
  go_loopw [8] (fun i wr => ∃ (k : Nat) (us : List PV), k ≤ n ∧ i = .int .i64 k ∧ us.length = k ∧ us.map PV.pt = (vs.take k).map PV.pt ∧ wr.ownsRow w.heap.size 77 7 (.slice (some ⟨g, 0, none⟩) n c) n (pvCells (us ++ vs.drop k)) ∧ (∀ v ∈ us, Pvt wr v ∧ ∀ ad : Addr, v.m ≠ 0 → v.ao = some ad → g < ad.block) ∧ Below w.heap.size w wr ∧ g < wr.heap.size) (fun i _ => n - (intOf i).toNat)
  case atStart => exact ⟨0, [], Nat.zero_le _, rfl, rfl, rfl, HOW.out, fun v hv => absurd hv (by simp), H1.out, HGU.out⟩
  case round =>
    obtain ⟨k, us, hk, rfl, hul, hup, how, hpv, hbr, hgs⟩ := hrel
    have HUL : Hid (us.length = k) := hul
    have HUP : Hid (us.map PV.pt = (vs.take k).map PV.pt) := hup
    have HWR : Hid (wr.ownsRow w.heap.size 77 7 (.slice (some ⟨g, 0, none⟩) n c) n (pvCells (us ++ vs.drop k))) := how
    have HPV : Hid (∀ v ∈ us, Pvt wr v ∧ ∀ ad : Addr, v.m ≠ 0 → v.ao = some ad → g < ad.block) := hpv
    have HBR : Hid (Below w.heap.size w wr) := hbr
    have HGS : Hid (g < wr.heap.size) := hgs
    clear hul hup how hpv hbr hgs
    by_cases hlt : k < n
    · have h1 : k < vs.length := by rw [HN.out]; exact hlt
      have h2 : k < (us ++ vs.drop k).length := by rw [List.length_append, List.length_drop, HUL.out, HN.out]; omega
      have hgm := get_mid us vs k h1 HUL.out h2
      have c2 : wr.cell? ⟨g, k * 7 + 2, none⟩ = some (.slice vs[k].ao vs[k].m vs[k].cap) := by
        rw [HWR.out.cellAt (k * 7 + 2) (by omega), (pvCells_at _ k h2).2.2.1, hgm]
      have HPt : Hid (Pvt wr vs[k]) := (HO.out.pts _ (List.getElem_mem h1)).below HBR.out
      have hm80 : vs[k].m ≤ 80 := HM.out _ (List.getElem_mem h1)
      have CI : Hid (Calls Tryd.prog 90 #[.slice vs[k].ao vs[k].m vs[k].cap] wr fun e w' => (∃ v, e = .returned v ∧ w'.ownsRow wr.heap.size 79 3 v vs[k].m (itCells vs[k].items)) ∧ Below wr.heap.size wr w') := cloneI_any _ _ _ _ _ (doc_row HPt.out.doc) (itCells_one _) hm80
      have HTK : Hid ((vs.take (k + 1)).map PV.pt = (vs.take k).map PV.pt ++ [vs[k].pt]) := by show _ = _; rw [List.take_succ_eq_append_getElem h1, List.map_append]; rfl
      have HSET : Hid (∀ (x : PV), (us ++ vs.drop k).set k x = (us ++ [x]) ++ vs.drop (k + 1)) := fun x => set_mid us vs k h1 HUL.out x
      have HH2 : Hid (k < (us ++ vs.drop k).length) := h2
      have HGM : Hid ((us ++ vs.drop k)[k]'HH2.out = vs[k]) := hgm
      generalize vs[k] = v at *
      clear h1 h2 hgm
      go_wp2_with fail
      refine CI.out.mono ?_
      rintro e w2 ⟨⟨x, rfl, hox⟩, hb⟩
      obtain ⟨a', c', rfl, hr', hlo', -⟩ := own_slice hox
      have HD : Hid (Doc w2 a' v.m c' v.items) := row_doc hr' HPt.out.doc.fit
      have HLO : Hid (∀ ad : Addr, a' = some ad → g < ad.block) := fun ad e => by have := (hlo' ad e).1; have := HGS.out; omega
      have hW2 : w2.ownsRow w.heap.size 77 7 (.slice (some ⟨g, 0, none⟩) n c) n (pvCells (us ++ vs.drop k)) := own_under HWR.out hb
      have HB2 : Hid (Below w.heap.size w w2) := HBR.out.trans (hb.mono HBR.out.size)
      have HS2 : Hid (g < w2.heap.size) := Nat.lt_of_lt_of_le HGS.out hb.size
      have HPV2 : Hid (∀ v ∈ us, Pvt w2 v ∧ ∀ ad : Addr, v.m ≠ 0 → v.ao = some ad → g < ad.block) := fun u hu => ⟨(HPV.out u hu).1.below hb, (HPV.out u hu).2⟩
      have c3 : w2.cell? ⟨g, k * 7 + 2, none⟩ = some (.slice v.ao v.m v.cap) := cell_below c2 hb
      have f3 := hW2.frozenAt (k * 7 + 2)
      have HST : Hid ((w2.setCell ⟨g, k * 7 + 2, none⟩ (.slice a' v.m c')).ownsRow w.heap.size 77 7 (.slice (some ⟨g, 0, none⟩) n c) n (pvCells ((us ++ [{ v with ao := a', m := v.m, cap := c' }]) ++ vs.drop (k + 1)))) := by
        have h := (hW2.stored (k * 7 + 2) (.slice a' v.m c')).1
        rw [pvCells_set2 _ _ HH2.out, HGM.out, HSET.out] at h
        exact h
      have HK2 : Hid (Kept w2 (w2.setCell ⟨g, k * 7 + 2, none⟩ (.slice a' v.m c')) [g]) := kept_set _ _ _ _ _ (by simp)
      have HB3 : Hid (Below w.heap.size w (w2.setCell ⟨g, k * 7 + 2, none⟩ (.slice a' v.m c'))) := HB2.out.setCell HGL.out _
      clear hox hb hr' hlo' hW2 c2
      go_wp2
      go_roundw
      case rel =>
        refine ⟨k + 1, us ++ [{ v with ao := a', m := v.m, cap := c' }], by omega, by go_num, by rw [List.length_append, HUL.out]; rfl, by rw [List.map_append, HUP.out, HTK.out]; rfl, HST.out, fun u hu => ?_, HB3.out, by rw [World.size_setCell]; exact HS2.out⟩
        rcases List.mem_append.1 hu with hu | hu
        · exact ⟨(HPV2.out u hu).1.kept HK2.out (fun ad h1 h2 hx => by have := (HPV2.out u hu).2 ad h1 h2; simp at hx; omega), (HPV2.out u hu).2⟩
        · rw [List.mem_singleton] at hu
          subst hu
          exact ⟨⟨HD.out.kept HK2.out (fun ad _ h2 hx => by have := HLO.out ad h2; simp at hx; omega), HPt.out.fit⟩, fun ad _ h2 => HLO.out ad h2⟩
      case measure => simp [intOf]; omega
    · obtain rfl : k = n := by omega
      have hd : vs.drop k = [] := List.drop_eq_nil_of_le (by rw [HN.out]; exact Nat.le_refl _)
      have ht : vs.take k = vs := List.take_of_length_le (by rw [HN.out]; exact Nat.le_refl _)
      have HF : Hid (OpsFrom w.heap.size wr (some ⟨g, 0, none⟩) k c us) := by
        have h := HWR.out
        rw [hd, List.append_nil] at h
        obtain ⟨a, c2, e, hr, -, -⟩ := own_slice h
        simp only [Value.slice.injEq] at e
        obtain ⟨rfl, _, rfl⟩ := e
        exact ⟨⟨hr, fun u hu => (HPV.out u hu).1⟩, fun ad _ e => by cases e; exact HGL.out, fun u hu ad h1 h2 => by have := (HPV.out u hu).2 ad h1 h2; have := HGL.out; omega⟩
      have HP : Hid (us.map PV.pt = vs.map PV.pt) := by show _ = _; rw [HUP.out, ht]
      go_wp2
      go_ret
      exact ⟨⟨_, c, us, rfl, HF.out, HP.out⟩, HBR.out⟩
end Go.Proofs.YtbhcklkbckacpaaDoor

/-
  Package server: a server with lists of its own.
-/
namespace Go.Proofs.YtbhcklkbckacpaaDoor
open Go.RowKit
theorem szSv (t : SV) : (Tryd.prog.info? 35).map (·.size) = some (svC t).toArray.size := by
  have h : (Tryd.prog.info? 35).map (·.size) = some 3 := by kernel_rfl
  exact h
theorem ret_srv {fn : Func} {p : Tmp} {t : SV} {w : World} {g : Nat} (h : fn.results = #[.cell p 35]) (tmps : Array Value) (hp : tmps.getD p undef = .pointer (some ⟨g, 0, none⟩)) (hB : Blk w g (svC t) 35) : (results fn tmps).run Tryd.prog w = .ok (svA t) w :=
  results_cell_row h tmps w g 35 (svC t).toArray (0, 0) _ hp hB Tryd.underlying35 rfl (szSv t)
def putS (w : World) (g : Nat) (t : SV) : World := ((w.setCell ⟨g, 0, none⟩ (.slice t.fa t.fn t.fc)).setCell ⟨g, 1, none⟩ (.slice t.la t.ln t.lc)).setCell ⟨g, 2, none⟩ (.slice t.na t.nn t.nc)
theorem putS_blk {w : World} {g : Nat} {x t : SV} (h : Blk w g (svC x) 35) : Blk (putS w g t) g (svC t) 35 := ((h.set 0 (.slice t.fa t.fn t.fc)).set 1 (.slice t.la t.ln t.lc)).set 2 (.slice t.na t.nn t.nc)
theorem putS_below (w : World) (g : Nat) (t : SV) : Below g w (putS w g t) := (((Below.refl g w).setCell (Nat.le_refl _) _).setCell (Nat.le_refl _) _).setCell (Nat.le_refl _) _
theorem putS_kept (w : World) (g : Nat) (t : SV) : Kept w (putS w g t) [g] := (((Kept.refl w [g]).setCell _ _ (.inl (by simp))).setCell _ _ (.inl (by simp))).setCell _ _ (.inl (by simp))
theorem putS_size (w : World) (g : Nat) (t : SV) : (putS w g t).heap.size = w.heap.size := by unfold putS; rw [World.size_setCell, World.size_setCell, World.size_setCell]
theorem evCells_set2 : ∀ (l : List EV) (k : Nat) (h : k < l.length) (a : Option Addr) (m c : Nat) (vs : List PV), (evCells l).set (k * 3 + 2) (.slice a m c) = evCells (l.set k { l[k] with ao := a, n := m, cap := c, vs := vs })
  | [], _, h, _, _, _, _ => by simp at h
  | x :: l, 0, _, a, m, c, vs => rfl
  | x :: l, k + 1, h, a, m, c, vs => by
    have := evCells_set2 l k (by simpa using h) a m c vs
    rw [show (k + 1) * 3 + 2 = k * 3 + 2 + 1 + 1 + 1 by omega]
    show (Value.int .i64 x.who :: Value.int .i64 x.seq :: Value.slice x.ao x.n x.cap :: evCells l).set _ _ = Value.int .i64 x.who :: Value.int .i64 x.seq :: Value.slice x.ao x.n x.cap :: evCells _
    simp only [List.set_cons_succ, List.getElem_cons_succ]
    rw [this]
theorem drew_step {W w' : World} (h : Below W.drew.heap.size W.drew w') : Below W.heap.size W w' := by
  have h1 : Below W.heap.size W W.drew := (Below.refl _ _).drew
  exact h1.trans (h.mono (by rw [World.size_drew]; exact Nat.le_refl _))
/-- A block that holds no list of entries that this one is. -/
def Off (a l : Option Addr) : Prop := ∀ ad bd : Addr, a = some ad → l = some bd → ad.block ≠ bd.block
/-- A server of the call's own. -/
structure Cpy (B : Nat) (w : World) (t : SV) : Prop where
  first : Doc w t.fa t.fn t.fc t.first
  now : Doc w t.na t.nn t.nc t.now
  own : w.ownsRow B 37 3 (.slice t.la t.ln t.lc) t.ln (evCells t.log)
  offF : Off t.fa t.la
  offN : Off t.na t.la
  loF : ∀ ad : Addr, t.fa = some ad → B ≤ ad.block
  loN : ∀ ad : Addr, t.na = some ad → B ≤ ad.block
  ops : ∀ v ∈ t.log, ∀ bd : Addr, t.la = some bd → OpsFrom (bd.block + 1) w v.ao v.n v.cap v.vs
theorem Cpy.srv {B : Nat} {w : World} {t : SV} (h : Cpy B w t) : Srv w t := by
  obtain ⟨a, c, e, hr, -, hg⟩ := own_slice h.own
  simp only [Value.slice.injEq] at e
  obtain ⟨e1, -, e3⟩ := e
  rw [← e1, ← e3] at hr
  rw [← e1] at hg
  refine ⟨h.first, ⟨hr, fun v hv => ?_⟩, h.now⟩
  have hl := hr.len
  rw [evCells_len] at hl
  obtain ⟨g, hla⟩ := hg (by have := List.length_pos_of_mem hv; omega)
  exact (h.ops v hv _ hla).ops
theorem Cpy.below {B : Nat} {w w' : World} {t : SV} (h : Cpy B w t) (hb : Below w.heap.size w w') : Cpy B w' t :=
  ⟨h.first.below hb, h.now.below hb, own_under h.own hb, h.offF, h.offN, h.loF, h.loN, fun v hv bd e => (h.ops v hv bd e).below hb⟩

theorem Cpy.kept {B : Nat} {w w' : World} {t : SV} {S : List Nat} (h : Cpy B w t) (hk : Kept w w' S) (hS : ∀ x ∈ S, x < B) : Cpy B w' t :=
  ⟨h.first.kept hk (fun ad _ e hx => by have := h.loF ad e; have := hS _ hx; omega), h.now.kept hk (fun ad _ e hx => by have := h.loN ad e; have := hS _ hx; omega), own_keeps h.own hk (fun x hx e => by have := ownBlk_ge h.own x e; have := hS _ hx; omega), h.offF, h.offN, h.loF, h.loN, fun v hv bd e => (h.ops v hv bd e).kept hk (fun x hx => by have := ownBlk_ge h.own bd.block (by rw [e]; rfl); have := hS _ hx; omega)⟩
def midS (s : SV) (aF aL aN : Option Addr) (cF cL cN : Nat) (us : List EV) : SV := ⟨aF, s.fn, cF, s.first, aL, s.ln, cL, us, aN, s.nn, cN, s.now⟩
/-- Behind the copies of the three lists: k entries have operations of their own. -/
structure CopI (w : World) (s : SV) (aF aL aN : Option Addr) (cF cL cN k : Nat) (us : List EV) (wr : World) : Prop where
  hP : Blk wr w.heap.size (svC (midS s aF aL aN cF cL cN us)) 35
  hQ : Blk wr (w.heap.size + 1) (svC sv0) 35
  dF : Doc wr aF s.fn cF s.first
  dN : Doc wr aN s.nn cN s.now
  oL : wr.ownsRow (w.heap.size + 2) 37 3 (.slice aL s.ln cL) s.ln (evCells (us ++ s.log.drop k))
  oF : Off aF aL
  oN : Off aN aL
  lF : ∀ ad : Addr, aF = some ad → w.heap.size + 2 ≤ ad.block
  lN : ∀ ad : Addr, aN = some ad → w.heap.size + 2 ≤ ad.block
  blw : Below w.heap.size w wr
  len : us.length = k
  en : us.map EV.en = (s.log.take k).map EV.en
  ops : ∀ v ∈ us, ∀ bd : Addr, aL = some bd → OpsFrom (bd.block + 1) wr v.ao v.n v.cap v.vs
def CopR (w : World) (s : SV) (wr : World) : Prop := ∃ (aF aL aN : Option Addr) (cF cL cN : Nat), CopI w s aF aL aN cF cL cN 0 [] wr
theorem copy_mid {s : SV} {w W wX : World} {aF aL aN : Option Addr} {cF cL cN : Nat} (HP : Blk W w.heap.size (svC s) 35) (HQ : Blk W (w.heap.size + 1) (svC sv0) 35) (H1 : Below w.heap.size w W) (hB : Below W.heap.size W wX)
    (dF : Doc wX aF s.fn cF s.first) (dN : Doc wX aN s.nn cN s.now) (oL : wX.ownsRow (w.heap.size + 2) 37 3 (.slice aL s.ln cL) s.ln (evCells s.log)) (lF : ∀ ad : Addr, aF = some ad → w.heap.size + 2 ≤ ad.block) (lN : ∀ ad : Addr, aN = some ad → w.heap.size + 2 ≤ ad.block) (oF : Off aF aL) (oN : Off aN aL) :
    CopR w s (((wX.setCell ⟨w.heap.size, 0, none⟩ (.slice aF s.fn cF)).setCell ⟨w.heap.size, 1, none⟩ (.slice aL s.ln cL)).setCell ⟨w.heap.size, 2, none⟩ (.slice aN s.nn cN)) := by
  have hk := putS_kept wX w.heap.size (midS s aF aL aN cF cL cN [])
  have hP : Blk wX w.heap.size (svC s) 35 := (hB.block _ HP.lt).trans HP
  have hQ : Blk wX (w.heap.size + 1) (svC sv0) 35 := (hB.block _ HQ.lt).trans HQ
  have hblw : Below w.heap.size w wX := H1.trans (hB.mono H1.size)
  show CopR w s (putS wX w.heap.size (midS s aF aL aN cF cL cN []))
  exact ⟨aF, aL, aN, cF, cL, cN, putS_blk hP, hk.blk hQ (by simp), dF.kept hk (fun ad _ e hx => by have := lF ad e; simp at hx; omega), dN.kept hk (fun ad _ e hx => by have := lN ad e; simp at hx; omega),
    own_keeps oL hk (fun x hx e => by have := ownBlk_ge oL _ e; simp at hx; omega), oF, oN, lF, lN, hblw.trans ((putS_below _ _ _)), rfl, rfl, fun v hv => by cases hv⟩
theorem CopI.step {w : World} {s : SV} {aF aN : Option Addr} {cF cL cN k g : Nat} {us : List EV} {wr w2 : World} {a' : Option Addr} {c' : Nat} {vs' : List PV} (h : CopI w s aF (some ⟨g, 0, none⟩) aN cF cL cN k us wr) (hk : k < s.log.length) (hb : Below wr.heap.size wr w2)
    (ho : OpsFrom wr.heap.size w2 a' s.log[k].n c' vs') (hp : vs'.map PV.pt = s.log[k].vs.map PV.pt) :
    CopI w s aF (some ⟨g, 0, none⟩) aN cF cL cN (k + 1) (us ++ [{ s.log[k] with ao := a', cap := c', vs := vs' }]) (w2.setCell ⟨g, k * 3 + 2, none⟩ (.slice a' s.log[k].n c')) := by
  have hg : w.heap.size + 2 ≤ g ∧ g < wr.heap.size := h.oL.lt g rfl
  have hkp : Kept w2 (w2.setCell ⟨g, k * 3 + 2, none⟩ (.slice a' s.log[k].n c')) [g] := kept_set _ _ _ _ _ (by simp)
  have hP2 : Blk w2 w.heap.size _ 35 := (hb.block _ h.hP.lt).trans h.hP
  have hQ2 : Blk w2 (w.heap.size + 1) _ 35 := (hb.block _ h.hQ.lt).trans h.hQ
  have h2 : k < (us ++ s.log.drop k).length := by rw [List.length_append, List.length_drop, h.len]; omega
  refine ⟨hkp.blk hP2 (by simp; omega), hkp.blk hQ2 (by simp; omega), (h.dF.below hb).kept hkp (fun ad _ e hx => by have : ad.block ≠ g := h.oF ad _ e rfl; simp at hx; omega), (h.dN.below hb).kept hkp (fun ad _ e hx => by have : ad.block ≠ g := h.oN ad _ e rfl; simp at hx; omega), ?_, h.oF, h.oN, h.lF, h.lN, (h.blw.trans (hb.mono h.blw.size)).setCell (by show w.heap.size ≤ g; omega) _, by rw [List.length_append, h.len]; rfl, ?_, ?_⟩
  · have hst := ((own_under h.oL hb).stored (k * 3 + 2) (.slice a' s.log[k].n c')).1
    rw [evCells_set2 _ _ h2 a' s.log[k].n c' vs', get_mid us s.log k hk h.len h2, set_mid us s.log k hk h.len] at hst
    exact hst
  · rw [List.map_append, h.en, List.take_succ_eq_append_getElem hk, List.map_append]
    show _ ++ [(⟨s.log[k].who, s.log[k].seq, vs'.map PV.pt⟩ : Sv.En)] = _
    rw [hp]
    rfl
  · intro v hv bd e
    cases e
    rcases List.mem_append.1 hv with hv | hv
    · exact ((h.ops v hv _ rfl).below hb).kept hkp (fun x hx => by simp at hx; show x < g + 1; omega)
    · rw [List.mem_singleton] at hv
      subst hv
      exact (ho.mono (by show g + 1 ≤ wr.heap.size; omega)).kept hkp (fun x hx => by simp at hx; show x < g + 1; omega)
theorem CopI.done {w : World} {s : SV} {aF aL aN : Option Addr} {cF cL cN : Nat} {us : List EV} {wr : World} (h : CopI w s aF aL aN cF cL cN s.ln us wr) (hn : s.log.length = s.ln) :
    Blk (putS wr (w.heap.size + 1) (midS s aF aL aN cF cL cN us)) (w.heap.size + 1) (svC (midS s aF aL aN cF cL cN us)) 35 ∧ Cpy w.heap.size (putS wr (w.heap.size + 1) (midS s aF aL aN cF cL cN us)) (midS s aF aL aN cF cL cN us) ∧ (midS s aF aL aN cF cL cN us).se = s.se ∧ Below w.heap.size w (putS wr (w.heap.size + 1) (midS s aF aL aN cF cL cN us)) := by
  have hk := putS_kept wr (w.heap.size + 1) (midS s aF aL aN cF cL cN us)
  have hd : s.log.drop s.ln = [] := List.drop_eq_nil_of_le (by rw [hn]; exact Nat.le_refl _)
  have ht : s.log.take s.ln = s.log := List.take_of_length_le (by rw [hn]; exact Nat.le_refl _)
  have hoL := h.oL
  rw [hd, List.append_nil] at hoL
  have hen := h.en
  rw [ht] at hen
  refine ⟨putS_blk h.hQ, ⟨h.dF.kept hk (fun ad _ e hx => by have := h.lF ad e; simp at hx; omega), h.dN.kept hk (fun ad _ e hx => by have := h.lN ad e; simp at hx; omega), (own_keeps hoL hk (fun x hx e => by have := ownBlk_ge hoL _ e; simp at hx; omega)).mono (by omega), h.oF, h.oN, fun ad e => by have := h.lF ad e; omega, fun ad e => by have := h.lN ad e; omega, fun v hv bd e => (h.ops v hv bd e).kept hk (fun x hx => by have := ownBlk_ge hoL bd.block (by have e' : aL = some bd := e; rw [e']; rfl); simp at hx; omega)⟩, ?_, h.blw.trans ((putS_below _ _ _).mono (by omega))⟩
  show (⟨s.first, us.map EV.en, s.now⟩ : Sv.Se) = ⟨s.first, s.log.map EV.en, s.now⟩
  rw [hen]
end Go.Proofs.YtbhcklkbckacpaaDoor

/-
  Package server: an operation behind others; what is wrong with what is to be taken.
-/
namespace Go.Proofs.YtbhcklkbckacpaaDoor
open Go.RowKit
theorem OpsFrom.poke {B : Nat} {w : World} {a : Option Addr} {n c : Nat} {vs : List PV} {g : Nat} {a0 : Option Addr} {n0 c0 : Nat} {T : TypeId} (h : OpsFrom B w a n c vs) (hB : Blk w g [.slice a0 n0 c0] T) (v : Value) : OpsFrom B (w.setCell ⟨g, 0, none⟩ v) a n c vs := ⟨h.ops.poke hB v, h.row, h.its⟩

set_option maxRecDepth 100000 in
set_option maxHeartbeats 1600000 in
theorem behind1_any (v : EV) (g : Nat) (a : Option Addr) (n c : Nat) (us : List PV) (w : World) (hB : Blk w g [.slice a n c] 23) (hU : Ops w a n c us) (hO : Ops w v.ao v.n v.cap v.vs) (hS : Sch w) :
    Calls Tryd.prog 86 #[.agg #[.int .i64 v.who, .int .i64 v.seq, .slice v.ao v.n v.cap], .pointer (some ⟨g, 0, none⟩)] w fun e w' => e = .returned (.int .i64 (Ac.trnE v.en.o (us.map PV.pt))) ∧ ∃ w1 a' n' c' us', w' = w1.setCell ⟨g, 0, none⟩ (.slice a' n' c') ∧ Below w.heap.size w w1 ∧ OpsFrom w.heap.size w1 a' n' c' us' ∧ us'.map PV.pt = Ac.trnY v.en.o (us.map PV.pt) := by
  have CA : Hid (Calls Tryd.prog 9 #[.slice v.ao v.n v.cap, .slice a n c] (boxe v w) fun e w' => TurnF (boxe v w).heap.size (Ac.trnX (v.vs.map PV.pt) (us.map PV.pt)) (Ac.trnY (v.vs.map PV.pt) (us.map PV.pt)) (Ac.trnE (v.vs.map PV.pt) (us.map PV.pt)) e w' ∧ Below (boxe v w).heap.size (boxe v w) w') := turnF_any v.ao a v.n v.cap n c v.vs us _ (hO.below (boxe_below v w)) (hU.below (boxe_below v w)) (hS.below (boxe_below v w))
  have H1 : Hid (Below w.heap.size w (boxe v w)) := boxe_below v w
  have HB : Hid (Blk (boxe v w) g [.slice a n c] 23) := hB.alloc _
  have HT : Hid (Thr (boxe v w) w.heap.size 0 v) := boxe_at v w
  clear hB hU hO hS
  change Calls Tryd.prog _ _ _ fun e w' => e = .returned (.int .i64 (Ac.trnE (v.vs.map PV.pt) (us.map PV.pt))) ∧ ∃ w1 a' n' c' us', w' = w1.setCell ⟨g, 0, none⟩ (.slice a' n' c') ∧ Below w.heap.size w w1 ∧ OpsFrom w.heap.size w1 a' n' c' us' ∧ us'.map PV.pt = Ac.trnY (v.vs.map PV.pt) (us.map PV.pt)
  generalize Ac.trnE (v.vs.map PV.pt) (us.map PV.pt) = E at *
  generalize Ac.trnY (v.vs.map PV.pt) (us.map PV.pt) = Y at *
  generalize Ac.trnX (v.vs.map PV.pt) (us.map PV.pt) = X at *
  go_enter Tryd.func86, Tryd.ntmps86
  go_upto_region 1 with fail
  change Code.wp Tryd.prog _ _ _ (boxe v w)
  generalize boxe v w = W at *
  obtain ⟨a0, a1, a2⟩ := HT.out
  simp only [Nat.zero_add] at a0 a1 a2
  have g0 : W.cell? ⟨g, 0, none⟩ = some (.slice a n c) := HB.out.cell 0
  go_wp2_with fail
  refine CA.out.mono ?_
  rintro e w1 ⟨⟨xa, xn, xc, xu, ya, yn, yc, yu, rfl, hx, hy, px, py⟩, hb⟩
  have HY : Hid (OpsFrom w.heap.size w1 ya yn yc yu) := hy.mono H1.out.size
  have HPY : Hid (yu.map PV.pt = Y) := py
  have H2 : Hid (Below w.heap.size w w1) := H1.out.trans (hb.mono H1.out.size)
  have HB1 : Hid (Blk w1 g [.slice a n c] 23) := (hb.block _ HB.out.lt).trans HB.out
  clear hx hy px py hb a0 a1 a2 g0
  have g0 : w1.cell? ⟨g, 0, none⟩ = some (.slice a n c) := HB1.out.cell 0
  have gf := HB1.out.frozen 0
  go_wp2
  go_ret
  exact ⟨rfl, w1, ya, yn, yc, yu, rfl, H2.out, HY.out, HPY.out⟩

theorem eachB_any (B g : Nat) (a : Option Addr) (n c : Nat) (vs : List PV) (la : Option Addr) (ln lc : Nat) (es : List EV) (w : World) (hg : B ≤ g) (hw : B ≤ w.heap.size) (hB : Blk w g [.slice a n c] 23) (hU : OpsFrom B w a n c vs) (hE : Ents w la ln lc es) (hS : Sch w) :
    Calls Tryd.prog 53 #[.slice la ln lc, .func (.func 86) #[] #[.pointer (some ⟨g, 0, none⟩)]] w fun e w' => e = .returned (.int .i64 (Sv.behE (es.map EV.en) (vs.map PV.pt))) ∧ (∃ a' n' c' us, Blk w' g [.slice a' n' c'] 23 ∧ OpsFrom B w' a' n' c' us ∧ us.map PV.pt = Sv.behO (es.map EV.en) (vs.map PV.pt)) ∧ Below B w w' := by
  refine (each_any 86 (.pointer (some ⟨g, 0, none⟩)) la ln lc es
    (fun k wr => Below B w wr ∧ Ents wr la ln lc es ∧ Sch wr ∧ ∃ a' n' c' us, Blk wr g [.slice a' n' c'] 23 ∧ OpsFrom B wr a' n' c' us ∧ Sv.behE ((es.map EV.en).drop k) (us.map PV.pt) = Sv.behE (es.map EV.en) (vs.map PV.pt) ∧ Sv.behO ((es.map EV.en).drop k) (us.map PV.pt) = Sv.behO (es.map EV.en) (vs.map PV.pt))
    (fun E wr => Below B w wr ∧ E = Sv.behE (es.map EV.en) (vs.map PV.pt) ∧ ∃ a' n' c' us, Blk wr g [.slice a' n' c'] 23 ∧ OpsFrom B wr a' n' c' us ∧ us.map PV.pt = Sv.behO (es.map EV.en) (vs.map PV.pt))
    w (.inr rfl) ⟨hE.row.room, hE.row.big, hE.len⟩ (fun k wr h => h.2.1) (fun k wr v h => ?_) ⟨Below.refl _ _, hE, hS, a, n, c, vs, hB, hU, rfl, rfl⟩ (fun k hk wr h => ?_)).mono ?_
  · obtain ⟨h1, h2, h3, a', n', c', us, h4, h5, h6, h7⟩ := h
    exact ⟨h1.trans ((boxe_below v wr).mono (Nat.le_trans hw h1.size)), h2.below (boxe_below v wr), h3.below (boxe_below v wr), a', n', c', us, h4.alloc _, h5.below (boxe_below v wr), h6, h7⟩
  · obtain ⟨h1, h2, h3, a', n', c', us, h4, h5, h6, h7⟩ := h
    refine (behind1_any es[k] g a' n' c' us wr h4 h5.ops (h2.ops _ (List.getElem_mem hk)) h3).mono ?_
    rintro e w' ⟨rfl, w1, a1, n1, c1, us1, rfl, hb, hd, hp⟩
    have hB1 : Blk w1 g [.slice a' n' c'] 23 := (hb.block _ h4.lt).trans h4
    have hBs : B ≤ wr.heap.size := Nat.le_trans hw h1.size
    have hbb : Below B w (w1.setCell ⟨g, 0, none⟩ (.slice a1 n1 c1)) := (h1.trans (hb.mono hBs)).setCell hg _
    have hst : ∀ (x : List Ac.Pt), Sv.behE ((es.map EV.en).drop k) x = (if Ac.trnE es[k].en.o x = 0 then Sv.behE ((es.map EV.en).drop (k + 1)) (Ac.trnY es[k].en.o x) else Ac.trnE es[k].en.o x) ∧ Sv.behO ((es.map EV.en).drop k) x = (if Ac.trnE es[k].en.o x = 0 then Sv.behO ((es.map EV.en).drop (k + 1)) (Ac.trnY es[k].en.o x) else Ac.trnY es[k].en.o x) := fun x => by
      rw [List.drop_eq_getElem_cons (by rw [List.length_map]; exact hk), List.getElem_map]
      exact ⟨rfl, rfl⟩
    obtain ⟨s1, s2⟩ := hst (us.map PV.pt)
    refine ⟨_, rfl, fun hz => ?_, fun hz => ?_⟩
    · rw [if_pos hz] at s1 s2
      exact ⟨hbb, (h2.below hb).poke hB1 _, (h3.below hb).poke hB1 _, a1, n1, c1, us1, hB1.set 0 _, (hd.mono hBs).poke hB1 _, by rw [hp, ← s1]; exact h6, by rw [hp, ← s2]; exact h7⟩
    · rw [if_neg hz] at s1 s2
      exact ⟨hbb, by rw [← s1]; exact h6, a1, n1, c1, us1, hB1.set 0 _, (hd.mono hBs).poke hB1 _, by rw [hp, ← s2]; exact h7⟩
  · rintro e w' ⟨E, rfl, h0, h1⟩
    by_cases hz : E = 0
    · obtain ⟨b1, -, -, a', n', c', us, b4, b5, b6, b7⟩ := h0 hz
      have hn : (es.map EV.en).drop ln = [] := List.drop_eq_nil_of_le (by rw [List.length_map, hE.len]; exact Nat.le_refl _)
      rw [hn] at b6 b7
      exact ⟨by rw [hz, ← b6]; rfl, ⟨a', n', c', us, b4, b5, b7⟩, b1⟩
    · obtain ⟨b1, b2, b3⟩ := h1 hz
      exact ⟨by rw [b2], b3, b1⟩
def boxop (a : Option Addr) (n c : Nat) (w : World) : World := w.alloc (.cells #[.slice a n c] 23)
theorem boxop_below (a : Option Addr) (n c : Nat) (w : World) : Below w.heap.size w (boxop a n c w) := (Below.refl _ _).alloc (Nat.le_refl _) _
theorem boxop_blk (a : Option Addr) (n c : Nat) (w : World) : Blk (boxop a n c w) w.heap.size [.slice a n c] 23 := Blk.new w _ _

set_option maxRecDepth 100000 in
set_option maxHeartbeats 1600000 in
theorem behind_any (la : Option Addr) (ln lc : Nat) (es : List EV) (ao : Option Addr) (n cap : Nat) (vs : List PV) (w : World) (hE : Ents w la ln lc es) (hO : Ops w ao n cap vs) (hS : Sch w) (h0 : 0 < n) (hn : n ≤ 40) (hm : ∀ v ∈ vs, v.m ≤ 80) :
    Calls Tryd.prog 50 #[.slice la ln lc, .slice ao n cap] w fun e w' => (∃ a n' c us, e = .returned (.tuple #[.slice a n' c, .int .i64 (Sv.behE (es.map EV.en) (vs.map PV.pt))]) ∧ OpsFrom w.heap.size w' a n' c us ∧ us.map PV.pt = Sv.behO (es.map EV.en) (vs.map PV.pt)) ∧ Below w.heap.size w w' := by
  have H1 : Hid (Below w.heap.size w (boxop ao n cap w)) := boxop_below _ _ _ _
  have HB : Hid (Blk (boxop ao n cap w) w.heap.size [.slice ao n cap] 23) := boxop_blk _ _ _ _
  have CC : Hid (Calls Tryd.prog 85 #[.slice ao n cap] (boxop ao n cap w) fun e w' => (∃ a c us, e = .returned (.slice a n c) ∧ OpsFrom (boxop ao n cap w).heap.size w' a n c us ∧ us.map PV.pt = vs.map PV.pt) ∧ Below (boxop ao n cap w).heap.size (boxop ao n cap w) w') := copy_any ao n cap vs _ (hO.below H1.out) h0 hn hm
  have CB : Hid (∀ a c us w1, us.map PV.pt = vs.map PV.pt → Below w.heap.size w w1 → Blk w1 w.heap.size [.slice ao n cap] 23 → OpsFrom w.heap.size w1 a n c us → Calls Tryd.prog 53 #[.slice la ln lc, .func (.func 86) #[] #[.pointer (some ⟨w.heap.size, 0, none⟩)]] (w1.setCell ⟨w.heap.size, 0, none⟩ (.slice a n c)) fun e w' => e = .returned (.int .i64 (Sv.behE (es.map EV.en) (vs.map PV.pt))) ∧ (∃ a' n' c' us, Blk w' w.heap.size [.slice a' n' c'] 23 ∧ OpsFrom w.heap.size w' a' n' c' us ∧ us.map PV.pt = Sv.behO (es.map EV.en) (vs.map PV.pt)) ∧ Below w.heap.size (w1.setCell ⟨w.heap.size, 0, none⟩ (.slice a n c)) w') := fun a c us w1 hp hb hB ho => by
    have := eachB_any w.heap.size w.heap.size a n c us la ln lc es (w1.setCell ⟨w.heap.size, 0, none⟩ (.slice a n c)) (Nat.le_refl _) (by rw [World.size_setCell]; exact hb.size) (hB.set 0 _) (ho.poke hB _) ((hE.below hb).poke hB _) ((hS.below hb).poke hB _)
    rw [hp] at this
    exact this
  clear hE hO hS hm h0 hn
  generalize Sv.behE (es.map EV.en) (vs.map PV.pt) = E at *
  generalize Sv.behO (es.map EV.en) (vs.map PV.pt) = D at *
  go_enter Tryd.func50, Tryd.ntmps50
  go_upto_region 1 with fail
  change Code.wp Tryd.prog _ _ _ (boxop ao n cap w)
  generalize boxop ao n cap w = W at *
  have g0 : W.cell? ⟨w.heap.size, 0, none⟩ = some (.slice ao n cap) := HB.out.cell 0
  go_wp2_with fail
  refine CC.out.mono ?_
  rintro e w1 ⟨⟨a, c, us, rfl, ho, hp⟩, hb⟩
  have H2 : Hid (Below w.heap.size w w1) := H1.out.trans (hb.mono H1.out.size)
  have HB1 : Hid (Blk w1 w.heap.size [.slice ao n cap] 23) := (hb.block _ HB.out.lt).trans HB.out
  have CE := CB.out a c us w1 hp H2.out HB1.out (ho.mono H1.out.size)
  clear ho hp hb g0
  have g0 : w1.cell? ⟨w.heap.size, 0, none⟩ = some (.slice ao n cap) := HB1.out.cell 0
  have gf := HB1.out.frozen 0
  have H3 : Hid (Below w.heap.size w (w1.setCell ⟨w.heap.size, 0, none⟩ (.slice a n c))) := H2.out.setCell (Nat.le_refl _) _
  go_upto_region 2 with fail
  change Code.wp Tryd.prog _ _ _ (w1.setCell ⟨w.heap.size, 0, none⟩ (.slice a n c))
  generalize w1.setCell ⟨w.heap.size, 0, none⟩ (.slice a n c) = W2 at *
  clear g0 gf
  go_wp2_with fail
  refine CE.mono ?_
  rintro e w3 ⟨rfl, ⟨a', n', c', us', hB, ho, hp⟩, hb⟩
  have HO : Hid (OpsFrom w.heap.size w3 a' n' c' us') := ho
  have HP : Hid (us'.map PV.pt = D) := hp
  have H4 : Hid (Below w.heap.size w w3) := H3.out.trans hb
  have g0 : w3.cell? ⟨w.heap.size, 0, none⟩ = some (.slice a' n' c') := hB.cell 0
  clear ho hp hb hB CE
  go_wp2
  exact bodyPost_ret (v := .tuple #[.slice a' n' c', .int .i64 E]) (by simp [results, Tryd.results50, go_sem]) rfl ⟨⟨a', n', c', us', rfl, HO.out, HP.out⟩, H4.out⟩

set_option maxRecDepth 100000 in
set_option maxHeartbeats 1600000 in
theorem checkTake_any (s : SV) (x : EV) (w : World) (hV : Srv w s) (hO : Ops w x.ao x.n x.cap x.vs) (hS : Sch w) :
    Calls Tryd.prog 48 #[.agg #[.slice s.fa s.fn s.fc, .slice s.la s.ln s.lc, .slice s.na s.nn s.nc], .agg #[.int .i64 x.who, .int .i64 x.seq, .slice x.ao x.n x.cap]] w fun e w' => e = .returned (.int .i64 (if Sv.srvE s.se = 0 then Sv.entE x.en else Sv.srvE s.se)) ∧ Below w.heap.size w w' := by
  have H1 : Hid (Below w.heap.size w (boxe x (boxs s w))) := (boxs_below s w).trans ((boxe_below x _).mono (boxs_below s w).size)
  have HT : Hid (Thr (boxe x (boxs s w)) (boxs s w).heap.size 0 x) := boxe_at x _
  have HP : Hid (Blk (boxe x (boxs s w)) w.heap.size (svC s) 35) := (boxs_blk s w).alloc _
  have C1 : Hid (Calls Tryd.prog 17 #[.agg #[.slice s.fa s.fn s.fc, .slice s.la s.ln s.lc, .slice s.na s.nn s.nc]] (boxe x (boxs s w)) fun e w' => e = .returned (.int .i64 (Sv.srvE s.se)) ∧ Below (boxe x (boxs s w)).heap.size (boxe x (boxs s w)) w') := srvE_any s _ (hV.below H1.out) (hS.below H1.out)
  have C2 : Hid (∀ w', Below (boxe x (boxs s w)).heap.size (boxe x (boxs s w)) w' → Calls Tryd.prog 54 #[.agg #[.int .i64 x.who, .int .i64 x.seq, .slice x.ao x.n x.cap]] w' fun e w'' => e = .returned (.int .i64 (Sv.entE x.en)) ∧ Below w'.heap.size w' w'') := fun w' hb => entE_any x w' ((hO.below H1.out).below hb) ((hS.below H1.out).below hb)
  clear hV hO hS
  rw [boxs_size] at HT
  generalize Sv.srvE s.se = r at *
  generalize Sv.entE x.en = q at *
  obtain ⟨z, hz0⟩ : ∃ z, (if r = 0 then q else r) = z := ⟨_, rfl⟩
  rw [hz0]
  have HZ : Hid ((if r = 0 then q else r) = z) := hz0
  clear hz0
  go_enter Tryd.func48, Tryd.ntmps48
  go_upto_region 1 with fail
  change Code.wp Tryd.prog _ _ _ (boxe x (boxs s w))
  generalize boxe x (boxs s w) = W at *
  have p0 : W.cell? ⟨w.heap.size, 0, none⟩ = some (.slice s.fa s.fn s.fc) := HP.out.cell 0
  have p1 : W.cell? ⟨w.heap.size, 1, none⟩ = some (.slice s.la s.ln s.lc) := HP.out.cell 1
  have p2 : W.cell? ⟨w.heap.size, 2, none⟩ = some (.slice s.na s.nn s.nc) := HP.out.cell 2
  go_wp2_with fail
  refine C1.out.mono ?_
  rintro e w1 ⟨rfl, hb⟩
  have H2 : Hid (Below W.heap.size W w1) := hb
  clear hb p0 p1 p2
  obtain ⟨a0, a1, a2⟩ := HT.out.below H2.out
  simp only [Nat.zero_add] at a0 a1 a2
  by_cases hz : r = 0
  · obtain rfl : z = q := by rw [← HZ.out, if_pos hz]
    subst hz
    go_wp2_with fail
    refine (C2.out _ H2.out).mono ?_
    rintro e w2 ⟨rfl, hb⟩
    have H3 : Hid (Below W.heap.size W w2) := H2.out.trans (hb.mono H2.out.size)
    clear hb
    go_wp2
    go_ret
    exact ⟨rfl, H1.out.trans (H3.out.mono H1.out.size)⟩
  · obtain rfl : z = r := by rw [← HZ.out, if_neg hz]
    have hne : (z != 0) = true := by simp [hz]
    go_wp2
    go_ret
    exact ⟨rfl, H1.out.trans (H2.out.mono H1.out.size)⟩
end Go.Proofs.YtbhcklkbckacpaaDoor

/-
  Package op: what Apply makes lies in blocks of its own.
-/
namespace Go.Proofs.YtbhcklkbckacpaaDoor
open Go.RowKit
set_option maxRecDepth 100000 in
set_option maxHeartbeats 12800000 in
theorem apply_okF (ao ao' : Option Addr) (n cap n' cap' : Nat) (l : List It) (vs : List PV) (w : World) (hD : Doc w ao n cap l) (hO : Ops w ao' n' cap' vs) (hS : Sch w) (hE : Ac.fitE l (vs.map PV.pt) = 0) :
    Calls Tryd.prog 24 #[.slice ao n cap, .slice ao' n' cap'] w fun e w' => (∃ a c, e = .returned (.tuple #[.slice a (Ac.mk l (vs.map PV.pt)).1.length c, .int .i64 0]) ∧ Doc w' a (Ac.mk l (vs.map PV.pt)).1.length c (Ac.mk l (vs.map PV.pt)).1 ∧ ∀ ad : Addr, a = some ad → w.heap.size ≤ ad.block) ∧ Below w.heap.size w w' := by
  obtain ⟨hck, hri, hnd, hlv⟩ := Ac.fit_0 hE
  have hN80 := (Ac.check_0 hck).1
  obtain ⟨i0, hi, hz0, hz1, hz2⟩ := info_parts Tryd.infI
  have hpos : n ≠ 0 := by
    obtain ⟨_, _, l', x, e, _⟩ := Ac.check_0 hck
    have := hD.len
    rw [e] at this
    simp at this
    omega
  obtain ⟨b, off, rfl, hA⟩ := hD.lies hpos
  have H1 : Hid (Below w.heap.size w (w.alloc (.cells #[.slice (some ⟨b, off, none⟩) n cap] 32))) := (Below.refl _ _).alloc (Nat.le_refl _) _
  have CF : Hid (Calls Tryd.prog 61 #[.slice (some ⟨b, off, none⟩) n cap, .slice ao' n' cap'] (w.alloc (.cells #[.slice (some ⟨b, off, none⟩) n cap] 32)) fun e w' => e = .returned (.int .i64 (Ac.fitE l (vs.map PV.pt))) ∧ Below (w.alloc (.cells #[.slice (some ⟨b, off, none⟩) n cap] 32)).heap.size (w.alloc (.cells #[.slice (some ⟨b, off, none⟩) n cap] 32)) w') := fit_any _ ao' n cap n' cap' l vs _ (hD.below H1.out) (hO.below H1.out) (hS.below H1.out)
  rw [hE] at CF
  have HDX : Hid (Blk (w.alloc (.cells #[.slice (some ⟨b, off, none⟩) n cap] 32)) w.heap.size [.slice (some ⟨b, off, none⟩) n cap] 32) := Blk.new w _ _
  have HDS : Hid (w.heap.size < (w.alloc (.cells #[.slice (some ⟨b, off, none⟩) n cap] 32)).heap.size) := by show _ < _; simp
  have HA0 : Hid (At w b off l) := hA
  have HO0 : Hid (Ops w ao' n' cap' vs) := hO
  have HN : Hid (vs.length = n') := hO.len
  have HLL : Hid (l.length = n) := hD.len
  have HFIT : Hid (Fit l) := hD.fit
  have HM4 : Hid (Ac.M4 l) := Ac.check_m4 hck
  have HOK : Hid (∀ v ∈ vs, Ac.err1 v.pt = 0) := fun v hv => hri.ok _ (List.mem_map.2 ⟨v, hv, rfl⟩)
  have HTK : Hid (∀ k, (Ac.mk l ((vs.map PV.pt).take k)).2 ≤ n ∧ (Ac.mk l ((vs.map PV.pt).take k)).1.length ≤ 80) := fun k => by
    have := Ac.mk_take l (vs.map PV.pt) hnd k
    rw [hD.len] at this
    exact ⟨this.1, by omega⟩
  have hcap := hD.room
  have hbig := hD.big
  have hcap' := hO.row.room
  have hbig' := hO.row.big
  rw [hD.len] at hN80
  clear hD hO hS hE hck hri hnd hlv hA hpos
  obtain ⟨R, hR⟩ : ∃ R, (Ac.mk l (vs.map PV.pt)).1 = R := ⟨_, rfl⟩
  have HR : Hid ((Ac.mk l (vs.map PV.pt)).1 = R) := hR
  rw [hR]
  clear hR
  go_enter Tryd.func24, Tryd.ntmps24
  go_wp2_with fail
  refine CF.out.mono ?_
  rintro e w2 ⟨rfl, hb⟩
  have H2 : Hid (Below w.heap.size w w2) := H1.out.trans (hb.mono H1.out.size)
  have HD2 : Hid (Blk w2 w.heap.size [.slice (some ⟨b, off, none⟩) n cap] 32) := (hb.block _ HDS.out).trans HDX.out
  have HDL : Hid (w.heap.size < w2.heap.size) := HD2.out.lt
  have HA2 : Hid (At w2 b off l) := HA0.out.below H2.out
  have HO2 : Hid (Ops w2 ao' n' cap' vs) := HO0.out.below H2.out
  have HAT : Hid (Blk (w2.alloc (.cells #[.int .i64 0] 3)) w2.heap.size [.int .i64 0] 3) := Blk.new w2 [.int .i64 0] 3
  have HBA : Hid (Below w2.heap.size w2 (w2.alloc (.cells #[.int .i64 0] 3))) := (Below.refl _ _).alloc (Nat.le_refl _) _
  clear hb CF HDX HDS HA0 HO0
  go_wp2
  go_loopw [9, 21] (fun mv i wr => ∃ k : Nat, k ≤ n' ∧ i = .int .i64 k ∧ ApI w2 mv (Ac.mk l ((vs.map PV.pt).take k)) wr) (fun _ i _ => n' - (intOf i).toNat)
  case atStart => exact ⟨0, Nat.zero_le _, rfl, World.ownsRow_nil _ _ _ _, HAT.out, HBA.out, fun x hx => absurd hx (by simp [Ac.mk])⟩
  case round =>
    obtain ⟨k, hk, rfl, hI⟩ := hrel
    have HI : Hid (ApI w2 u9 (Ac.mk l ((vs.map PV.pt).take k)) wr) := hI
    clear hI
    by_cases hlt : k < n'
    · obtain ⟨pb, po, rfl, hG⟩ := HO2.out.get (by omega)
      have hkv : k < vs.length := by rw [HN.out]; exact hlt
      have HMS : Hid (Ac.mk l ((vs.map PV.pt).take (k + 1)) = Ac.mkS l (Ac.mk l ((vs.map PV.pt).take k)) vs[k].pt) := by
        have := Ac.mk_step l (vs.map PV.pt) k (by rw [List.length_map]; exact hkv)
        rw [List.getElem_map] at this
        exact this
      have hB1 := HTK.out k
      have hB2 := HTK.out (k + 1)
      rw [HMS.out] at hB2
      have hok := HOK.out vs[k] (List.getElem_mem hkv)
      have HPV := HO2.out.pts vs[k] (List.getElem_mem hkv)
      obtain ⟨c0, c1, c2, c3, c4, c5, c6⟩ := (hG k hkv).same (HI.out.blw.block pb (cell_lt (hG k hkv).c0))
      clear hG
      generalize Ac.mk l ((vs.map PV.pt).take k) = s at *
      generalize vs[k] = v at *
      obtain ⟨kind, q, vo, m, vcap, items, st, cl, gs, lk⟩ := v
      simp only at c0 c1 c2 c3 c4 c5 c6
      clear hkv
      obtain ⟨made, at0⟩ := s
      by_cases h1 : kind = 1
      · subst h1
        obtain ⟨hs4, hc4, hq1, hq2⟩ := Ac.keep_m4 hok rfl
        change 1 ≤ q at hq1
        change q ≤ 80 at hq2
        obtain ⟨qn, rfl⟩ : ∃ qn : Nat, q = qn := ⟨q.toNat, by omega⟩
        have hms : Ac.mkS l (made, at0) (PV.pt ⟨1, qn, vo, m, vcap, items, st, cl, gs, lk⟩) = (made ++ ((l.drop at0).take qn).map (fun x => Ac.change x ⟨st, cl, gs, lk⟩), at0 + qn) := rfl
        rw [hms] at HMS hB2
        have hB3 : (made ++ ((l.drop at0).take qn).map (fun x => Ac.change x ⟨st, cl, gs, lk⟩)).length ≤ 80 := hB2.2
        rw [List.length_append, List.length_map] at hB3
        have hb1 : made.length ≤ 80 := hB1.2
        obtain ⟨ml, hml⟩ : ∃ ml, made.length = ml := ⟨_, rfl⟩
        have HML : Hid (made.length = ml) := hml
        have HLT := HI.out.lt
        have HNB : Hid (some wr.heap.size ≠ u9.ownBlock) := fun e => by have := (HI.out.own.lt _ e.symm).2; omega
        have HDL1 := HDL.out
        have HS5 : Hid (Seven (boxp ⟨1, qn, vo, m, vcap, items, st, cl, gs, lk⟩ wr) wr.heap.size 0 ⟨1, qn, vo, m, vcap, items, st, cl, gs, lk⟩) := boxp_at _ wr
        have hw5 : Below wr.heap.size wr (boxp ⟨1, qn, vo, m, vcap, items, st, cl, gs, lk⟩ wr) := boxp_below _ wr
        have HB5 : Hid (Below w2.heap.size w2 (boxp ⟨1, qn, vo, m, vcap, items, st, cl, gs, lk⟩ wr)) := HI.out.blw.trans (hw5.mono (by omega))
        have HO5 : Hid ((boxp ⟨1, qn, vo, m, vcap, items, st, cl, gs, lk⟩ wr).ownsRow (w2.heap.size + 1) 79 3 u9 ml (itCells made)) := by
          have := own_under HI.out.own hw5
          rw [hml] at this
          exact this
        have HAT5 : Hid (Blk (boxp ⟨1, qn, vo, m, vcap, items, st, cl, gs, lk⟩ wr) w2.heap.size [.int .i64 at0] 3) := (hw5.block _ HI.out.atv.lt).trans HI.out.atv
        have HD5 : Hid (Blk (boxp ⟨1, qn, vo, m, vcap, items, st, cl, gs, lk⟩ wr) w.heap.size [.slice (some ⟨b, off, none⟩) n cap] 32) := (HB5.out.block _ HDL1).trans HD2.out
        have HA5 : Hid (At (boxp ⟨1, qn, vo, m, vcap, items, st, cl, gs, lk⟩ wr) b off l) := HA2.out.below HB5.out
        have hq0 : 0 < qn := by omega
        have hqn : at0 + qn ≤ n := hB2.1
        have CN : Hid (Calls Tryd.prog 62 #[.int .i64 qn, .pointer (some ⟨w2.heap.size, 0, none⟩), .pointer (some ⟨w.heap.size, 0, none⟩)] (boxp ⟨1, qn, vo, m, vcap, items, st, cl, gs, lk⟩ wr).drew fun e w' => e = .returned (.slice (some ⟨b, off + at0 * 3, none⟩) qn (cap - at0)) ∧ w' = (boxp ⟨1, qn, vo, m, vcap, items, st, cl, gs, lk⟩ wr).drew.setCell ⟨w2.heap.size, 0, none⟩ (.int .i64 ((at0 + qn : Nat) : Int))) := next_any w2.heap.size w.heap.size b off n cap at0 qn (at0 + qn) _ HAT5.out HD5.out (by omega) rfl hq0 hqn hN80 hcap
        have HW1b : Hid (Below w2.heap.size w2 ((boxp ⟨1, qn, vo, m, vcap, items, st, cl, gs, lk⟩ wr).drew.setCell ⟨w2.heap.size, 0, none⟩ (.int .i64 ((at0 + qn : Nat) : Int)))) := HB5.out.drew.setCell (Nat.le_refl _) _
        have HAT1 : Hid (Blk ((boxp ⟨1, qn, vo, m, vcap, items, st, cl, gs, lk⟩ wr).drew.setCell ⟨w2.heap.size, 0, none⟩ (.int .i64 ((at0 + qn : Nat) : Int))) w2.heap.size [.int .i64 ((at0 + qn : Nat) : Int)] 3) := HAT5.out.set 0 _
        have HS1 : Hid (Seven ((boxp ⟨1, qn, vo, m, vcap, items, st, cl, gs, lk⟩ wr).drew.setCell ⟨w2.heap.size, 0, none⟩ (.int .i64 ((at0 + qn : Nat) : Int))) wr.heap.size 0 ⟨1, qn, vo, m, vcap, items, st, cl, gs, lk⟩) := HS5.out.same (Below.heap_setCell (boxp ⟨1, qn, vo, m, vcap, items, st, cl, gs, lk⟩ wr).drew _ _ _ (by simp; omega))
        have HO1 : Hid (((boxp ⟨1, qn, vo, m, vcap, items, st, cl, gs, lk⟩ wr).drew.setCell ⟨w2.heap.size, 0, none⟩ (.int .i64 ((at0 + qn : Nat) : Int))).ownsRow (w2.heap.size + 1) 79 3 u9 ml (itCells made)) := ownsRow_setCell_below HO5.out (by simp) _
        have HA1 : Hid (At ((boxp ⟨1, qn, vo, m, vcap, items, st, cl, gs, lk⟩ wr).drew.setCell ⟨w2.heap.size, 0, none⟩ (.int .i64 ((at0 + qn : Nat) : Int))) b off l) := HA2.out.below HW1b.out
        generalize (boxp ⟨1, qn, vo, m, vcap, items, st, cl, gs, lk⟩ wr).drew.setCell ⟨w2.heap.size, 0, none⟩ (.int .i64 ((at0 + qn : Nat) : Int)) = W1 at *
        have hpl : ((l.drop at0).take qn).length = qn := by rw [List.length_take, List.length_drop, HLL.out]; omega
        have CHH : Hid (Calls Tryd.prog 63 #[.slice (some ⟨b, off + at0 * 3, none⟩) qn (cap - at0), .agg #[.int .i64 1, .int .i64 qn, .slice vo m vcap, .int .i64 st, .int .i64 cl, .bool gs, .string lk]] W1 fun e w' => (∃ g cap', e = .returned (.slice (some ⟨g, 0, none⟩) qn cap') ∧ w'.ownsRow W1.heap.size 79 3 (.slice (some ⟨g, 0, none⟩) qn cap') qn (itCells (((l.drop at0).take qn).map fun x => Ac.change x ⟨st, cl, gs, lk⟩))) ∧ Below W1.heap.size W1 w') := changed_any b (off + at0 * 3) qn (cap - at0) _ 1 qn vo m vcap items st cl gs lk W1 (HA1.out.part at0 qn) hpl hq0 (by omega) (m4_part HM4.out _ _) hs4 hc4
        have HLC : Hid ((itCells (((l.drop at0).take qn).map fun x => Ac.change x ⟨st, cl, gs, lk⟩)).length = qn * 3) := by show _ = _; rw [itCells_len, List.length_map, hpl]
        have HFN : Hid (Fit (made ++ (((l.drop at0).take qn).map fun x => Ac.change x ⟨st, cl, gs, lk⟩))) := fit_app HI.out.fit (fit_change (fit_part HFIT.out _ _) _ HPV.fit)
        have hmq : ml + qn ≤ 80 := by rw [hpl] at hB3; omega
        have HMQ : Hid ((made ++ (((l.drop at0).take qn).map fun x => Ac.change x ⟨st, cl, gs, lk⟩)).length = ml + qn) := by show _ = _; rw [List.length_append, List.length_map, hpl, hml]
        clear hms hB1 hB2 hB3 hml hpl hw5 hok hs4 hc4 HPV hb1
        generalize (((l.drop at0).take qn).map fun x => Ac.change x ⟨st, cl, gs, lk⟩) = ch at *
        go_upto_region 12 with fail
        change Code.wp Tryd.prog _ _ _ (boxp ⟨1, qn, vo, m, vcap, items, st, cl, gs, lk⟩ wr)
        generalize (boxp ⟨1, qn, vo, m, vcap, items, st, cl, gs, lk⟩ wr) = W5 at *
        clear c0 c1 c2 c3 c4 c5 c6
        obtain ⟨d0, d1, d2, d3, d4, d5, d6⟩ := HS5.out
        obtain ⟨x0, x1, x2, x3, x4, x5, x6⟩ := HS1.out
        simp only [Nat.zero_add] at d0 d1 d2 d3 d4 d5 d6 x0 x1 x2 x3 x4 x5 x6
        go_region_held3 (fun w' => w'.cell? ⟨wr.heap.size, 0, none⟩ = some (.int .i64 1) ∧ w'.cell? ⟨wr.heap.size, 1, none⟩ = some (.int .i64 qn) ∧ w'.cell? ⟨wr.heap.size, 2, none⟩ = some (.slice vo m vcap) ∧ w'.cell? ⟨wr.heap.size, 3, none⟩ = some (.int .i64 st) ∧ w'.cell? ⟨wr.heap.size, 4, none⟩ = some (.int .i64 cl) ∧ w'.cell? ⟨wr.heap.size, 5, none⟩ = some (.bool gs) ∧ w'.cell? ⟨wr.heap.size, 6, none⟩ = some (.string lk)) (first | exact ⟨d0, d1, d2, d3, d4, d5, d6⟩ | exact ⟨x0, x1, x2, x3, x4, x5, x6⟩ | exact ⟨y0, y1, y2, y3, y4, y5, y6⟩ | exact ⟨z0, z1, z2, z3, z4, z5, z6⟩) (first | (go_at_call 62; refine CN.out.mono ?_; rintro e w6 ⟨rfl, rfl⟩) | (go_at_call 63; refine CHH.out.mono ?_; rintro e w7 ⟨⟨g, cg, rfl, ho⟩, hb⟩; have HS7 : Hid (Seven w7 wr.heap.size 0 ⟨1, qn, vo, m, vcap, items, st, cl, gs, lk⟩) := HS1.out.below hb; obtain ⟨y0, y1, y2, y3, y4, y5, y6⟩ := HS7.out; simp only [Nat.zero_add] at y0 y1 y2 y3 y4 y5 y6; have HO7 : Hid (w7.ownsRow (w2.heap.size + 1) 79 3 u9 ml (itCells made)) := own_under HO1.out hb; have HN7 : Hid (∀ j u, (itCells ch)[j]? = some u → w7.cell? ((⟨g, 0, none⟩ : Addr).add j) = some u) := ho.cells rfl; have HAT7 : Hid (Blk w7 w2.heap.size [.int .i64 ((at0 + qn : Nat) : Int)] 3) := (hb.block _ HAT1.out.lt).trans HAT1.out; have HB7 : Hid (Below w2.heap.size w2 w7) := HW1b.out.trans (hb.mono (Nat.le_of_lt HAT1.out.lt)); have hsz7 : w2.heap.size + 1 ≤ w7.heap.size := HAT7.out.lt; clear ho hb) | (refine step_append_lies2 _ rfl (.tmp 29) (.tmp 35) 32 31 79 rfl Tryd.underlying31 (w2.heap.size + 1) 79 i0 (.agg #[.int .u8 0, .int .i64 0, .string ⟨#[]⟩]) 3 32 Tryd.underlying32 hi hz0 hz1 hz2 rfl (by decide) u9 ml (itCells made) rfl HO7.out ⟨g, 0, none⟩ qn cg (itCells ch) rfl HLC.out HN7.out (itCells_one _) hq0 (by unfold maxLen; omega) (by omega) hsz7 _ rfl ?_; intro g2 cap2 w8 hown hgrow hat hlt; obtain ⟨z0, z1, z2, z3, z4, z5, z6⟩ := HS7.out.same (hgrow.block _ (cell_lt HS7.out.c0) HNB.out); simp only [Nat.zero_add] at z0 z1 z2 z3 z4 z5 z6; have HFIN : Hid (ApI w2 (.slice (some ⟨g2, 0, none⟩) (ml + qn) cap2) (made ++ ch, at0 + qn) w8) := HI.out.push HAT7.out HB7.out (by rw [itCells_app, HMQ.out]; exact hown) hgrow HFN.out; clear hown hgrow hat hlt))
        go_wp2
        go_roundw
        case rel => exact ⟨k + 1, by omega, by go_num, by rw [HMS.out]; exact HFIN.out⟩
        case measure => simp [intOf]; omega
      · by_cases h2 : kind = 2
        · subst h2
          obtain ⟨hp1, hp2, -⟩ := Ac.put_len hok rfl
          change 1 ≤ items.length at hp1
          change items.length ≤ 80 at hp2
          have hlm : items.length = m := HPV.doc.len
          have hms : Ac.mkS l (made, at0) (PV.pt ⟨2, q, vo, m, vcap, items, st, cl, gs, lk⟩) = (made ++ items, at0) := rfl
          rw [hms] at HMS hB2
          have hB3 : (made ++ items).length ≤ 80 := hB2.2
          rw [List.length_append, hlm] at hB3
          rw [hlm] at hp1 hp2
          have hb1 : made.length ≤ 80 := hB1.2
          obtain ⟨ml, hml⟩ : ∃ ml, made.length = ml := ⟨_, rfl⟩
          have HML : Hid (made.length = ml) := hml
          have HLT := HI.out.lt
          have HNB : Hid (some wr.heap.size ≠ u9.ownBlock) := fun e => by have := (HI.out.own.lt _ e.symm).2; omega
          have HDL1 := HDL.out
          have HS5 : Hid (Seven (boxp ⟨2, q, vo, m, vcap, items, st, cl, gs, lk⟩ wr) wr.heap.size 0 ⟨2, q, vo, m, vcap, items, st, cl, gs, lk⟩) := boxp_at _ wr
          have hw5 : Below wr.heap.size wr (boxp ⟨2, q, vo, m, vcap, items, st, cl, gs, lk⟩ wr) := boxp_below _ wr
          have HB5 : Hid (Below w2.heap.size w2 (boxp ⟨2, q, vo, m, vcap, items, st, cl, gs, lk⟩ wr)) := HI.out.blw.trans (hw5.mono (by omega))
          have HO5 : Hid ((boxp ⟨2, q, vo, m, vcap, items, st, cl, gs, lk⟩ wr).ownsRow (w2.heap.size + 1) 79 3 u9 ml (itCells made)) := by
            have := own_under HI.out.own hw5
            rw [hml] at this
            exact this
          have HAT5 : Hid (Blk (boxp ⟨2, q, vo, m, vcap, items, st, cl, gs, lk⟩ wr) w2.heap.size [.int .i64 at0] 3) := (hw5.block _ HI.out.atv.lt).trans HI.out.atv
          have HD5 : Hid (Blk (boxp ⟨2, q, vo, m, vcap, items, st, cl, gs, lk⟩ wr) w.heap.size [.slice (some ⟨b, off, none⟩) n cap] 32) := (HB5.out.block _ HDL1).trans HD2.out
          have HA5 : Hid (At (boxp ⟨2, q, vo, m, vcap, items, st, cl, gs, lk⟩ wr) b off l) := HA2.out.below HB5.out
          obtain ⟨ib, io, rfl, hIA⟩ := HPV.doc.lies (by change m ≠ 0; omega)
          have HIA : Hid (∀ j u, (itCells items)[j]? = some u → (boxp ⟨2, q, some ⟨ib, io, none⟩, m, vcap, items, st, cl, gs, lk⟩ wr).cell? ((⟨ib, io, none⟩ : Addr).add j) = some u) := at_cells (hIA.below HB5.out)
          have HLC : Hid ((itCells items).length = m * 3) := by show _ = _; rw [itCells_len, hlm]
          have HFN : Hid (Fit (made ++ items)) := fit_app HI.out.fit HPV.doc.fit
          have hmq : ml + m ≤ 80 := by omega
          have HMQ : Hid ((made ++ items).length = ml + m) := by show _ = _; rw [List.length_append, hlm, hml]
          have hsz5 : w2.heap.size + 1 ≤ (boxp ⟨2, q, some ⟨ib, io, none⟩, m, vcap, items, st, cl, gs, lk⟩ wr).heap.size := HAT5.out.lt
          clear hms hB1 hB2 hB3 hml hw5 hok HPV hb1 hIA hlm
          go_upto_region 13 with fail
          change Code.wp Tryd.prog _ _ _ (boxp ⟨2, q, some ⟨ib, io, none⟩, m, vcap, items, st, cl, gs, lk⟩ wr)
          generalize boxp ⟨2, q, some ⟨ib, io, none⟩, m, vcap, items, st, cl, gs, lk⟩ wr = W5 at *
          clear c0 c1 c2 c3 c4 c5 c6
          obtain ⟨d0, d1, d2, d3, d4, d5, d6⟩ := HS5.out
          simp only [Nat.zero_add] at d0 d1 d2 d3 d4 d5 d6
          go_wp2_with (at_builtin; refine wpList_append_lies2 _ rfl (.tmp 39) (.tmp 41) 32 31 79 rfl Tryd.underlying31 (w2.heap.size + 1) 79 i0 (.agg #[.int .u8 0, .int .i64 0, .string ⟨#[]⟩]) 3 32 Tryd.underlying32 hi hz0 hz1 hz2 rfl (by decide) u9 ml (itCells made) rfl HO5.out ⟨ib, io, none⟩ m vcap (itCells items) rfl HLC.out HIA.out (itCells_one _) (by omega) (by unfold maxLen; omega) (by omega) hsz5 _ rfl ?c7)
          case c7 =>
            intro g2 cap2 w8 hown hgrow hat hlt2
            have HFIN : Hid (ApI w2 (.slice (some ⟨g2, 0, none⟩) (ml + m) cap2) (made ++ items, at0) w8) := HI.out.push HAT5.out HB5.out (by rw [itCells_app, HMQ.out]; exact hown) hgrow HFN.out
            clear hown hgrow hat hlt2
            go_wp2
            go_roundw
            case rel => exact ⟨k + 1, by omega, by go_num, by rw [HMS.out]; exact HFIN.out⟩
            case measure => simp [intOf]; omega
        · by_cases h3 : kind = 3
          · subst h3
            obtain ⟨hq1, hq2⟩ := Ac.cut_n hok rfl
            change 1 ≤ q at hq1
            change q ≤ 80 at hq2
            obtain ⟨qn, rfl⟩ : ∃ qn : Nat, q = qn := ⟨q.toNat, by omega⟩
            have hms : Ac.mkS l (made, at0) (PV.pt ⟨3, qn, vo, m, vcap, items, st, cl, gs, lk⟩) = (made, at0 + qn) := rfl
            rw [hms] at HMS hB2
            have hb1 : made.length ≤ 80 := hB1.2
            obtain ⟨ml, hml⟩ : ∃ ml, made.length = ml := ⟨_, rfl⟩
            have HML : Hid (made.length = ml) := hml
            have HLT := HI.out.lt
            have HNB : Hid (some wr.heap.size ≠ u9.ownBlock) := fun e => by have := (HI.out.own.lt _ e.symm).2; omega
            have HDL1 := HDL.out
            have HS5 : Hid (Seven (boxp ⟨3, qn, vo, m, vcap, items, st, cl, gs, lk⟩ wr) wr.heap.size 0 ⟨3, qn, vo, m, vcap, items, st, cl, gs, lk⟩) := boxp_at _ wr
            have hw5 : Below wr.heap.size wr (boxp ⟨3, qn, vo, m, vcap, items, st, cl, gs, lk⟩ wr) := boxp_below _ wr
            have HB5 : Hid (Below w2.heap.size w2 (boxp ⟨3, qn, vo, m, vcap, items, st, cl, gs, lk⟩ wr)) := HI.out.blw.trans (hw5.mono (by omega))
            have HO5 : Hid ((boxp ⟨3, qn, vo, m, vcap, items, st, cl, gs, lk⟩ wr).ownsRow (w2.heap.size + 1) 79 3 u9 ml (itCells made)) := by
              have := own_under HI.out.own hw5
              rw [hml] at this
              exact this
            have HAT5 : Hid (Blk (boxp ⟨3, qn, vo, m, vcap, items, st, cl, gs, lk⟩ wr) w2.heap.size [.int .i64 at0] 3) := (hw5.block _ HI.out.atv.lt).trans HI.out.atv
            have HD5 : Hid (Blk (boxp ⟨3, qn, vo, m, vcap, items, st, cl, gs, lk⟩ wr) w.heap.size [.slice (some ⟨b, off, none⟩) n cap] 32) := (HB5.out.block _ HDL1).trans HD2.out
            have HA5 : Hid (At (boxp ⟨3, qn, vo, m, vcap, items, st, cl, gs, lk⟩ wr) b off l) := HA2.out.below HB5.out
            have hq0 : 0 < qn := by omega
            have hqn : at0 + qn ≤ n := hB2.1
            have CN : Hid (Calls Tryd.prog 62 #[.int .i64 qn, .pointer (some ⟨w2.heap.size, 0, none⟩), .pointer (some ⟨w.heap.size, 0, none⟩)] (boxp ⟨3, qn, vo, m, vcap, items, st, cl, gs, lk⟩ wr) fun e w' => e = .returned (.slice (some ⟨b, off + at0 * 3, none⟩) qn (cap - at0)) ∧ w' = (boxp ⟨3, qn, vo, m, vcap, items, st, cl, gs, lk⟩ wr).setCell ⟨w2.heap.size, 0, none⟩ (.int .i64 ((at0 + qn : Nat) : Int))) := next_any w2.heap.size w.heap.size b off n cap at0 qn (at0 + qn) _ HAT5.out HD5.out (by omega) rfl hq0 hqn hN80 hcap
            have HW1b : Hid (Below w2.heap.size w2 ((boxp ⟨3, qn, vo, m, vcap, items, st, cl, gs, lk⟩ wr).setCell ⟨w2.heap.size, 0, none⟩ (.int .i64 ((at0 + qn : Nat) : Int)))) := HB5.out.setCell (Nat.le_refl _) _
            have HAT1 : Hid (Blk ((boxp ⟨3, qn, vo, m, vcap, items, st, cl, gs, lk⟩ wr).setCell ⟨w2.heap.size, 0, none⟩ (.int .i64 ((at0 + qn : Nat) : Int))) w2.heap.size [.int .i64 ((at0 + qn : Nat) : Int)] 3) := HAT5.out.set 0 _
            have HS1 : Hid (Seven ((boxp ⟨3, qn, vo, m, vcap, items, st, cl, gs, lk⟩ wr).setCell ⟨w2.heap.size, 0, none⟩ (.int .i64 ((at0 + qn : Nat) : Int))) wr.heap.size 0 ⟨3, qn, vo, m, vcap, items, st, cl, gs, lk⟩) := HS5.out.same (Below.heap_setCell (boxp ⟨3, qn, vo, m, vcap, items, st, cl, gs, lk⟩ wr) _ _ _ (by simp; omega))
            have HO1 : Hid (((boxp ⟨3, qn, vo, m, vcap, items, st, cl, gs, lk⟩ wr).setCell ⟨w2.heap.size, 0, none⟩ (.int .i64 ((at0 + qn : Nat) : Int))).ownsRow (w2.heap.size + 1) 79 3 u9 ml (itCells made)) := ownsRow_setCell_below HO5.out (by simp) _
            have HA1 : Hid (At ((boxp ⟨3, qn, vo, m, vcap, items, st, cl, gs, lk⟩ wr).setCell ⟨w2.heap.size, 0, none⟩ (.int .i64 ((at0 + qn : Nat) : Int))) b off l) := HA2.out.below HW1b.out
            have HFIN : Hid (ApI w2 u9 (made, at0 + qn) ((boxp ⟨3, qn, vo, m, vcap, items, st, cl, gs, lk⟩ wr).setCell ⟨w2.heap.size, 0, none⟩ (.int .i64 ((at0 + qn : Nat) : Int)))) := ⟨by rw [HML.out]; exact HO1.out, HAT1.out, HW1b.out, HI.out.fit⟩
            clear hms hB1 hB2 hml hw5 hok HPV hb1
            go_upto_region 13 with fail
            change Code.wp Tryd.prog _ _ _ (boxp ⟨3, qn, vo, m, vcap, items, st, cl, gs, lk⟩ wr)
            generalize boxp ⟨3, qn, vo, m, vcap, items, st, cl, gs, lk⟩ wr = W5 at *
            clear c0 c1 c2 c3 c4 c5 c6
            obtain ⟨d0, d1, d2, d3, d4, d5, d6⟩ := HS5.out
            simp only [Nat.zero_add] at d0 d1 d2 d3 d4 d5 d6
            go_wp2_with fail
            refine CN.out.mono ?_
            rintro e w6 ⟨rfl, rfl⟩
            go_wp2
            go_roundw
            case rel => exact ⟨k + 1, by omega, by go_num, by rw [HMS.out]; exact HFIN.out⟩
            case measure => simp [intOf]; omega
          · exact absurd (Ac.kind_of hok) (fun h => h.elim h1 (fun h => h.elim h2 h3))
    · have hkn : k = n' := by omega
      have hm : Ac.mk l ((vs.map PV.pt).take k) = Ac.mk l (vs.map PV.pt) := by rw [List.take_of_length_le (by rw [List.length_map, HN.out]; omega)]
      rw [hm] at HI
      obtain ⟨a, c, hv, hd⟩ := own_doc HI.out.own HI.out.fit rfl
      have HFR : Hid (∀ ad : Addr, a = some ad → w.heap.size ≤ ad.block) := fun ad e => by
        have h1 := ownBlk_ge HI.out.own ad.block (by rw [hv, e]; rfl)
        have := H2.out.size
        omega
      rw [HR.out] at hv hd
      have HB : Hid (Below w.heap.size w wr) := H2.out.trans (HI.out.blw.mono (Nat.le_of_lt HDL.out))
      have HDD : Hid (Doc wr a R.length c R) := hd
      obtain ⟨rl, hrl⟩ : ∃ rl, R.length = rl := ⟨_, rfl⟩
      rw [hrl] at hv HDD
      have HRL : Hid (R.length = rl) := hrl
      subst hv hkn
      clear hm hd hrl
      go_wp2
      go_ret2
      exact ⟨⟨a, c, by rw [HRL.out]; rfl, by rw [HRL.out]; exact HDD.out, HFR.out⟩, HB.out⟩
end Go.Proofs.YtbhcklkbckacpaaDoor

/-
  Chapter 9, on lists: a server that takes something stays one; what it takes is what it was, turned behind all since.
-/
namespace Go.Proofs.YtbhcklkbckacpaaDoor
namespace Sv
theorem foldE_app : ∀ (l : List En) (d : List It) (m : List En), foldE d (l ++ m) = if foldE d l = 0 then foldE (foldD d l) m else foldE d l
  | [], d, m => by
    show foldE d m = if (0 : Int) = 0 then foldE d m else 0
    rw [if_pos rfl]
  | x :: l, d, m => by
    show (if Ac.fitE d x.o = 0 then foldE (Ac.done d x.o) (l ++ m) else Ac.fitE d x.o) = if (if Ac.fitE d x.o = 0 then foldE (Ac.done d x.o) l else Ac.fitE d x.o) = 0 then foldE (if Ac.fitE d x.o = 0 then foldD (Ac.done d x.o) l else Ac.done d x.o) m else (if Ac.fitE d x.o = 0 then foldE (Ac.done d x.o) l else Ac.fitE d x.o)
    by_cases h : Ac.fitE d x.o = 0
    · simp only [if_pos h]
      exact foldE_app l _ m
    · simp only [if_neg h]
theorem foldD_app : ∀ (l : List En) (d : List It) (m : List En), foldE d l = 0 → foldD d (l ++ m) = foldD (foldD d l) m
  | [], _, _, _ => rfl
  | x :: l, d, m, h => by
    have hx : Ac.fitE d x.o = 0 := by
      by_cases hx : Ac.fitE d x.o = 0
      · exact hx
      · have : foldE d (x :: l) = Ac.fitE d x.o := if_neg hx
        rw [this] at h
        exact absurd h hx
    have h2 : foldE (Ac.done d x.o) l = 0 := by
      have : foldE d (x :: l) = foldE (Ac.done d x.o) l := if_pos hx
      rw [this] at h
      exact h
    show (if Ac.fitE d x.o = 0 then foldD (Ac.done d x.o) (l ++ m) else _) = foldD (if Ac.fitE d x.o = 0 then foldD (Ac.done d x.o) l else _) m
    rw [if_pos hx, if_pos hx]
    exact foldD_app l _ m h2
theorem fold_cons {d : List It} {x : En} {l : List En} (h : foldE d (x :: l) = 0) : Ac.fitE d x.o = 0 ∧ foldE (Ac.done d x.o) l = 0 ∧ foldD d (x :: l) = foldD (Ac.done d x.o) l := by
  have hx : Ac.fitE d x.o = 0 := by
    by_cases hx : Ac.fitE d x.o = 0
    · exact hx
    · have : foldE d (x :: l) = Ac.fitE d x.o := if_neg hx
      rw [this] at h
      exact absurd h hx
  refine ⟨hx, ?_, if_pos hx⟩
  have : foldE d (x :: l) = foldE (Ac.done d x.o) l := if_pos hx
  rw [this] at h
  exact h
theorem fold_check : ∀ (l : List En) (d : List It), Dc.check d = 0 → foldE d l = 0 → Dc.check (foldD d l) = 0
  | [], _, h, _ => h
  | x :: l, d, h, he => by
    obtain ⟨h1, h2, h3⟩ := fold_cons he
    rw [h3]
    exact fold_check l _ (Ac.done_is h1).2.1 h2
theorem fold_app_0 {d : List It} {l m : List En} (h : foldE d (l ++ m) = 0) : foldE d l = 0 ∧ foldE (foldD d l) m = 0 ∧ foldD d (l ++ m) = foldD (foldD d l) m := by
  rw [foldE_app] at h
  by_cases h1 : foldE d l = 0
  · rw [if_pos h1] at h
    exact ⟨h1, h, foldD_app l d m h1⟩
  · rw [if_neg h1] at h
    exact absurd h h1
theorem entsE_app : ∀ (l m : List En), entsE (l ++ m) = if entsE l = 0 then entsE m else entsE l
  | [], m => by
    show entsE m = if (0 : Int) = 0 then entsE m else 0
    rw [if_pos rfl]
  | x :: l, m => by
    show (if entE x = 0 then entsE (l ++ m) else entE x) = if (if entE x = 0 then entsE l else entE x) = 0 then entsE m else (if entE x = 0 then entsE l else entE x)
    by_cases h : entE x = 0
    · simp only [if_pos h]
      exact entsE_app l m
    · simp only [if_neg h]
theorem sameE_self (x : En) : sameE x x = true := by simp [sameE, Ac.sameO_self]
theorem sameL_self : ∀ l : List En, sameL l l = true
  | [] => rfl
  | x :: l => by rw [sameL, sameE_self, sameL_self l]; rfl
theorem its_self (l : List It) : Dc.same l l = true := (its_same l l).2 rfl
theorem sameS_self (s : Se) : sameS s s = true := by simp [sameS, sameL_self, its_self]
theorem srv_0 {s : Se} (h : srvE s = 0) : s.log.length ≤ 60 ∧ entsE s.log = 0 ∧ Dc.check s.first = 0 ∧ foldE s.first s.log = 0 ∧ s.now = foldD s.first s.log := by
  unfold srvE at h
  by_cases h1 : 60 < s.log.length
  · rw [if_pos h1] at h; cases h
  rw [if_neg h1] at h
  by_cases h2 : entsE s.log = 0
  · rw [if_pos h2] at h
    by_cases h3 : fldE s.first s.log = 0
    · rw [if_pos h3] at h
      by_cases h4 : Dc.same s.now (fldD s.first s.log) = true
      · have hn := (its_same _ _).1 h4
        unfold fldE at h3
        unfold fldD at hn
        by_cases h5 : Dc.check s.first = 0
        · rw [if_pos h5, if_neg h1] at h3
          rw [if_pos h5, if_neg h1] at hn
          exact ⟨by omega, h2, h5, h3, hn⟩
        · rw [if_neg h5] at h3
          exact absurd h3 h5
      · rw [if_neg h4] at h; cases h
    · rw [if_neg h3] at h
      exact absurd h h3
  · rw [if_neg h2] at h
    exact absurd h h2
theorem fld_of {d : List It} {l : List En} (h1 : l.length ≤ 60) (h2 : Dc.check d = 0) (h3 : foldE d l = 0) : fldE d l = 0 ∧ fldD d l = foldD d l := by
  unfold fldE fldD
  rw [if_pos h2, if_neg (by omega), if_pos h2, if_neg (by omega)]
  exact ⟨h3, rfl⟩
theorem srv_of {s : Se} (h1 : s.log.length ≤ 60) (h2 : entsE s.log = 0) (h3 : Dc.check s.first = 0) (h4 : foldE s.first s.log = 0) (h5 : s.now = foldD s.first s.log) : srvE s = 0 := by
  obtain ⟨f1, f2⟩ := fld_of h1 h3 h4
  unfold srvE
  rw [if_neg (by omega), if_pos h2, if_pos f1, f2, h5, if_pos (its_self _)]
/-- What is known where something is taken that wasn't there. -/
structure New (s : Se) (rev : Int) (x : En) : Prop where
  no : has s x.who x.seq = false
  lo : 0 ≤ rev
  hi : rev ≤ (s.log.length : Int)
  few : s.log.length < 60
  beh : behE (s.log.drop rev.toNat) x.o = 0
  fit : Ac.fitE s.now (behO (s.log.drop rev.toNat) x.o) = 0
theorem take_0 {s : Se} {rev : Int} {x : En} (h : takE s rev x = 0) : srvE s = 0 ∧ entE x = 0 ∧ (has s x.who x.seq = true ∨ New s rev x) := by
  unfold takE at h
  by_cases h1 : srvE s = 0
  · rw [if_pos h1] at h
    by_cases h2 : entE x = 0
    · rw [if_pos h2] at h
      refine ⟨h1, h2, ?_⟩
      by_cases h3 : has s x.who x.seq = true
      · exact .inl h3
      · rw [if_neg h3] at h
        by_cases h4 : rev < 0 ∨ (s.log.length : Int) < rev
        · rw [if_pos h4] at h; cases h
        · rw [if_neg h4] at h
          by_cases h5 : s.log.length = 60
          · rw [if_pos h5] at h; cases h
          · rw [if_neg h5] at h
            by_cases h6 : behE (s.log.drop rev.toNat) x.o = 0
            · rw [if_pos h6] at h
              have := (srv_0 h1).1
              exact .inr ⟨by simpa using h3, by omega, by omega, by omega, h6, h⟩
            · rw [if_neg h6] at h
              exact absurd h h6
    · rw [if_neg h2] at h
      exact absurd h h2
  · rw [if_neg h1] at h
    exact absurd h h1
theorem take_has {s : Se} {rev : Int} {x : En} (h1 : srvE s = 0) (h2 : entE x = 0) (h3 : has s x.who x.seq = true) : takE s rev x = 0 ∧ takS s rev x = s := by
  have h : takE s rev x = 0 := by unfold takE; rw [if_pos h1, if_pos h2, if_pos h3]
  refine ⟨h, ?_⟩
  unfold takS
  rw [if_pos h, if_pos h3]
theorem take_new {s : Se} {rev : Int} {x : En} (h : takE s rev x = 0) (hn : New s rev x) : takS s rev x = ⟨s.first, s.log ++ [⟨x.who, x.seq, behO (s.log.drop rev.toNat) x.o⟩], Ac.done s.now (behO (s.log.drop rev.toNat) x.o)⟩ := by
  unfold takS
  rw [if_pos h, if_neg (by rw [hn.no]; exact Bool.false_ne_true)]
/-- Everything that ServerFolds asks. -/
structure Folds (s t : Se) (rev : Int) (x : En) : Prop where
  srv : srvE t = 0
  lo : s.log.length ≤ t.log.length
  hi : t.log.length ≤ s.log.length + 1
  old : sameL (t.log.take s.log.length) s.log = true
  has : has t x.who x.seq = true
  eq : t.log.length = s.log.length → sameS t s = true
  again : takE t rev x = 0
  same : takS t rev x = t
  fE : fldE t.first t.log = 0
  fD : fldD t.first t.log = t.now
theorem folds {s : Se} {rev : Int} {x : En} (h : takE s rev x = 0) : Folds s (takS s rev x) rev x := by
  obtain ⟨h1, h2, h3⟩ := take_0 h
  obtain ⟨a1, a2, a3, a4, a5⟩ := srv_0 h1
  rcases h3 with h3 | h3
  · obtain ⟨e1, e2⟩ := take_has (rev := rev) h1 h2 h3
    rw [e2]
    obtain ⟨f1, f2⟩ := fld_of a1 a3 a4
    exact ⟨h1, Nat.le_refl _, Nat.le_succ _, by rw [List.take_length]; exact sameL_self _, h3, fun _ => sameS_self _, e1, e2, f1, f2.trans a5.symm⟩
  · rw [take_new h h3]
    obtain ⟨o, ho⟩ : ∃ o, behO (s.log.drop rev.toNat) x.o = o := ⟨_, rfl⟩
    have hf := h3.fit
    rw [ho] at hf ⊢
    obtain ⟨c1, c2, c3, c4⟩ := Ac.fit_0 hf
    have hy : entE ⟨x.who, x.seq, o⟩ = 0 := by
      unfold entE at h2 ⊢
      by_cases g1 : x.who < 0 ∨ 4 ≤ x.who
      · rw [if_pos g1] at h2; cases h2
      · by_cases g2 : x.seq < 1 ∨ 10000 < x.seq
        · rw [if_neg g1, if_pos g2] at h2; cases h2
        · rw [if_neg g1, if_neg g2]
          exact Ac.chk_right.2 c2
    have hlen : (s.log ++ [(⟨x.who, x.seq, o⟩ : En)]).length = s.log.length + 1 := by rw [List.length_append]; rfl
    have hF : foldE s.first (s.log ++ [⟨x.who, x.seq, o⟩]) = 0 ∧ foldD s.first (s.log ++ [⟨x.who, x.seq, o⟩]) = Ac.done s.now o := by
      rw [foldE_app, if_pos a4, foldD_app _ _ _ a4, ← a5]
      show (if Ac.fitE s.now o = 0 then (0 : Int) else _) = 0 ∧ (if Ac.fitE s.now o = 0 then Ac.done s.now o else _) = _
      rw [if_pos hf, if_pos hf]
      exact ⟨rfl, rfl⟩
    have hl60 := h3.few
    have hsrv : srvE ⟨s.first, s.log ++ [⟨x.who, x.seq, o⟩], Ac.done s.now o⟩ = 0 := srv_of (by show (s.log ++ _).length ≤ 60; rw [hlen]; omega) (by
      show entsE (s.log ++ _) = 0
      rw [entsE_app, if_pos a2]
      show (if entE ⟨x.who, x.seq, o⟩ = 0 then (0 : Int) else _) = 0
      rw [if_pos hy]) a3 hF.1 hF.2.symm
    have hhas : has ⟨s.first, s.log ++ [⟨x.who, x.seq, o⟩], Ac.done s.now o⟩ x.who x.seq = true := by
      show (s.log ++ _).any _ = true
      rw [List.any_append]
      simp [isE]
    obtain ⟨e1, e2⟩ := take_has (rev := rev) hsrv h2 hhas
    obtain ⟨f1, f2⟩ := fld_of (d := s.first) (l := s.log ++ [⟨x.who, x.seq, o⟩]) (by rw [hlen]; omega) a3 hF.1
    exact ⟨hsrv, by show _ ≤ (s.log ++ _).length; rw [hlen]; omega, by show (s.log ++ _).length ≤ _; rw [hlen]; exact Nat.le_refl _, by show sameL ((s.log ++ _).take _) _ = true; rw [List.take_left]; exact sameL_self _, hhas, fun e => by
      have : (s.log ++ [(⟨x.who, x.seq, o⟩ : En)]).length = s.log.length := e
      rw [hlen] at this
      omega, e1, e2, f1, f2.trans hF.2⟩
/-- An operation that is turned behind what came since, and what it made of the elder document, with that done behind it. -/
structure Ord (d : List It) (L : List En) (now : List It) (O o : List Ac.Pt) (c : List It) : Prop where
  fit : Ac.fitE d o = 0
  made : c = Ac.done d o
  bE : behE L o = 0
  bO : behO L o = O
  fE : foldE d L = 0
  fD : foldD d L = now
theorem beh_cons {x : En} {L : List En} {o : List Ac.Pt} (h : behE (x :: L) o = 0) : Ac.trnE x.o o = 0 ∧ behE L (Ac.trnY x.o o) = 0 ∧ behO (x :: L) o = behO L (Ac.trnY x.o o) := by
  have hx : Ac.trnE x.o o = 0 := by
    by_cases hx : Ac.trnE x.o o = 0
    · exact hx
    · have : behE (x :: L) o = Ac.trnE x.o o := if_neg hx
      rw [this] at h
      exact absurd h hx
  refine ⟨hx, ?_, if_pos hx⟩
  have : behE (x :: L) o = behE L (Ac.trnY x.o o) := if_pos hx
  rw [this] at h
  exact h
theorem Ord.step {d : List It} {x : En} {L : List En} {now : List It} {O o : List Ac.Pt} {c : List It} (h : Ord d (x :: L) now O o c) :
    Ac.trnE x.o o = 0 ∧ (Ac.fitE c (Ac.trnX x.o o) = 0 → Ord (Ac.done d x.o) L now O (Ac.trnY x.o o) (Ac.done c (Ac.trnX x.o o))) := by
  obtain ⟨b1, b2, b3⟩ := beh_cons h.bE
  obtain ⟨f1, f2, f3⟩ := fold_cons h.fE
  obtain ⟨m1, m2, m3⟩ := Ac.meets_same f1 h.fit b1
  refine ⟨b1, fun hz => ?_⟩
  rw [h.made] at hz ⊢
  exact ⟨m1.trans hz, m3.symm, b2, b3.symm.trans h.bO, f2, f3.symm.trans h.fD⟩
theorem Ord.nil {d : List It} {now : List It} {O o : List Ac.Pt} {c : List It} (h : Ord d [] now O o c) : o = O ∧ c = Ac.done now O := by
  have h1 : o = O := h.bO
  have h2 : d = now := h.fD
  have := h.made
  rw [h1, h2] at this
  exact ⟨h1, this⟩
theorem ord_start {s : Se} {rev : Int} {x : En} (h : takE s rev x = 0) (hn : New s rev x) :
    fldE s.first (s.log.take rev.toNat) = 0 ∧ (Ac.fitE (fldD s.first (s.log.take rev.toNat)) x.o = 0 ∨ Ac.fitE (fldD s.first (s.log.take rev.toNat)) x.o = 2) ∧
    (Ac.fitE (fldD s.first (s.log.take rev.toNat)) x.o = 0 → Ord (fldD s.first (s.log.take rev.toNat)) (s.log.drop rev.toNat) s.now (behO (s.log.drop rev.toNat) x.o) x.o (Ac.done (fldD s.first (s.log.take rev.toNat)) x.o)) := by
  obtain ⟨h1, h2, -⟩ := take_0 h
  obtain ⟨a1, a2, a3, a4, a5⟩ := srv_0 h1
  have hs : s.log.take rev.toNat ++ s.log.drop rev.toNat = s.log := List.take_append_drop ..
  have hF := a4
  rw [← hs] at hF
  obtain ⟨p1, p2, p3⟩ := fold_app_0 hF
  have hl : (s.log.take rev.toNat).length ≤ 60 := by rw [List.length_take]; omega
  obtain ⟨f1, f2⟩ := fld_of hl a3 p1
  rw [f2]
  have hnow : foldD (foldD s.first (s.log.take rev.toNat)) (s.log.drop rev.toNat) = s.now := by rw [← p3, hs, a5]
  have hck := fold_check _ _ a3 p1
  generalize foldD s.first (s.log.take rev.toNat) = d at *
  refine ⟨f1, ?_, fun hz => ⟨hz, rfl, hn.beh, rfl, p2, hnow⟩⟩
  have hx : Ac.Right x.o := by
    unfold entE at h2
    by_cases g1 : x.who < 0 ∨ 4 ≤ x.who
    · rw [if_pos g1] at h2; cases h2
    · by_cases g2 : x.seq < 1 ∨ 10000 < x.seq
      · rw [if_neg g1, if_pos g2] at h2; cases h2
      · rw [if_neg g1, if_neg g2] at h2
        exact Ac.chk_right.1 h2
  have hb := hn.beh
  have hfit := hn.fit
  cases hL : s.log.drop rev.toNat with
  | nil =>
    rw [hL] at hfit hnow
    have e : d = s.now := hnow
    rw [e]
    exact .inl hfit
  | cons y L =>
    rw [hL] at hb p2
    obtain ⟨b1, -, -⟩ := beh_cons hb
    obtain ⟨q1, -, -⟩ := fold_cons p2
    obtain ⟨-, -, r3, -⟩ := Ac.fit_0 q1
    have hnd : Ac.nd y.o = Ac.nd x.o := by
      unfold Ac.trnE at b1
      by_cases g : Ac.fst2 y.o x.o = 0
      · rw [if_pos g] at b1
        by_cases g2 : Ac.nd y.o = Ac.nd x.o
        · exact g2
        · rw [if_neg g2] at b1; cases b1
      · rw [if_neg g] at b1
        exact absurd b1 g
    rw [Ac.fitE_eq hck hx (hnd.symm.trans r3)]
    split
    · exact .inr rfl
    · exact .inl rfl
end Sv
end Go.Proofs.YtbhcklkbckacpaaDoor

/-
  Package server: what Take works with.
-/
namespace Go.Proofs.YtbhcklkbckacpaaDoor
open Go.RowKit
theorem ret_srv2 {fn : Func} {p u : Tmp} {t : SV} {c : Value} {w : World} {g : Nat} (h : fn.results = #[.cell p 35, .tmp u]) (tmps : Array Value) (hp : tmps.getD p undef = .pointer (some ⟨g, 0, none⟩)) (hu : tmps.getD u undef = c) (hB : Blk w g (svC t) 35) : (results fn tmps).run Tryd.prog w = .ok (.tuple #[svA t, c]) w := by
  have hl := run_loadVar_row (P := Tryd.prog) w g 35 35 (svC t).toArray (0, 0) _ hB Tryd.underlying35 rfl (szSv t)
  rw [results_cell_tmp h, hp, hu]
  simp only [asAddr, Sem.run_pure, Result.andThen_ok, hl]
  rfl
/-- A server that lies in blocks from B on. -/
structure SrvFrom (B : Nat) (w : World) (t : SV) : Prop where
  first : Doc w t.fa t.fn t.fc t.first
  now : Doc w t.na t.nn t.nc t.now
  row : Row w t.la t.ln t.lc 3 (evCells t.log)
  ops : ∀ v ∈ t.log, OpsFrom B w v.ao v.n v.cap v.vs
  loF : ∀ ad : Addr, t.fn ≠ 0 → t.fa = some ad → B ≤ ad.block
  loN : ∀ ad : Addr, t.nn ≠ 0 → t.na = some ad → B ≤ ad.block
  loL : ∀ ad : Addr, t.ln ≠ 0 → t.la = some ad → B ≤ ad.block
theorem SrvFrom.srv {B : Nat} {w : World} {t : SV} (h : SrvFrom B w t) : Srv w t := ⟨h.first, ⟨h.row, fun v hv => (h.ops v hv).ops⟩, h.now⟩
theorem SrvFrom.kept {B : Nat} {w w' : World} {t : SV} {S : List Nat} (h : SrvFrom B w t) (hk : Kept w w' S) (hS : ∀ x ∈ S, x < B) : SrvFrom B w' t :=
  ⟨h.first.kept hk (fun ad h1 h2 hx => by have := h.loF ad h1 h2; have := hS _ hx; omega), h.now.kept hk (fun ad h1 h2 hx => by have := h.loN ad h1 h2; have := hS _ hx; omega), h.row.kept (by decide) hk (fun ad h1 h2 hx => by have := h.loL ad h1 h2; have := hS _ hx; omega), fun v hv => (h.ops v hv).kept hk hS, h.loF, h.loN, h.loL⟩
theorem SrvFrom.nil (B : Nat) (w : World) : SrvFrom B w sv0 := ⟨doc_none w, doc_none w, Row.nil w 3, (fun v hv => absurd hv (by simp [sv0])), fun _ h _ => absurd rfl h, fun _ h _ => absurd rfl h, fun _ h _ => absurd rfl h⟩
theorem Cpy.from {B : Nat} {w : World} {t : SV} (h : Cpy B w t) : SrvFrom B w t := by
  have hs := h.srv
  refine ⟨h.first, h.now, hs.log.row, fun v hv => ?_, fun ad _ e => h.loF ad e, fun ad _ e => h.loN ad e, fun ad _ e => ownBlk_ge h.own ad.block (by rw [e]; rfl)⟩
  have hl := hs.log.len
  obtain ⟨g, off, e, _⟩ := hs.log.row.lies (by have := List.length_pos_of_mem hv; omega)
  exact (h.ops v hv _ e).mono (by have := ownBlk_ge h.own g (by rw [e]; rfl); show B ≤ g + 1; omega)
/-- Behind the copy: the server, the entry, what is answered. -/
structure Tak (w : World) (x : EV) (B : Nat) (t : SV) (wr : World) : Prop where
  hS : Blk wr w.heap.size (svC t) 35
  hX : Blk wr (w.heap.size + 1) (evC x) 37
  hR : Blk wr (w.heap.size + 2) (svC sv0) 35
  cpy : Cpy B wr t
  lo : w.heap.size + 3 ≤ B
  hi : B ≤ wr.heap.size
  blw : Below w.heap.size w wr
theorem Tak.under {w : World} {x : EV} {B : Nat} {t : SV} {wr wr' : World} (h : Tak w x B t wr) (hb : Below wr.heap.size wr wr') : Tak w x B t wr' :=
  ⟨(hb.block _ h.hS.lt).trans h.hS, (hb.block _ h.hX.lt).trans h.hX, (hb.block _ h.hR.lt).trans h.hR, h.cpy.below hb, h.lo, Nat.le_trans h.hi hb.size, h.blw.trans (hb.mono h.blw.size)⟩
theorem Tak.start {w W w1 w2 : World} {x : EV} {s t : SV} (hS : Blk W w.heap.size (svC s) 35) (hX : Blk W (w.heap.size + 1) (evC x) 37) (hR : Blk W (w.heap.size + 2) (svC sv0) 35) (hW : Below w.heap.size w W) (h1 : Below W.heap.size W w1) (h2 : Below w1.heap.size w1 w2) (hc : Cpy w1.heap.size w2 t) :
    Tak w x w1.heap.size t (putS w2 w.heap.size t) := by
  have hb : Below W.heap.size W w2 := h1.trans (h2.mono h1.size)
  have hk := putS_kept w2 w.heap.size t
  have hlo : w.heap.size + 3 ≤ w1.heap.size := by have := hR.lt; have := h1.size; omega
  exact ⟨putS_blk ((hb.block _ hS.lt).trans hS), hk.blk ((hb.block _ hX.lt).trans hX) (by simp), hk.blk ((hb.block _ hR.lt).trans hR) (by simp), hc.kept hk (fun x hx => by simp at hx; omega), hlo, by rw [putS_size]; exact h2.size, (hW.trans (hb.mono hW.size)).trans (putS_below _ _ _)⟩
def nowS (t : SV) (a : Option Addr) (n c : Nat) (l : List It) : SV := ⟨t.fa, t.fn, t.fc, t.first, t.la, t.ln, t.lc, t.log, a, n, c, l⟩
def logS (t : SV) (a : Option Addr) (c : Nat) (v : EV) : SV := ⟨t.fa, t.fn, t.fc, t.first, a, t.ln + 1, c, t.log ++ [v], t.na, t.nn, t.nc, t.now⟩
theorem Tak.now {w : World} {x : EV} {B : Nat} {t : SV} {w5 w6 : World} {a : Option Addr} {n c : Nat} {l : List It} (h : Tak w x B t w5) (hb : Below w5.heap.size w5 w6) (hd : Doc w6 a n c l) (hf : ∀ ad : Addr, a = some ad → w5.heap.size ≤ ad.block) :
    Tak w x B (nowS t a n c l) (w6.setCell ⟨w.heap.size, 2, none⟩ (.slice a n c)) := by
  have h6 := h.under hb
  have hlo := h.lo
  have h5 := h.hR.lt
  have hk : Kept w6 (w6.setCell ⟨w.heap.size, 2, none⟩ (.slice a n c)) [w.heap.size] := kept_set _ _ _ _ _ (by simp)
  have hc := h6.cpy.kept hk (fun x hx => by simp at hx; omega)
  exact ⟨h6.hS.set 2 _, hk.blk h6.hX (by simp), hk.blk h6.hR (by simp), ⟨hc.first, hd.kept hk (fun ad _ e hx => by have := hf ad e; simp at hx; omega), hc.own, hc.offF, fun ad bd e1 e2 => by
    have h1 := hf ad e1
    have h2 := (h.cpy.own.lt bd.block (by have e3 : t.la = some bd := e2; rw [e3]; rfl)).2
    omega, hc.loF, fun ad e => by
    have h1 := hf ad e
    have h2 := h.hi
    omega, hc.ops⟩, h.lo, by rw [World.size_setCell]; exact h6.hi, h6.blw.setCell (Nat.le_refl _) _⟩
theorem Tak.log {w : World} {x : EV} {B Bo : Nat} {t : SV} {W7 w9 : World} {v : EV} {a : Option Addr} {c : Nat} (h : Tak w x B t W7) (ho : OpsFrom Bo W7 v.ao v.n v.cap v.vs) (hBo : B ≤ Bo) (hlt : ∀ bd : Addr, t.la = some bd → bd.block < Bo)
    (hown : w9.ownsRow B 37 3 (.slice a (t.ln + 1) c) (t.ln + 1) (evCells t.log ++ evC v)) (hg : (boxe v W7).grownBy w9 (Value.slice t.la t.ln t.lc).ownBlock) :
    Blk w9 w.heap.size (svC t) 35 ∧ Blk w9 (w.heap.size + 2) (svC sv0) 35 ∧ SrvFrom B w9 (logS t a c v) ∧ Below w.heap.size w w9 := by
  have h8 := h.under (boxe_below v W7)
  have hk : Kept (boxe v W7) w9 (ob (.slice t.la t.ln t.lc)) := grown_kept hg
  have hlo := h.lo
  have hob : ∀ k ∈ ob (.slice t.la t.ln t.lc), B ≤ k ∧ ∃ bd : Addr, t.la = some bd ∧ bd.block = k := fun k hk => by
    refine ⟨ownBlk_ge h.cpy.own k (ob_mem hk), ?_⟩
    have := ob_mem hk
    cases hla : t.la with
    | none => rw [hla] at this; cases this
    | some bd => rw [hla] at this; exact ⟨bd, rfl, Option.some.inj this⟩
  have hf := h8.cpy.from
  have hev : evCells t.log ++ evC v = evCells (t.log ++ [v]) := by rw [evCells_app, evCells_one]
  rw [hev] at hown
  obtain ⟨a2, c2, e, hr, hlr, -⟩ := own_slice hown
  simp only [Value.slice.injEq] at e
  obtain ⟨rfl, -, rfl⟩ := e
  refine ⟨hk.blk h8.hS (fun hx => by have := (hob _ hx).1; omega), hk.blk h8.hR (fun hx => by have := (hob _ hx).1; omega), ⟨hf.first.kept hk (fun ad _ e hx => ?_), hf.now.kept hk (fun ad _ e hx => ?_), hr, fun u hu => ?_, hf.loF, hf.loN, fun ad _ e => (hlr ad e).1⟩, (h8.blw.trans (hk.below h8.blw.size (fun k hx => by have := (hob k hx).1; omega)))⟩
  · obtain ⟨bd, e1, e2⟩ := (hob _ hx).2
    exact h8.cpy.offF ad bd e e1 e2.symm
  · obtain ⟨bd, e1, e2⟩ := (hob _ hx).2
    exact h8.cpy.offN ad bd e e1 e2.symm
  · rcases List.mem_append.1 hu with hu | hu
    · refine (h8.cpy.from.ops u hu).ops.kept hk (fun ad h1 h2 hx => ?_) (fun z hz ad h1 h2 hx => ?_) |> fun ho2 => ⟨ho2, (h8.cpy.from.ops u hu).row, (h8.cpy.from.ops u hu).its⟩
      · obtain ⟨bd, e1, e2⟩ := (hob _ hx).2
        have := (h8.cpy.ops u hu bd e1).row ad h1 h2
        omega
      · obtain ⟨bd, e1, e2⟩ := (hob _ hx).2
        have := (h8.cpy.ops u hu bd e1).its z hz ad h1 h2
        omega
    · rw [List.mem_singleton] at hu
      subst hu
      exact ((ho.below (boxe_below u W7)).kept hk (fun k hx => by
        obtain ⟨bd, e1, e2⟩ := (hob _ hx).2
        have := hlt bd e1
        omega)).mono hBo
def subE (a : Option Addr) (r cap : Nat) : Option Addr := if cap = r then a else a.map (fun b => b.add (r * 3))
theorem elemLE : Tryd.prog.elem 33 = 37 := by kernel_rfl
theorem under_le : Tryd.prog.underlying 33 = some (.slice (Tryd.prog.elem 33)) := by kernel_rfl
theorem slice_ents (a : Option Addr) (n cap r : Nat) (hr : r ≤ n) (w : World) : (Instr.slice 33 (.slice a n cap) (some (.int .i64 r)) none none).run Tryd.prog w = .ok (.slice (subE a r cap) (n - r) (cap - r)) w := by
  rw [run_slice_l (P := Tryd.prog) (w := w) 33 a n cap under_le .i64 (r : Int) (by omega) (by omega), elemLE, Tryd.sizeOf37 w]
  rfl
theorem evCells_drop : ∀ (l : List EV) (r : Nat) (j : Nat), (evCells (l.drop r))[j]? = (evCells l)[r * 3 + j]?
  | l, 0, j => by rw [List.drop_zero, Nat.zero_mul, Nat.zero_add]
  | [], r + 1, j => by rw [List.drop_nil]; rfl
  | v :: l, r + 1, j => by
    rw [List.drop_succ_cons, evCells_drop l r j]
    show _ = (evC v ++ evCells l)[_]?
    rw [List.getElem?_append_right (by show 3 ≤ _; omega)]
    congr 1
    show _ = _ - 3
    omega
theorem Ents.drop {w : World} {a : Option Addr} {n c : Nat} {es : List EV} (h : Ents w a n c es) (r : Nat) (hr : r ≤ n) : Ents w (subE a r c) (n - r) (c - r) (es.drop r) := by
  have hl := h.len
  have h1 := h.row.room
  have h2 := h.row.big
  refine ⟨⟨by rw [evCells_len, List.length_drop, hl], by omega, by omega, fun hn => ?_⟩, fun v hv => h.ops v (List.mem_of_mem_drop hv)⟩
  obtain ⟨b, off, e, hc⟩ := h.row.lies (by omega)
  refine ⟨b, off + r * 3, ?_, fun j u hj => ?_⟩
  · unfold subE
    rw [if_neg (by omega), e, Option.map_some, add_off]
  · rw [evCells_drop] at hj
    have := hc _ u hj
    rw [← Nat.add_assoc] at this
    exact this
theorem items_few {p : Ac.Pt} (h : Ac.err1 p = 0) : p.items.length ≤ 80 := by
  obtain ⟨h0, hs⟩ := Ac.err1_0 h
  rcases Ac.err0_kind h0 with ⟨k, _⟩ | ⟨k, _⟩ | ⟨k, _⟩
  · have := congrArg Ac.Pt.items (Ac.same1_eq.1 hs)
    unfold Ac.usedP at this
    rw [if_pos k] at this
    rw [this]
    exact Nat.zero_le _
  · exact (Ac.put_len h k).2.1
  · have := congrArg Ac.Pt.items (Ac.same1_eq.1 hs)
    unfold Ac.usedP at this
    rw [if_neg (by omega), if_neg (by omega)] at this
    rw [this]
    exact Nat.zero_le _
theorem ops_few {w : World} {a : Option Addr} {n c : Nat} {vs : List PV} (h : Ops w a n c vs) (hk : Ac.chk (vs.map PV.pt) = 0) : 0 < n ∧ n ≤ 40 ∧ ∀ u ∈ vs, u.m ≤ 80 := by
  have hr := Ac.chk_right.1 hk
  have hl := h.len
  have hf := hr.few
  rw [List.length_map, hl] at hf
  refine ⟨?_, hf, fun u hu => ?_⟩
  · rcases Nat.eq_zero_or_pos n with h0 | h0
    · have e : vs = [] := List.length_eq_zero_iff.1 (hl.trans h0)
      rw [e] at hk
      exact absurd hk (by decide)
    · exact h0
  · have := items_few (hr.ok _ (List.mem_map.2 ⟨u, hu, rfl⟩))
    rw [← (h.pts u hu).doc.len]
    exact this
theorem ent_chk {x : Sv.En} (h : Sv.entE x = 0) : Ac.chk x.o = 0 := by
  unfold Sv.entE at h
  by_cases g1 : x.who < 0 ∨ 4 ≤ x.who
  · rw [if_pos g1] at h; cases h
  · by_cases g2 : x.seq < 1 ∨ 10000 < x.seq
    · rw [if_neg g1, if_pos g2] at h; cases h
    · rw [if_neg g1, if_neg g2] at h
      exact h
theorem ents_all : ∀ {l : List Sv.En}, Sv.entsE l = 0 → ∀ x ∈ l, Sv.entE x = 0
  | [], _, x, hx => by cases hx
  | y :: l, h, x, hx => by
    have h1 : Sv.entE y = 0 := by
      by_cases h1 : Sv.entE y = 0
      · exact h1
      · have : Sv.entsE (y :: l) = Sv.entE y := if_neg h1
        rw [this] at h
        exact absurd h h1
    have h2 : Sv.entsE l = 0 := by
      have : Sv.entsE (y :: l) = Sv.entsE l := if_pos h1
      rw [this] at h
      exact h
    rcases List.mem_cons.1 hx with rfl | hx
    · exact h1
    · exact ents_all h2 x hx
theorem srv_few {w : World} {s : SV} (hV : Srv w s) (h : Sv.srvE s.se = 0) : s.fn ≤ 80 ∧ s.nn ≤ 80 ∧ s.ln ≤ 60 ∧ ∀ v ∈ s.log, 0 < v.n ∧ v.n ≤ 40 ∧ ∀ u ∈ v.vs, u.m ≤ 80 := by
  obtain ⟨a1, a2, a3, a4, a5⟩ := Sv.srv_0 h
  have h1 := Dc.check_few a3
  have h2 := Dc.check_few (show Dc.check s.se.now = 0 by rw [a5]; exact Sv.fold_check _ _ a3 a4)
  have e1 : s.first.length = s.fn := hV.first.len
  have e2 : s.now.length = s.nn := hV.now.len
  have e3 : s.log.length = s.ln := hV.log.len
  have g1 : s.se.first.length = s.first.length := rfl
  have g2 : s.se.now.length = s.now.length := rfl
  have g3 : s.se.log.length = s.log.length := List.length_map ..
  refine ⟨by omega, by omega, by omega, fun v hv => ops_few (hV.log.ops v hv) (ent_chk (ents_all a2 v.en (List.mem_map.2 ⟨v, hv, rfl⟩)))⟩
end Go.Proofs.YtbhcklkbckacpaaDoor
