/-
  Chapter 9: entries and servers, and how they lie in memory.
-/
import Derived.Test.YtaigleblmbblcaaGreatDoorUk
namespace Go.Proofs.YtaigleblmbblcaaGreatDoor
open Go.RowKit
namespace Sv
/-- An entry. -/
structure En where
  who : Int
  seq : Int
  o : List Ac.Pt
/-- A server. -/
structure Se where
  first : List It
  log : List En
  now : List It
def entE (x : En) : Int := if x.who < 0 ∨ 4 ≤ x.who then 5 else if x.seq < 1 ∨ 10000 < x.seq then 3 else Ac.chk x.o
def entsE : List En → Int
  | [] => 0
  | x :: l => if entE x = 0 then entsE l else entE x
theorem entsE_step (l : List En) (k : Nat) (h : k < l.length) : entsE (l.drop k) = if entE l[k] = 0 then entsE (l.drop (k + 1)) else entE l[k] := by
  rw [List.drop_eq_getElem_cons h]
  rfl
def foldE : List It → List En → Int
  | _, [] => 0
  | d, x :: l => if Ac.fitE d x.o = 0 then foldE (Ac.done d x.o) l else Ac.fitE d x.o
def foldD : List It → List En → List It
  | d, [] => d
  | d, x :: l => if Ac.fitE d x.o = 0 then foldD (Ac.done d x.o) l else Ac.done d x.o
def fldE (d : List It) (l : List En) : Int := if Dc.check d = 0 then (if 60 < l.length then 2 else foldE d l) else Dc.check d
def fldD (d : List It) (l : List En) : List It := if Dc.check d = 0 then (if 60 < l.length then [] else foldD d l) else []
def srvE (s : Se) : Int := if 60 < s.log.length then 2 else if entsE s.log = 0 then (if fldE s.first s.log = 0 then (if Dc.same s.now (fldD s.first s.log) = true then 0 else 4) else fldE s.first s.log) else entsE s.log
def isE (c q : Int) (x : En) : Bool := (x.who == c) && (x.seq == q)
def has (s : Se) (c q : Int) : Bool := s.log.any (isE c q)
def sameE (a b : En) : Bool := (a.who == b.who) && ((a.seq == b.seq) && Ac.sameO a.o b.o)
def sameL : List En → List En → Bool
  | [], [] => true
  | x :: l, y :: m => sameE x y && sameL l m
  | _, _ => false
theorem sameL_len : ∀ (s t : List En), ¬ s.length = t.length → sameL s t = false
  | [], [], h => absurd rfl h
  | [], _ :: _, _ => rfl
  | _ :: _, [], _ => rfl
  | x :: s, y :: t, h => by
    unfold sameL
    rw [sameL_len s t (fun e => h (by simp [e])), Bool.and_false]
theorem sameL_step (s t : List En) (k : Nat) (h : k < s.length) (h' : k < t.length) : sameL (s.drop k) (t.drop k) = (sameE s[k] t[k] && sameL (s.drop (k + 1)) (t.drop (k + 1))) := by
  rw [List.drop_eq_getElem_cons h, List.drop_eq_getElem_cons h']
  rfl
def sameS (a b : Se) : Bool := (Dc.same a.first b.first && sameL a.log b.log) && Dc.same a.now b.now
def behE : List En → List Ac.Pt → Int
  | [], _ => 0
  | x :: l, o => if Ac.trnE x.o o = 0 then behE l (Ac.trnY x.o o) else Ac.trnE x.o o
def behO : List En → List Ac.Pt → List Ac.Pt
  | [], o => o
  | x :: l, o => if Ac.trnE x.o o = 0 then behO l (Ac.trnY x.o o) else Ac.trnY x.o o
def takE (s : Se) (rev : Int) (x : En) : Int :=
  if srvE s = 0 then (if entE x = 0 then (if has s x.who x.seq = true then 0 else if rev < 0 ∨ (s.log.length : Int) < rev then 6 else if s.log.length = 60 then 2 else
    if behE (s.log.drop rev.toNat) x.o = 0 then Ac.fitE s.now (behO (s.log.drop rev.toNat) x.o) else behE (s.log.drop rev.toNat) x.o) else entE x) else srvE s
def takS (s : Se) (rev : Int) (x : En) : Se :=
  if takE s rev x = 0 then (if has s x.who x.seq = true then s else ⟨s.first, s.log ++ [⟨x.who, x.seq, behO (s.log.drop rev.toNat) x.o⟩], Ac.done s.now (behO (s.log.drop rev.toNat) x.o)⟩) else ⟨[], [], []⟩
end Sv
/-- An entry in memory. -/
structure EV where
  who : Int
  seq : Int
  ao : Option Addr
  n : Nat
  cap : Nat
  vs : List PV
def EV.en (v : EV) : Sv.En := ⟨v.who, v.seq, v.vs.map PV.pt⟩
def evA (v : EV) : Value := .agg #[.int .i64 v.who, .int .i64 v.seq, .slice v.ao v.n v.cap]
def evC (v : EV) : List Value := [.int .i64 v.who, .int .i64 v.seq, .slice v.ao v.n v.cap]
def evCells (l : List EV) : List Value := l.flatMap evC
theorem evCells_app (l l' : List EV) : evCells (l ++ l') = evCells l ++ evCells l' := List.flatMap_append
theorem evCells_one (v : EV) : evCells [v] = evC v := by simp [evCells]
theorem evCells_len : ∀ l : List EV, (evCells l).length = l.length * 3
  | [] => rfl
  | a :: l => by
    show (evC a ++ evCells l).length = _
    rw [List.length_append, evCells_len l, List.length_cons]
    show 3 + _ = _
    omega
theorem evCells_at : ∀ (l : List EV) (i : Nat) (h : i < l.length) (j : Nat), j < 3 → (evCells l)[i * 3 + j]? = (evC l[i])[j]?
  | [], _, h, _, _ => by simp at h
  | a :: l, 0, _, j, hj => by
    show (evC a ++ evCells l)[0 * 3 + j]? = _
    rw [Nat.zero_mul, Nat.zero_add, List.getElem?_append_left (by show j < 3; exact hj)]
    rfl
  | a :: l, i + 1, h, j, hj => by
    have := evCells_at l i (by simpa using h) j hj
    show (evC a ++ evCells l)[(i + 1) * 3 + j]? = _
    rw [List.getElem?_append_right (by show 3 ≤ _; omega), show (i + 1) * 3 + j - (evC a).length = i * 3 + j by show _ - 3 = _; omega, this]
    rfl
theorem evCells_oneCell (l : List EV) : ∀ u ∈ evCells l, u.oneCell' = true := by
  intro u hu
  obtain ⟨v, -, h⟩ := List.mem_flatMap.1 hu
  unfold evC at h
  simp only [List.mem_cons, List.not_mem_nil, or_false] at h
  rcases h with rfl | rfl | rfl <;> rfl
/-- The cells of an entry. -/
structure Thr (w : World) (b off : Nat) (v : EV) : Prop where
  c0 : w.cell? ⟨b, off, none⟩ = some (.int .i64 v.who)
  c1 : w.cell? ⟨b, off + 1, none⟩ = some (.int .i64 v.seq)
  c2 : w.cell? ⟨b, off + 2, none⟩ = some (.slice v.ao v.n v.cap)
theorem Thr.below {w w' : World} {b off : Nat} {v : EV} (h : Thr w b off v) (hb : Below w.heap.size w w') : Thr w' b off v :=
  ⟨cell_below h.c0 hb, cell_below h.c1 hb, cell_below h.c2 hb⟩
/-- A slice of entries. -/
structure Ents (w : World) (ao : Option Addr) (n cap : Nat) (es : List EV) : Prop where
  row : Row w ao n cap 3 (evCells es)
  ops : ∀ v ∈ es, Ops w v.ao v.n v.cap v.vs
theorem Ents.below {w w' : World} {ao : Option Addr} {n cap : Nat} {es : List EV} (h : Ents w ao n cap es) (hb : Below w.heap.size w w') : Ents w' ao n cap es :=
  ⟨h.row.below hb, fun v hv => (h.ops v hv).below hb⟩
theorem Ents.len {w : World} {ao : Option Addr} {n cap : Nat} {es : List EV} (h : Ents w ao n cap es) : es.length = n := by
  have := h.row.len
  rw [evCells_len] at this
  omega
theorem Ents.nil (w : World) : Ents w none 0 0 [] := ⟨Row.nil w 3, fun v hv => absurd hv (by simp)⟩
theorem Ents.get {w : World} {ao : Option Addr} {n cap : Nat} {es : List EV} (h : Ents w ao n cap es) (hn : n ≠ 0) : ∃ b off, ao = some ⟨b, off, none⟩ ∧ ∀ i (hi : i < es.length), Thr w b (off + i * 3) es[i] := by
  obtain ⟨b, off, e, hc⟩ := h.row.lies hn
  refine ⟨b, off, e, fun i hi => ?_⟩
  have h0 := evCells_at es i hi 0 (by decide)
  have h1 := evCells_at es i hi 1 (by decide)
  have h2 := evCells_at es i hi 2 (by decide)
  exact ⟨hc _ _ h0, by rw [Nat.add_assoc]; exact hc _ _ h1, by rw [Nat.add_assoc]; exact hc _ _ h2⟩
/-- A call that is handed an entry lays it in a block of its own. -/
def boxe (v : EV) (w : World) : World := w.alloc (.cells #[.int .i64 v.who, .int .i64 v.seq, .slice v.ao v.n v.cap] 30)
theorem boxe_below (v : EV) (w : World) : Below w.heap.size w (boxe v w) := (Below.refl _ _).alloc (Nat.le_refl _) _
theorem boxe_size (v : EV) (w : World) : (boxe v w).heap.size = w.heap.size + 1 := World.size_alloc ..
theorem boxe_blk (v : EV) (w : World) : Blk (boxe v w) w.heap.size (evC v) 30 := Blk.new w _ _
theorem thr_blk {w : World} {b : Nat} {v : EV} (h : Blk w b (evC v) 30) : Thr w b 0 v := ⟨h.cell 0, h.cell 1, h.cell 2⟩
theorem boxe_at (v : EV) (w : World) : Thr (boxe v w) w.heap.size 0 v := thr_blk (boxe_blk v w)
theorem boxe2_below (v u : EV) (w : World) : Below w.heap.size w (boxe u (boxe v w)) := (boxe_below v w).trans ((boxe_below u _).mono (boxe_below v w).size)
theorem boxe2_fst (v u : EV) (w : World) : Thr (boxe u (boxe v w)) w.heap.size 0 v := (boxe_at v w).below (boxe_below u _)
theorem boxe2_snd (v u : EV) (w : World) : Thr (boxe u (boxe v w)) (w.heap.size + 1) 0 u := by
  have := boxe_at u (boxe v w)
  rw [boxe_size] at this
  exact this
/-- A server in memory. -/
structure SV where
  fa : Option Addr
  fn : Nat
  fc : Nat
  first : List It
  la : Option Addr
  ln : Nat
  lc : Nat
  log : List EV
  na : Option Addr
  nn : Nat
  nc : Nat
  now : List It
def SV.se (s : SV) : Sv.Se := ⟨s.first, s.log.map EV.en, s.now⟩
def svA (s : SV) : Value := .agg #[.slice s.fa s.fn s.fc, .slice s.la s.ln s.lc, .slice s.na s.nn s.nc]
def svC (s : SV) : List Value := [.slice s.fa s.fn s.fc, .slice s.la s.ln s.lc, .slice s.na s.nn s.nc]
structure Srv (w : World) (s : SV) : Prop where
  first : Doc w s.fa s.fn s.fc s.first
  log : Ents w s.la s.ln s.lc s.log
  now : Doc w s.na s.nn s.nc s.now
theorem Srv.below {w w' : World} {s : SV} (h : Srv w s) (hb : Below w.heap.size w w') : Srv w' s := ⟨h.first.below hb, h.log.below hb, h.now.below hb⟩
def boxs (s : SV) (w : World) : World := w.alloc (.cells #[.slice s.fa s.fn s.fc, .slice s.la s.ln s.lc, .slice s.na s.nn s.nc] 26)
theorem boxs_below (s : SV) (w : World) : Below w.heap.size w (boxs s w) := (Below.refl _ _).alloc (Nat.le_refl _) _
theorem boxs_size (s : SV) (w : World) : (boxs s w).heap.size = w.heap.size + 1 := World.size_alloc ..
theorem boxs_blk (s : SV) (w : World) : Blk (boxs s w) w.heap.size (svC s) 26 := Blk.new w _ _
def sv0 : SV := ⟨none, 0, 0, [], none, 0, 0, [], none, 0, 0, []⟩
end Go.Proofs.YtaigleblmbblcaaGreatDoor
