/-
  Operations in memory: lists of parts, each with a list of items; chapter 7's check, measure and sameness on parts.
-/
import Derived.Test.YtgidmnoinbbajaaDoorRw
import Derived.Test.YtgidmnoinbbajaaDoorDy
import Derived.Test.YtgidmnoinbbajaaDoorXc
import Derived.Test.YtgidmnoinbbajaaDoorPa
namespace Go.Proofs.YtgidmnoinbbajaaDoor
open Go.RowKit
namespace Ac
def says (p q : Pt) : Bool := (p.set == q.set) && ((p.clr == q.clr) && ((p.goes == q.goes) && (p.link.toList == q.link.toList)))
def same1 (p q : Pt) : Bool := (p.kind == q.kind) && ((p.n == q.n) && (Dc.same p.items q.items && says p q))
def sameO : List Pt → List Pt → Bool
  | [], [] => true
  | p :: s, q :: t => same1 p q && sameO s t
  | _, _ => false
theorem sameO_len : ∀ (s t : List Pt), ¬ s.length = t.length → sameO s t = false
  | [], [], h => absurd rfl h
  | [], _ :: _, _ => rfl
  | _ :: _, [], _ => rfl
  | x :: s, y :: t, h => by rw [sameO, sameO_len s t (by simpa using h), Bool.and_false]
theorem sameO_step (s t : List Pt) (k : Nat) (h : k < s.length) (h' : k < t.length) : sameO (s.drop k) (t.drop k) = (same1 s[k] t[k] && sameO (s.drop (k + 1)) (t.drop (k + 1))) := by
  rw [List.drop_eq_getElem_cons h, List.drop_eq_getElem_cons h', sameO]
/-- A part with nothing in it but what its kind has a use for. -/
def usedP (p : Pt) : Pt := if p.kind = 1 then { p with items := [] } else if p.kind = 2 then ⟨p.kind, 0, p.items, 0, 0, false, ⟨#[]⟩⟩ else ⟨p.kind, p.n, [], 0, 0, false, ⟨#[]⟩⟩
def areM (m : Int) : Bool := decide (0 ≤ m) && decide (m ≤ 3)
def errN (n : Int) : Int := if n < 1 ∨ 80 < n then 3 else 0
def errPut (l : List It) : Int := if l.length < 1 ∨ 80 < l.length then 2 else Dc.errs l
def marksBad (s c : Int) : Bool := !areM s || (!areM c || (s.toNat &&& c.toNat) != 0)
def linkBad (g : Bool) (l : ByteArray) : Bool := !l.toList.isEmpty && (!g || !Lk.may l.data.toList)
def errK (p : Pt) : Int := if marksBad p.set p.clr then 3 else if linkBad p.goes p.link then 4 else errN p.n
def err0 (p : Pt) : Int := if p.kind = 1 then errK p else if p.kind = 2 then errPut p.items else if p.kind = 3 then errN p.n else 4
def err1 (p : Pt) : Int := if err0 p = 0 then (if same1 p (usedP p) then 0 else 4) else err0 p
def chks : Int → List Pt → Int
  | _, [] => 0
  | s, p :: t => if err1 p = 0 then (if 80 < s + p.n then 2 else chks (s + p.n) t) else err1 p
def chk (o : List Pt) : Int := if o.length < 1 ∨ 40 < o.length then 2 else if chks 0 o = 0 then (match o.getLast? with | some p => if p.kind = 1 then 0 else 4 | none => 4) else chks 0 o
def lfS (s : Int) (p : Pt) : Int := if p.kind = 1 ∨ p.kind = 3 then wrap64 (s + p.n) else s
def ltS (s : Int) (p : Pt) : Int := if p.kind = 1 then wrap64 (s + p.n) else if p.kind = 2 then wrap64 (s + p.items.length) else s
def lf (o : List Pt) : Int := o.foldl lfS 0
def lt (o : List Pt) : Int := o.foldl ltS 0
end Ac
/-- A part in memory: its fields, and where its items lie. -/
structure PV where
  kind : Int
  n : Int
  ao : Option Addr
  m : Nat
  cap : Nat
  items : List It
  set : Int
  clr : Int
  goes : Bool
  link : ByteArray
def PV.pt (v : PV) : Ac.Pt := ⟨v.kind, v.n, v.items, v.set, v.clr, v.goes, v.link⟩
def pvC (v : PV) : List Value := [.int .i64 v.kind, .int .i64 v.n, .slice v.ao v.m v.cap, .int .i64 v.set, .int .i64 v.clr, .bool v.goes, .string v.link]
def pvCells (l : List PV) : List Value := l.flatMap pvC
theorem pvCells_nil : pvCells [] = [] := rfl
theorem pvCells_cons (v : PV) (l : List PV) : pvCells (v :: l) = .int .i64 v.kind :: .int .i64 v.n :: .slice v.ao v.m v.cap :: .int .i64 v.set :: .int .i64 v.clr :: .bool v.goes :: .string v.link :: pvCells l := rfl
theorem pvCells_app (l l' : List PV) : pvCells (l ++ l') = pvCells l ++ pvCells l' := List.flatMap_append
theorem pvCells_one (v : PV) : pvCells [v] = pvC v := by simp [pvCells]
theorem pvCells_len : ∀ l : List PV, (pvCells l).length = l.length * 7
  | [] => rfl
  | k :: l => by rw [pvCells_cons]; simp only [List.length_cons]; rw [pvCells_len l]; omega
theorem pvCells_at : ∀ (l : List PV) (i : Nat) (h : i < l.length), (pvCells l)[i * 7]? = some (.int .i64 l[i].kind) ∧ (pvCells l)[i * 7 + 1]? = some (.int .i64 l[i].n) ∧ (pvCells l)[i * 7 + 2]? = some (.slice l[i].ao l[i].m l[i].cap) ∧ (pvCells l)[i * 7 + 3]? = some (.int .i64 l[i].set) ∧ (pvCells l)[i * 7 + 4]? = some (.int .i64 l[i].clr) ∧ (pvCells l)[i * 7 + 5]? = some (.bool l[i].goes) ∧ (pvCells l)[i * 7 + 6]? = some (.string l[i].link)
  | [], _, h => by simp at h
  | k :: l, 0, _ => ⟨rfl, rfl, rfl, rfl, rfl, rfl, rfl⟩
  | k :: l, i + 1, h => by
    have := pvCells_at l i (by simpa using h)
    rw [pvCells_cons, show (i + 1) * 7 = i * 7 + 1 + 1 + 1 + 1 + 1 + 1 + 1 by omega]
    exact this
theorem pvCells_oneCell (l : List PV) : ∀ u ∈ pvCells l, u.oneCell' = true := by
  intro u hu
  obtain ⟨k, _, h⟩ := List.mem_flatMap.1 hu
  simp only [pvC, List.mem_cons, List.not_mem_nil, or_false] at h
  rcases h with rfl | rfl | rfl | rfl | rfl | rfl | rfl <;> rfl
/-- A part's items lie where it says. -/
structure Pvt (w : World) (v : PV) : Prop where
  doc : Doc w v.ao v.m v.cap v.items
  fit : v.link.size ≤ 9223372036854775807
theorem Pvt.below {w w' : World} {v : PV} (h : Pvt w v) (hb : Below w.heap.size w w') : Pvt w' v := ⟨h.doc.below hb, h.fit⟩
/-- The cells of a part. -/
structure Seven (w : World) (b off : Nat) (v : PV) : Prop where
  c0 : w.cell? ⟨b, off, none⟩ = some (.int .i64 v.kind)
  c1 : w.cell? ⟨b, off + 1, none⟩ = some (.int .i64 v.n)
  c2 : w.cell? ⟨b, off + 2, none⟩ = some (.slice v.ao v.m v.cap)
  c3 : w.cell? ⟨b, off + 3, none⟩ = some (.int .i64 v.set)
  c4 : w.cell? ⟨b, off + 4, none⟩ = some (.int .i64 v.clr)
  c5 : w.cell? ⟨b, off + 5, none⟩ = some (.bool v.goes)
  c6 : w.cell? ⟨b, off + 6, none⟩ = some (.string v.link)
theorem Seven.below {w w' : World} {b off : Nat} {v : PV} (h : Seven w b off v) (hb : Below w.heap.size w w') : Seven w' b off v :=
  ⟨cell_below h.c0 hb, cell_below h.c1 hb, cell_below h.c2 hb, cell_below h.c3 hb, cell_below h.c4 hb, cell_below h.c5 hb, cell_below h.c6 hb⟩
/-- A slice of parts. -/
structure Ops (w : World) (ao : Option Addr) (n cap : Nat) (vs : List PV) : Prop where
  row : Row w ao n cap 7 (pvCells vs)
  pts : ∀ v ∈ vs, Pvt w v
theorem Ops.below {w w' : World} {ao : Option Addr} {n cap : Nat} {vs : List PV} (h : Ops w ao n cap vs) (hb : Below w.heap.size w w') : Ops w' ao n cap vs :=
  ⟨h.row.below hb, fun v hv => (h.pts v hv).below hb⟩
theorem Ops.len {w : World} {ao : Option Addr} {n cap : Nat} {vs : List PV} (h : Ops w ao n cap vs) : vs.length = n := by
  have := h.row.len
  rw [pvCells_len] at this
  omega
theorem Ops.get {w : World} {ao : Option Addr} {n cap : Nat} {vs : List PV} (h : Ops w ao n cap vs) (hn : n ≠ 0) : ∃ b off, ao = some ⟨b, off, none⟩ ∧ ∀ i (hi : i < vs.length), Seven w b (off + i * 7) vs[i] := by
  obtain ⟨b, off, e, hc⟩ := h.row.lies hn
  refine ⟨b, off, e, fun i hi => ?_⟩
  obtain ⟨h0, h1, h2, h3, h4, h5, h6⟩ := pvCells_at vs i hi
  exact ⟨hc _ _ h0, by rw [Nat.add_assoc]; exact hc _ _ h1, by rw [Nat.add_assoc]; exact hc _ _ h2, by rw [Nat.add_assoc]; exact hc _ _ h3, by rw [Nat.add_assoc]; exact hc _ _ h4, by rw [Nat.add_assoc]; exact hc _ _ h5, by rw [Nat.add_assoc]; exact hc _ _ h6⟩
/-- A call that is handed a part lays it in a block of its own. -/
def boxp (v : PV) (w : World) : World := w.alloc (.cells #[.int .i64 v.kind, .int .i64 v.n, .slice v.ao v.m v.cap, .int .i64 v.set, .int .i64 v.clr, .bool v.goes, .string v.link] 44)
theorem boxp_below (v : PV) (w : World) : Below w.heap.size w (boxp v w) := (Below.refl _ _).alloc (Nat.le_refl _) _
theorem boxp_size (v : PV) (w : World) : (boxp v w).heap.size = w.heap.size + 1 := World.size_alloc ..
theorem boxp_blk (v : PV) (w : World) : Blk (boxp v w) w.heap.size (pvC v) 44 := Blk.new w _ _
theorem seven_blk {w : World} {b : Nat} {v : PV} (h : Blk w b (pvC v) 44) : Seven w b 0 v := ⟨h.cell 0, h.cell 1, h.cell 2, h.cell 3, h.cell 4, h.cell 5, h.cell 6⟩
theorem boxp_at (v : PV) (w : World) : Seven (boxp v w) w.heap.size 0 v := seven_blk (boxp_blk v w)
theorem boxp2_below (v u : PV) (w : World) : Below w.heap.size w (boxp u (boxp v w)) := (boxp_below v w).trans ((boxp_below u _).mono (boxp_below v w).size)
theorem boxp2_fst (v u : PV) (w : World) : Seven (boxp u (boxp v w)) w.heap.size 0 v := (boxp_at v w).below (boxp_below u _)
theorem boxp2_snd (v u : PV) (w : World) : Seven (boxp u (boxp v w)) (w.heap.size + 1) 0 u := by
  have := boxp_at u (boxp v w)
  rw [boxp_size] at this
  exact this
theorem Tryd.infP : (Tryd.prog.info? 44).map (fun i => (i.zero, i.size, i.bytes)) = some (some (.agg #[.int .i64 0, .int .i64 0, .slice none 0 0, .int .i64 0, .int .i64 0, .bool false, .string ⟨#[]⟩]), 7, 80) := by kernel_rfl
end Go.Proofs.YtgidmnoinbbajaaDoor
