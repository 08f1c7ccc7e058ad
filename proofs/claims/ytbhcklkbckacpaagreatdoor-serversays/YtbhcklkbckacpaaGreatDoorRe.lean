/-
  Acts in memory, read; what the reference makes of a document, act by act.
-/
import Derived.Test.YtbhcklkbckacpaaGreatDoorRd
namespace Go.Proofs.YtbhcklkbckacpaaGreatDoor
open Go.RowKit

structure Elev (w : World) (b off : Nat) (a : AV) : Prop where
  c0 : w.cell? ⟨b, off, none⟩ = some (.int .i64 a.kind)
  c1 : w.cell? ⟨b, off + 1, none⟩ = some (.int .u8 a.x.c.toNat)
  c2 : w.cell? ⟨b, off + 2, none⟩ = some (.int .i64 a.x.m)
  c3 : w.cell? ⟨b, off + 3, none⟩ = some (.string a.x.l)
  c4 : w.cell? ⟨b, off + 4, none⟩ = some (.int .i64 a.p.kind)
  c5 : w.cell? ⟨b, off + 5, none⟩ = some (.int .i64 a.p.n)
  c6 : w.cell? ⟨b, off + 6, none⟩ = some (.slice a.p.ao a.p.m a.p.cap)
  c7 : w.cell? ⟨b, off + 7, none⟩ = some (.int .i64 a.p.set)
  c8 : w.cell? ⟨b, off + 8, none⟩ = some (.int .i64 a.p.clr)
  c9 : w.cell? ⟨b, off + 9, none⟩ = some (.bool a.p.goes)
  c10 : w.cell? ⟨b, off + 10, none⟩ = some (.string a.p.link)
theorem Elev.below {w w' : World} {b off : Nat} {a : AV} (h : Elev w b off a) (hb : Below w.heap.size w w') : Elev w' b off a :=
  ⟨cell_below h.c0 hb, cell_below h.c1 hb, cell_below h.c2 hb, cell_below h.c3 hb, cell_below h.c4 hb, cell_below h.c5 hb, cell_below h.c6 hb, cell_below h.c7 hb, cell_below h.c8 hb, cell_below h.c9 hb, cell_below h.c10 hb⟩
theorem Elev.same {w w' : World} {b off : Nat} {a : AV} (h : Elev w b off a) (e : w'.heap[b]? = w.heap[b]?) : Elev w' b off a :=
  ⟨(World.cell?_of_block (w := w) e).trans h.c0, (World.cell?_of_block (w := w) e).trans h.c1, (World.cell?_of_block (w := w) e).trans h.c2, (World.cell?_of_block (w := w) e).trans h.c3, (World.cell?_of_block (w := w) e).trans h.c4, (World.cell?_of_block (w := w) e).trans h.c5, (World.cell?_of_block (w := w) e).trans h.c6, (World.cell?_of_block (w := w) e).trans h.c7, (World.cell?_of_block (w := w) e).trans h.c8, (World.cell?_of_block (w := w) e).trans h.c9, (World.cell?_of_block (w := w) e).trans h.c10⟩
theorem avCells_at : ∀ (l : List AV) (i : Nat) (h : i < l.length) (j : Nat), j < 11 → (avCells l)[i * 11 + j]? = (avC l[i])[j]?
  | [], _, h, _, _ => by simp at h
  | a :: l, 0, _, j, hj => by
    show (avC a ++ avCells l)[0 * 11 + j]? = _
    rw [Nat.zero_mul, Nat.zero_add, List.getElem?_append_left (by show j < 11; exact hj)]
    rfl
  | a :: l, i + 1, h, j, hj => by
    have := avCells_at l i (by simpa using h) j hj
    show (avC a ++ avCells l)[(i + 1) * 11 + j]? = _
    rw [List.getElem?_append_right (by show 11 ≤ _; omega), show (i + 1) * 11 + j - (avC a).length = i * 11 + j by show _ - 11 = _; omega, this]
    rfl
theorem own_elev {w : World} {B g cap n : Nat} {l : List AV} (h : w.ownsRow B 196 11 (.slice (some ⟨g, 0, none⟩) n cap) n (avCells l)) (hn : l.length = n) (i : Nat) (hi : i < l.length) : Elev w g (i * 11) l[i] := by
  have hc : ∀ j, j < 11 → w.cell? ⟨g, i * 11 + j, none⟩ = (avC l[i])[j]? := fun j hj => (h.cellAt (i * 11 + j) (by omega)).trans (avCells_at l i hi j hj)
  exact ⟨hc 0 (by decide), hc 1 (by decide), hc 2 (by decide), hc 3 (by decide), hc 4 (by decide), hc 5 (by decide), hc 6 (by decide), hc 7 (by decide), hc 8 (by decide), hc 9 (by decide), hc 10 (by decide)⟩
def boxa (a : AV) (w : World) : World := w.alloc (.cells #[.int .i64 a.kind, .int .u8 a.x.c.toNat, .int .i64 a.x.m, .string a.x.l, .int .i64 a.p.kind, .int .i64 a.p.n, .slice a.p.ao a.p.m a.p.cap, .int .i64 a.p.set, .int .i64 a.p.clr, .bool a.p.goes, .string a.p.link] 196)
theorem boxa_below (a : AV) (w : World) : Below w.heap.size w (boxa a w) := (Below.refl _ _).alloc (Nat.le_refl _) _
theorem boxa_size (a : AV) (w : World) : (boxa a w).heap.size = w.heap.size + 1 := World.size_alloc ..
theorem boxa_blk (a : AV) (w : World) : Blk (boxa a w) w.heap.size (avC a) 196 := Blk.new w _ _
theorem boxa_at (a : AV) (w : World) : Elev (boxa a w) w.heap.size 0 a := by
  have h := boxa_blk a w
  exact ⟨h.cell 0, h.cell 1, h.cell 2, h.cell 3, h.cell 4, h.cell 5, h.cell 6, h.cell 7, h.cell 8, h.cell 9, h.cell 10⟩
namespace Ac
def amk (d : List It) (s : List It × Nat) (a : AV) : List It × Nat := if a.kind = 2 then (s.1 ++ [a.x], s.2) else if a.kind = 1 then (s.1 ++ [change (d[s.2]?.getD it0) (chOf a.p.pt)], s.2 + 1) else (s.1, s.2 + 1)
def cN (l : List AV) : Nat := (l.map fun a => if a.kind = 2 then 0 else 1).sum
def cL (l : List AV) : Nat := (l.map fun a => if a.kind = 2 then 1 else if a.kind = 1 then 1 else 0).sum
theorem cN_app (l l' : List AV) : cN (l ++ l') = cN l + cN l' := by simp [cN]
theorem cL_app (l l' : List AV) : cL (l ++ l') = cL l + cL l' := by simp [cL]
theorem amk_two (d : List It) : ∀ (l : List AV) (s : List It × Nat), (l.foldl (amk d) s).2 = s.2 + cN l ∧ (l.foldl (amk d) s).1.length = s.1.length + cL l
  | [], s => by simp [cN, cL]
  | a :: l, s => by
    have ih := amk_two d l (amk d s a)
    rw [List.foldl_cons, ih.1, ih.2]
    unfold amk cN cL
    by_cases h2 : a.kind = 2
    · simp [h2]; omega
    · by_cases h1 : a.kind = 1
      · simp [h1]; omega
      · simp [h2, h1]; omega
theorem amk_puts (d : List It) : ∀ (xs : List It) (s : List It × Nat), (xs.map putA).foldl (amk d) s = (s.1 ++ xs, s.2)
  | [], s => by simp
  | x :: xs, s => by
    rw [List.map_cons, List.foldl_cons, amk_puts d xs]
    show ((s.1 ++ [x]) ++ xs, s.2) = _
    simp
theorem amk_keeps (d : List It) (x : It) (p : PV) : ∀ (k : Nat) (s : List It × Nat), s.2 + k ≤ d.length → (List.replicate k (⟨1, x, p⟩ : AV)).foldl (amk d) s = (s.1 ++ ((d.drop s.2).take k).map (fun y => change y (chOf p.pt)), s.2 + k)
  | 0, s, _ => by simp
  | k + 1, s, h => by
    have hl : s.2 < d.length := by omega
    rw [List.replicate_succ, List.foldl_cons]
    have e : amk d s ⟨1, x, p⟩ = (s.1 ++ [change d[s.2] (chOf p.pt)], s.2 + 1) := by
      unfold amk
      rw [if_neg (show ¬ (1 : Int) = 2 by decide), if_pos rfl, List.getElem?_eq_getElem hl]
      rfl
    rw [e, amk_keeps d x p k _ (by simp only; omega), List.drop_eq_getElem_cons hl, List.take_succ_cons, List.map_cons]
    simp only [List.append_assoc, List.cons_append, List.nil_append]
    congr 1
    omega
theorem amk_cuts (d : List It) (x : It) (p : PV) : ∀ (k : Nat) (s : List It × Nat), (List.replicate k (⟨3, x, p⟩ : AV)).foldl (amk d) s = (s.1, s.2 + k)
  | 0, s => rfl
  | k + 1, s => by
    rw [List.replicate_succ, List.foldl_cons, amk_cuts d x p k]
    show (s.1, s.2 + 1 + k) = _
    congr 1
    omega
theorem amk_part (d : List It) {v : PV} (h : err1 v.pt = 0) (s : List It × Nat) (hn : s.2 + nd1 v.pt ≤ d.length) : (actV v).foldl (amk d) s = mkS d s v.pt := by
  have hb := err1_n h
  unfold actV mkS
  unfold nd1 at hn
  rcases kind_of h with k | k | k
  · have k' : v.kind = 1 := k
    rw [if_neg (show ¬ v.kind = 2 by omega), if_pos k, k']
    rw [if_neg (show ¬ v.pt.kind = 2 by omega)] at hn
    exact amk_keeps d _ _ _ s hn
  · have k' : v.kind = 2 := k
    rw [if_pos k', if_neg (show ¬ v.pt.kind = 1 by omega), if_pos k]
    exact amk_puts d _ s
  · have k' : v.kind = 3 := k
    rw [if_neg (show ¬ v.kind = 2 by omega), if_neg (show ¬ v.pt.kind = 1 by omega), if_neg (show ¬ v.pt.kind = 2 by omega), k']
    exact amk_cuts d _ _ _ s
theorem amk_acts (d : List It) : ∀ (vs : List PV) (s : List It × Nat), (∀ v ∈ vs, err1 v.pt = 0) → s.2 + nd (vs.map PV.pt) ≤ d.length → (actsV vs).foldl (amk d) s = (vs.map PV.pt).foldl (mkS d) s
  | [], s, _, _ => rfl
  | v :: vs, s, h, hn => by
    rw [List.map_cons, nd_cons] at hn
    have e : actsV (v :: vs) = actV v ++ actsV vs := rfl
    rw [e, List.foldl_append, amk_part d (h v (List.mem_cons_self ..)) s (by omega), List.map_cons, List.foldl_cons]
    exact amk_acts d vs _ (fun u hu => h u (List.mem_cons_of_mem _ hu)) (by rw [mkS_two]; omega)
theorem amk_step (d : List It) (l : List AV) (k : Nat) (h : k < l.length) : (l.take (k + 1)).foldl (amk d) ([], 0) = amk d ((l.take k).foldl (amk d) ([], 0)) l[k] := by
  rw [List.take_succ_eq_append_getElem h, List.foldl_append]
  rfl
theorem cN_take (l : List AV) (k : Nat) : cN (l.take k) ≤ cN l ∧ cL (l.take k) ≤ cL l := by
  have h1 : cN l = cN (l.take k) + cN (l.drop k) := by rw [← cN_app, List.take_append_drop]
  have h2 : cL l = cL (l.take k) + cL (l.drop k) := by rw [← cL_app, List.take_append_drop]
  exact ⟨by omega, by omega⟩
def OkV (a : AV) : Prop := (a.kind = 2 ∧ a.x.l.size ≤ 9223372036854775807) ∨ (a.kind = 1 ∧ m4 a.p.set ∧ m4 a.p.clr ∧ a.p.link.size ≤ 9223372036854775807) ∨ a.kind = 3
theorem okV_acts {w : World} {vs : List PV} (h : ∀ v ∈ vs, err1 v.pt = 0) (hp : ∀ v ∈ vs, Pvt w v) : ∀ a ∈ actsV vs, OkV a := by
  intro a ha
  obtain ⟨v, hv, ha⟩ := List.mem_flatMap.1 ha
  have he := h v hv
  unfold actV at ha
  rcases kind_of he with k | k | k
  · have k' : v.kind = 1 := k
    rw [if_neg (show ¬ v.kind = 2 by omega)] at ha
    rw [(List.mem_replicate.1 ha).2]
    have := keep_m4 he k
    exact .inr (.inl ⟨k', this.1, this.2.1, (hp v hv).fit⟩)
  · have k' : v.kind = 2 := k
    rw [if_pos k'] at ha
    obtain ⟨x, hx, rfl⟩ := List.mem_map.1 ha
    exact .inl ⟨rfl, (hp v hv).doc.fit x hx⟩
  · have k' : v.kind = 3 := k
    rw [if_neg (show ¬ v.kind = 2 by omega)] at ha
    rw [(List.mem_replicate.1 ha).2]
    exact .inr (.inr k')
end Ac
end Go.Proofs.YtbhcklkbckacpaaGreatDoor
