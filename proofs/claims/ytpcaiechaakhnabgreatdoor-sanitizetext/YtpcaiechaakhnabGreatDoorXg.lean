/-
  The reference's PageOf of any document.
-/
import Derived.Test.YtpcaiechaakhnabGreatDoorXr
namespace Go.Proofs.YtpcaiechaakhnabGreatDoor
open Go.RowKit

/-- What holds of an item of a document. -/
structure Fine (x : It) : Prop where
  lo : 0 ≤ x.m
  hi : x.m ≤ 3
  short : x.l.size ≤ 24
  ends : Dc.ends x = true → x.l = B []
theorem Fine.ok {x : It} (h : Fine x) : Pg.Ok x := ⟨h.lo, h.hi, h.ends⟩
/-- The reference's loop: what stands in its variables behind the first k items. -/
structure Loop (w0 w : World) (l : List It) (k : Nat) (o li : Value) : Prop where
  out : o = .string (B (Pg.bytes (Pg.run (l.take k)).page))
  list : li = .bool (Pg.run (l.take k)).list
  vars : ∃ y, Vars3 w (w0.heap.size + 1) (w0.heap.size + 2) w0.heap.size (Pg.run (l.take k)).text y (Pg.bytes (Pg.run (l.take k)).ins) ∧ ((Pg.run (l.take k)).text ≠ [] → y = (Pg.run (l.take k)).last)
  below : Below w0.heap.size w0 w

theorem conv_at (d : UInt8) (g : Nat) (W : World) (h : W.cell? ⟨g, 0, none⟩ = some (.int .u8 d.toNat)) : (convert 22 9 (.slice (some ⟨g, 0, none⟩) 1 1)).run Tryz.prog W = .ok (.string ⟨#[d]⟩) W := by
  have := run_convert_bytes_back (P := Tryz.prog) W 22 9 5 ⟨g, 0, none⟩ 1 [d] Tryz.underlying22 Tryz.underlying5 Tryz.underlying9 (fun j hj => by
    simp at hj
    subst hj
    exact h)
  exact this
theorem conv_box (x : It) (w : World) : (convert 22 9 (.slice (some ⟨w.heap.size + 1, 0, none⟩) 1 1)).run Tryz.prog ((w.alloc (.cells #[.int .u8 x.c.toNat, .int .i64 x.m, .string x.l] 39)).alloc (.cells #[.int .u8 x.c.toNat] 5)).drew = .ok (.string ⟨#[x.c]⟩) ((w.alloc (.cells #[.int .u8 x.c.toNat, .int .i64 x.m, .string x.l] 39)).alloc (.cells #[.int .u8 x.c.toNat] 5)).drew := by
  refine conv_at x.c _ _ ?_
  exact (Blk.newAt (w.alloc (.cells #[.int .u8 x.c.toNat, .int .i64 x.m, .string x.l] 39)) (w.heap.size + 1) [.int .u8 x.c.toNat] 5 (by simp)).cell 0

/-- What the loop lays of a character. -/
def put4 (h : Nat) (t : List UInt8) (x : It) (w : World) : World := (((w.setCell ⟨h + 1, 0, none⟩ (.string (B t ++ ⟨#[x.c]⟩))).setCell ⟨h + 1 + 1, 0, none⟩ (.int .u8 x.c.toNat)).setCell ⟨h + 1 + 1, 1, none⟩ (.int .i64 x.m)).setCell ⟨h + 1 + 1, 2, none⟩ (.string x.l)
theorem put_char {h : Nat} {w : World} {t i : List UInt8} {y : It} (x : It) (hV : Vars3 w (h + 1) (h + 2) h t y i) : Vars3 (put4 h t x w) (h + 1) (h + 2) h (t ++ [x.c]) x i ∧ Below h w (put4 h t x w) := by
  refine ⟨⟨?_, ?_, ?_, hV.nti, hV.ntl, hV.nli⟩, ?_⟩
  · have h1 := hV.text.set 0 (.string (B t ++ ⟨#[x.c]⟩))
    rw [show B t ++ (⟨#[x.c]⟩ : ByteArray) = B (t ++ [x.c]) from B_app t [x.c]] at h1
    unfold put4
    rw [show B t ++ (⟨#[x.c]⟩ : ByteArray) = B (t ++ [x.c]) from B_app t [x.c]]
    exact ((h1.other ⟨h + 1 + 1, 0, none⟩ _ (by simp)).other ⟨h + 1 + 1, 1, none⟩ _ (by simp)).other ⟨h + 1 + 1, 2, none⟩ _ (by simp)
  · exact (((hV.last.other ⟨h + 1, 0, none⟩ _ (by simp)).set 0 _).set 1 _).set 2 _
  · exact (((hV.ins.other ⟨h + 1, 0, none⟩ _ (by simp)).other ⟨h + 1 + 1, 0, none⟩ _ (by simp; omega)).other ⟨h + 1 + 1, 1, none⟩ _ (by simp; omega)).other ⟨h + 1 + 1, 2, none⟩ _ (by simp; omega)
  · exact ((((Below.refl h w).setCell (p := ⟨h + 1, 0, none⟩) (by simp) _).setCell (p := ⟨h + 1 + 1, 0, none⟩) (by simp; omega) _).setCell (p := ⟨h + 1 + 1, 1, none⟩) (by simp; omega) _).setCell (p := ⟨h + 1 + 1, 2, none⟩) (by simp; omega) _
theorem two_new (w : World) (o p : Obj) : Below w.heap.size w ((w.alloc o).alloc p).drew := (((Below.refl _ _).alloc (Nat.le_refl _) _).alloc (by simp) _).drew
theorem one_new (w : World) (o : Obj) : Below w.heap.size w (w.alloc o).drew := ((Below.refl _ _).alloc (Nat.le_refl _) _).drew

theorem conv_new (d : UInt8) (W : World) : (convert 22 9 (.slice (some ⟨W.heap.size, 0, none⟩) 1 1)).run Tryz.prog (W.alloc (.cells #[.int .u8 d.toNat] 5)).drew = .ok (.string ⟨#[d]⟩) (W.alloc (.cells #[.int .u8 d.toNat] 5)).drew :=
  conv_at d _ _ ((Blk.new W [.int .u8 d.toNat] 5).cell 0)
theorem last_fine : ∀ (l : List It) (s : Pg.St), (s.text ≠ [] → Fine s.last) → (∀ x ∈ l, Fine x) → ((l.foldl Pg.step s).text ≠ [] → Fine (l.foldl Pg.step s).last)
  | [], _, hs, _ => hs
  | x :: l, s, hs, hl => by
    rw [List.foldl_cons]
    refine last_fine l _ ?_ (fun y hy => hl y (by simp [hy]))
    have hx := hl x (by simp)
    unfold Pg.step
    cases Dc.ends x
    · simp only [Bool.false_eq_true, if_false]
      split <;> exact fun _ => hx
    · exact fun h => absurd rfl h
theorem run_fine {l : List It} (hF : ∀ x ∈ l, Fine x) (k : Nat) : (Pg.run (l.take k)).text ≠ [] → Fine (Pg.run (l.take k)).last :=
  last_fine (l.take k) Pg.st0 (fun h => absurd rfl h) (fun x hx => hF x (List.mem_of_mem_take hx))
theorem box_blk (x : It) (w : World) : Blk (boxed x w) w.heap.size [.int .u8 x.c.toNat, .int .i64 x.m, .string x.l] 39 := Blk.new w [.int .u8 x.c.toNat, .int .i64 x.m, .string x.l] 39

theorem shut3 {h : Nat} {w : World} {t i : List UInt8} {y : It} (hV : Vars3 w (h + 1) (h + 2) h t y i) : Vars3 (w.setCell ⟨h, 0, none⟩ (.string ⟨#[]⟩)) (h + 1) (h + 2) h t y [] ∧ Below h w (w.setCell ⟨h, 0, none⟩ (.string ⟨#[]⟩)) :=
  ⟨⟨hV.text.other ⟨h, 0, none⟩ _ (by simp), hV.last.other ⟨h, 0, none⟩ _ (by simp), hV.ins.set 0 _, hV.nti, hV.ntl, hV.nli⟩, (Below.refl h w).setCell (Nat.le_refl _) _⟩
theorem out_eq (P L nm I : List UInt8) : B (P ++ L ++ tagL nm I) = B P ++ B L ++ ⟨#[60]⟩ ++ B nm ++ ⟨#[62]⟩ ++ B I ++ ⟨#[60, 47]⟩ ++ B nm ++ ⟨#[62]⟩ := by
  unfold tagL
  simp only [← B_app]
  have e1 : B [60] = ⟨#[60]⟩ := rfl
  have e2 : B [62] = ⟨#[62]⟩ := rfl
  have e3 : B [60, 47] = ⟨#[60, 47]⟩ := rfl
  rw [e1, e2, e3]
  simp only [ByteArray.append_assoc]
theorem out_eq0 (P nm I : List UInt8) : B (P ++ [] ++ tagL nm I) = B P ++ ⟨#[60]⟩ ++ B nm ++ ⟨#[62]⟩ ++ B I ++ ⟨#[60, 47]⟩ ++ B nm ++ ⟨#[62]⟩ := by
  rw [List.append_nil]
  have := out_eq [] P nm I
  have e0 : B ([] : List UInt8) ++ B P = B P := by rw [B_app]; rfl
  rw [e0] at this
  exact this

/-- The world in which the reference's loop begins. -/
def laid3 (w : World) : World := ((w.alloc (.cells #[.string ⟨#[]⟩] 9)).alloc (.cells #[.string ⟨#[]⟩] 9)).alloc (.cells #[.int .u8 0, .int .i64 0, .string ⟨#[]⟩] 39)

theorem start3 (l : List It) (w : World) : Loop w (laid3 w) l 0 (.string ⟨#[]⟩) (.bool false) := by
  have hs : (laid3 w).heap.size = w.heap.size + 3 := by simp [laid3]
  refine ⟨rfl, rfl, ⟨⟨0, 0, ⟨#[]⟩⟩, ⟨?_, ?_, ?_, by omega, by omega, by omega⟩, fun h => absurd rfl h⟩, ?_⟩
  · exact (Blk.newAt (w.alloc (.cells #[.string ⟨#[]⟩] 9)) (w.heap.size + 1) [.string ⟨#[]⟩] 9 (by simp)).alloc _
  · exact Blk.newAt ((w.alloc (.cells #[.string ⟨#[]⟩] 9)).alloc (.cells #[.string ⟨#[]⟩] 9)) (w.heap.size + 2) [.int .u8 0, .int .i64 0, .string ⟨#[]⟩] 39 (by simp)
  · exact ((Blk.new w [.string ⟨#[]⟩] 9).alloc _).alloc _
  · exact (((Below.refl _ _).alloc (Nat.le_refl _) _).alloc (by simp) _).alloc (by simp; omega) _
/-- What a page at work may weigh. -/
theorem weighs {l : List It} (hF : ∀ x ∈ l, Fine x) (h80 : l.length ≤ 80) (k : Nat) : (Pg.bytes (Pg.run (l.take k)).page).length ≤ 16480 ∧ (Pg.bytes (Pg.run (l.take k)).ins).length ≤ 16480 ∧ (Pg.run (l.take k)).text.length ≤ 3000 ∧ (Pg.bytes (Pg.flush (Pg.run (l.take k))).ins).length ≤ 16480 := by
  have hall : ∀ x ∈ l.take k, x.l.size ≤ 24 := fun x hx => (hF x (List.mem_of_mem_take hx)).short
  have h := Pg.run_weight (l.take k) hall
  have h2 : (l.take k).length ≤ l.length := List.length_take_le' _ _
  have h3 := Pg.flush_weight (Pg.run (l.take k)) (Pg.last_short (l.take k) Pg.st0 (fun h => absurd rfl h) hall)
  have e1 : Pg.weight (Pg.run (l.take k)) = (Pg.bytes (Pg.run (l.take k)).page).length + (Pg.bytes (Pg.run (l.take k)).ins).length + Pg.pend (Pg.run (l.take k)).text := rfl
  have e2 : Pg.weight (Pg.flush (Pg.run (l.take k))) = (Pg.bytes (Pg.flush (Pg.run (l.take k))).page).length + (Pg.bytes (Pg.flush (Pg.run (l.take k))).ins).length + 0 := rfl
  refine ⟨by omega, by omega, ?_, by omega⟩
  unfold Pg.pend at e1
  cases ht : (Pg.run (l.take k)).text.isEmpty
  · rw [ht] at e1
    simp at e1
    omega
  · have : (Pg.run (l.take k)).text = [] := by simpa using ht
    rw [this]
    simp

theorem tail_as {S : Pg.St} {y : It} (h : S.text ≠ [] → y = S.last) : Pg.tail y S.text = Pg.tail S.last S.text := by
  by_cases ht : S.text = []
  · rw [ht]; rfl
  · rw [h ht]
theorem Loop.go {w w2 : World} {l : List It} {k : Nat} {x : It} {S : Pg.St} (hR : Pg.run (l.take (k + 1)) = Pg.step S x) (he : Dc.ends x = false) (hd : S.text.isEmpty = true ∨ Pg.diff S.last x = false)
    (hV : Vars3 w2 (w.heap.size + 1) (w.heap.size + 2) w.heap.size (S.text ++ [x.c]) x (Pg.bytes S.ins)) (hb : Below w.heap.size w w2) : Loop w w2 l (k + 1) (.string (B (Pg.bytes S.page))) (.bool S.list) := by
  have hs : Pg.step S x = { S with text := S.text ++ [x.c], last := x } := by
    unfold Pg.step
    rw [if_neg (by rw [he]; decide), if_neg]
    rcases hd with h | h <;> rw [h] <;> simp
  rw [hs] at hR
  refine ⟨by rw [hR], by rw [hR], ⟨x, ?_, fun _ => by rw [hR]⟩, hb⟩
  rw [hR]
  exact hV
theorem Loop.new {w w2 : World} {l : List It} {k : Nat} {x y : It} {S : Pg.St} (hR : Pg.run (l.take (k + 1)) = Pg.step S x) (he : Dc.ends x = false) (ht : S.text.isEmpty = false) (hd : Pg.diff S.last x = true) (hy : S.text ≠ [] → y = S.last)
    (hV : Vars3 w2 (w.heap.size + 1) (w.heap.size + 2) w.heap.size [x.c] x (Pg.bytes S.ins ++ Pg.bytes (Pg.tail y S.text))) (hb : Below w.heap.size w w2) : Loop w w2 l (k + 1) (.string (B (Pg.bytes S.page))) (.bool S.list) := by
  have hs : Pg.step S x = { Pg.flush S with text := [x.c], last := x } := by
    unfold Pg.step
    rw [if_neg (by rw [he]; decide), if_pos (by rw [ht, hd]; rfl)]
  rw [hs] at hR
  refine ⟨by rw [hR]; rfl, by rw [hR]; rfl, ⟨x, ?_, fun _ => by rw [hR]⟩, hb⟩
  rw [hR]
  rw [tail_as hy, ← Pg.bytes_append] at hV
  exact hV
theorem Loop.stop {w w2 : World} {l : List It} {k : Nat} {x y : It} {S : Pg.St} (hR : Pg.run (l.take (k + 1)) = Pg.step S x) (he : Dc.ends x = true) (hy : S.text ≠ [] → y = S.last)
    (hV : Vars3 w2 (w.heap.size + 1) (w.heap.size + 2) w.heap.size [] y []) (hb : Below w.heap.size w w2) :
    Loop w w2 l (k + 1) (.string (B (Pg.bytes S.page ++ Pg.bytes (Pg.lists S.list (x.m == 2)) ++ tagL (Pg.name (Pg.kind x.m)) (Pg.bytes S.ins ++ Pg.bytes (Pg.tail y S.text))))) (.bool (x.m == 2)) := by
  have hs : Pg.step S x = Pg.endB (Pg.flush S) x.m := by
    unfold Pg.step
    rw [if_pos he]
  rw [hs] at hR
  refine ⟨?_, by rw [hR]; rfl, ⟨y, ?_, fun h => by rw [hR] at h; exact absurd rfl h⟩, hb⟩
  · rw [hR, tail_as hy]
    show _ = Value.string (B (Pg.bytes (S.page ++ Pg.lists S.list (x.m == 2) ++ .op (Pg.kind x.m) :: ((S.ins ++ Pg.tail S.last S.text) ++ [.cl (Pg.kind x.m)]))))
    rw [Pg.bytes_append, Pg.bytes_append, Pg.bytes_cons, Pg.bytes_append, Pg.bytes_append, Pg.bytes_cons, Pg.bytes_nil]
    simp [tagL, Pg.enc]
  · rw [hR]
    exact hV

end Go.Proofs.YtpcaiechaakhnabGreatDoor
