/-
  The reference's PageOf of any document.
-/
import Derived.Test.YtmifcioccnmlaaaDoorXr
namespace Go.Proofs.YtmifcioccnmlaaaDoor
open Go.RowKit

/-- What holds of an item of a document. -/
structure Fine (x : It) : Prop where
  lo : 0 ≤ x.m
  hi : x.m ≤ 3
  short : x.l.size ≤ 24
  ends : Dc.ends x = true → x.l = B []
theorem Fine.ok {x : It} (h : Fine x) : Pg.Ok x := ⟨h.lo, h.hi, h.ends⟩
/-- The reference's loop: what stands in its variables behind the first k items. -/
structure Loop (w0 w : World) (l : List It) (k : Nat) (o li : Value) : Prop where
  out : o = .string (B (Pg.bytes (Pg.run (l.take k)).page))
  list : li = .bool (Pg.run (l.take k)).list
  vars : ∃ y, Vars3 w (w0.heap.size + 1) (w0.heap.size + 2) w0.heap.size (Pg.run (l.take k)).text y (Pg.bytes (Pg.run (l.take k)).ins) ∧ ((Pg.run (l.take k)).text ≠ [] → y = (Pg.run (l.take k)).last)
  below : Below w0.heap.size w0 w

theorem conv_at (d : UInt8) (g : Nat) (W : World) (h : W.cell? ⟨g, 0, none⟩ = some (.int .u8 d.toNat)) : (convert 52 9 (.slice (some ⟨g, 0, none⟩) 1 1)).run Tryd.prog W = .ok (.string ⟨#[d]⟩) W := by
  have := run_convert_bytes_back (P := Tryd.prog) W 52 9 5 ⟨g, 0, none⟩ 1 [d] Tryd.underlying52 Tryd.underlying5 Tryd.underlying9 (fun j hj => by
    simp at hj
    subst hj
    exact h)
  exact this
theorem conv_box (x : It) (w : World) : (convert 52 9 (.slice (some ⟨w.heap.size + 1, 0, none⟩) 1 1)).run Tryd.prog ((w.alloc (.cells #[.int .u8 x.c.toNat, .int .i64 x.m, .string x.l] 36)).alloc (.cells #[.int .u8 x.c.toNat] 5)).drew = .ok (.string ⟨#[x.c]⟩) ((w.alloc (.cells #[.int .u8 x.c.toNat, .int .i64 x.m, .string x.l] 36)).alloc (.cells #[.int .u8 x.c.toNat] 5)).drew := by
  refine conv_at x.c _ _ ?_
  exact (Blk.newAt (w.alloc (.cells #[.int .u8 x.c.toNat, .int .i64 x.m, .string x.l] 36)) (w.heap.size + 1) [.int .u8 x.c.toNat] 5 (by simp)).cell 0

/-- What the loop lays of a character. -/
def put4 (h : Nat) (t : List UInt8) (x : It) (w : World) : World := (((w.setCell ⟨h + 1, 0, none⟩ (.string (B t ++ ⟨#[x.c]⟩))).setCell ⟨h + 1 + 1, 0, none⟩ (.int .u8 x.c.toNat)).setCell ⟨h + 1 + 1, 1, none⟩ (.int .i64 x.m)).setCell ⟨h + 1 + 1, 2, none⟩ (.string x.l)
theorem put_char {h : Nat} {w : World} {t i : List UInt8} {y : It} (x : It) (hV : Vars3 w (h + 1) (h + 2) h t y i) : Vars3 (put4 h t x w) (h + 1) (h + 2) h (t ++ [x.c]) x i ∧ Below h w (put4 h t x w) := by
  refine ⟨⟨?_, ?_, ?_, hV.nti, hV.ntl, hV.nli⟩, ?_⟩
  · have h1 := hV.text.set 0 (.string (B t ++ ⟨#[x.c]⟩))
    rw [show B t ++ (⟨#[x.c]⟩ : ByteArray) = B (t ++ [x.c]) from B_app t [x.c]] at h1
    unfold put4
    rw [show B t ++ (⟨#[x.c]⟩ : ByteArray) = B (t ++ [x.c]) from B_app t [x.c]]
    exact ((h1.other ⟨h + 1 + 1, 0, none⟩ _ (by simp)).other ⟨h + 1 + 1, 1, none⟩ _ (by simp)).other ⟨h + 1 + 1, 2, none⟩ _ (by simp)
  · exact (((hV.last.other ⟨h + 1, 0, none⟩ _ (by simp)).set 0 _).set 1 _).set 2 _
  · exact (((hV.ins.other ⟨h + 1, 0, none⟩ _ (by simp)).other ⟨h + 1 + 1, 0, none⟩ _ (by simp; omega)).other ⟨h + 1 + 1, 1, none⟩ _ (by simp; omega)).other ⟨h + 1 + 1, 2, none⟩ _ (by simp; omega)
  · exact ((((Below.refl h w).setCell (p := ⟨h + 1, 0, none⟩) (by simp) _).setCell (p := ⟨h + 1 + 1, 0, none⟩) (by simp; omega) _).setCell (p := ⟨h + 1 + 1, 1, none⟩) (by simp; omega) _).setCell (p := ⟨h + 1 + 1, 2, none⟩) (by simp; omega) _
theorem two_new (w : World) (o p : Obj) : Below w.heap.size w ((w.alloc o).alloc p).drew := (((Below.refl _ _).alloc (Nat.le_refl _) _).alloc (by simp) _).drew
theorem one_new (w : World) (o : Obj) : Below w.heap.size w (w.alloc o).drew := ((Below.refl _ _).alloc (Nat.le_refl _) _).drew

theorem conv_new (d : UInt8) (W : World) : (convert 52 9 (.slice (some ⟨W.heap.size, 0, none⟩) 1 1)).run Tryd.prog (W.alloc (.cells #[.int .u8 d.toNat] 5)).drew = .ok (.string ⟨#[d]⟩) (W.alloc (.cells #[.int .u8 d.toNat] 5)).drew :=
  conv_at d _ _ ((Blk.new W [.int .u8 d.toNat] 5).cell 0)
theorem last_fine : ∀ (l : List It) (s : Pg.St), (s.text ≠ [] → Fine s.last) → (∀ x ∈ l, Fine x) → ((l.foldl Pg.step s).text ≠ [] → Fine (l.foldl Pg.step s).last)
  | [], _, hs, _ => hs
  | x :: l, s, hs, hl => by
    rw [List.foldl_cons]
    refine last_fine l _ ?_ (fun y hy => hl y (by simp [hy]))
    have hx := hl x (by simp)
    unfold Pg.step
    cases Dc.ends x
    · simp only [Bool.false_eq_true, if_false]
      split <;> exact fun _ => hx
    · exact fun h => absurd rfl h
theorem run_fine {l : List It} (hF : ∀ x ∈ l, Fine x) (k : Nat) : (Pg.run (l.take k)).text ≠ [] → Fine (Pg.run (l.take k)).last :=
  last_fine (l.take k) Pg.st0 (fun h => absurd rfl h) (fun x hx => hF x (List.mem_of_mem_take hx))
theorem box_blk (x : It) (w : World) : Blk (boxed x w) w.heap.size [.int .u8 x.c.toNat, .int .i64 x.m, .string x.l] 36 := Blk.new w [.int .u8 x.c.toNat, .int .i64 x.m, .string x.l] 36

theorem shut3 {h : Nat} {w : World} {t i : List UInt8} {y : It} (hV : Vars3 w (h + 1) (h + 2) h t y i) : Vars3 (w.setCell ⟨h, 0, none⟩ (.string ⟨#[]⟩)) (h + 1) (h + 2) h t y [] ∧ Below h w (w.setCell ⟨h, 0, none⟩ (.string ⟨#[]⟩)) :=
  ⟨⟨hV.text.other ⟨h, 0, none⟩ _ (by simp), hV.last.other ⟨h, 0, none⟩ _ (by simp), hV.ins.set 0 _, hV.nti, hV.ntl, hV.nli⟩, (Below.refl h w).setCell (Nat.le_refl _) _⟩
theorem out_eq (P L nm I : List UInt8) : B (P ++ L ++ tagL nm I) = B P ++ B L ++ ⟨#[60]⟩ ++ B nm ++ ⟨#[62]⟩ ++ B I ++ ⟨#[60, 47]⟩ ++ B nm ++ ⟨#[62]⟩ := by
  unfold tagL
  simp only [← B_app]
  have e1 : B [60] = ⟨#[60]⟩ := rfl
  have e2 : B [62] = ⟨#[62]⟩ := rfl
  have e3 : B [60, 47] = ⟨#[60, 47]⟩ := rfl
  rw [e1, e2, e3]
  simp only [ByteArray.append_assoc]
theorem out_eq0 (P nm I : List UInt8) : B (P ++ [] ++ tagL nm I) = B P ++ ⟨#[60]⟩ ++ B nm ++ ⟨#[62]⟩ ++ B I ++ ⟨#[60, 47]⟩ ++ B nm ++ ⟨#[62]⟩ := by
  rw [List.append_nil]
  have := out_eq [] P nm I
  have e0 : B ([] : List UInt8) ++ B P = B P := by rw [B_app]; rfl
  rw [e0] at this
  exact this

/-- The world in which the reference's loop begins. -/
def laid3 (w : World) : World := ((w.alloc (.cells #[.string ⟨#[]⟩] 9)).alloc (.cells #[.string ⟨#[]⟩] 9)).alloc (.cells #[.int .u8 0, .int .i64 0, .string ⟨#[]⟩] 36)

theorem start3 (l : List It) (w : World) : Loop w (laid3 w) l 0 (.string ⟨#[]⟩) (.bool false) := by
  have hs : (laid3 w).heap.size = w.heap.size + 3 := by simp [laid3]
  refine ⟨rfl, rfl, ⟨⟨0, 0, ⟨#[]⟩⟩, ⟨?_, ?_, ?_, by omega, by omega, by omega⟩, fun h => absurd rfl h⟩, ?_⟩
  · exact (Blk.newAt (w.alloc (.cells #[.string ⟨#[]⟩] 9)) (w.heap.size + 1) [.string ⟨#[]⟩] 9 (by simp)).alloc _
  · exact Blk.newAt ((w.alloc (.cells #[.string ⟨#[]⟩] 9)).alloc (.cells #[.string ⟨#[]⟩] 9)) (w.heap.size + 2) [.int .u8 0, .int .i64 0, .string ⟨#[]⟩] 36 (by simp)
  · exact ((Blk.new w [.string ⟨#[]⟩] 9).alloc _).alloc _
  · exact (((Below.refl _ _).alloc (Nat.le_refl _) _).alloc (by simp) _).alloc (by simp; omega) _
/-- What a page at work may weigh. -/
theorem weighs {l : List It} (hF : ∀ x ∈ l, Fine x) (h80 : l.length ≤ 80) (k : Nat) : (Pg.bytes (Pg.run (l.take k)).page).length ≤ 16480 ∧ (Pg.bytes (Pg.run (l.take k)).ins).length ≤ 16480 ∧ (Pg.run (l.take k)).text.length ≤ 3000 ∧ (Pg.bytes (Pg.flush (Pg.run (l.take k))).ins).length ≤ 16480 := by
  have hall : ∀ x ∈ l.take k, x.l.size ≤ 24 := fun x hx => (hF x (List.mem_of_mem_take hx)).short
  have h := Pg.run_weight (l.take k) hall
  have h2 : (l.take k).length ≤ l.length := List.length_take_le' _ _
  have h3 := Pg.flush_weight (Pg.run (l.take k)) (Pg.last_short (l.take k) Pg.st0 (fun h => absurd rfl h) hall)
  have e1 : Pg.weight (Pg.run (l.take k)) = (Pg.bytes (Pg.run (l.take k)).page).length + (Pg.bytes (Pg.run (l.take k)).ins).length + Pg.pend (Pg.run (l.take k)).text := rfl
  have e2 : Pg.weight (Pg.flush (Pg.run (l.take k))) = (Pg.bytes (Pg.flush (Pg.run (l.take k))).page).length + (Pg.bytes (Pg.flush (Pg.run (l.take k))).ins).length + 0 := rfl
  refine ⟨by omega, by omega, ?_, by omega⟩
  unfold Pg.pend at e1
  cases ht : (Pg.run (l.take k)).text.isEmpty
  · rw [ht] at e1
    simp at e1
    omega
  · have : (Pg.run (l.take k)).text = [] := by simpa using ht
    rw [this]
    simp

theorem tail_as {S : Pg.St} {y : It} (h : S.text ≠ [] → y = S.last) : Pg.tail y S.text = Pg.tail S.last S.text := by
  by_cases ht : S.text = []
  · rw [ht]; rfl
  · rw [h ht]
theorem Loop.go {w w2 : World} {l : List It} {k : Nat} {x : It} {S : Pg.St} (hR : Pg.run (l.take (k + 1)) = Pg.step S x) (he : Dc.ends x = false) (hd : S.text.isEmpty = true ∨ Pg.diff S.last x = false)
    (hV : Vars3 w2 (w.heap.size + 1) (w.heap.size + 2) w.heap.size (S.text ++ [x.c]) x (Pg.bytes S.ins)) (hb : Below w.heap.size w w2) : Loop w w2 l (k + 1) (.string (B (Pg.bytes S.page))) (.bool S.list) := by
  have hs : Pg.step S x = { S with text := S.text ++ [x.c], last := x } := by
    unfold Pg.step
    rw [if_neg (by rw [he]; decide), if_neg]
    rcases hd with h | h <;> rw [h] <;> simp
  rw [hs] at hR
  refine ⟨by rw [hR], by rw [hR], ⟨x, ?_, fun _ => by rw [hR]⟩, hb⟩
  rw [hR]
  exact hV
theorem Loop.new {w w2 : World} {l : List It} {k : Nat} {x y : It} {S : Pg.St} (hR : Pg.run (l.take (k + 1)) = Pg.step S x) (he : Dc.ends x = false) (ht : S.text.isEmpty = false) (hd : Pg.diff S.last x = true) (hy : S.text ≠ [] → y = S.last)
    (hV : Vars3 w2 (w.heap.size + 1) (w.heap.size + 2) w.heap.size [x.c] x (Pg.bytes S.ins ++ Pg.bytes (Pg.tail y S.text))) (hb : Below w.heap.size w w2) : Loop w w2 l (k + 1) (.string (B (Pg.bytes S.page))) (.bool S.list) := by
  have hs : Pg.step S x = { Pg.flush S with text := [x.c], last := x } := by
    unfold Pg.step
    rw [if_neg (by rw [he]; decide), if_pos (by rw [ht, hd]; rfl)]
  rw [hs] at hR
  refine ⟨by rw [hR]; rfl, by rw [hR]; rfl, ⟨x, ?_, fun _ => by rw [hR]⟩, hb⟩
  rw [hR]
  rw [tail_as hy, ← Pg.bytes_append] at hV
  exact hV
theorem Loop.stop {w w2 : World} {l : List It} {k : Nat} {x y : It} {S : Pg.St} (hR : Pg.run (l.take (k + 1)) = Pg.step S x) (he : Dc.ends x = true) (hy : S.text ≠ [] → y = S.last)
    (hV : Vars3 w2 (w.heap.size + 1) (w.heap.size + 2) w.heap.size [] y []) (hb : Below w.heap.size w w2) :
    Loop w w2 l (k + 1) (.string (B (Pg.bytes S.page ++ Pg.bytes (Pg.lists S.list (x.m == 2)) ++ tagL (Pg.name (Pg.kind x.m)) (Pg.bytes S.ins ++ Pg.bytes (Pg.tail y S.text))))) (.bool (x.m == 2)) := by
  have hs : Pg.step S x = Pg.endB (Pg.flush S) x.m := by
    unfold Pg.step
    rw [if_pos he]
  rw [hs] at hR
  refine ⟨?_, by rw [hR]; rfl, ⟨y, ?_, fun h => by rw [hR] at h; exact absurd rfl h⟩, hb⟩
  · rw [hR, tail_as hy]
    show _ = Value.string (B (Pg.bytes (S.page ++ Pg.lists S.list (x.m == 2) ++ .op (Pg.kind x.m) :: ((S.ins ++ Pg.tail S.last S.text) ++ [.cl (Pg.kind x.m)]))))
    rw [Pg.bytes_append, Pg.bytes_append, Pg.bytes_cons, Pg.bytes_append, Pg.bytes_append, Pg.bytes_cons, Pg.bytes_nil]
    simp [tagL, Pg.enc]
  · rw [hR]
    exact hV

set_option maxRecDepth 100000 in
set_option maxHeartbeats 6400000 in
theorem PageOf_any (ao : Option Addr) (n cap : Nat) (l : List It) (w : World) (hD : Doc w ao n cap l) (h80 : n ≤ 80) (hF : ∀ x ∈ l, Fine x) :
    Calls Tryd.prog 47 #[.slice ao n cap] w fun e w' => e = .returned (.string (B (Pg.page l))) ∧ Below w.heap.size w w' := by
  have HD : Hid (Doc w ao n cap l) := hD
  have HN : Hid (l.length = n) := hD.len
  have hcap := hD.room
  have hbig := hD.big
  have HF : Hid (∀ x ∈ l, Fine x) := hF
  clear hD hF
  obtain ⟨RES, hRES⟩ : ∃ R, B (Pg.page l) = R := ⟨_, rfl⟩
  have HRES : Hid (B (Pg.page l) = RES) := hRES
  rw [hRES]
  clear hRES
  go_enter Tryd.func47, Tryd.ntmps47
  go_wp2
  go_loopw [3, 5, 15] (fun o li i wr => ∃ k : Nat, k ≤ n ∧ i = .int .i64 k ∧ Loop w wr l k o li) (fun _ _ i _ => n - (intOf i).toNat)
  case atStart =>
    exact ⟨0, Nat.zero_le _, rfl, start3 l w⟩
  case round =>
    obtain ⟨k, hk, rfl, hL⟩ := hrel
    obtain ⟨rfl, rfl, ⟨y, hV, hy⟩, hb⟩ := hL
    obtain ⟨z1, z2, z3, z4⟩ := weighs HF.out (by rw [HN.out]; exact h80) k
    have HB : Hid (Below w.heap.size w wr) := hb
    have HV : Hid (Vars3 wr (w.heap.size + 1) (w.heap.size + 2) w.heap.size (Pg.run (l.take k)).text y (Pg.bytes (Pg.run (l.take k)).ins)) := hV
    have HY : Hid ((Pg.run (l.take k)).text ≠ [] → y = (Pg.run (l.take k)).last) := hy
    have HYF : Hid ((Pg.run (l.take k)).text ≠ [] → Fine (Pg.run (l.take k)).last) := run_fine HF.out k
    clear hb hV hy
    by_cases hlt : k < n
    · obtain ⟨b, off, rfl, A0⟩ := HD.out.lies (by omega)
      have hkl : k < l.length := by rw [HN.out]; exact hlt
      obtain ⟨hc0, hc1, hc2⟩ := (A0.below HB.out).get (List.getElem?_eq_getElem hkl)
      have HR : Hid (Pg.run (l.take (k + 1)) = Pg.step (Pg.run (l.take k)) l[k]) := Pg.run_take l k hkl
      have hfx := HF.out _ (List.getElem_mem hkl)
      generalize l[k] = x at *
      clear A0 hkl
      have HFX : Hid (Fine x) := hfx
      clear hfx
      generalize Pg.run (l.take k) = S at *
      have h6 : b < wr.heap.size := cell_lt hc0
      have c0 : wr.cell? ⟨w.heap.size + 1, 0, none⟩ = some (.string (B S.text)) := HV.out.text.cell 0
      have c1 : wr.cell? ⟨w.heap.size + 2, 1, none⟩ = some (.int .i64 y.m) := HV.out.last.cell 1
      have c2 : wr.cell? ⟨w.heap.size + 2, 2, none⟩ = some (.string y.l) := HV.out.last.cell 2
      have k0 := HV.out.text.lt
      have k1 := HV.out.last.lt
      have k2 := HV.out.ins.lt
      cases he : Dc.ends x
      · have hch : ((x.c.toNat : Int) != 10) = true := by have : Dc.ends x = ((x.c.toNat : Int) == 10) := rfl; rw [he] at this; rw [bne, ← this]; rfl
        cases ht : S.text.isEmpty
        · have hne : (B S.text).toList.isEmpty = false := by rw [Lib.toList_data, B_data]; exact ht
          have hte : S.text ≠ [] := by intro e; rw [e] at ht; cases ht
          have hyS : y = S.last := HY.out hte
          have HYS : Hid (y = S.last) := hyS
          have CF : Hid (∀ W, Vars3 W (w.heap.size + 1) (w.heap.size + 2) w.heap.size S.text y (Pg.bytes S.ins) → Calls Tryd.prog 84 #[.pointer (some ⟨w.heap.size + 1, 0, none⟩), .pointer (some ⟨w.heap.size + 2, 0, none⟩), .pointer (some ⟨w.heap.size, 0, none⟩)] W fun e w' => e = .returned (.tuple #[]) ∧ Vars3 w' (w.heap.size + 1) (w.heap.size + 2) w.heap.size [] y (Pg.bytes S.ins ++ Pg.bytes (Pg.tail y S.text)) ∧ Kept W w' [w.heap.size + 1, w.heap.size]) := fun W hW => flush_any _ _ _ _ y _ W hW z3 (by omega) (fun h => by rw [hyS]; exact ⟨(HYF.out h).short, (HYF.out h).lo, (HYF.out h).hi⟩)
          have VB : Hid (Vars3 (boxed x wr) (w.heap.size + 1) (w.heap.size + 2) w.heap.size S.text y (Pg.bytes S.ins)) := HV.out.far (boxed_below x wr)
          have BB : Hid (Below w.heap.size w (boxed x wr)) := HB.out.trans ((boxed_below x wr).mono HB.out.size)
          clear hte
          cases hm : (x.m != y.m)
          · cases hl : (x.l.toList == y.l.toList)
            · have hdf : Pg.diff S.last x = true := by unfold Pg.diff; rw [← hyS, hl]; simp
              have HDF : Hid (Pg.diff S.last x = true) := hdf
              clear hyS hdf
              go_wp2_with fail
              change Calls Tryd.prog 84 _ (boxed x wr) _
              refine (CF.out _ VB.out).mono ?_
              rintro e w1 ⟨rfl, hV1, hK⟩
              have hbx := hK.blk (box_blk x wr) (by simp; omega)
              have e0 : w1.cell? ⟨wr.heap.size, 0, none⟩ = some (.int .u8 x.c.toNat) := hbx.cell 0
              have e1 : w1.cell? ⟨wr.heap.size, 1, none⟩ = some (.int .i64 x.m) := hbx.cell 1
              have e2 : w1.cell? ⟨wr.heap.size, 2, none⟩ = some (.string x.l) := hbx.cell 2
              have e3 := hbx.lt
              have f0 : w1.cell? ⟨w.heap.size + 1, 0, none⟩ = some (.string (B [])) := hV1.text.cell 0
              have f1 : w1.cell? ⟨w.heap.size + 2, 0, none⟩ = some (.int .u8 y.c.toNat) := hV1.last.cell 0
              have f2 : w1.cell? ⟨w.heap.size + 2, 1, none⟩ = some (.int .i64 y.m) := hV1.last.cell 1
              have f3 : w1.cell? ⟨w.heap.size + 2, 2, none⟩ = some (.string y.l) := hV1.last.cell 2
              have y0 := hV1.text.frozen 0
              have y1 := hV1.last.frozen 0
              have y2 := hV1.last.frozen 1
              have y3 := hV1.last.frozen 2
              have q0 := B_size ([] : List UInt8)
              have hcv := conv_new x.c w1
              have g0 := hV1.text.lt
              have g1 := hV1.last.lt
              obtain ⟨p1, p2⟩ := put_char x hV1
              have hB1 : Below w.heap.size w w1 := BB.out.trans (hK.below (by have := BB.out.size; omega) (by simp))
              have HW : Hid (∀ W, Below (put4 w.heap.size [] x w1).heap.size (put4 w.heap.size [] x w1) W → Loop w W l (k + 1) (.string (B (Pg.bytes S.page))) (.bool S.list)) := fun W hW => Loop.new HR.out he ht HDF.out (fun _ => HYS.out) (p1.far hW) ((hB1.trans p2).trans (hW.mono (hB1.trans p2).size))
              clear p1 p2 hbx hB1 hV1 hK
              unfold put4 at HW
              generalize B ([] : List UInt8) = E0 at *
              go_wp2
              go_region
              go_wp2
              go_roundw
              case rel => exact ⟨k + 1, by omega, by go_num, HW.out _ (one_new _ _)⟩
              case measure => simp [intOf]; omega
            · have hdf : Pg.diff S.last x = false := by unfold Pg.diff; rw [← hyS, hm, hl]; rfl
              have HDF : Hid (Pg.diff S.last x = false) := hdf
              have hcv := conv_box x wr
              have y0 := HV.out.text.frozen 0
              have y1 := HV.out.last.frozen 0
              have y2 := HV.out.last.frozen 1
              have y3 := HV.out.last.frozen 2
              have d0 : wr.cell? ⟨w.heap.size + 2, 0, none⟩ = some (.int .u8 y.c.toNat) := HV.out.last.cell 0
              have q0 := B_size S.text
              obtain ⟨p1, p2⟩ := put_char x HV.out
              have HW : Hid (∀ W, Below (put4 w.heap.size S.text x wr).heap.size (put4 w.heap.size S.text x wr) W → Loop w W l (k + 1) (.string (B (Pg.bytes S.page))) (.bool S.list)) := fun W hW => Loop.go HR.out he (.inr HDF.out) (p1.far hW) ((HB.out.trans p2).trans (hW.mono (HB.out.trans p2).size))
              clear p1 p2 hyS hdf
              go_wp2
              go_region
              go_wp2
              go_roundw
              case rel => exact ⟨k + 1, by omega, by go_num, HW.out _ (two_new _ _ _)⟩
              case measure => simp [intOf]; omega
          · have hdf : Pg.diff S.last x = true := by unfold Pg.diff; rw [← hyS, hm]; rfl
            have HDF : Hid (Pg.diff S.last x = true) := hdf
            clear hyS hdf
            go_wp2_with fail
            change Calls Tryd.prog 84 _ (boxed x wr) _
            refine (CF.out _ VB.out).mono ?_
            rintro e w1 ⟨rfl, hV1, hK⟩
            have hbx := hK.blk (box_blk x wr) (by simp; omega)
            have e0 : w1.cell? ⟨wr.heap.size, 0, none⟩ = some (.int .u8 x.c.toNat) := hbx.cell 0
            have e1 : w1.cell? ⟨wr.heap.size, 1, none⟩ = some (.int .i64 x.m) := hbx.cell 1
            have e2 : w1.cell? ⟨wr.heap.size, 2, none⟩ = some (.string x.l) := hbx.cell 2
            have e3 := hbx.lt
            have f0 : w1.cell? ⟨w.heap.size + 1, 0, none⟩ = some (.string (B [])) := hV1.text.cell 0
            have f1 : w1.cell? ⟨w.heap.size + 2, 0, none⟩ = some (.int .u8 y.c.toNat) := hV1.last.cell 0
            have f2 : w1.cell? ⟨w.heap.size + 2, 1, none⟩ = some (.int .i64 y.m) := hV1.last.cell 1
            have f3 : w1.cell? ⟨w.heap.size + 2, 2, none⟩ = some (.string y.l) := hV1.last.cell 2
            have y0 := hV1.text.frozen 0
            have y1 := hV1.last.frozen 0
            have y2 := hV1.last.frozen 1
            have y3 := hV1.last.frozen 2
            have q0 := B_size ([] : List UInt8)
            have hcv := conv_new x.c w1
            have g0 := hV1.text.lt
            have g1 := hV1.last.lt
            obtain ⟨p1, p2⟩ := put_char x hV1
            have hB1 : Below w.heap.size w w1 := BB.out.trans (hK.below (by have := BB.out.size; omega) (by simp))
            have HW : Hid (∀ W, Below (put4 w.heap.size [] x w1).heap.size (put4 w.heap.size [] x w1) W → Loop w W l (k + 1) (.string (B (Pg.bytes S.page))) (.bool S.list)) := fun W hW => Loop.new HR.out he ht HDF.out (fun _ => HYS.out) (p1.far hW) ((hB1.trans p2).trans (hW.mono (hB1.trans p2).size))
            clear p1 p2 hbx hB1 hV1 hK
            unfold put4 at HW
            generalize B ([] : List UInt8) = E0 at *
            go_wp2
            go_region
            go_wp2
            go_roundw
            case rel => exact ⟨k + 1, by omega, by go_num, HW.out _ (one_new _ _)⟩
            case measure => simp [intOf]; omega
        · have hne : (B S.text).toList.isEmpty = true := by rw [Lib.toList_data, B_data]; exact ht
          have hcv := conv_box x wr
          have y0 := HV.out.text.frozen 0
          have y1 := HV.out.last.frozen 0
          have y2 := HV.out.last.frozen 1
          have y3 := HV.out.last.frozen 2
          have d0 : wr.cell? ⟨w.heap.size + 2, 0, none⟩ = some (.int .u8 y.c.toNat) := HV.out.last.cell 0
          have q0 := B_size S.text
          obtain ⟨p1, p2⟩ := put_char x HV.out
          have HW : Hid (∀ W, Below (put4 w.heap.size S.text x wr).heap.size (put4 w.heap.size S.text x wr) W → Loop w W l (k + 1) (.string (B (Pg.bytes S.page))) (.bool S.list)) := fun W hW => Loop.go HR.out he (.inl ht) (p1.far hW) ((HB.out.trans p2).trans (hW.mono (HB.out.trans p2).size))
          clear p1 p2
          go_wp2
          go_region
          go_wp2
          go_roundw
          case rel => exact ⟨k + 1, by omega, by go_num, HW.out _ (two_new _ _ _)⟩
          case measure => simp [intOf]; omega
      · have hch : ((x.c.toNat : Int) != 10) = false := by have : Dc.ends x = ((x.c.toNat : Int) == 10) := rfl; rw [he] at this; rw [bne, ← this]; rfl
        have CF : Hid (∀ W, Vars3 W (w.heap.size + 1) (w.heap.size + 2) w.heap.size S.text y (Pg.bytes S.ins) → Calls Tryd.prog 84 #[.pointer (some ⟨w.heap.size + 1, 0, none⟩), .pointer (some ⟨w.heap.size + 2, 0, none⟩), .pointer (some ⟨w.heap.size, 0, none⟩)] W fun e w' => e = .returned (.tuple #[]) ∧ Vars3 w' (w.heap.size + 1) (w.heap.size + 2) w.heap.size [] y (Pg.bytes S.ins ++ Pg.bytes (Pg.tail y S.text)) ∧ Kept W w' [w.heap.size + 1, w.heap.size]) := fun W hW => flush_any _ _ _ _ y _ W hW z3 (by omega) (fun h => by rw [HY.out h]; exact ⟨(HYF.out h).short, (HYF.out h).lo, (HYF.out h).hi⟩)
        have VB : Hid (Vars3 (boxed x wr) (w.heap.size + 1) (w.heap.size + 2) w.heap.size S.text y (Pg.bytes S.ins)) := HV.out.far (boxed_below x wr)
        have BB : Hid (Below w.heap.size w (boxed x wr)) := HB.out.trans ((boxed_below x wr).mono HB.out.size)
        have HLP : Hid (∀ W, Vars3 W (w.heap.size + 1) (w.heap.size + 2) w.heap.size [] y [] → Below w.heap.size w W → Loop w W l (k + 1) (.string (B (Pg.bytes S.page ++ Pg.bytes (Pg.lists S.list (x.m == 2)) ++ tagL (Pg.name (Pg.kind x.m)) (Pg.bytes S.ins ++ Pg.bytes (Pg.tail y S.text))))) (.bool (x.m == 2))) := fun W h1 h2 => Loop.stop HR.out he HY.out h1 h2
        have z5 : (Pg.bytes S.ins ++ Pg.bytes (Pg.tail y S.text)).length ≤ 16480 := by
          rw [tail_as HY.out, ← Pg.bytes_append]
          exact z4
        generalize Pg.bytes S.ins ++ Pg.bytes (Pg.tail y S.text) = I2 at *
        have hm4 : x.m = 0 ∨ x.m = 1 ∨ x.m = 2 ∨ x.m = 3 := by have := HFX.out.lo; have := HFX.out.hi; omega
        generalize Pg.bytes S.page = P at *
        generalize S.list = la at *
        have q1 := B_size P
        have q2 := B_size I2
        clear he
        cases la
        · rcases hm4 with hm | hm | hm | hm
          · have HLQ : Hid (∀ W, Vars3 W (w.heap.size + 1) (w.heap.size + 2) w.heap.size [] y [] → Below w.heap.size w W → Loop w W l (k + 1) (.string (B P ++ ⟨#[60]⟩ ++ ⟨#[112]⟩ ++ ⟨#[62]⟩ ++ B I2 ++ ⟨#[60, 47]⟩ ++ ⟨#[112]⟩ ++ ⟨#[62]⟩)) (.bool false)) := by
              intro W h1 h2
              have := HLP.out W h1 h2
              rw [hm] at this
              change Loop w W l (k + 1) (.string (B (P ++ [] ++ tagL [112] I2))) (.bool false) at this
              rw [out_eq0 P [112] I2] at this
              exact this
            have HM : Hid (x.m = 0) := hm
            clear HLP hm
            generalize B P = bP at *
            go_wp2_with fail
            change Calls Tryd.prog 84 _ (boxed x wr) _
            refine (CF.out _ VB.out).mono ?_
            rintro e w1 ⟨rfl, hV1, hK⟩
            have hbx := hK.blk (box_blk x wr) (by simp; omega)
            have e1 : w1.cell? ⟨wr.heap.size, 1, none⟩ = some (.int .i64 x.m) := hbx.cell 1
            rw [HM.out] at e1
            have e3 := hbx.lt
            have f0 : w1.cell? ⟨w.heap.size, 0, none⟩ = some (.string (B I2)) := hV1.ins.cell 0
            have y0 := hV1.ins.frozen 0
            have g0 := hV1.ins.lt
            obtain ⟨p1, p2⟩ := shut3 hV1
            have hB1 : Below w.heap.size w w1 := BB.out.trans (hK.below (by have := BB.out.size; omega) (by simp))
            have HW : Hid (∀ W, Below (w1.setCell ⟨w.heap.size, 0, none⟩ (.string ⟨#[]⟩)).heap.size (w1.setCell ⟨w.heap.size, 0, none⟩ (.string ⟨#[]⟩)) W → Loop w W l (k + 1) _ _) := fun W hW => HLQ.out W (p1.far hW) ((hB1.trans p2).trans (hW.mono (hB1.trans p2).size))
            clear p1 p2 hbx hB1 hV1 hK
            generalize B I2 = bI at *
            go_wp2
            go_roundw
            case rel => exact ⟨k + 1, by omega, by go_num, HW.out _ ((Below.refl _ _).alloc (Nat.le_refl _) _)⟩
            case measure => simp [intOf]; omega
          · have HLQ : Hid (∀ W, Vars3 W (w.heap.size + 1) (w.heap.size + 2) w.heap.size [] y [] → Below w.heap.size w W → Loop w W l (k + 1) (.string (B P ++ ⟨#[60]⟩ ++ ⟨#[104, 49]⟩ ++ ⟨#[62]⟩ ++ B I2 ++ ⟨#[60, 47]⟩ ++ ⟨#[104, 49]⟩ ++ ⟨#[62]⟩)) (.bool false)) := by
              intro W h1 h2
              have := HLP.out W h1 h2
              rw [hm] at this
              change Loop w W l (k + 1) (.string (B (P ++ [] ++ tagL [104, 49] I2))) (.bool false) at this
              rw [out_eq0 P [104, 49] I2] at this
              exact this
            have HM : Hid (x.m = 1) := hm
            clear HLP hm
            generalize B P = bP at *
            go_wp2_with fail
            change Calls Tryd.prog 84 _ (boxed x wr) _
            refine (CF.out _ VB.out).mono ?_
            rintro e w1 ⟨rfl, hV1, hK⟩
            have hbx := hK.blk (box_blk x wr) (by simp; omega)
            have e1 : w1.cell? ⟨wr.heap.size, 1, none⟩ = some (.int .i64 x.m) := hbx.cell 1
            rw [HM.out] at e1
            have e3 := hbx.lt
            have f0 : w1.cell? ⟨w.heap.size, 0, none⟩ = some (.string (B I2)) := hV1.ins.cell 0
            have y0 := hV1.ins.frozen 0
            have g0 := hV1.ins.lt
            obtain ⟨p1, p2⟩ := shut3 hV1
            have hB1 : Below w.heap.size w w1 := BB.out.trans (hK.below (by have := BB.out.size; omega) (by simp))
            have HW : Hid (∀ W, Below (w1.setCell ⟨w.heap.size, 0, none⟩ (.string ⟨#[]⟩)).heap.size (w1.setCell ⟨w.heap.size, 0, none⟩ (.string ⟨#[]⟩)) W → Loop w W l (k + 1) _ _) := fun W hW => HLQ.out W (p1.far hW) ((hB1.trans p2).trans (hW.mono (hB1.trans p2).size))
            clear p1 p2 hbx hB1 hV1 hK
            generalize B I2 = bI at *
            go_wp2
            go_roundw
            case rel => exact ⟨k + 1, by omega, by go_num, HW.out _ ((Below.refl _ _).alloc (Nat.le_refl _) _)⟩
            case measure => simp [intOf]; omega
          · have HLQ : Hid (∀ W, Vars3 W (w.heap.size + 1) (w.heap.size + 2) w.heap.size [] y [] → Below w.heap.size w W → Loop w W l (k + 1) (.string (B P ++ ⟨#[60, 117, 108, 62]⟩ ++ ⟨#[60]⟩ ++ ⟨#[108, 105]⟩ ++ ⟨#[62]⟩ ++ B I2 ++ ⟨#[60, 47]⟩ ++ ⟨#[108, 105]⟩ ++ ⟨#[62]⟩)) (.bool true)) := by
              intro W h1 h2
              have := HLP.out W h1 h2
              rw [hm] at this
              change Loop w W l (k + 1) (.string (B (P ++ [60, 117, 108, 62] ++ tagL [108, 105] I2))) (.bool true) at this
              rw [out_eq P [60, 117, 108, 62] [108, 105] I2] at this
              exact this
            have HM : Hid (x.m = 2) := hm
            clear HLP hm
            generalize B P = bP at *
            go_wp2_with fail
            change Calls Tryd.prog 84 _ (boxed x wr) _
            refine (CF.out _ VB.out).mono ?_
            rintro e w1 ⟨rfl, hV1, hK⟩
            have hbx := hK.blk (box_blk x wr) (by simp; omega)
            have e1 : w1.cell? ⟨wr.heap.size, 1, none⟩ = some (.int .i64 x.m) := hbx.cell 1
            rw [HM.out] at e1
            have e3 := hbx.lt
            have f0 : w1.cell? ⟨w.heap.size, 0, none⟩ = some (.string (B I2)) := hV1.ins.cell 0
            have y0 := hV1.ins.frozen 0
            have g0 := hV1.ins.lt
            obtain ⟨p1, p2⟩ := shut3 hV1
            have hB1 : Below w.heap.size w w1 := BB.out.trans (hK.below (by have := BB.out.size; omega) (by simp))
            have HW : Hid (∀ W, Below (w1.setCell ⟨w.heap.size, 0, none⟩ (.string ⟨#[]⟩)).heap.size (w1.setCell ⟨w.heap.size, 0, none⟩ (.string ⟨#[]⟩)) W → Loop w W l (k + 1) _ _) := fun W hW => HLQ.out W (p1.far hW) ((hB1.trans p2).trans (hW.mono (hB1.trans p2).size))
            clear p1 p2 hbx hB1 hV1 hK
            generalize B I2 = bI at *
            go_wp2
            go_roundw
            case rel => exact ⟨k + 1, by omega, by go_num, HW.out _ ((Below.refl _ _).alloc (Nat.le_refl _) _)⟩
            case measure => simp [intOf]; omega
          · have HLQ : Hid (∀ W, Vars3 W (w.heap.size + 1) (w.heap.size + 2) w.heap.size [] y [] → Below w.heap.size w W → Loop w W l (k + 1) (.string (B P ++ ⟨#[60]⟩ ++ ⟨#[104, 50]⟩ ++ ⟨#[62]⟩ ++ B I2 ++ ⟨#[60, 47]⟩ ++ ⟨#[104, 50]⟩ ++ ⟨#[62]⟩)) (.bool false)) := by
              intro W h1 h2
              have := HLP.out W h1 h2
              rw [hm] at this
              change Loop w W l (k + 1) (.string (B (P ++ [] ++ tagL [104, 50] I2))) (.bool false) at this
              rw [out_eq0 P [104, 50] I2] at this
              exact this
            have HM : Hid (x.m = 3) := hm
            clear HLP hm
            generalize B P = bP at *
            go_wp2_with fail
            change Calls Tryd.prog 84 _ (boxed x wr) _
            refine (CF.out _ VB.out).mono ?_
            rintro e w1 ⟨rfl, hV1, hK⟩
            have hbx := hK.blk (box_blk x wr) (by simp; omega)
            have e1 : w1.cell? ⟨wr.heap.size, 1, none⟩ = some (.int .i64 x.m) := hbx.cell 1
            rw [HM.out] at e1
            have e3 := hbx.lt
            have f0 : w1.cell? ⟨w.heap.size, 0, none⟩ = some (.string (B I2)) := hV1.ins.cell 0
            have y0 := hV1.ins.frozen 0
            have g0 := hV1.ins.lt
            obtain ⟨p1, p2⟩ := shut3 hV1
            have hB1 : Below w.heap.size w w1 := BB.out.trans (hK.below (by have := BB.out.size; omega) (by simp))
            have HW : Hid (∀ W, Below (w1.setCell ⟨w.heap.size, 0, none⟩ (.string ⟨#[]⟩)).heap.size (w1.setCell ⟨w.heap.size, 0, none⟩ (.string ⟨#[]⟩)) W → Loop w W l (k + 1) _ _) := fun W hW => HLQ.out W (p1.far hW) ((hB1.trans p2).trans (hW.mono (hB1.trans p2).size))
            clear p1 p2 hbx hB1 hV1 hK
            generalize B I2 = bI at *
            go_wp2
            go_roundw
            case rel => exact ⟨k + 1, by omega, by go_num, HW.out _ ((Below.refl _ _).alloc (Nat.le_refl _) _)⟩
            case measure => simp [intOf]; omega
        · rcases hm4 with hm | hm | hm | hm
          · have HLQ : Hid (∀ W, Vars3 W (w.heap.size + 1) (w.heap.size + 2) w.heap.size [] y [] → Below w.heap.size w W → Loop w W l (k + 1) (.string (B P ++ ⟨#[60, 47, 117, 108, 62]⟩ ++ ⟨#[60]⟩ ++ ⟨#[112]⟩ ++ ⟨#[62]⟩ ++ B I2 ++ ⟨#[60, 47]⟩ ++ ⟨#[112]⟩ ++ ⟨#[62]⟩)) (.bool false)) := by
              intro W h1 h2
              have := HLP.out W h1 h2
              rw [hm] at this
              change Loop w W l (k + 1) (.string (B (P ++ [60, 47, 117, 108, 62] ++ tagL [112] I2))) (.bool false) at this
              rw [out_eq P [60, 47, 117, 108, 62] [112] I2] at this
              exact this
            have HM : Hid (x.m = 0) := hm
            clear HLP hm
            generalize B P = bP at *
            go_wp2_with fail
            change Calls Tryd.prog 84 _ (boxed x wr) _
            refine (CF.out _ VB.out).mono ?_
            rintro e w1 ⟨rfl, hV1, hK⟩
            have hbx := hK.blk (box_blk x wr) (by simp; omega)
            have e1 : w1.cell? ⟨wr.heap.size, 1, none⟩ = some (.int .i64 x.m) := hbx.cell 1
            rw [HM.out] at e1
            have e3 := hbx.lt
            have f0 : w1.cell? ⟨w.heap.size, 0, none⟩ = some (.string (B I2)) := hV1.ins.cell 0
            have y0 := hV1.ins.frozen 0
            have g0 := hV1.ins.lt
            obtain ⟨p1, p2⟩ := shut3 hV1
            have hB1 : Below w.heap.size w w1 := BB.out.trans (hK.below (by have := BB.out.size; omega) (by simp))
            have HW : Hid (∀ W, Below (w1.setCell ⟨w.heap.size, 0, none⟩ (.string ⟨#[]⟩)).heap.size (w1.setCell ⟨w.heap.size, 0, none⟩ (.string ⟨#[]⟩)) W → Loop w W l (k + 1) _ _) := fun W hW => HLQ.out W (p1.far hW) ((hB1.trans p2).trans (hW.mono (hB1.trans p2).size))
            clear p1 p2 hbx hB1 hV1 hK
            generalize B I2 = bI at *
            go_wp2
            go_roundw
            case rel => exact ⟨k + 1, by omega, by go_num, HW.out _ ((Below.refl _ _).alloc (Nat.le_refl _) _)⟩
            case measure => simp [intOf]; omega
          · have HLQ : Hid (∀ W, Vars3 W (w.heap.size + 1) (w.heap.size + 2) w.heap.size [] y [] → Below w.heap.size w W → Loop w W l (k + 1) (.string (B P ++ ⟨#[60, 47, 117, 108, 62]⟩ ++ ⟨#[60]⟩ ++ ⟨#[104, 49]⟩ ++ ⟨#[62]⟩ ++ B I2 ++ ⟨#[60, 47]⟩ ++ ⟨#[104, 49]⟩ ++ ⟨#[62]⟩)) (.bool false)) := by
              intro W h1 h2
              have := HLP.out W h1 h2
              rw [hm] at this
              change Loop w W l (k + 1) (.string (B (P ++ [60, 47, 117, 108, 62] ++ tagL [104, 49] I2))) (.bool false) at this
              rw [out_eq P [60, 47, 117, 108, 62] [104, 49] I2] at this
              exact this
            have HM : Hid (x.m = 1) := hm
            clear HLP hm
            generalize B P = bP at *
            go_wp2_with fail
            change Calls Tryd.prog 84 _ (boxed x wr) _
            refine (CF.out _ VB.out).mono ?_
            rintro e w1 ⟨rfl, hV1, hK⟩
            have hbx := hK.blk (box_blk x wr) (by simp; omega)
            have e1 : w1.cell? ⟨wr.heap.size, 1, none⟩ = some (.int .i64 x.m) := hbx.cell 1
            rw [HM.out] at e1
            have e3 := hbx.lt
            have f0 : w1.cell? ⟨w.heap.size, 0, none⟩ = some (.string (B I2)) := hV1.ins.cell 0
            have y0 := hV1.ins.frozen 0
            have g0 := hV1.ins.lt
            obtain ⟨p1, p2⟩ := shut3 hV1
            have hB1 : Below w.heap.size w w1 := BB.out.trans (hK.below (by have := BB.out.size; omega) (by simp))
            have HW : Hid (∀ W, Below (w1.setCell ⟨w.heap.size, 0, none⟩ (.string ⟨#[]⟩)).heap.size (w1.setCell ⟨w.heap.size, 0, none⟩ (.string ⟨#[]⟩)) W → Loop w W l (k + 1) _ _) := fun W hW => HLQ.out W (p1.far hW) ((hB1.trans p2).trans (hW.mono (hB1.trans p2).size))
            clear p1 p2 hbx hB1 hV1 hK
            generalize B I2 = bI at *
            go_wp2
            go_roundw
            case rel => exact ⟨k + 1, by omega, by go_num, HW.out _ ((Below.refl _ _).alloc (Nat.le_refl _) _)⟩
            case measure => simp [intOf]; omega
          · have HLQ : Hid (∀ W, Vars3 W (w.heap.size + 1) (w.heap.size + 2) w.heap.size [] y [] → Below w.heap.size w W → Loop w W l (k + 1) (.string (B P ++ ⟨#[60]⟩ ++ ⟨#[108, 105]⟩ ++ ⟨#[62]⟩ ++ B I2 ++ ⟨#[60, 47]⟩ ++ ⟨#[108, 105]⟩ ++ ⟨#[62]⟩)) (.bool true)) := by
              intro W h1 h2
              have := HLP.out W h1 h2
              rw [hm] at this
              change Loop w W l (k + 1) (.string (B (P ++ [] ++ tagL [108, 105] I2))) (.bool true) at this
              rw [out_eq0 P [108, 105] I2] at this
              exact this
            have HM : Hid (x.m = 2) := hm
            clear HLP hm
            generalize B P = bP at *
            go_wp2_with fail
            change Calls Tryd.prog 84 _ (boxed x wr) _
            refine (CF.out _ VB.out).mono ?_
            rintro e w1 ⟨rfl, hV1, hK⟩
            have hbx := hK.blk (box_blk x wr) (by simp; omega)
            have e1 : w1.cell? ⟨wr.heap.size, 1, none⟩ = some (.int .i64 x.m) := hbx.cell 1
            rw [HM.out] at e1
            have e3 := hbx.lt
            have f0 : w1.cell? ⟨w.heap.size, 0, none⟩ = some (.string (B I2)) := hV1.ins.cell 0
            have y0 := hV1.ins.frozen 0
            have g0 := hV1.ins.lt
            obtain ⟨p1, p2⟩ := shut3 hV1
            have hB1 : Below w.heap.size w w1 := BB.out.trans (hK.below (by have := BB.out.size; omega) (by simp))
            have HW : Hid (∀ W, Below (w1.setCell ⟨w.heap.size, 0, none⟩ (.string ⟨#[]⟩)).heap.size (w1.setCell ⟨w.heap.size, 0, none⟩ (.string ⟨#[]⟩)) W → Loop w W l (k + 1) _ _) := fun W hW => HLQ.out W (p1.far hW) ((hB1.trans p2).trans (hW.mono (hB1.trans p2).size))
            clear p1 p2 hbx hB1 hV1 hK
            generalize B I2 = bI at *
            go_wp2
            go_roundw
            case rel => exact ⟨k + 1, by omega, by go_num, HW.out _ ((Below.refl _ _).alloc (Nat.le_refl _) _)⟩
            case measure => simp [intOf]; omega
          · have HLQ : Hid (∀ W, Vars3 W (w.heap.size + 1) (w.heap.size + 2) w.heap.size [] y [] → Below w.heap.size w W → Loop w W l (k + 1) (.string (B P ++ ⟨#[60, 47, 117, 108, 62]⟩ ++ ⟨#[60]⟩ ++ ⟨#[104, 50]⟩ ++ ⟨#[62]⟩ ++ B I2 ++ ⟨#[60, 47]⟩ ++ ⟨#[104, 50]⟩ ++ ⟨#[62]⟩)) (.bool false)) := by
              intro W h1 h2
              have := HLP.out W h1 h2
              rw [hm] at this
              change Loop w W l (k + 1) (.string (B (P ++ [60, 47, 117, 108, 62] ++ tagL [104, 50] I2))) (.bool false) at this
              rw [out_eq P [60, 47, 117, 108, 62] [104, 50] I2] at this
              exact this
            have HM : Hid (x.m = 3) := hm
            clear HLP hm
            generalize B P = bP at *
            go_wp2_with fail
            change Calls Tryd.prog 84 _ (boxed x wr) _
            refine (CF.out _ VB.out).mono ?_
            rintro e w1 ⟨rfl, hV1, hK⟩
            have hbx := hK.blk (box_blk x wr) (by simp; omega)
            have e1 : w1.cell? ⟨wr.heap.size, 1, none⟩ = some (.int .i64 x.m) := hbx.cell 1
            rw [HM.out] at e1
            have e3 := hbx.lt
            have f0 : w1.cell? ⟨w.heap.size, 0, none⟩ = some (.string (B I2)) := hV1.ins.cell 0
            have y0 := hV1.ins.frozen 0
            have g0 := hV1.ins.lt
            obtain ⟨p1, p2⟩ := shut3 hV1
            have hB1 : Below w.heap.size w w1 := BB.out.trans (hK.below (by have := BB.out.size; omega) (by simp))
            have HW : Hid (∀ W, Below (w1.setCell ⟨w.heap.size, 0, none⟩ (.string ⟨#[]⟩)).heap.size (w1.setCell ⟨w.heap.size, 0, none⟩ (.string ⟨#[]⟩)) W → Loop w W l (k + 1) _ _) := fun W hW => HLQ.out W (p1.far hW) ((hB1.trans p2).trans (hW.mono (hB1.trans p2).size))
            clear p1 p2 hbx hB1 hV1 hK
            generalize B I2 = bI at *
            go_wp2
            go_roundw
            case rel => exact ⟨k + 1, by omega, by go_num, HW.out _ ((Below.refl _ _).alloc (Nat.le_refl _) _)⟩
            case measure => simp [intOf]; omega
    · obtain rfl : k = n := by omega
      have hkk : l.take k = l := List.take_of_length_le (by rw [HN.out]; exact Nat.le_refl _)
      rw [hkk] at z1
      have HP : Hid (RES = B (Pg.bytes (Pg.run l).page ++ Pg.bytes (Pg.lists (Pg.run l).list false))) := by show _ = _; rw [← HRES.out]; unfold Pg.page Pg.toks Pg.fin; rw [Pg.bytes_append]
      rw [hkk]
      have q1 := B_size (Pg.bytes (Pg.run l).page)
      generalize Pg.bytes (Pg.run l).page = P at *
      generalize (Pg.run l).list = la at *
      clear hkk
      cases la
      · rw [show Pg.bytes (Pg.lists false false) = [] from rfl, List.append_nil] at HP
        go_wp2
        go_ret
        exact ⟨by rw [HP.out]; rfl, HB.out⟩
      · rw [show Pg.bytes (Pg.lists true false) = [60, 47, 117, 108, 62] from rfl, ← B_app] at HP
        go_wp2
        go_ret
        exact ⟨by rw [HP.out]; rfl, HB.out⟩
end Go.Proofs.YtmifcioccnmlaaaDoor
