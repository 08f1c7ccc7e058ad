/-
  Package server: what the operations of a log make of a document; whether it is a server.
-/
import Derived.Test.YtaigleblmbblcaaDoorVc
namespace Go.Proofs.YtaigleblmbblcaaDoor
open Go.RowKit
theorem cell_apart {w : World} {g : Nat} {a : Option Addr} {n c : Nat} {T : TypeId} (h : Blk w g [.slice a n c] T) {b o : Nat} {u : Value} (hu : w.cell? ⟨b, o, none⟩ = some u) (hs : ∀ a n c, u ≠ .slice a n c) : b ≠ g := by
  rintro rfl
  rw [h.cell o] at hu
  cases o with
  | zero => exact hs _ _ _ (Option.some.inj hu).symm
  | succ o => cases hu
theorem docN (w : World) : Doc w none 0 0 [] := ⟨fun x hx => absurd hx (by simp), rfl, Nat.le_refl _, by decide, fun h => absurd rfl h⟩
theorem Doc.poke {w : World} {a : Option Addr} {n c : Nat} {l : List It} {g : Nat} {a0 : Option Addr} {n0 c0 : Nat} {T : TypeId} (h : Doc w a n c l) (hB : Blk w g [.slice a0 n0 c0] T) (v : Value) : Doc (w.setCell ⟨g, 0, none⟩ v) a n c l :=
  ⟨h.fit, h.len, h.room, h.big, fun hn => by
    obtain ⟨b, off, e, hA⟩ := h.lies hn
    have hne : b ≠ g := cell_apart hB (hA.c 0 (by rw [h.len]; omega)) (fun _ _ _ e => by cases e)
    have hk := Below.heap_setCell w ⟨g, 0, none⟩ v b hne
    exact ⟨b, off, e, ⟨fun i hi => (World.cell?_of_block (w := w) hk).trans (hA.c i hi), fun i hi => (World.cell?_of_block (w := w) hk).trans (hA.m i hi), fun i hi => (World.cell?_of_block (w := w) hk).trans (hA.l i hi)⟩⟩⟩
theorem Row.poke {w : World} {a : Option Addr} {n c sz : Nat} {cs : List Value} {g : Nat} {a0 : Option Addr} {n0 c0 : Nat} {T : TypeId} (h : Row w a n c sz cs) (hB : Blk w g [.slice a0 n0 c0] T) (hs : n ≠ 0 → ∃ u, cs[0]? = some u ∧ ∀ a n c, u ≠ .slice a n c) (v : Value) : Row (w.setCell ⟨g, 0, none⟩ v) a n c sz cs :=
  ⟨h.len, h.room, h.big, fun hn => by
    obtain ⟨b, off, e, hc⟩ := h.lies hn
    obtain ⟨u, hu, hne⟩ := hs hn
    have hk := Below.heap_setCell w ⟨g, 0, none⟩ v b (cell_apart hB (hc 0 u hu) hne)
    exact ⟨b, off, e, fun j u hu => (World.cell?_of_block (w := w) hk).trans (hc j u hu)⟩⟩
theorem Ops.poke {w : World} {a : Option Addr} {n c : Nat} {vs : List PV} {g : Nat} {a0 : Option Addr} {n0 c0 : Nat} {T : TypeId} (h : Ops w a n c vs) (hB : Blk w g [.slice a0 n0 c0] T) (v : Value) : Ops (w.setCell ⟨g, 0, none⟩ v) a n c vs :=
  ⟨h.row.poke hB (fun hn => by
    have hl := h.len
    match vs, hl with
    | [], hl => exact absurd hl.symm hn
    | x :: vs, _ => exact ⟨.int .i64 x.kind, rfl, fun _ _ _ e => by cases e⟩) v, fun x hx => ⟨(h.pts x hx).doc.poke hB v, (h.pts x hx).fit⟩⟩
theorem Ents.poke {w : World} {a : Option Addr} {n c : Nat} {es : List EV} {g : Nat} {a0 : Option Addr} {n0 c0 : Nat} {T : TypeId} (h : Ents w a n c es) (hB : Blk w g [.slice a0 n0 c0] T) (v : Value) : Ents (w.setCell ⟨g, 0, none⟩ v) a n c es :=
  ⟨h.row.poke hB (fun hn => by
    have hl := h.len
    match es, hl with
    | [], hl => exact absurd hl.symm hn
    | x :: es, _ => exact ⟨.int .i64 x.who, rfl, fun _ _ _ e => by cases e⟩) v, fun x hx => (h.ops x hx).poke hB v⟩
theorem Sch.poke {w : World} {g : Nat} {a0 : Option Addr} {n0 c0 : Nat} {T : TypeId} (h : Sch w) (hB : Blk w g [.slice a0 n0 c0] T) (v : Value) : Sch (w.setCell ⟨g, 0, none⟩ v) := by
  obtain ⟨t, fr, hh⟩ := h
  have hne : 0 ≠ g := by
    rintro rfl
    have e := hh.symm.trans hB
    simp only [Option.some.injEq, Obj.cells.injEq] at e
    have : scells.size = 1 := by rw [e.1]; rfl
    exact absurd this (by decide)
  exact ⟨t, fr, (Below.heap_setCell w ⟨g, 0, none⟩ v _ hne).trans hh⟩

set_option maxRecDepth 100000 in
set_option maxHeartbeats 1600000 in
theorem cloneD_any (ao : Option Addr) (n cap : Nat) (l : List It) (w : World) (hD : Doc w ao n cap l) (h0 : 0 < n) (h80 : n ≤ 80) :
    Calls Tryd.prog 33 #[.slice ao n cap] w fun e w' => (∃ g c, e = .returned (.slice (some ⟨g, 0, none⟩) n c) ∧ w.heap.size ≤ g ∧ Doc w' (some ⟨g, 0, none⟩) n c l) ∧ Below w.heap.size w w' := by
  obtain ⟨i0, hi, hz0, hz1, hz2⟩ := info_parts Tryd.infI
  obtain ⟨b, off, rfl, hA⟩ := hD.lies (by omega)
  have HA : Hid (At w b off l) := hA
  have HL : Hid (l.length = n) := hD.len
  have HFT : Hid (Fit l) := hD.fit
  have hnil : ∀ w, (binOp .eql 23 (.slice (some ⟨b, off, none⟩) n cap) (.slice none 0 0)).run Tryd.prog w = .ok (.bool false) w := fun w => Lib.run_eql_slice_nil (P := Tryd.prog) w 23 62 _ _ _ _ _ Tryd.underlying23
  clear hA hD
  go_enter Tryd.func33, Tryd.ntmps33
  go_wp2_with (at_builtin; refine wpList_append_lies _ rfl (.tmp 5) (.tmp 6) 23 rfl w.heap.size 62 i0 (.agg #[.int .u8 0, .int .i64 0, .string ⟨#[]⟩]) 3 32 Tryd.underlying23 hi hz0 hz1 hz2 rfl (by decide) _ 0 [] rfl ?c1 ⟨b, off, none⟩ n cap (itCells l) rfl ?c2 ?c3 (itCells_one l) h0 ?c4 ?c5 ?c6 _ rfl ?c7)
  case c1 => exact World.ownsRow_lit w #[] 0 (Nat.le_refl _) (by decide) rfl
  case c2 => rw [itCells_len, HL.out]
  case c3 => exact at_cells (HA.out.below ((Below.refl _ _).alloc (Nat.le_refl _) _))
  case c4 => unfold maxLen; omega
  case c5 => omega
  case c6 => simp
  case c7 =>
    intro g cap2 w1 hown hgrow _ _
    have H1 : Hid (Below w.heap.size w w1) := ((Below.refl w.heap.size w).alloc (Nat.le_refl _) (.cells #[] 62)).grown hgrow (by simp) (fun k hk => by simp [Value.ownBlock] at hk; omega)
    have hroom : n ≤ cap2 ∧ cap2 ≤ 9223372036854775807 := (own_row hown).elim fun a h => h.elim fun c h => by obtain ⟨e, hr⟩ := h; simp only [Value.slice.injEq] at e; obtain ⟨_, _, rfl⟩ := e; exact ⟨hr.room, hr.big⟩
    have HO : Hid (w.heap.size ≤ g ∧ Doc w1 (some ⟨g, 0, none⟩) n cap2 l) := ⟨ownBlk_ge hown g rfl, HFT.out, HL.out, hroom.1, hroom.2, fun _ => ⟨g, 0, rfl, own_at hown⟩⟩
    clear hown hgrow hroom
    go_wp2
    go_ret
    exact ⟨⟨g, cap2, rfl, HO.out.1, HO.out.2⟩, H1.out⟩
theorem Dc.check_few {l : List It} (h : Dc.check l = 0) : 0 < l.length ∧ l.length ≤ 80 := by
  by_cases h1 : 80 < l.length
  · rw [Dc.check_many h1] at h; cases h
  · refine ⟨?_, by omega⟩
    cases l with
    | nil => exact absurd h (by decide)
    | cons x l => simp
def boxd (a : Option Addr) (n c : Nat) (w : World) : World := w.alloc (.cells #[.slice a n c] 23)
theorem boxd_below (a : Option Addr) (n c : Nat) (w : World) : Below w.heap.size w (boxd a n c w) := (Below.refl _ _).alloc (Nat.le_refl _) _
theorem boxd_blk (a : Option Addr) (n c : Nat) (w : World) : Blk (boxd a n c w) w.heap.size [.slice a n c] 23 := Blk.new w _ _

end Go.Proofs.YtaigleblmbblcaaDoor
