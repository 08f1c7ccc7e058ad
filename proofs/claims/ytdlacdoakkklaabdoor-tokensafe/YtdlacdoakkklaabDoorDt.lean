/-
  doc.Plain of any list of items: its characters.
-/
import Derived.Test.YtdlacdoakkklaabDoorDw
import Derived.Deep.RegionLaw
import Derived.Deep.AppendLies
import Derived.Laws.IdiomStrings
import Derived.Laws.BytesArg
namespace Go.Proofs.YtdlacdoakkklaabDoor
open Go.RowKit

/-- A call that was begun in w0 has laid its argument d in a block, and a variable of type T in the next one: it holds a slice of the call's own, xs in it. -/
structure Txt (w0 : World) (d : Value) (T E : TypeId) (v : Value) (xs : List Value) (w : World) : Prop where
  below : Below w0.heap.size w0 w
  box : w.heap[w0.heap.size]? = some (.cells #[d] 23 (0, 0))
  var : w.heap[w0.heap.size + 1]? = some (.cells #[v] T (0, 0))
  own : w.ownsRow (w0.heap.size + 2) E 1 v xs.length xs
theorem ownBlock_ge {w : World} {base : Nat} {e : TypeId} {size : Nat} {v : Value} {n : Nat} {xs : List Value} (h : w.ownsRow base e size v n xs) : ∀ k, v.ownBlock = some k → base ≤ k := by
  intro k hk
  rcases h.2 with ⟨rfl, _⟩ | ⟨g, cap, cur, rfl, hg, _⟩
  · cases hk
  · simp [Value.ownBlock] at hk; omega
theorem Txt.size {w0 : World} {d : Value} {T E : TypeId} {v : Value} {xs : List Value} {w : World} (h : Txt w0 d T E v xs w) : w0.heap.size + 2 ≤ w.heap.size := lt_of_block h.var
theorem Txt.beneath {w0 : World} {d : Value} {T E : TypeId} {v : Value} {xs : List Value} {w w' : World} (h : Txt w0 d T E v xs w) (hb : Below w.heap.size w w') : Txt w0 d T E v xs w' := by
  have hs := h.size
  refine ⟨h.below.trans (hb.mono (by omega)), (hb.block _ (by omega)).trans h.box, (hb.block _ (by omega)).trans h.var, ?_⟩
  refine ⟨h.own.1, ?_⟩
  rcases h.own.2 with h2 | ⟨g, cap, cur, hv, hg, hh, r⟩
  · exact .inl h2
  · exact .inr ⟨g, cap, cur, hv, hg, (hb.block g (lt_of_block hh)).trans hh, r⟩
theorem Txt.keeps {w0 : World} {d : Value} {T E : TypeId} {v : Value} {xs : List Value} {w w1 w2 : World} (h : Txt w0 d T E v xs w) (hb : Below w.heap.size w w1) (hg : w1.grownBy w2 v.ownBlock) :
    w2.heap[w0.heap.size]? = some (.cells #[d] 23 (0, 0)) ∧ w2.heap[w0.heap.size + 1]? = some (.cells #[v] T (0, 0)) ∧ Below w0.heap.size w0 w2 := by
  have h1 := h.beneath hb
  have hs := h1.size
  have hne : ∀ k, k < w0.heap.size + 2 → some k ≠ v.ownBlock := fun k hk e => by have := ownBlock_ge h.own k e.symm; omega
  exact ⟨(hg.block _ (by omega) (hne _ (by omega))).trans h1.box, (hg.block _ (by omega) (hne _ (by omega))).trans h1.var, h1.below.trans ⟨hg.os, hg.tape, hg.output, hg.size, fun k hk => hg.block k (by omega) (hne k (by omega))⟩⟩
/-- Something is appended to what the variable holds. -/
theorem Txt.push {w0 : World} {d : Value} {T E : TypeId} {v v' : Value} {xs ys : List Value} {w w1 w2 : World} (h : Txt w0 d T E v xs w) (hb : Below w.heap.size w w1)
    (hown : w2.ownsRow (w0.heap.size + 2) E 1 v' ys.length ys) (hg : w1.grownBy w2 v.ownBlock) : Txt w0 d T E v' ys (w2.setCell ⟨w0.heap.size + 1, 0, none⟩ v') := by
  have h1 := h.beneath hb
  have hs := h1.size
  have hne : ∀ k, k < w0.heap.size + 2 → some k ≠ v.ownBlock := fun k hk e => by have := ownBlock_ge h.own k e.symm; omega
  have hx : w2.heap[w0.heap.size + 1]? = some (.cells #[v] T (0, 0)) := (hg.block _ (by omega) (hne _ (by omega))).trans h1.var
  refine ⟨?_, ?_, one_setCell hx, ?_⟩
  · refine (h1.below.trans ⟨hg.os, hg.tape, hg.output, hg.size, fun k hk => hg.block k (by omega) (hne k (by omega))⟩).setCell (by simp) _
  · rw [Below.heap_setCell _ _ _ _ (by simp)]
    exact (hg.block _ (by omega) (hne _ (by omega))).trans h1.box
  · exact ownsRow_setCell_below hown (by simp) _

theorem cell_far {w : World} {a p : Addr} {u v : Value} (h : w.cell? a = some v) (hne : a.block ≠ p.block) : (w.setCell p u).cell? a = some v :=
  (World.cell?_of_block (w := w) (Below.heap_setCell w p u a.block hne)).trans h

theorem Tryd.info5 : (Tryd.prog.info? 5).map (fun i => (i.zero, i.size, i.bytes)) = some (some (.int .u8 0), 1, 1) := by kernel_rfl

set_option maxRecDepth 100000 in
set_option maxHeartbeats 1600000 in
theorem plain1_any (w0 : World) (b off n cap k : Nat) (l : List It) (xs : List Value) (v : Value) (w : World) (x : It) (hx : l[k]? = some x) (hn : l.length = n) (hA : At w0 b off l)
    (hT : Txt w0 (.slice (some ⟨b, off, none⟩) n cap) 30 5 v xs w) (hlen : xs.length ≤ 80) :
    Calls Tryd.prog 25 #[.int .i64 k, .pointer (some ⟨w0.heap.size + 1, 0, none⟩), .pointer (some ⟨w0.heap.size, 0, none⟩)] w fun e w' => e = .returned (.tuple #[]) ∧ ∃ v', Txt w0 (.slice (some ⟨b, off, none⟩) n cap) 30 5 v' (xs ++ [.int .u8 x.c.toNat]) w' := by
  obtain ⟨i0, hi, hz0, hz1, hz2⟩ := info_parts Tryd.info5
  have HT : Hid (Txt w0 (.slice (some ⟨b, off, none⟩) n cap) 30 5 v xs w) := hT
  have hkn : k < n := by rw [← hn]; exact (List.getElem?_eq_some_iff.1 hx).1
  obtain ⟨hc0, hc1, hc2⟩ := (hA.below hT.below).get hx
  have hbox := cell_of_one hT.box
  have hvar := cell_of_one hT.var
  have hfr := free_of_one hT.var
  have HO : Hid (w.ownsRow (w0.heap.size + 2) 5 1 v xs.length xs) := hT.own
  have hsz := hT.size
  have hb0 : b < w.heap.size := cell_lt hc0
  have hb1 : w0.heap.size < w.heap.size := by omega
  have hb2 : w0.heap.size + 1 < w.heap.size := by omega
  have HA : Hid (At w0 b off l) := hA
  have HX : Hid (l[k]? = some x) := hx
  clear hT hA hc1 hc2 hx
  go_enter Tryd.func25, Tryd.ntmps25
  go_region_law (first | (refine step_append_lies _ rfl (.tmp 4) (.tmp 10) 30 rfl (w0.heap.size + 2) 5 i0 (.int .u8 0) 1 1 Tryd.underlying30 hi hz0 hz1 hz2 rfl (by decide) v xs.length xs rfl (HO.out.drew.alloc _) ⟨w.heap.size, 0, none⟩ 1 1 [.int .u8 x.c.toNat] rfl rfl (World.news_of_block (cs := #[.int .u8 x.c.toNat]) (heap_alloc_new w.drew _)) (by intro u hu; simp at hu; subst hu; rfl) (by decide) (by unfold maxLen; omega) (by omega) (by simp; omega) _ rfl ?_; intro g cap2 w1 hown hgrow hat hlt; have hK := HT.out.keeps ((Below.refl _ _).drew.alloc (Nat.le_refl _) _) hgrow; have r2 := cell_of_one hK.2.1; have r3 := free_of_one hK.2.1; have HG : Hid (w1.ownsRow (w0.heap.size + 2) 5 1 (.slice (some ⟨g, 0, none⟩) (xs.length + 1) cap2) (xs ++ [Value.int .u8 x.c.toNat]).length (xs ++ [Value.int .u8 x.c.toNat]) ∧ (w.drew.alloc (.cells #[.int .u8 x.c.toNat] 5)).grownBy w1 v.ownBlock) := ⟨by rw [List.length_append]; exact hown, hgrow⟩; clear hK hown hgrow hat))
  all_goals
    go_end0
    exact ⟨rfl, _, HT.out.push ((Below.refl _ _).drew.alloc (Nat.le_refl _) _) HG.out.1 HG.out.2⟩

def cb (c : UInt8) : Value := .int .u8 c.toNat
theorem conv_own {B : Nat} {v : Value} {l : List UInt8} {w : World} (h : w.ownsRow B 5 1 v (l.map cb).length (l.map cb)) : (convert 30 9 v).run Tryd.prog w = .ok (.string (Go.Proofs.YtdlacdoakkklaabDoor.B l)) w := by
  rw [List.length_map] at h
  rcases h.2 with ⟨rfl, h0⟩ | ⟨g, cap, cur, rfl, hrest⟩
  · obtain rfl : l = [] := List.length_eq_zero_iff.1 h0
    exact run_convert_bytes_nil w 30 5 Tryd.underlying30 Tryd.underlying5 0 0 9 Tryd.underlying9
  · refine run_convert_bytes_back w 30 9 5 ⟨g, 0, none⟩ cap l Tryd.underlying30 Tryd.underlying5 Tryd.underlying9 (fun j hj => ?_)
    exact h.cells (g := g) rfl j _ (by simp [cb, List.getElem?_eq_getElem hj])

namespace Dc
def plain (l : List It) : List UInt8 := if check l = 0 then l.map It.c else []
theorem check_ok {l : List It} (h : check l = 0) : l.length ≤ 80 := by
  by_cases h80 : 80 < l.length
  · rw [check_many h80] at h; cases h
  · omega
end Dc
/-- The world in which doc.Plain and doc.Runs call doc.walk. -/
def begun (w : World) (d : Value) (T : TypeId) : World := (w.alloc (.cells #[d] 23)).alloc (.cells #[.slice none 0 0] T)
theorem begun_txt (w : World) (d : Value) (T E : TypeId) : Txt w d T E (.slice none 0 0) [] (begun w d T) := by
  have h1 : (w.alloc (.cells #[d] 23)).heap[w.heap.size]? = some (.cells #[d] 23) := heap_alloc_new w _
  have h2 := heap_alloc_new (w.alloc (.cells #[d] 23)) (.cells #[.slice none 0 0] T)
  rw [World.size_alloc] at h2
  exact ⟨((Below.refl _ _).alloc (Nat.le_refl _) _).alloc (by simp) _, (Below.heap_alloc _ _ _ (by simp)).trans h1, h2, World.ownsRow_nil _ _ _ _⟩

set_option maxRecDepth 100000 in
set_option maxHeartbeats 1600000 in
theorem plain_any (ao : Option Addr) (n cap : Nat) (l : List It) (w : World) (hD : Doc w ao n cap l) (hS : Sch w) :
    Calls Tryd.prog 10 #[.slice ao n cap] w fun e w' => e = .returned (.tuple #[.string (B (Dc.plain l)), .int .i64 (Dc.check l)]) ∧ Below w.heap.size w w' := by
  have T0 := begun_txt w (.slice ao n cap) 30 5
  have HW : Hid (Calls Tryd.prog 24 #[.slice ao n cap, .func (.func 25) #[] #[.pointer (some ⟨w.heap.size + 1, 0, none⟩), .pointer (some ⟨w.heap.size, 0, none⟩)]] (begun w (.slice ao n cap) 30) fun e w' => e = .returned (.int .i64 (Dc.check l)) ∧ ∃ v, Txt w (.slice ao n cap) 30 5 v ((Dc.plain l).map cb) w') := by
    refine (walk_any ao n cap l 25 _ _ (fun k w' => Dc.check l = 0 ∧ ∃ v, Txt w (.slice ao n cap) 30 5 v ((l.take k).map fun x => cb x.c) w') _ (.inl rfl) (hD.below T0.below) (hS.below T0.below) ?_ ?_).mono ?_
    · exact fun hz w' hb => ⟨hz, _, T0.beneath hb⟩
    · rintro k wr hk ⟨hz, v, hT⟩
      have h80 := Dc.check_ok hz
      obtain ⟨b, off, rfl, hA⟩ := hD.lies (by omega)
      have hkl : k < l.length := by rw [hD.len]; exact hk
      refine (plain1_any w b off n cap k l _ v wr l[k] (List.getElem?_eq_getElem hkl) hD.len hA hT (by simp; omega)).mono ?_
      rintro e w' ⟨rfl, v', hT'⟩
      refine ⟨rfl, hz, v', ?_⟩
      rw [List.take_succ_eq_append_getElem hkl, List.map_append]
      exact hT'
    · rintro e w' ⟨rfl, h1, h2⟩
      refine ⟨rfl, ?_⟩
      by_cases hz : Dc.check l = 0
      · obtain ⟨_, v, hT⟩ := h1 hz
        rw [List.take_of_length_le (by rw [hD.len]; exact Nat.le_refl _)] at hT
        refine ⟨v, ?_⟩
        unfold Dc.plain
        rw [if_pos hz, List.map_map]
        exact hT
      · refine ⟨.slice none 0 0, ?_⟩
        unfold Dc.plain
        rw [if_neg hz]
        exact T0.beneath (h2 hz)
  clear T0 hD hS
  generalize Dc.check l = c at *
  generalize Dc.plain l = p at *
  go_enter Tryd.func10, Tryd.ntmps10
  go_wp2_with fail
  change Calls Tryd.prog 24 _ (begun w (.slice ao n cap) 30) _
  refine HW.out.mono ?_
  rintro e w2 ⟨rfl, v, hT⟩
  have hvar := cell_of_one hT.var
  have hcv := conv_own hT.own
  have HB : Hid (Below w.heap.size w w2) := hT.below
  clear hT
  go_wp2
  go_ret2
  exact ⟨rfl, HB.out⟩
end Go.Proofs.YtdlacdoakkklaabDoor
