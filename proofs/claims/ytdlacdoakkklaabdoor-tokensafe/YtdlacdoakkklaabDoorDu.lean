/-
  doc.Runs of any list of items: the places where its runs begin.
-/
import Derived.Test.YtdlacdoakkklaabDoorDr
namespace Go.Proofs.YtdlacdoakkklaabDoor
open Go.RowKit

theorem Tryd.info3 : (Tryd.prog.info? 3).map (fun i => (i.zero, i.size, i.bytes)) = some (some (.int .i64 0), 1, 8) := by kernel_rfl
namespace Dc
/-- Whether a run begins at place k. -/
def runB (l : List It) : Nat → Bool
  | 0 => true
  | j + 1 => turns (l[j]?.getD It.zero) (l[j + 1]?.getD It.zero)
theorem runB_succ {l : List It} {j : Nat} (hj : j + 1 < l.length) : runB l (j + 1) = turns l[j] l[j + 1] := by
  show turns (l[j]?.getD It.zero) (l[j + 1]?.getD It.zero) = _
  rw [List.getElem?_eq_getElem (by omega), List.getElem?_eq_getElem hj]
  rfl
end Dc

set_option maxRecDepth 100000 in
set_option maxHeartbeats 1600000 in
theorem runs1_zero (w0 : World) (d : Value) (xs : List Value) (v : Value) (w : World) (hT : Txt w0 d 43 3 v xs w) (hlen : xs.length ≤ 80) :
    Calls Tryd.prog 29 #[.int .i64 0, .pointer (some ⟨w0.heap.size, 0, none⟩), .pointer (some ⟨w0.heap.size + 1, 0, none⟩)] w fun e w' => e = .returned (.tuple #[]) ∧ ∃ v', Txt w0 d 43 3 v' (xs ++ [.int .i64 0]) w' := by
  obtain ⟨i0, hi, hz0, hz1, hz2⟩ := info_parts Tryd.info3
  have HT : Hid (Txt w0 d 43 3 v xs w) := hT
  have hvar := cell_of_one hT.var
  have hfr := free_of_one hT.var
  have HO : Hid (w.ownsRow (w0.heap.size + 2) 3 1 v xs.length xs) := hT.own
  have hsz := hT.size
  have hb1 : w0.heap.size < w.heap.size := by omega
  have hb2 : w0.heap.size + 1 < w.heap.size := by omega
  clear hT
  go_enter Tryd.func29, Tryd.ntmps29
  go_wp2
  go_quiet (fail)
  go_wp2_with (at_builtin; refine wpList_append_lies _ rfl (.tmp 18) (.tmp 20) 43 rfl (w0.heap.size + 2) 3 i0 (.int .i64 0) 1 8 Tryd.underlying43 hi hz0 hz1 hz2 rfl (by decide) v xs.length xs rfl ?c1 ⟨w.heap.size, 0, none⟩ 1 1 [.int .i64 0] rfl rfl ?c2 ?c3 (by decide) ?c4 ?c5 ?c6 _ rfl ?c7)
  case c1 => exact World.ownsRow.alloc (w := w.drewN nq) HO.out _
  case c2 => exact World.news_of_block (cs := #[.int .i64 0]) (heap_alloc_new (w.drewN nq) _)
  case c3 => intro u hu; simp at hu; subst hu; rfl
  case c4 => unfold maxLen; omega
  case c5 => omega
  case c6 => simp; omega
  case c7 =>
    intro g cap2 w1 hown hgrow _ _
    have hb : Below w.heap.size w ((w.drewN nq).alloc (.cells #[.int .i64 0] 3)) := Below.alloc (a := w) (w := w.drewN nq) ⟨rfl, rfl, rfl, Nat.le_refl _, fun _ _ => rfl⟩ (Nat.le_refl _) _
    have hK := HT.out.keeps hb hgrow
    have r2 := cell_of_one hK.2.1
    have r3 := free_of_one hK.2.1
    have HG : Hid (∃ v', Txt w0 d 43 3 v' (xs ++ [Value.int .i64 0]) (w1.setCell ⟨w0.heap.size + 1, 0, none⟩ (.slice (some ⟨g, 0, none⟩) (xs.length + 1) cap2))) := ⟨_, HT.out.push hb (by rw [List.length_append]; exact hown) hgrow⟩
    clear hK hown hgrow hb
    go_wp2
    go_end0
    exact ⟨rfl, HG.out⟩

set_option maxRecDepth 100000 in
set_option maxHeartbeats 1600000 in
theorem runs1_succ (w0 : World) (b off n cap j k : Nat) (l : List It) (xs : List Value) (v : Value) (w : World) (a x : It) (hj : j = k + 1) (ha : l[k]? = some a) (hx : l[j]? = some x) (hn : l.length = n) (hbig : n ≤ 80) (hA : At w0 b off l)
    (hT : Txt w0 (.slice (some ⟨b, off, none⟩) n cap) 43 3 v xs w) (hlen : xs.length ≤ 80) :
    Calls Tryd.prog 29 #[.int .i64 j, .pointer (some ⟨w0.heap.size, 0, none⟩), .pointer (some ⟨w0.heap.size + 1, 0, none⟩)] w fun e w' => e = .returned (.tuple #[]) ∧ ∃ v', Txt w0 (.slice (some ⟨b, off, none⟩) n cap) 43 3 v' (if Dc.turns a x then xs ++ [.int .i64 j] else xs) w' := by
  obtain ⟨i0, hi, hz0, hz1, hz2⟩ := info_parts Tryd.info3
  have HT : Hid (Txt w0 (.slice (some ⟨b, off, none⟩) n cap) 43 3 v xs w) := hT
  have hkn : j < n := by rw [← hn]; exact (List.getElem?_eq_some_iff.1 hx).1
  obtain ⟨ha0, ha1, ha2⟩ := (hA.below hT.below).get ha
  obtain ⟨hx0, hx1, hx2⟩ := (hA.below hT.below).get hx
  have hbox := cell_of_one hT.box
  clear hT
  have hw : IntKind.i64.wrap ((j : Int) - 1) = (k : Int) := by rw [show (j : Int) - 1 = (k : Int) by omega]; exact IntWalk.i64_in _ ⟨by omega, by omega⟩
  have q1 : (0 : Int) ≤ (k : Int) := by omega
  have q2 : (k : Int) < (n : Int) := by omega
  have q3 : (0 : Int) ≤ (j : Int) := by omega
  have q4 : (j : Int) < (n : Int) := by omega
  have q5 : ((j : Int) == 0) = false := by simp; omega
  have HJ : Hid (j = k + 1) := hj
  have HA : Hid (l[k]? = some a) := ha
  have HX : Hid (l[j]? = some x) := hx
  clear hj ha hx hn
  clear hA HJ HA HX
  cases ht : Dc.turns a x
  · go_enter Tryd.func29, Tryd.ntmps29
    go_wp2
    go_region_held3 (fun w' => w'.cell? ⟨w0.heap.size, 0, none⟩ = some (.slice (some ⟨b, off, none⟩) n cap) ∧ w'.cell? ⟨b, off + k * 3, none⟩ = some (.int .u8 a.c.toNat) ∧ w'.cell? ⟨b, off + k * 3 + 1, none⟩ = some (.int .i64 a.m) ∧ w'.cell? ⟨b, off + k * 3 + 2, none⟩ = some (.string a.l) ∧ w'.cell? ⟨b, off + j * 3, none⟩ = some (.int .u8 x.c.toNat) ∧ w'.cell? ⟨b, off + j * 3 + 1, none⟩ = some (.int .i64 x.m) ∧ w'.cell? ⟨b, off + j * 3 + 2, none⟩ = some (.string x.l)) (go_keep) (first | (go_at_call 30; refine (turns_any a x _).mono ?_; rintro e w1 ⟨rfl, hb⟩; have HB : Hid (Below w.heap.size w w1) := (Below.refl _ _).drew.trans hb; have e1 := cell_below hbox HB.out; have e2 := cell_below ha0 HB.out; have e3 := cell_below ha1 HB.out; have e4 := cell_below ha2 HB.out; have e5 := cell_below hx0 HB.out; have e6 := cell_below hx1 HB.out; have e7 := cell_below hx2 HB.out; clear hb; rw [ht]))
    have HP : Hid (Txt w0 (.slice (some ⟨b, off, none⟩) n cap) 43 3 v xs w1) := HT.out.beneath HB.out
    clear e1 e2 e3 e4 e5 e6 e7
    go_wp2
    go_end0
    exact ⟨rfl, v, HP.out⟩
  · go_enter Tryd.func29, Tryd.ntmps29
    go_wp2
    go_region_held3 (fun w' => w'.cell? ⟨w0.heap.size, 0, none⟩ = some (.slice (some ⟨b, off, none⟩) n cap) ∧ w'.cell? ⟨b, off + k * 3, none⟩ = some (.int .u8 a.c.toNat) ∧ w'.cell? ⟨b, off + k * 3 + 1, none⟩ = some (.int .i64 a.m) ∧ w'.cell? ⟨b, off + k * 3 + 2, none⟩ = some (.string a.l) ∧ w'.cell? ⟨b, off + j * 3, none⟩ = some (.int .u8 x.c.toNat) ∧ w'.cell? ⟨b, off + j * 3 + 1, none⟩ = some (.int .i64 x.m) ∧ w'.cell? ⟨b, off + j * 3 + 2, none⟩ = some (.string x.l)) (go_keep) (first | (go_at_call 30; refine (turns_any a x _).mono ?_; rintro e w1 ⟨rfl, hb⟩; have HB : Hid (Below w.heap.size w w1) := (Below.refl _ _).drew.trans hb; have e1 := cell_below hbox HB.out; have e2 := cell_below ha0 HB.out; have e3 := cell_below ha1 HB.out; have e4 := cell_below ha2 HB.out; have e5 := cell_below hx0 HB.out; have e6 := cell_below hx1 HB.out; have e7 := cell_below hx2 HB.out; clear hb; rw [ht]))
    have hT1 := HT.out.beneath HB.out
    have HT1 : Hid (Txt w0 (.slice (some ⟨b, off, none⟩) n cap) 43 3 v xs w1) := hT1
    have hvar := cell_of_one hT1.var
    have HO : Hid (w1.ownsRow (w0.heap.size + 2) 3 1 v xs.length xs) := hT1.own
    have hsz := hT1.size
    clear e1 e2 e3 e4 e5 e6 e7 hT1
    go_wp2_with (at_builtin; refine wpList_append_lies _ rfl (.tmp 18) (.tmp 20) 43 rfl (w0.heap.size + 2) 3 i0 (.int .i64 0) 1 8 Tryd.underlying43 hi hz0 hz1 hz2 rfl (by decide) v xs.length xs rfl ?c1 ⟨w1.heap.size, 0, none⟩ 1 1 [.int .i64 j] rfl rfl ?c2 ?c3 (by decide) ?c4 ?c5 ?c6 _ rfl ?c7)
    case c1 => exact HO.out.alloc _
    case c2 => exact World.news_of_block (cs := #[.int .i64 j]) (heap_alloc_new w1 _)
    case c3 => intro u hu; simp at hu; subst hu; rfl
    case c4 => unfold maxLen; omega
    case c5 => omega
    case c6 => simp; omega
    case c7 =>
      intro g cap2 w2 hown hgrow _ _
      have hb : Below w1.heap.size w1 (w1.alloc (.cells #[.int .i64 j] 3)) := (Below.refl _ _).alloc (Nat.le_refl _) _
      have hK := HT1.out.keeps hb hgrow
      have r2 := cell_of_one hK.2.1
      have r3 := free_of_one hK.2.1
      have HG : Hid (∃ v', Txt w0 (.slice (some ⟨b, off, none⟩) n cap) 43 3 v' (xs ++ [Value.int .i64 j]) (w2.setCell ⟨w0.heap.size + 1, 0, none⟩ (.slice (some ⟨g, 0, none⟩) (xs.length + 1) cap2))) := ⟨_, HT1.out.push hb (by rw [List.length_append]; exact hown) hgrow⟩
      clear hK hown hgrow hb
      go_wp2
      go_end0
      exact ⟨rfl, HG.out⟩

namespace Dc
def runsTo (l : List It) (k : Nat) : List Nat := (List.range k).filter (runB l)
def runs (l : List It) : List Nat := if check l = 0 then runsTo l l.length else []
theorem runsTo_succ (l : List It) (k : Nat) : runsTo l (k + 1) = if runB l k then runsTo l k ++ [k] else runsTo l k := by
  unfold runsTo
  rw [List.range_succ, List.filter_append]
  by_cases h : runB l k = true
  · rw [if_pos h]; simp [h]
  · rw [if_neg h]; simp [h]
theorem runsTo_len (l : List It) (k : Nat) : (runsTo l k).length ≤ k := by
  have := List.length_filter_le (runB l) (List.range k)
  simpa [runsTo] using this
end Dc
def ci (k : Nat) : Value := .int .i64 k

set_option maxRecDepth 100000 in
set_option maxHeartbeats 1600000 in
theorem runs_any (ao : Option Addr) (n cap : Nat) (l : List It) (w : World) (hD : Doc w ao n cap l) (hS : Sch w) :
    Calls Tryd.prog 15 #[.slice ao n cap] w fun e w' => (∃ v, e = .returned (.tuple #[v, .int .i64 (Dc.check l)]) ∧ w'.ownsRow w.heap.size 3 1 v (Dc.runs l).length ((Dc.runs l).map ci)) ∧ Below w.heap.size w w' := by
  have T0 := begun_txt w (.slice ao n cap) 43 3
  have HW : Hid (Calls Tryd.prog 24 #[.slice ao n cap, .func (.func 29) #[] #[.pointer (some ⟨w.heap.size, 0, none⟩), .pointer (some ⟨w.heap.size + 1, 0, none⟩)]] (begun w (.slice ao n cap) 43) fun e w' => e = .returned (.int .i64 (Dc.check l)) ∧ ∃ v, Txt w (.slice ao n cap) 43 3 v ((Dc.runs l).map ci) w') := by
    refine (walk_any ao n cap l 29 _ _ (fun k w' => Dc.check l = 0 ∧ ∃ v, Txt w (.slice ao n cap) 43 3 v ((Dc.runsTo l k).map ci) w') _ (.inr rfl) (hD.below T0.below) (hS.below T0.below) ?_ ?_).mono ?_
    · exact fun hz w' hb => ⟨hz, _, T0.beneath hb⟩
    · rintro k wr hk ⟨hz, v, hT⟩
      have h80 := Dc.check_ok hz
      obtain ⟨b, off, rfl, hA⟩ := hD.lies (by omega)
      have hkl : k < l.length := by rw [hD.len]; exact hk
      have hlen : ((Dc.runsTo l k).map ci).length ≤ 80 := by rw [List.length_map]; have := Dc.runsTo_len l k; omega
      rw [Dc.runsTo_succ]
      match k, hkl, hT, hlen with
      | 0, hkl, hT, hlen =>
        refine (runs1_zero w _ _ v wr hT hlen).mono ?_
        rintro e w' ⟨rfl, v', hT'⟩
        exact ⟨rfl, hz, v', hT'⟩
      | j + 1, hkl, hT, hlen =>
        have hj : j < l.length := by omega
        refine (runs1_succ w b off n cap (j + 1) j l _ v wr l[j] l[j + 1] rfl (List.getElem?_eq_getElem hj) (List.getElem?_eq_getElem hkl) hD.len (by rw [← hD.len]; exact h80) hA hT hlen).mono ?_
        rintro e w' ⟨rfl, v', hT'⟩
        refine ⟨rfl, hz, v', ?_⟩
        rw [Dc.runB_succ hkl]
        cases ht : Dc.turns l[j] l[j + 1]
        · rw [ht] at hT'; exact hT'
        · rw [ht] at hT'
          rw [if_pos rfl, List.map_append]
          exact hT'
    · rintro e w' ⟨rfl, h1, h2⟩
      refine ⟨rfl, ?_⟩
      by_cases hz : Dc.check l = 0
      · obtain ⟨_, v, hT⟩ := h1 hz
        refine ⟨v, ?_⟩
        unfold Dc.runs
        rw [if_pos hz, hD.len]
        exact hT
      · refine ⟨.slice none 0 0, ?_⟩
        unfold Dc.runs
        rw [if_neg hz]
        exact T0.beneath (h2 hz)
  clear T0 hD hS
  generalize Dc.check l = c at *
  generalize Dc.runs l = p at *
  go_enter Tryd.func15, Tryd.ntmps15
  go_wp2_with fail
  change Calls Tryd.prog 24 _ (begun w (.slice ao n cap) 43) _
  refine HW.out.mono ?_
  rintro e w2 ⟨rfl, v, hT⟩
  have hvar := cell_of_one hT.var
  have HO : Hid (w2.ownsRow w.heap.size 3 1 v p.length (p.map ci)) := by
    have h := hT.own
    rw [List.length_map] at h
    refine ⟨h.1, ?_⟩
    rcases h.2 with h2 | ⟨g, cap, cur, hv, hg, r⟩
    · exact .inl h2
    · exact .inr ⟨g, cap, cur, hv, by omega, r⟩
  have HB : Hid (Below w.heap.size w w2) := hT.below
  clear hT
  go_wp2
  go_ret2
  exact ⟨⟨v, rfl, HO.out⟩, HB.out⟩
end Go.Proofs.YtdlacdoakkklaabDoor
