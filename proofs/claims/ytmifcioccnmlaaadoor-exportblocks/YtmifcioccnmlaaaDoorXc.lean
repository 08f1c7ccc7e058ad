/-
  slices.Grow of nothing, and slices.Concat of two lists of items.
-/
import Derived.Test.YtmifcioccnmlaaaDoorDy
import Derived.Test.YtmifcioccnmlaaaDoorMem
import Derived.Lib.AppendZeros
namespace Go.Proofs.YtmifcioccnmlaaaDoor
open Go.RowKit

theorem Tryd.info36 : (Tryd.prog.info? 36).map (fun i => (i.zero, i.size, i.bytes)) = some (some (.agg #[.int .u8 0, .int .i64 0, .string ⟨#[]⟩]), 3, 32) := by kernel_rfl

/-- An append whose run is known, in a region's list. -/
theorem wpList_of_append {P : Program} {w : World} {ops : Array Oper} {rest : List Oper} {o : Oper} {a : Act} {Q : Exit → Act → World → Prop} (hgd : o.guard = none) (s x : Operand) (ts : Array TypeId)
    (ho : o.op = .call { callee := .builtin .append, args := #[s, x], argTypes := ts }) (v u r : Value) (w' : World) (hs : a.eval s = v) (hx : a.eval x = u)
    (hr : (Builtin.append_ ts o.type #[v, u]).run P w = .ok r w') (h : wpList P ops Q rest (a.put o.dst r) w') : wpList P ops Q (o :: rest) a w :=
  wpList_plain hgd fun _ hK => by
    unfold Oper.wp execOp
    simp only [ho, resolve, invoke, builtin, Sem.run_bind, Sem.run_pure, Result.andThen_ok, List.map_toArray, List.map_cons, List.map_nil, hs, hx, hr]
    exact hK _ _ h
/-- What a new block of zero values is: a row of none. -/
theorem own_zeros (w : World) (zc : Array Value) (s cap : Nat) (hz : zc.size = 3) (h1 : s ≤ cap) (h2 : cap ≤ maxLen) :
    (w.drew.alloc (.cells (Builtin.zeroCells zc s ++ Builtin.zeroCells zc (cap - s)) 36)).ownsRow w.heap.size 36 3 (.slice (some ⟨w.heap.size, 0, none⟩) 0 cap) 0 [] := by
  refine ⟨rfl, .inr ⟨w.heap.size, cap, _, rfl, Nat.le_refl _, heap_alloc_new w.drew _, Nat.zero_le _, h2, ?_, by simp⟩⟩
  rw [Array.size_append, size_zeroCells, size_zeroCells, hz, ← Nat.add_mul]
  congr 1
  omega

set_option maxRecDepth 100000 in
set_option maxHeartbeats 1600000 in
theorem grow_any (s : Nat) (w : World) (h0 : 0 < s) (hs : s ≤ 1000) :
    Calls Tryd.prog 85 #[.slice none 0 0, .int .i64 s] w fun e w' => (∃ v, e = .returned v ∧ w'.ownsRow w.heap.size 36 3 v 0 []) ∧ Below w.heap.size w w' := by
  obtain ⟨i0, hi, hz0, hz1, hz2⟩ := info_parts Tryd.info36
  have hap := Lib.run_append_nil_zeros (P := Tryd.prog) w 34 3 34 36 i0 (.agg #[.int .u8 0, .int .i64 0, .string ⟨#[]⟩]) .i64 .i64 Tryd.underlying34 Tryd.underlying3 hi hz0 s h0 (by omega) (by omega) (by rw [hz2]; omega)
  go_enter Tryd.func85, Tryd.ntmps85
  have hca := grownCap_ge w s 0 36
  have hcb := grownCap_le_maxLen w s 0 36 (by unfold maxLen; omega)
  have HO : Hid ((w.drew.alloc (.cells (Builtin.zeroCells #[.int .u8 0, .int .i64 0, .string ⟨#[]⟩] s ++ Builtin.zeroCells #[.int .u8 0, .int .i64 0, .string ⟨#[]⟩] (grownCap w s 0 36 - s)) 36)).ownsRow w.heap.size 36 3 (.slice (some ⟨w.heap.size, 0, none⟩) 0 (grownCap w s 0 36)) 0 []) := own_zeros w #[.int .u8 0, .int .i64 0, .string ⟨#[]⟩] s _ rfl hca hcb
  have HB : Hid (∀ o, Below w.heap.size w (w.drew.alloc o)) := fun o => (Below.refl _ _).drew.alloc (Nat.le_refl _) _
  unfold maxLen at hcb
  generalize grownCap w s 0 36 = cap at *
  go_wp2_with (at_builtin; refine wpList_of_append rfl (.tmp 20) (.tmp 21) #[34, 3] rfl _ _ _ _ rfl rfl hap ?_)
  go_ret
  exact ⟨⟨_, rfl, HO.out⟩, HB.out _⟩

theorem itCells_len : ∀ l : List It, (itCells l).length = l.length * 3
  | [] => rfl
  | x :: t => by
    show (itCells t).length + 1 + 1 + 1 = _
    rw [itCells_len t, List.length_cons, Nat.add_mul]
theorem itCells_app : ∀ l l' : List It, itCells (l ++ l') = itCells l ++ itCells l'
  | [], _ => rfl
  | x :: t, l' => by
    show _ :: _ :: _ :: itCells (t ++ l') = _
    rw [itCells_app t l']
    rfl
theorem itCells_one : ∀ l : List It, ∀ u ∈ itCells l, u.oneCell' = true
  | [], u, hu => by simp [itCells] at hu
  | x :: t, u, hu => by
    simp only [itCells, List.mem_cons] at hu
    rcases hu with rfl | rfl | rfl | hu
    · rfl
    · rfl
    · rfl
    · exact itCells_one t u hu
theorem at_cells {w : World} {b off : Nat} {l : List It} (h : At w b off l) (j : Nat) (u : Value) (hu : (itCells l)[j]? = some u) : w.cell? ((⟨b, off, none⟩ : Addr).add j) = some u := by
  have hadd : (⟨b, off, none⟩ : Addr).add j = ⟨b, off + j, none⟩ := by unfold Addr.add; split <;> simp_all
  rw [hadd]
  have hlt : j < l.length * 3 := by rw [← itCells_len]; exact (List.getElem?_eq_some_iff.1 hu).1
  have hi : j / 3 < l.length := by omega
  obtain ⟨h1, h2, h3⟩ := itCells_at l (j / 3) hi
  have hr : j = j / 3 * 3 ∨ j = j / 3 * 3 + 1 ∨ j = j / 3 * 3 + 2 := by omega
  rcases hr with e | e | e
  · rw [e, h1] at hu
    rw [e]
    exact (h.c _ hi).trans hu
  · rw [e, h2] at hu
    rw [e, ← Nat.add_assoc]
    exact (h.m _ hi).trans hu
  · rw [e, h3] at hu
    rw [e, ← Nat.add_assoc]
    exact (h.l _ hi).trans hu
/-- A row that is owned is a list of items. -/
theorem own_at {w : World} {B0 g cap n : Nat} {l : List It} (h : w.ownsRow B0 36 3 (.slice (some ⟨g, 0, none⟩) n cap) n (itCells l)) : At w g 0 l := by
  have hc : ∀ j u, (itCells l)[j]? = some u → w.cell? ⟨g, 0 + j, none⟩ = some u := fun j u hu => by
    have := h.cells (g := g) rfl j u hu
    have e : (⟨g, 0, none⟩ : Addr).add j = ⟨g, 0 + j, none⟩ := by unfold Addr.add; split <;> simp_all
    rw [e] at this
    exact this
  refine ⟨fun i hi => hc _ _ (itCells_at l i hi).1, fun i hi => ?_, fun i hi => ?_⟩
  · rw [Nat.add_assoc]; exact hc _ _ (itCells_at l i hi).2.1
  · rw [Nat.add_assoc]; exact hc _ _ (itCells_at l i hi).2.2

set_option maxRecDepth 100000 in
set_option maxHeartbeats 3200000 in
theorem concat_any (gb n cap n' cap' : Nat) (ao ao' : Option Addr) (l l' : List It) (w : World) (hB : Blk w gb [.slice ao n cap, .slice ao' n' cap'] 34) (hD : Doc w ao n cap l) (hD' : Doc w ao' n' cap' l') (h0 : 0 < n) (h0' : 0 < n') (h80 : n ≤ 80) (h80' : n' ≤ 80) :
    Calls Tryd.prog 48 #[.slice (some ⟨gb, 0, none⟩) 2 2] w fun e w' => (∃ a c, e = .returned (.slice a (n + n') c) ∧ Doc w' a (n + n') c (l ++ l')) ∧ Below w.heap.size w w' := by
  obtain ⟨b, off, rfl, hA⟩ := hD.lies (by omega)
  obtain ⟨b', off', rfl, hA'⟩ := hD'.lies (by omega)
  obtain ⟨i0, hi, hz0, hz1, hz2⟩ := info_parts Tryd.info36
  have c0 : w.cell? ⟨gb, 0, none⟩ = some (.slice (some ⟨b, off, none⟩) n cap) := hB.cell 0
  have c1 : w.cell? ⟨gb, 1, none⟩ = some (.slice (some ⟨b', off', none⟩) n' cap') := hB.cell 1
  have HA : Hid (At w b off l) := hA
  have HA' : Hid (At w b' off' l') := hA'
  have HL : Hid (l.length = n) := hD.len
  have HL' : Hid (l'.length = n') := hD'.len
  have HF : Hid (Fit (l ++ l')) := fun x hx => by
    rcases List.mem_append.1 hx with h | h
    · exact hD.fit x h
    · exact hD'.fit x h
  clear hB hD hD' hA hA'
  have CG : Hid (∀ w, Calls Tryd.prog 85 #[.slice none 0 0, .int .i64 ((n : Int) + (n' : Int))] w fun e w' => (∃ v, e = .returned v ∧ w'.ownsRow w.heap.size 36 3 v 0 []) ∧ Below w.heap.size w w') := fun w => by
    have := grow_any (n + n') w (by omega) (by omega)
    rw [Int.natCast_add] at this
    exact this
  go_enter Tryd.func48, Tryd.ntmps48
  go_wp2
  refine wp_loop_rounds 3 ?_
  rw [rounds_succ]
  go_wp2
  rw [rounds_succ]
  go_wp2
  rw [rounds_succ]
  go_wp2_with fail
  refine (CG.out _).mono ?_
  rintro e w1 ⟨⟨v, rfl, ho⟩, hb⟩
  have HO : Hid (w1.ownsRow w.heap.size 36 3 v 0 []) := ho
  have H1 : Hid (Below w.heap.size w w1) := hb
  have d0 := cell_below c0 hb
  have d1 := cell_below c1 hb
  have HN1 : Hid (∀ j u, (itCells l)[j]? = some u → w1.cell? ((⟨b, off, none⟩ : Addr).add j) = some u) := at_cells (HA.out.below hb)
  clear ho hb
  go_wp2
  refine wp_loop_rounds 3 ?_
  rw [rounds_succ]
  go_wp2_with (at_builtin; refine wpList_append_lies _ rfl (.tmp 31) (.tmp 32) 34 rfl w.heap.size 36 i0 (.agg #[.int .u8 0, .int .i64 0, .string ⟨#[]⟩]) 3 32 Tryd.underlying34 hi hz0 hz1 hz2 rfl (by decide) v 0 [] rfl HO.out ⟨b, off, none⟩ n cap (itCells l) rfl ?c1 HN1.out (itCells_one l) h0 ?c2 ?c3 H1.out.size _ rfl ?c4)
  case c1 => rw [itCells_len, HL.out]
  case c2 => unfold maxLen; omega
  case c3 => omega
  case c4 =>
    intro g cap2 w2 hown hgrow _ _
    have hb2 : Below w.heap.size w1 w2 := (Below.refl _ _).grown hgrow H1.out.size (fun k hk => ownBlock_ge HO.out k hk)
    have H2 : Hid (Below w.heap.size w w2) := H1.out.trans hb2
    have e1 := cell_below c1 H2.out
    have HO2 : Hid (w2.ownsRow w.heap.size 36 3 (.slice (some ⟨g, 0, none⟩) n cap2) n (itCells l)) := hown
    have HN2 : Hid (∀ j u, (itCells l')[j]? = some u → w2.cell? ((⟨b', off', none⟩ : Addr).add j) = some u) := at_cells (HA'.out.below H2.out)
    clear hown hgrow hb2
    go_wp2
    rw [rounds_succ]
    go_wp2_with (at_builtin; refine wpList_append_lies _ rfl (.tmp 31) (.tmp 32) 34 rfl w.heap.size 36 i0 (.agg #[.int .u8 0, .int .i64 0, .string ⟨#[]⟩]) 3 32 Tryd.underlying34 hi hz0 hz1 hz2 rfl (by decide) _ n (itCells l) rfl HO2.out ⟨b', off', none⟩ n' cap' (itCells l') rfl ?d1 HN2.out (itCells_one l') h0' ?d2 ?d3 H2.out.size _ rfl ?d4)
    case d1 => rw [itCells_len, HL'.out]
    case d2 => unfold maxLen; omega
    case d3 => omega
    case d4 =>
      intro g3 cap3 w3 hown hgrow _ _
      have hb3 : Below w.heap.size w2 w3 := (Below.refl _ _).grown hgrow H2.out.size (fun k hk => ownBlock_ge HO2.out k hk)
      have H3 : Hid (Below w.heap.size w w3) := H2.out.trans hb3
      rw [← itCells_app] at hown
      have HDD : Hid (Doc w3 (some ⟨g3, 0, none⟩) (n + n') cap3 (l ++ l')) := by
        have hA3 := own_at hown
        rcases hown.2 with ⟨hv, _⟩ | ⟨g', cap', cur, hv, _, _, hr, hm, _⟩
        · cases hv
        · simp only [Value.slice.injEq] at hv
          obtain ⟨_, _, rfl⟩ := hv
          unfold maxLen at hm
          exact ⟨HF.out, by rw [List.length_append, HL.out, HL'.out], hr, by omega, fun _ => ⟨_, _, rfl, hA3⟩⟩
      clear hown hgrow hb3
      go_wp2
      rw [rounds_succ]
      go_wp2
      go_ret
      exact ⟨⟨_, _, rfl, HDD.out⟩, H3.out⟩
end Go.Proofs.YtmifcioccnmlaaaDoor
