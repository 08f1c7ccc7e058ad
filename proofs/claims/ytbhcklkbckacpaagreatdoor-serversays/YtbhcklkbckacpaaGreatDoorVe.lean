/-
  Package server: copies.
-/
import Derived.Test.YtbhcklkbckacpaaGreatDoorM10
namespace Go.Proofs.YtbhcklkbckacpaaGreatDoor
open Go.RowKit
theorem Tryz.infE : (Tryz.prog.info? 46).map (fun i => (i.zero, i.size, i.bytes)) = some (some (.agg #[.int .i64 0, .int .i64 0, .slice none 0 0]), 3, 40) := by kernel_rfl
theorem doc_row {w : World} {a : Option Addr} {n c : Nat} {l : List It} (h : Doc w a n c l) : Row w a n c 3 (itCells l) :=
  ⟨by rw [itCells_len, h.len], h.room, h.big, fun hn => by
    obtain ⟨b, off, e, hA⟩ := h.lies hn
    exact ⟨b, off, e, fun j u hu => by have := at_cells hA j u hu; rw [add_off] at this; exact this⟩⟩
theorem row_doc {w : World} {a : Option Addr} {n c : Nat} {l : List It} (h : Row w a n c 3 (itCells l)) (hf : Fit l) : Doc w a n c l :=
  ⟨hf, by have := h.len; rw [itCells_len] at this; omega, h.room, h.big, fun hn => by
    obtain ⟨b, off, e, hc⟩ := h.lies hn
    exact ⟨b, off, e, ⟨fun i hi => hc _ _ (itCells_at l i hi).1, fun i hi => by rw [Nat.add_assoc]; exact hc _ _ (itCells_at l i hi).2.1, fun i hi => by rw [Nat.add_assoc]; exact hc _ _ (itCells_at l i hi).2.2⟩⟩⟩
theorem Doc.kept {w w' : World} {a : Option Addr} {n c : Nat} {l : List It} {S : List Nat} (h : Doc w a n c l) (hk : Kept w w' S) (hn : ∀ ad : Addr, n ≠ 0 → a = some ad → ad.block ∉ S) : Doc w' a n c l := row_doc ((doc_row h).kept (by decide) hk hn) h.fit

set_option maxRecDepth 100000 in
set_option maxHeartbeats 1600000 in
theorem cloneI_any (ao : Option Addr) (n cap : Nat) (cs : List Value) (w : World) (hR : Row w ao n cap 3 cs) (h1 : ∀ u ∈ cs, u.oneCell' = true) (hn : n ≤ 80) :
    Calls Tryz.prog 220 #[.slice ao n cap] w fun e w' => (∃ v, e = .returned v ∧ w'.ownsRow w.heap.size 39 3 v n cs) ∧ Below w.heap.size w w' := by
  obtain ⟨i0, hi, hz0, hz1, hz2⟩ := info_parts Tryz.infI
  have HR : Hid (Row w ao n cap 3 cs) := hR
  have HO : Hid (∀ u ∈ cs, u.oneCell' = true) := h1
  have hlen := hR.len
  have hlies := hR.lies
  clear hR h1
  cases ao with
  | none =>
    have h0 : n = 0 := by
      by_cases hz : n = 0
      · exact hz
      · obtain ⟨b, off, e, _⟩ := hlies hz; cases e
    subst h0
    have hc : cs = [] := by rw [Nat.zero_mul] at hlen; exact List.length_eq_zero_iff.1 hlen
    subst hc
    have hnil : ∀ w, (binOp .eql 33 (.slice none 0 cap) (.slice none 0 0)).run Tryz.prog w = .ok (.bool true) w := fun w => Lib.run_eql_slice_nil (P := Tryz.prog) w 33 39 _ _ _ _ _ Tryz.underlying33
    clear hlies hlen
    go_enter Tryz.func220, Tryz.ntmps220
    go_wp2
    go_ret
    exact ⟨⟨_, rfl, World.ownsRow_nil _ _ _ _⟩, Below.refl _ _⟩
  | some ad =>
    have hnil : ∀ w, (binOp .eql 33 (.slice (some ad) n cap) (.slice none 0 0)).run Tryz.prog w = .ok (.bool false) w := fun w => Lib.run_eql_slice_nil (P := Tryz.prog) w 33 39 _ _ _ _ _ Tryz.underlying33
    clear hlies hlen
    have HB : Hid (Below w.heap.size w (w.alloc (.cells #[] 39))) := (Below.refl _ _).alloc (Nat.le_refl _) _
    go_enter Tryz.func220, Tryz.ntmps220
    go_wp2_with (at_builtin; refine wpList_append_row _ rfl (.tmp 5) (.tmp 6) 33 rfl w.heap.size 39 i0 (.agg #[.int .u8 0, .int .i64 0, .string ⟨#[]⟩]) 3 32 Tryz.underlying33 hi hz0 hz1 hz2 rfl (by decide) _ 0 [] rfl ?c1 (some ad) n cap cs rfl ?c2 HO.out ?c3 ?c4 ?c5 ?c6)
    case c1 => exact World.ownsRow_lit w #[] 0 (Nat.le_refl _) (by decide) rfl
    case c2 => exact HR.out.below HB.out
    case c3 => unfold maxLen; omega
    case c4 => omega
    case c5 => simp
    case c6 =>
      intro v w1 hown hgrow hat
      have H1 : Hid (Below w.heap.size w w1) := HB.out.grown hgrow (by simp) (fun k hk => by simp [Value.ownBlock] at hk; omega)
      have HW : Hid (w1.ownsRow w.heap.size 39 3 v n cs) := by first | exact hown | (rw [Nat.zero_add] at hown; exact hown)
      clear hown hgrow hat
      go_wp2
      go_ret
      exact ⟨⟨v, rfl, HW.out⟩, H1.out⟩

set_option maxRecDepth 100000 in
set_option maxHeartbeats 1600000 in
theorem cloneDR_any (ao : Option Addr) (n cap : Nat) (cs : List Value) (w : World) (hR : Row w ao n cap 3 cs) (h1 : ∀ u ∈ cs, u.oneCell' = true) (hn : n ≤ 80) :
    Calls Tryz.prog 79 #[.slice ao n cap] w fun e w' => (∃ v, e = .returned v ∧ w'.ownsRow w.heap.size 39 3 v n cs) ∧ Below w.heap.size w w' := by
  obtain ⟨i0, hi, hz0, hz1, hz2⟩ := info_parts Tryz.infI
  have HR : Hid (Row w ao n cap 3 cs) := hR
  have HO : Hid (∀ u ∈ cs, u.oneCell' = true) := h1
  have hlen := hR.len
  have hlies := hR.lies
  clear hR h1
  cases ao with
  | none =>
    have h0 : n = 0 := by
      by_cases hz : n = 0
      · exact hz
      · obtain ⟨b, off, e, _⟩ := hlies hz; cases e
    subst h0
    have hc : cs = [] := by rw [Nat.zero_mul] at hlen; exact List.length_eq_zero_iff.1 hlen
    subst hc
    have hnil : ∀ w, (binOp .eql 34 (.slice none 0 cap) (.slice none 0 0)).run Tryz.prog w = .ok (.bool true) w := fun w => Lib.run_eql_slice_nil (P := Tryz.prog) w 34 39 _ _ _ _ _ Tryz.underlying34
    clear hlies hlen
    go_enter Tryz.func79, Tryz.ntmps79
    go_wp2
    go_ret
    exact ⟨⟨_, rfl, World.ownsRow_nil _ _ _ _⟩, Below.refl _ _⟩
  | some ad =>
    have hnil : ∀ w, (binOp .eql 34 (.slice (some ad) n cap) (.slice none 0 0)).run Tryz.prog w = .ok (.bool false) w := fun w => Lib.run_eql_slice_nil (P := Tryz.prog) w 34 39 _ _ _ _ _ Tryz.underlying34
    clear hlies hlen
    have HB : Hid (Below w.heap.size w (w.alloc (.cells #[] 39))) := (Below.refl _ _).alloc (Nat.le_refl _) _
    go_enter Tryz.func79, Tryz.ntmps79
    go_wp2_with (at_builtin; refine wpList_append_row _ rfl (.tmp 5) (.tmp 6) 34 rfl w.heap.size 39 i0 (.agg #[.int .u8 0, .int .i64 0, .string ⟨#[]⟩]) 3 32 Tryz.underlying34 hi hz0 hz1 hz2 rfl (by decide) _ 0 [] rfl ?c1 (some ad) n cap cs rfl ?c2 HO.out ?c3 ?c4 ?c5 ?c6)
    case c1 => exact World.ownsRow_lit w #[] 0 (Nat.le_refl _) (by decide) rfl
    case c2 => exact HR.out.below HB.out
    case c3 => unfold maxLen; omega
    case c4 => omega
    case c5 => simp
    case c6 =>
      intro v w1 hown hgrow hat
      have H1 : Hid (Below w.heap.size w w1) := HB.out.grown hgrow (by simp) (fun k hk => by simp [Value.ownBlock] at hk; omega)
      have HW : Hid (w1.ownsRow w.heap.size 39 3 v n cs) := by first | exact hown | (rw [Nat.zero_add] at hown; exact hown)
      clear hown hgrow hat
      go_wp2
      go_ret
      exact ⟨⟨v, rfl, HW.out⟩, H1.out⟩

set_option maxRecDepth 100000 in
set_option maxHeartbeats 1600000 in
theorem cloneO_any (ao : Option Addr) (n cap : Nat) (cs : List Value) (w : World) (hR : Row w ao n cap 7 cs) (h1 : ∀ u ∈ cs, u.oneCell' = true) (hn : n ≤ 80) :
    Calls Tryz.prog 219 #[.slice ao n cap] w fun e w' => (∃ v, e = .returned v ∧ w'.ownsRow w.heap.size 162 7 v n cs) ∧ Below w.heap.size w w' := by
  obtain ⟨i0, hi, hz0, hz1, hz2⟩ := info_parts Tryz.infP
  have HR : Hid (Row w ao n cap 7 cs) := hR
  have HO : Hid (∀ u ∈ cs, u.oneCell' = true) := h1
  have hlen := hR.len
  have hlies := hR.lies
  clear hR h1
  cases ao with
  | none =>
    have h0 : n = 0 := by
      by_cases hz : n = 0
      · exact hz
      · obtain ⟨b, off, e, _⟩ := hlies hz; cases e
    subst h0
    have hc : cs = [] := by rw [Nat.zero_mul] at hlen; exact List.length_eq_zero_iff.1 hlen
    subst hc
    have hnil : ∀ w, (binOp .eql 44 (.slice none 0 cap) (.slice none 0 0)).run Tryz.prog w = .ok (.bool true) w := fun w => Lib.run_eql_slice_nil (P := Tryz.prog) w 44 162 _ _ _ _ _ Tryz.underlying44
    clear hlies hlen
    go_enter Tryz.func219, Tryz.ntmps219
    go_wp2
    go_ret
    exact ⟨⟨_, rfl, World.ownsRow_nil _ _ _ _⟩, Below.refl _ _⟩
  | some ad =>
    have hnil : ∀ w, (binOp .eql 44 (.slice (some ad) n cap) (.slice none 0 0)).run Tryz.prog w = .ok (.bool false) w := fun w => Lib.run_eql_slice_nil (P := Tryz.prog) w 44 162 _ _ _ _ _ Tryz.underlying44
    clear hlies hlen
    have HB : Hid (Below w.heap.size w (w.alloc (.cells #[] 162))) := (Below.refl _ _).alloc (Nat.le_refl _) _
    go_enter Tryz.func219, Tryz.ntmps219
    go_wp2_with (at_builtin; refine wpList_append_row _ rfl (.tmp 5) (.tmp 6) 44 rfl w.heap.size 162 i0 (.agg #[.int .i64 0, .int .i64 0, .slice none 0 0, .int .i64 0, .int .i64 0, .bool false, .string ⟨#[]⟩]) 7 80 Tryz.underlying44 hi hz0 hz1 hz2 rfl (by decide) _ 0 [] rfl ?c1 (some ad) n cap cs rfl ?c2 HO.out ?c3 ?c4 ?c5 ?c6)
    case c1 => exact World.ownsRow_lit w #[] 0 (Nat.le_refl _) (by decide) rfl
    case c2 => exact HR.out.below HB.out
    case c3 => unfold maxLen; omega
    case c4 => omega
    case c5 => simp
    case c6 =>
      intro v w1 hown hgrow hat
      have H1 : Hid (Below w.heap.size w w1) := HB.out.grown hgrow (by simp) (fun k hk => by simp [Value.ownBlock] at hk; omega)
      have HW : Hid (w1.ownsRow w.heap.size 162 7 v n cs) := by first | exact hown | (rw [Nat.zero_add] at hown; exact hown)
      clear hown hgrow hat
      go_wp2
      go_ret
      exact ⟨⟨v, rfl, HW.out⟩, H1.out⟩

set_option maxRecDepth 100000 in
set_option maxHeartbeats 1600000 in
theorem cloneE_any (ao : Option Addr) (n cap : Nat) (cs : List Value) (w : World) (hR : Row w ao n cap 3 cs) (h1 : ∀ u ∈ cs, u.oneCell' = true) (hn : n ≤ 80) :
    Calls Tryz.prog 150 #[.slice ao n cap] w fun e w' => (∃ v, e = .returned v ∧ w'.ownsRow w.heap.size 46 3 v n cs) ∧ Below w.heap.size w w' := by
  obtain ⟨i0, hi, hz0, hz1, hz2⟩ := info_parts Tryz.infE
  have HR : Hid (Row w ao n cap 3 cs) := hR
  have HO : Hid (∀ u ∈ cs, u.oneCell' = true) := h1
  have hlen := hR.len
  have hlies := hR.lies
  clear hR h1
  cases ao with
  | none =>
    have h0 : n = 0 := by
      by_cases hz : n = 0
      · exact hz
      · obtain ⟨b, off, e, _⟩ := hlies hz; cases e
    subst h0
    have hc : cs = [] := by rw [Nat.zero_mul] at hlen; exact List.length_eq_zero_iff.1 hlen
    subst hc
    have hnil : ∀ w, (binOp .eql 40 (.slice none 0 cap) (.slice none 0 0)).run Tryz.prog w = .ok (.bool true) w := fun w => Lib.run_eql_slice_nil (P := Tryz.prog) w 40 46 _ _ _ _ _ Tryz.underlying40
    clear hlies hlen
    go_enter Tryz.func150, Tryz.ntmps150
    go_wp2
    go_ret
    exact ⟨⟨_, rfl, World.ownsRow_nil _ _ _ _⟩, Below.refl _ _⟩
  | some ad =>
    have hnil : ∀ w, (binOp .eql 40 (.slice (some ad) n cap) (.slice none 0 0)).run Tryz.prog w = .ok (.bool false) w := fun w => Lib.run_eql_slice_nil (P := Tryz.prog) w 40 46 _ _ _ _ _ Tryz.underlying40
    clear hlies hlen
    have HB : Hid (Below w.heap.size w (w.alloc (.cells #[] 46))) := (Below.refl _ _).alloc (Nat.le_refl _) _
    go_enter Tryz.func150, Tryz.ntmps150
    go_wp2_with (at_builtin; refine wpList_append_row _ rfl (.tmp 5) (.tmp 6) 40 rfl w.heap.size 46 i0 (.agg #[.int .i64 0, .int .i64 0, .slice none 0 0]) 3 40 Tryz.underlying40 hi hz0 hz1 hz2 rfl (by decide) _ 0 [] rfl ?c1 (some ad) n cap cs rfl ?c2 HO.out ?c3 ?c4 ?c5 ?c6)
    case c1 => exact World.ownsRow_lit w #[] 0 (Nat.le_refl _) (by decide) rfl
    case c2 => exact HR.out.below HB.out
    case c3 => unfold maxLen; omega
    case c4 => omega
    case c5 => simp
    case c6 =>
      intro v w1 hown hgrow hat
      have H1 : Hid (Below w.heap.size w w1) := HB.out.grown hgrow (by simp) (fun k hk => by simp [Value.ownBlock] at hk; omega)
      have HW : Hid (w1.ownsRow w.heap.size 46 3 v n cs) := by first | exact hown | (rw [Nat.zero_add] at hown; exact hown)
      clear hown hgrow hat
      go_wp2
      go_ret
      exact ⟨⟨v, rfl, HW.out⟩, H1.out⟩

theorem own_slice {w : World} {B n sz : Nat} {e : TypeId} {v : Value} {xs : List Value} (h : w.ownsRow B e sz v n xs) : ∃ a c, v = .slice a n c ∧ Row w a n c sz xs ∧ (∀ ad : Addr, a = some ad → B ≤ ad.block ∧ ad.block < w.heap.size) ∧ (n ≠ 0 → ∃ g, a = some ⟨g, 0, none⟩) := by
  obtain ⟨a, c, hv, hr⟩ := own_row h
  refine ⟨a, c, hv, hr, fun ad e => ?_, fun hn => ?_⟩
  · exact h.lt _ (by rw [hv, e]; rfl)
  · rcases h.2 with ⟨h1, h2⟩ | ⟨g, cap, cur, h1, _⟩
    · exact absurd h2 hn
    · rw [hv] at h1
      simp only [Value.slice.injEq] at h1
      exact ⟨g, h1.1⟩
theorem pvCells_set2 : ∀ (l : List PV) (k : Nat) (h : k < l.length) (a : Option Addr) (m c : Nat), (pvCells l).set (k * 7 + 2) (.slice a m c) = pvCells (l.set k { l[k] with ao := a, m := m, cap := c })
  | [], _, h, _, _, _ => by simp at h
  | x :: l, 0, _, a, m, c => rfl
  | x :: l, k + 1, h, a, m, c => by
    have := pvCells_set2 l k (by simpa using h) a m c
    rw [show (k + 1) * 7 + 2 = k * 7 + 2 + 1 + 1 + 1 + 1 + 1 + 1 + 1 by omega]
    simp only [pvCells_cons, List.set_cons_succ, List.getElem_cons_succ]
    rw [this]
theorem set_mid {α : Type} (us vs : List α) (k : Nat) (h : k < vs.length) (hk : us.length = k) (y : α) : (us ++ vs.drop k).set k y = (us ++ [y]) ++ vs.drop (k + 1) := by
  subst hk
  rw [List.drop_eq_getElem_cons h, List.set_append_right _ _ (Nat.le_refl _), Nat.sub_self, List.set_cons_zero, List.append_assoc]
  rfl
theorem get_mid {α : Type} (us vs : List α) (k : Nat) (h : k < vs.length) (hk : us.length = k) (hm : k < (us ++ vs.drop k).length) : (us ++ vs.drop k)[k] = vs[k] := by
  subst hk
  rw [List.getElem_append_right (Nat.le_refl _)]
  simp

set_option maxRecDepth 100000 in
set_option maxHeartbeats 1600000 in
theorem copy_any (ao : Option Addr) (n cap : Nat) (vs : List PV) (w : World) (hO : Ops w ao n cap vs) (h0 : 0 < n) (hn : n ≤ 40) (hm : ∀ v ∈ vs, v.m ≤ 80) :
    Calls Tryz.prog 151 #[.slice ao n cap] w fun e w' => (∃ a c us, e = .returned (.slice a n c) ∧ OpsFrom w.heap.size w' a n c us ∧ us.map PV.pt = vs.map PV.pt) ∧ Below w.heap.size w w' := by
  have HO : Hid (Ops w ao n cap vs) := hO
  have HN : Hid (vs.length = n) := hO.len
  have HM : Hid (∀ v ∈ vs, v.m ≤ 80) := hm
  clear hO hm
  have CC : Hid (Calls Tryz.prog 219 #[.slice ao n cap] w fun e w' => (∃ v, e = .returned v ∧ w'.ownsRow w.heap.size 162 7 v n (pvCells vs)) ∧ Below w.heap.size w w') := cloneO_any ao n cap (pvCells vs) w HO.out.row (pvCells_oneCell vs) (by omega)
  go_enter Tryz.func151, Tryz.ntmps151
  go_wp2_with fail
  refine CC.out.mono ?_
  rintro e w1 ⟨⟨v, rfl, ho⟩, hb⟩
  obtain ⟨a, c, rfl, hr, hlo, hg⟩ := own_slice ho
  obtain ⟨g, rfl⟩ := hg (by omega)
  have hroom := hr.room
  have hbig := hr.big
  obtain ⟨hgl, hgu⟩ := hlo _ rfl
  have HOW : Hid (w1.ownsRow w.heap.size 162 7 (.slice (some ⟨g, 0, none⟩) n c) n (pvCells vs)) := ho
  have H1 : Hid (Below w.heap.size w w1) := hb
  have HGU : Hid (g < w1.heap.size) := hgu
  have HGL : Hid (w.heap.size ≤ g) := hgl
  clear ho hb hr hlo hg CC hgl hgu
  go_wp2
  go_loopw [8] (fun i wr => ∃ (k : Nat) (us : List PV), k ≤ n ∧ i = .int .i64 k ∧ us.length = k ∧ us.map PV.pt = (vs.take k).map PV.pt ∧ wr.ownsRow w.heap.size 162 7 (.slice (some ⟨g, 0, none⟩) n c) n (pvCells (us ++ vs.drop k)) ∧ (∀ v ∈ us, Pvt wr v ∧ ∀ ad : Addr, v.m ≠ 0 → v.ao = some ad → g < ad.block) ∧ Below w.heap.size w wr ∧ g < wr.heap.size) (fun i _ => n - (intOf i).toNat)
  case atStart => exact ⟨0, [], Nat.zero_le _, rfl, rfl, rfl, HOW.out, fun v hv => absurd hv (by simp), H1.out, HGU.out⟩
  case round =>
    obtain ⟨k, us, hk, rfl, hul, hup, how, hpv, hbr, hgs⟩ := hrel
    have HUL : Hid (us.length = k) := hul
    have HUP : Hid (us.map PV.pt = (vs.take k).map PV.pt) := hup
    have HWR : Hid (wr.ownsRow w.heap.size 162 7 (.slice (some ⟨g, 0, none⟩) n c) n (pvCells (us ++ vs.drop k))) := how
    have HPV : Hid (∀ v ∈ us, Pvt wr v ∧ ∀ ad : Addr, v.m ≠ 0 → v.ao = some ad → g < ad.block) := hpv
    have HBR : Hid (Below w.heap.size w wr) := hbr
    have HGS : Hid (g < wr.heap.size) := hgs
    clear hul hup how hpv hbr hgs
    by_cases hlt : k < n
    · have h1 : k < vs.length := by rw [HN.out]; exact hlt
      have h2 : k < (us ++ vs.drop k).length := by rw [List.length_append, List.length_drop, HUL.out, HN.out]; omega
      have hgm := get_mid us vs k h1 HUL.out h2
      have c2 : wr.cell? ⟨g, k * 7 + 2, none⟩ = some (.slice vs[k].ao vs[k].m vs[k].cap) := by
        rw [HWR.out.cellAt (k * 7 + 2) (by omega), (pvCells_at _ k h2).2.2.1, hgm]
      have HPt : Hid (Pvt wr vs[k]) := (HO.out.pts _ (List.getElem_mem h1)).below HBR.out
      have hm80 : vs[k].m ≤ 80 := HM.out _ (List.getElem_mem h1)
      have CI : Hid (Calls Tryz.prog 220 #[.slice vs[k].ao vs[k].m vs[k].cap] wr fun e w' => (∃ v, e = .returned v ∧ w'.ownsRow wr.heap.size 39 3 v vs[k].m (itCells vs[k].items)) ∧ Below wr.heap.size wr w') := cloneI_any _ _ _ _ _ (doc_row HPt.out.doc) (itCells_one _) hm80
      have HTK : Hid ((vs.take (k + 1)).map PV.pt = (vs.take k).map PV.pt ++ [vs[k].pt]) := by show _ = _; rw [List.take_succ_eq_append_getElem h1, List.map_append]; rfl
      have HSET : Hid (∀ (x : PV), (us ++ vs.drop k).set k x = (us ++ [x]) ++ vs.drop (k + 1)) := fun x => set_mid us vs k h1 HUL.out x
      have HH2 : Hid (k < (us ++ vs.drop k).length) := h2
      have HGM : Hid ((us ++ vs.drop k)[k]'HH2.out = vs[k]) := hgm
      generalize vs[k] = v at *
      clear h1 h2 hgm
      go_wp2_with fail
      refine CI.out.mono ?_
      rintro e w2 ⟨⟨x, rfl, hox⟩, hb⟩
      obtain ⟨a', c', rfl, hr', hlo', -⟩ := own_slice hox
      have HD : Hid (Doc w2 a' v.m c' v.items) := row_doc hr' HPt.out.doc.fit
      have HLO : Hid (∀ ad : Addr, a' = some ad → g < ad.block) := fun ad e => by have := (hlo' ad e).1; have := HGS.out; omega
      have hW2 : w2.ownsRow w.heap.size 162 7 (.slice (some ⟨g, 0, none⟩) n c) n (pvCells (us ++ vs.drop k)) := own_under HWR.out hb
      have HB2 : Hid (Below w.heap.size w w2) := HBR.out.trans (hb.mono HBR.out.size)
      have HS2 : Hid (g < w2.heap.size) := Nat.lt_of_lt_of_le HGS.out hb.size
      have HPV2 : Hid (∀ v ∈ us, Pvt w2 v ∧ ∀ ad : Addr, v.m ≠ 0 → v.ao = some ad → g < ad.block) := fun u hu => ⟨(HPV.out u hu).1.below hb, (HPV.out u hu).2⟩
      have c3 : w2.cell? ⟨g, k * 7 + 2, none⟩ = some (.slice v.ao v.m v.cap) := cell_below c2 hb
      have f3 := hW2.frozenAt (k * 7 + 2)
      have HST : Hid ((w2.setCell ⟨g, k * 7 + 2, none⟩ (.slice a' v.m c')).ownsRow w.heap.size 162 7 (.slice (some ⟨g, 0, none⟩) n c) n (pvCells ((us ++ [{ v with ao := a', m := v.m, cap := c' }]) ++ vs.drop (k + 1)))) := by
        have h := (hW2.stored (k * 7 + 2) (.slice a' v.m c')).1
        rw [pvCells_set2 _ _ HH2.out, HGM.out, HSET.out] at h
        exact h
      have HK2 : Hid (Kept w2 (w2.setCell ⟨g, k * 7 + 2, none⟩ (.slice a' v.m c')) [g]) := kept_set _ _ _ _ _ (by simp)
      have HB3 : Hid (Below w.heap.size w (w2.setCell ⟨g, k * 7 + 2, none⟩ (.slice a' v.m c'))) := HB2.out.setCell HGL.out _
      clear hox hb hr' hlo' hW2 c2
      go_wp2
      go_roundw
      case rel =>
        refine ⟨k + 1, us ++ [{ v with ao := a', m := v.m, cap := c' }], by omega, by go_num, by rw [List.length_append, HUL.out]; rfl, by rw [List.map_append, HUP.out, HTK.out]; rfl, HST.out, fun u hu => ?_, HB3.out, by rw [World.size_setCell]; exact HS2.out⟩
        rcases List.mem_append.1 hu with hu | hu
        · exact ⟨(HPV2.out u hu).1.kept HK2.out (fun ad h1 h2 hx => by have := (HPV2.out u hu).2 ad h1 h2; simp at hx; omega), (HPV2.out u hu).2⟩
        · rw [List.mem_singleton] at hu
          subst hu
          exact ⟨⟨HD.out.kept HK2.out (fun ad _ h2 hx => by have := HLO.out ad h2; simp at hx; omega), HPt.out.fit⟩, fun ad _ h2 => HLO.out ad h2⟩
      case measure => simp [intOf]; omega
    · obtain rfl : k = n := by omega
      have hd : vs.drop k = [] := List.drop_eq_nil_of_le (by rw [HN.out]; exact Nat.le_refl _)
      have ht : vs.take k = vs := List.take_of_length_le (by rw [HN.out]; exact Nat.le_refl _)
      have HF : Hid (OpsFrom w.heap.size wr (some ⟨g, 0, none⟩) k c us) := by
        have h := HWR.out
        rw [hd, List.append_nil] at h
        obtain ⟨a, c2, e, hr, -, -⟩ := own_slice h
        simp only [Value.slice.injEq] at e
        obtain ⟨rfl, _, rfl⟩ := e
        exact ⟨⟨hr, fun u hu => (HPV.out u hu).1⟩, fun ad _ e => by cases e; exact HGL.out, fun u hu ad h1 h2 => by have := (HPV.out u hu).2 ad h1 h2; have := HGL.out; omega⟩
      have HP : Hid (us.map PV.pt = vs.map PV.pt) := by show _ = _; rw [HUP.out, ht]
      go_wp2
      go_ret
      exact ⟨⟨_, c, us, rfl, HF.out, HP.out⟩, HBR.out⟩
end Go.Proofs.YtbhcklkbckacpaaGreatDoor
