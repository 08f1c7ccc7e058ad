/-
  slices.Grow of nothing and slices.Concat, of bytes and of tokens.
-/
import Derived.Test.YtdlacdoakkklaabDoorTn
import Derived.Deep.Upon
import Derived.Deep.AppendSrc
namespace Go.Proofs.YtdlacdoakkklaabDoor
open Go.RowKit

/-- An append whose run is known, in a region's list. -/
theorem wpList_app {P : Program} {w : World} {ops : Array Oper} {rest : List Oper} {o : Oper} {a : Act} {Q : Exit → Act → World → Prop} (hgd : o.guard = none) (s x : Operand) (ts : Array TypeId)
    (ho : o.op = .call { callee := .builtin .append, args := #[s, x], argTypes := ts }) (v u r : Value) (w' : World) (hs : a.eval s = v) (hx : a.eval x = u)
    (hr : (Builtin.append_ ts o.type #[v, u]).run P w = .ok r w') (h : wpList P ops Q rest (a.put o.dst r) w') : wpList P ops Q (o :: rest) a w :=
  wpList_plain hgd fun _ hK => by
    unfold Oper.wp execOp
    simp only [ho, resolve, invoke, builtin, Sem.run_bind, Sem.run_pure, Result.andThen_ok, List.map_toArray, List.map_cons, List.map_nil, hs, hx, hr]
    exact hK _ _ h
theorem own_zero (w : World) (e : TypeId) (zc : Array Value) (s cap sz : Nat) (hz : zc.size = sz) (h1 : s ≤ cap) (h2 : cap ≤ maxLen) :
    (w.drew.alloc (.cells (Builtin.zeroCells zc s ++ Builtin.zeroCells zc (cap - s)) e)).ownsRow w.heap.size e sz (.slice (some ⟨w.heap.size, 0, none⟩) 0 cap) 0 [] := by
  refine ⟨by simp, .inr ⟨w.heap.size, cap, _, rfl, Nat.le_refl _, heap_alloc_new w.drew _, Nat.zero_le _, h2, ?_, by simp⟩⟩
  rw [Array.size_append, size_zeroCells, size_zeroCells, hz, ← Nat.add_mul]
  congr 1
  omega
/-- A part of what is put together. -/
structure Pc where
  ao : Option Addr
  n : Nat
  cap : Nat
  cs : List Value
def Pc.tot (ps : List Pc) : Nat := (ps.map Pc.n).sum
def Pc.cat (ps : List Pc) : List Value := ps.flatMap Pc.cs
theorem Pc.tot_snoc (ps : List Pc) (p : Pc) : Pc.tot (ps ++ [p]) = Pc.tot ps + p.n := by simp [Pc.tot]
theorem Pc.cat_snoc (ps : List Pc) (p : Pc) : Pc.cat (ps ++ [p]) = Pc.cat ps ++ p.cs := by simp [Pc.cat]
theorem Pc.tot_take (ps : List Pc) (k : Nat) : Pc.tot (ps.take k) ≤ Pc.tot ps := by
  have : Pc.tot ps = Pc.tot (ps.take k) + Pc.tot (ps.drop k) := by
    unfold Pc.tot
    rw [← List.sum_append, ← List.map_append, List.take_append_drop]
  omega
/-- Its parts lie in block gb. -/
structure Pcs (w : World) (gb sz bd : Nat) (ps : List Pc) : Prop where
  cell : ∀ i (h : i < ps.length), w.cell? ⟨gb, i, none⟩ = some (.slice ps[i].ao ps[i].n ps[i].cap)
  row : ∀ i (h : i < ps.length), Row w ps[i].ao ps[i].n ps[i].cap sz ps[i].cs
  one : ∀ i (h : i < ps.length), ∀ u ∈ ps[i].cs, u.oneCell' = true
  sum : Pc.tot ps ≤ bd
  few : ps.length ≤ 100
theorem src_none {P : Program} {size : Nat} {tx e : TypeId} {ao : Option Addr} {cap : Nat} {w : World} (h : P.underlying tx = some (.slice e)) : Src P size tx (.slice ao 0 cap) 0 [] w := by
  refine ⟨.inl ⟨e, h⟩, fun w' => rfl, ?_, ?_, by simp, fun u hu => by cases hu⟩
  all_goals
    cases ao
    · rfl
    · simp only [Builtin.firstCells, Nat.zero_mul]
      rfl

theorem Tryd.infB : (Tryd.prog.info? 5).map (fun i => (i.zero, i.size, i.bytes)) = some (some (Value.int .u8 0), 1, 1) := by kernel_rfl
set_option maxRecDepth 100000 in
set_option maxHeartbeats 1600000 in
theorem growB_zero (w : World) : Calls Tryd.prog 27 #[.slice none 0 0, .int .i64 0] w fun e w' => (∃ v, e = .returned v ∧ w'.ownsRow w.heap.size 5 1 v 0 []) ∧ Below w.heap.size w w' := by
  go_enter Tryd.func27, Tryd.ntmps27
  go_wp2
  go_ret
  exact ⟨⟨_, rfl, World.ownsRow_nil _ _ _ _⟩, Below.refl _ _⟩
set_option maxRecDepth 100000 in
set_option maxHeartbeats 1600000 in
theorem growB_pos (s : Nat) (w : World) (h0 : 0 < s) (hs : s ≤ 140737488355328) : Calls Tryd.prog 27 #[.slice none 0 0, .int .i64 s] w fun e w' => (∃ v, e = .returned v ∧ w'.ownsRow w.heap.size 5 1 v 0 []) ∧ Below w.heap.size w w' := by
  obtain ⟨i0, hi, hz0, hz1, hz2⟩ := info_parts Tryd.infB
  have hap := Lib.run_append_nil_zeros (P := Tryd.prog) w 30 3 30 5 i0 (Value.int .u8 0) .i64 .i64 Tryd.underlying30 Tryd.underlying3 hi hz0 s h0 (by omega) (by omega) (by rw [hz2]; omega)
  go_enter Tryd.func27, Tryd.ntmps27
  have hca := grownCap_ge w s 0 5
  have hcb := grownCap_le_maxLen w s 0 5 (by unfold maxLen; omega)
  have HO : Hid ((w.drew.alloc (.cells (Builtin.zeroCells #[Value.int .u8 0] s ++ Builtin.zeroCells #[Value.int .u8 0] (grownCap w s 0 5 - s)) 5)).ownsRow w.heap.size 5 1 (.slice (some ⟨w.heap.size, 0, none⟩) 0 (grownCap w s 0 5)) 0 []) := own_zero w 5 #[Value.int .u8 0] s _ 1 rfl hca hcb
  have HB : Hid (∀ o, Below w.heap.size w (w.drew.alloc o)) := fun o => (Below.refl _ _).drew.alloc (Nat.le_refl _) _
  unfold maxLen at hcb
  generalize grownCap w s 0 5 = cap at *
  go_wp2_with (at_builtin; refine wpList_app rfl (.tmp 20) (.tmp 21) #[30, 3] rfl _ _ _ _ rfl rfl hap ?_)
  go_ret
  exact ⟨⟨_, rfl, HO.out⟩, HB.out _⟩
theorem growB_any (s : Nat) (w : World) (hs : s ≤ 140737488355328) : Calls Tryd.prog 27 #[.slice none 0 0, .int .i64 s] w fun e w' => (∃ v, e = .returned v ∧ w'.ownsRow w.heap.size 5 1 v 0 []) ∧ Below w.heap.size w w' := by
  rcases Nat.eq_zero_or_pos s with rfl | h
  · exact growB_zero w
  · exact growB_pos s w h hs

set_option maxRecDepth 100000 in
set_option maxHeartbeats 1600000 in
theorem concatB_any (gb : Nat) (ps : List Pc) (w : World) (hP : Pcs w gb 1 140737488355328 ps) :
    Calls Tryd.prog 12 #[.slice (some ⟨gb, 0, none⟩) ps.length ps.length] w fun e w' => (∃ ao' cap', e = .returned (.slice ao' (Pc.tot ps) cap') ∧ Row w' ao' (Pc.tot ps) cap' 1 (Pc.cat ps)) ∧ Below w.heap.size w w' := by
  obtain ⟨i0, hi, hz0, hz1, hz2⟩ := info_parts Tryd.infB
  have HP : Hid (Pcs w gb 1 140737488355328 ps) := hP
  have hsum := hP.sum
  have hfew := hP.few
  obtain ⟨K, hK⟩ : ∃ K, ps.length = K := ⟨_, rfl⟩
  obtain ⟨T, hT⟩ : ∃ T, Pc.tot ps = T := ⟨_, rfl⟩
  have HK : Hid (ps.length = K) := hK
  have HT : Hid (Pc.tot ps = T) := hT
  rw [hK, hT]
  rw [hT] at hsum
  rw [hK] at hfew
  have hpart : ∀ k, Pc.tot (ps.take k) ≤ T := fun k => by rw [← hT]; exact Pc.tot_take ps k
  have HPart : Hid (∀ k, Pc.tot (ps.take k) ≤ T) := hpart
  clear hP hK hT hpart
  go_enter Tryd.func12, Tryd.ntmps12
  go_wp2
  go_loopw [3, 11] (fun s i wr => ∃ k : Nat, k ≤ K ∧ i = .int .i64 k ∧ s = .int .i64 (Pc.tot (ps.take k)) ∧ wr = w) (fun _ i _ => K - (intOf i).toNat)
  case atStart => exact ⟨0, Nat.zero_le _, rfl, by simp [Pc.tot], rfl⟩
  case round =>
    obtain ⟨k, hk, rfl, rfl, hw⟩ := hrel
    rw [hw]
    clear hw wr
    by_cases hlt : k < K
    · have hkl : k < ps.length := by rw [HK.out]; exact hlt
      have hc := HP.out.cell k hkl
      have HS : Hid (Pc.tot (ps.take (k + 1)) = Pc.tot (ps.take k) + ps[k].n) := by show _ = _; rw [List.take_succ_eq_append_getElem hkl, Pc.tot_snoc]
      have b1 := HPart.out k
      have b2 := HPart.out (k + 1)
      rw [HS.out] at b2
      generalize Pc.tot (ps.take k) = t at *
      generalize ps[k] = p at *
      obtain ⟨pao, pn, pcap, pcs⟩ := p
      simp only at hc b2
      go_wp2
      go_roundw
      case rel => exact ⟨k + 1, by omega, by go_num, by rw [HS.out]; go_num, trivial⟩
      case measure => simp [intOf]; omega
    · have hkk : k = K := by omega
      subst hkk
      have ht : Pc.tot (ps.take k) = T := by rw [← HK.out, List.take_length]; exact HT.out
      rw [ht]
      go_wp2_with fail
      refine (growB_any T _ hsum).mono ?_
      rintro e w1 ⟨⟨v, rfl, ho⟩, hb⟩
      have H1 : Hid (Below w.heap.size w w1) := hb
      have HO : Hid (w1.ownsRow w.heap.size 5 1 v 0 []) := ho
      clear ho hb ht
      go_wp2
      go_loopw [6, 27] (fun v i wx => ∃ j : Nat, j ≤ k ∧ i = .int .i64 j ∧ wx.ownsRow w.heap.size 5 1 v (Pc.tot (ps.take j)) (Pc.cat (ps.take j)) ∧ Below w.heap.size w wx) (fun _ i _ => k - (intOf i).toNat)
      case atStart => exact ⟨0, Nat.zero_le _, rfl, by simpa [Pc.tot, Pc.cat] using HO.out, H1.out⟩
      case round =>
        obtain ⟨j, hj, rfl, ho, hb⟩ := hrel
        have HO2 : Hid (wr.ownsRow w.heap.size 5 1 u6 (Pc.tot (ps.take j)) (Pc.cat (ps.take j))) := ho
        have HB2 : Hid (Below w.heap.size w wr) := hb
        clear ho hb
        by_cases hjk : j < k
        · have hjl : j < ps.length := by rw [HK.out]; exact hjk
          have hc := cell_under (HP.out.cell j hjl) HB2.out
          have hrow := (HP.out.row j hjl).below HB2.out
          have hone := HP.out.one j hjl
          have HS : Hid (Pc.tot (ps.take (j + 1)) = Pc.tot (ps.take j) + ps[j].n) := by show _ = _; rw [List.take_succ_eq_append_getElem hjl, Pc.tot_snoc]
          have HC : Hid (Pc.cat (ps.take (j + 1)) = Pc.cat (ps.take j) ++ ps[j].cs) := by show _ = _; rw [List.take_succ_eq_append_getElem hjl, Pc.cat_snoc]
          have b2 := HPart.out (j + 1)
          rw [HS.out] at b2
          have HROW : Hid (Row wr ps[j].ao ps[j].n ps[j].cap 1 ps[j].cs) := hrow
          have HONE : Hid (∀ u ∈ ps[j].cs, u.oneCell' = true) := hone
          clear hrow hone
          obtain ⟨t, ht⟩ : ∃ t, Pc.tot (ps.take j) = t := ⟨_, rfl⟩
          obtain ⟨ks, hks⟩ : ∃ ks, Pc.cat (ps.take j) = ks := ⟨_, rfl⟩
          rw [ht] at HO2 HS b2
          rw [hks] at HO2 HC
          clear ht hks
          generalize ps[j] = p at *
          obtain ⟨pao, pn, pcap, pcs⟩ := p
          simp only at hc b2 HS HC HROW HONE
          by_cases hp0 : pn = 0
          · subst hp0
            have hcs : pcs = [] := by have := HROW.out.len; simpa using this
            subst hcs
            obtain ⟨ao', cap', hv, hr⟩ := own_row HO2.out
            have hrm := hr.room
            have hap := run_append_nothing (P := Tryd.prog) wr 30 30 30 5 i0 Tryd.underlying30 hi ao' t cap' hrm (.slice pao 0 pcap) (src_none Tryd.underlying30)
            subst hv
            clear hr
            go_wp2_with (at_builtin; refine wpList_app rfl (.tmp 31) (.tmp 32) #[30, 30] rfl _ _ _ _ rfl rfl hap ?_)
            go_wp2
            go_roundw
            case rel => exact ⟨j + 1, by omega, by go_num, by rw [HS.out, HC.out, List.append_nil]; exact HO2.out, HB2.out⟩
            case measure => simp [intOf]; omega
          · obtain ⟨b, off, rfl, hcl⟩ := HROW.out.lies hp0
            have HN : Hid (∀ j u, pcs[j]? = some u → wr.cell? ((⟨b, off, none⟩ : Addr).add j) = some u) := fun j u hu => by
              have hadd : (⟨b, off, none⟩ : Addr).add j = ⟨b, off + j, none⟩ := by unfold Addr.add; split <;> simp_all
              rw [hadd]
              exact hcl j u hu
            clear hcl
            go_wp2_with (at_builtin; refine wpList_append_lies _ rfl (.tmp 31) (.tmp 32) 30 rfl w.heap.size 5 i0 (Value.int .u8 0) 1 1 Tryd.underlying30 hi hz0 hz1 hz2 rfl (by decide) u6 t ks rfl HO2.out ⟨b, off, none⟩ pn pcap pcs rfl HROW.out.len HN.out HONE.out (Nat.pos_of_ne_zero hp0) ?c2 ?c3 HB2.out.size _ rfl ?c4)
            case c2 => unfold maxLen; omega
            case c3 => omega
            case c4 =>
              intro g cap2 w2 hown hgrow _ _
              have H2 : Hid (Below w.heap.size w w2) := HB2.out.trans ((Below.refl _ _).grown hgrow HB2.out.size (fun k hk => ownBlk_ge HO2.out k hk))
              have HO3 : Hid (w2.ownsRow w.heap.size 5 1 (.slice (some ⟨g, 0, none⟩) (t + pn) cap2) (t + pn) (ks ++ pcs)) := hown
              clear hown hgrow
              go_wp2
              go_roundw
              case rel => exact ⟨j + 1, by omega, by go_num, by rw [HS.out, HC.out]; exact HO3.out, H2.out⟩
              case measure => simp [intOf]; omega
        · have hjj : j = k := by omega
          subst hjj
          have e1 : ps.take j = ps := by rw [← HK.out, List.take_length]
          rw [e1, HT.out] at HO2
          obtain ⟨ao', cap', hv, hr⟩ := own_row HO2.out
          have HR : Hid (Row wr ao' T cap' 1 (Pc.cat ps)) := hr
          subst hv
          clear hr e1
          go_wp2
          go_ret
          exact ⟨⟨ao', cap', rfl, HR.out⟩, HB2.out⟩

theorem Tryd.infT : (Tryd.prog.info? 34).map (fun i => (i.zero, i.size, i.bytes)) = some (some (Value.agg #[.int .i64 0, .string ⟨#[]⟩, .string ⟨#[]⟩, .string ⟨#[]⟩]), 4, 56) := by kernel_rfl
set_option maxRecDepth 100000 in
set_option maxHeartbeats 1600000 in
theorem growT_zero (w : World) : Calls Tryd.prog 28 #[.slice none 0 0, .int .i64 0] w fun e w' => (∃ v, e = .returned v ∧ w'.ownsRow w.heap.size 34 4 v 0 []) ∧ Below w.heap.size w w' := by
  go_enter Tryd.func28, Tryd.ntmps28
  go_wp2
  go_ret
  exact ⟨⟨_, rfl, World.ownsRow_nil _ _ _ _⟩, Below.refl _ _⟩
set_option maxRecDepth 100000 in
set_option maxHeartbeats 1600000 in
theorem growT_pos (s : Nat) (w : World) (h0 : 0 < s) (hs : s ≤ 100000) : Calls Tryd.prog 28 #[.slice none 0 0, .int .i64 s] w fun e w' => (∃ v, e = .returned v ∧ w'.ownsRow w.heap.size 34 4 v 0 []) ∧ Below w.heap.size w w' := by
  obtain ⟨i0, hi, hz0, hz1, hz2⟩ := info_parts Tryd.infT
  have hap := Lib.run_append_nil_zeros (P := Tryd.prog) w 27 3 27 34 i0 (Value.agg #[.int .i64 0, .string ⟨#[]⟩, .string ⟨#[]⟩, .string ⟨#[]⟩]) .i64 .i64 Tryd.underlying27 Tryd.underlying3 hi hz0 s h0 (by omega) (by omega) (by rw [hz2]; omega)
  go_enter Tryd.func28, Tryd.ntmps28
  have hca := grownCap_ge w s 0 34
  have hcb := grownCap_le_maxLen w s 0 34 (by unfold maxLen; omega)
  have HO : Hid ((w.drew.alloc (.cells (Builtin.zeroCells #[Value.int .i64 0, Value.string ⟨#[]⟩, Value.string ⟨#[]⟩, Value.string ⟨#[]⟩] s ++ Builtin.zeroCells #[Value.int .i64 0, Value.string ⟨#[]⟩, Value.string ⟨#[]⟩, Value.string ⟨#[]⟩] (grownCap w s 0 34 - s)) 34)).ownsRow w.heap.size 34 4 (.slice (some ⟨w.heap.size, 0, none⟩) 0 (grownCap w s 0 34)) 0 []) := own_zero w 34 #[Value.int .i64 0, Value.string ⟨#[]⟩, Value.string ⟨#[]⟩, Value.string ⟨#[]⟩] s _ 4 rfl hca hcb
  have HB : Hid (∀ o, Below w.heap.size w (w.drew.alloc o)) := fun o => (Below.refl _ _).drew.alloc (Nat.le_refl _) _
  unfold maxLen at hcb
  generalize grownCap w s 0 34 = cap at *
  go_wp2_with (at_builtin; refine wpList_app rfl (.tmp 20) (.tmp 21) #[27, 3] rfl _ _ _ _ rfl rfl hap ?_)
  go_ret
  exact ⟨⟨_, rfl, HO.out⟩, HB.out _⟩
theorem growT_any (s : Nat) (w : World) (hs : s ≤ 100000) : Calls Tryd.prog 28 #[.slice none 0 0, .int .i64 s] w fun e w' => (∃ v, e = .returned v ∧ w'.ownsRow w.heap.size 34 4 v 0 []) ∧ Below w.heap.size w w' := by
  rcases Nat.eq_zero_or_pos s with rfl | h
  · exact growT_zero w
  · exact growT_pos s w h hs

set_option maxRecDepth 100000 in
set_option maxHeartbeats 1600000 in
theorem concatT_any (gb : Nat) (ps : List Pc) (w : World) (hP : Pcs w gb 4 100000 ps) :
    Calls Tryd.prog 14 #[.slice (some ⟨gb, 0, none⟩) ps.length ps.length] w fun e w' => (∃ ao' cap', e = .returned (.slice ao' (Pc.tot ps) cap') ∧ Row w' ao' (Pc.tot ps) cap' 4 (Pc.cat ps)) ∧ Below w.heap.size w w' := by
  obtain ⟨i0, hi, hz0, hz1, hz2⟩ := info_parts Tryd.infT
  have HP : Hid (Pcs w gb 4 100000 ps) := hP
  have hsum := hP.sum
  have hfew := hP.few
  obtain ⟨K, hK⟩ : ∃ K, ps.length = K := ⟨_, rfl⟩
  obtain ⟨T, hT⟩ : ∃ T, Pc.tot ps = T := ⟨_, rfl⟩
  have HK : Hid (ps.length = K) := hK
  have HT : Hid (Pc.tot ps = T) := hT
  rw [hK, hT]
  rw [hT] at hsum
  rw [hK] at hfew
  have hpart : ∀ k, Pc.tot (ps.take k) ≤ T := fun k => by rw [← hT]; exact Pc.tot_take ps k
  have HPart : Hid (∀ k, Pc.tot (ps.take k) ≤ T) := hpart
  clear hP hK hT hpart
  go_enter Tryd.func14, Tryd.ntmps14
  go_wp2
  go_loopw [3, 11] (fun s i wr => ∃ k : Nat, k ≤ K ∧ i = .int .i64 k ∧ s = .int .i64 (Pc.tot (ps.take k)) ∧ wr = w) (fun _ i _ => K - (intOf i).toNat)
  case atStart => exact ⟨0, Nat.zero_le _, rfl, by simp [Pc.tot], rfl⟩
  case round =>
    obtain ⟨k, hk, rfl, rfl, hw⟩ := hrel
    rw [hw]
    clear hw wr
    by_cases hlt : k < K
    · have hkl : k < ps.length := by rw [HK.out]; exact hlt
      have hc := HP.out.cell k hkl
      have HS : Hid (Pc.tot (ps.take (k + 1)) = Pc.tot (ps.take k) + ps[k].n) := by show _ = _; rw [List.take_succ_eq_append_getElem hkl, Pc.tot_snoc]
      have b1 := HPart.out k
      have b2 := HPart.out (k + 1)
      rw [HS.out] at b2
      generalize Pc.tot (ps.take k) = t at *
      generalize ps[k] = p at *
      obtain ⟨pao, pn, pcap, pcs⟩ := p
      simp only at hc b2
      go_wp2
      go_roundw
      case rel => exact ⟨k + 1, by omega, by go_num, by rw [HS.out]; go_num, trivial⟩
      case measure => simp [intOf]; omega
    · have hkk : k = K := by omega
      subst hkk
      have ht : Pc.tot (ps.take k) = T := by rw [← HK.out, List.take_length]; exact HT.out
      rw [ht]
      go_wp2_with fail
      refine (growT_any T _ hsum).mono ?_
      rintro e w1 ⟨⟨v, rfl, ho⟩, hb⟩
      have H1 : Hid (Below w.heap.size w w1) := hb
      have HO : Hid (w1.ownsRow w.heap.size 34 4 v 0 []) := ho
      clear ho hb ht
      go_wp2
      go_loopw [6, 27] (fun v i wx => ∃ j : Nat, j ≤ k ∧ i = .int .i64 j ∧ wx.ownsRow w.heap.size 34 4 v (Pc.tot (ps.take j)) (Pc.cat (ps.take j)) ∧ Below w.heap.size w wx) (fun _ i _ => k - (intOf i).toNat)
      case atStart => exact ⟨0, Nat.zero_le _, rfl, by simpa [Pc.tot, Pc.cat] using HO.out, H1.out⟩
      case round =>
        obtain ⟨j, hj, rfl, ho, hb⟩ := hrel
        have HO2 : Hid (wr.ownsRow w.heap.size 34 4 u6 (Pc.tot (ps.take j)) (Pc.cat (ps.take j))) := ho
        have HB2 : Hid (Below w.heap.size w wr) := hb
        clear ho hb
        by_cases hjk : j < k
        · have hjl : j < ps.length := by rw [HK.out]; exact hjk
          have hc := cell_under (HP.out.cell j hjl) HB2.out
          have hrow := (HP.out.row j hjl).below HB2.out
          have hone := HP.out.one j hjl
          have HS : Hid (Pc.tot (ps.take (j + 1)) = Pc.tot (ps.take j) + ps[j].n) := by show _ = _; rw [List.take_succ_eq_append_getElem hjl, Pc.tot_snoc]
          have HC : Hid (Pc.cat (ps.take (j + 1)) = Pc.cat (ps.take j) ++ ps[j].cs) := by show _ = _; rw [List.take_succ_eq_append_getElem hjl, Pc.cat_snoc]
          have b2 := HPart.out (j + 1)
          rw [HS.out] at b2
          have HROW : Hid (Row wr ps[j].ao ps[j].n ps[j].cap 4 ps[j].cs) := hrow
          have HONE : Hid (∀ u ∈ ps[j].cs, u.oneCell' = true) := hone
          clear hrow hone
          obtain ⟨t, ht⟩ : ∃ t, Pc.tot (ps.take j) = t := ⟨_, rfl⟩
          obtain ⟨ks, hks⟩ : ∃ ks, Pc.cat (ps.take j) = ks := ⟨_, rfl⟩
          rw [ht] at HO2 HS b2
          rw [hks] at HO2 HC
          clear ht hks
          generalize ps[j] = p at *
          obtain ⟨pao, pn, pcap, pcs⟩ := p
          simp only at hc b2 HS HC HROW HONE
          by_cases hp0 : pn = 0
          · subst hp0
            have hcs : pcs = [] := by have := HROW.out.len; simpa using this
            subst hcs
            obtain ⟨ao', cap', hv, hr⟩ := own_row HO2.out
            have hrm := hr.room
            have hap := run_append_nothing (P := Tryd.prog) wr 27 27 27 34 i0 Tryd.underlying27 hi ao' t cap' hrm (.slice pao 0 pcap) (src_none Tryd.underlying27)
            subst hv
            clear hr
            go_wp2_with (at_builtin; refine wpList_app rfl (.tmp 31) (.tmp 32) #[27, 27] rfl _ _ _ _ rfl rfl hap ?_)
            go_wp2
            go_roundw
            case rel => exact ⟨j + 1, by omega, by go_num, by rw [HS.out, HC.out, List.append_nil]; exact HO2.out, HB2.out⟩
            case measure => simp [intOf]; omega
          · obtain ⟨b, off, rfl, hcl⟩ := HROW.out.lies hp0
            have HN : Hid (∀ j u, pcs[j]? = some u → wr.cell? ((⟨b, off, none⟩ : Addr).add j) = some u) := fun j u hu => by
              have hadd : (⟨b, off, none⟩ : Addr).add j = ⟨b, off + j, none⟩ := by unfold Addr.add; split <;> simp_all
              rw [hadd]
              exact hcl j u hu
            clear hcl
            go_wp2_with (at_builtin; refine wpList_append_lies _ rfl (.tmp 31) (.tmp 32) 27 rfl w.heap.size 34 i0 (Value.agg #[.int .i64 0, .string ⟨#[]⟩, .string ⟨#[]⟩, .string ⟨#[]⟩]) 4 56 Tryd.underlying27 hi hz0 hz1 hz2 rfl (by decide) u6 t ks rfl HO2.out ⟨b, off, none⟩ pn pcap pcs rfl HROW.out.len HN.out HONE.out (Nat.pos_of_ne_zero hp0) ?c2 ?c3 HB2.out.size _ rfl ?c4)
            case c2 => unfold maxLen; omega
            case c3 => omega
            case c4 =>
              intro g cap2 w2 hown hgrow _ _
              have H2 : Hid (Below w.heap.size w w2) := HB2.out.trans ((Below.refl _ _).grown hgrow HB2.out.size (fun k hk => ownBlk_ge HO2.out k hk))
              have HO3 : Hid (w2.ownsRow w.heap.size 34 4 (.slice (some ⟨g, 0, none⟩) (t + pn) cap2) (t + pn) (ks ++ pcs)) := hown
              clear hown hgrow
              go_wp2
              go_roundw
              case rel => exact ⟨j + 1, by omega, by go_num, by rw [HS.out, HC.out]; exact HO3.out, H2.out⟩
              case measure => simp [intOf]; omega
        · have hjj : j = k := by omega
          subst hjj
          have e1 : ps.take j = ps := by rw [← HK.out, List.take_length]
          rw [e1, HT.out] at HO2
          obtain ⟨ao', cap', hv, hr⟩ := own_row HO2.out
          have HR : Hid (Row wr ao' T cap' 4 (Pc.cat ps)) := hr
          subst hv
          clear hr e1
          go_wp2
          go_ret
          exact ⟨⟨ao', cap', rfl, HR.out⟩, HB2.out⟩
end Go.Proofs.YtdlacdoakkklaabDoor
