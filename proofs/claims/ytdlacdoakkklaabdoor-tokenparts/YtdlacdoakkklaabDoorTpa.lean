/-
  TokenParts: where a page ends with a whole tag, what stands behind it is taken apart by itself.
-/
import Derived.Test.YtdlacdoakkklaabDoorTm
import Derived.Test.YtdlacdoakkklaabDoorTp
namespace Go.Proofs.YtdlacdoakkklaabDoor
open Go.RowKit

theorem sized4 (w : World) : (sizeOf (Tryd.prog.elem 27)).run Tryd.prog w = .ok 4 w := by
  have h : Tryd.prog.elem 27 = 34 := by kernel_rfl
  rw [h]
  exact Tryd.sizeOf34 w
theorem under_toks : Tryd.prog.underlying 27 = some (.slice (Tryd.prog.elem 27)) := by kernel_rfl
theorem slice_last4 (b off m cap : Nat) (hc : m + 1 ≤ cap) (w : World) : (Instr.slice 27 (.slice (some ⟨b, off, none⟩) (m + 1) cap) (some (.int .i64 m)) none none).run Tryd.prog w = .ok (.slice (some ⟨b, off + m * 4, none⟩) 1 (cap - m)) w := by
  rw [run_slice_l (P := Tryd.prog) (w := w) 27 _ (m + 1) cap under_toks .i64 (m : Int) (by omega) (by omega), sized4]
  have e : (⟨b, off, none⟩ : Addr).add (m * 4) = ⟨b, off + m * 4, none⟩ := by unfold Addr.add; split <;> simp_all
  simp only [Result.andThen, sliced]
  rw [show ((m : Nat) : Int).toNat = m by omega, if_neg (by omega)]
  simp only [Option.map_some, e]
  rw [show m + 1 - m = 1 by omega]
theorem row_last {w : World} {b off m cap : Nat} {l : List Tk} (h : Tks w (some ⟨b, off, none⟩) (m + 1) cap l) (x : Tk) (hx : l[m]? = some x) : Tks w (some ⟨b, off + m * 4, none⟩) 1 (cap - m) [x] := by
  have hr := h.room
  have hb := h.big
  obtain ⟨hlt, hg⟩ := List.getElem?_eq_some_iff.1 hx
  obtain ⟨b', off', he, hc⟩ := h.tok (by omega)
  cases he
  obtain ⟨c0, c1, c2, c3⟩ := hc m hlt
  rw [hg] at c0 c1 c2 c3
  refine ⟨by rw [tkCells_len]; rfl, by omega, by omega, fun _ => ⟨_, _, rfl, fun j u hu => ?_⟩⟩
  rw [tkCells_one] at hu
  match j, hu with
  | 0, hu => cases hu; exact c0
  | 1, hu => cases hu; exact c1
  | 2, hu => cases hu; exact c2
  | 3, hu => cases hu; exact c3
  | j + 4, hu => simp [tkC] at hu
/-- Two lists of tokens, to be put together. -/
theorem pcs_two {w : World} {a1 a2 : Option Addr} {n1 c1 n2 c2 : Nat} {l1 l2 : List Tk} (h1 : Tks w a1 n1 c1 l1) (h2 : Tks w a2 n2 c2 l2) (hs : n1 + n2 ≤ 100000) : Pcs (w.alloc (.cells #[.slice a1 n1 c1, .slice a2 n2 c2] 27)) w.heap.size 4 100000 [⟨a1, n1, c1, tkCells l1⟩, ⟨a2, n2, c2, tkCells l2⟩] := by
  have hb := (Below.refl w.heap.size w).alloc (Nat.le_refl _) (.cells #[.slice a1 n1 c1, .slice a2 n2 c2] 27)
  have hk := Blk.new w [.slice a1 n1 c1, .slice a2 n2 c2] 27
  refine ⟨fun i hi => ?_, fun i hi => ?_, fun i hi => ?_, by simp [Pc.tot]; omega, by simp⟩
  all_goals
    have : i = 0 ∨ i = 1 := by simp at hi; omega
    rcases this with rfl | rfl
  · exact hk.cell 0
  · exact hk.cell 1
  · exact h1.below hb
  · exact h2.below hb
  · exact tkCells_oneCell l1
  · exact tkCells_oneCell l2
theorem concat_two (w : World) (a1 a2 : Option Addr) (n1 c1 n2 c2 : Nat) (l1 l2 : List Tk) (h1 : Tks w a1 n1 c1 l1) (h2 : Tks w a2 n2 c2 l2) (hs : n1 + n2 ≤ 100000) :
    Calls Tryd.prog 14 #[.slice (some ⟨w.heap.size, 0, none⟩) 2 2] (w.alloc (.cells #[.slice a1 n1 c1, .slice a2 n2 c2] 27)) fun e w' => (∃ ao' cap', e = .returned (.slice ao' (n1 + n2) cap') ∧ Tks w' ao' (n1 + n2) cap' (l1 ++ l2)) ∧ Below w.heap.size w w' := by
  have h := concatT_any w.heap.size _ _ (pcs_two h1 h2 hs)
  rw [show Pc.tot [⟨a1, n1, c1, tkCells l1⟩, ⟨a2, n2, c2, tkCells l2⟩] = n1 + n2 by simp [Pc.tot], show Pc.cat [⟨a1, n1, c1, tkCells l1⟩, ⟨a2, n2, c2, tkCells l2⟩] = tkCells (l1 ++ l2) by rw [tkCells_app]; simp [Pc.cat]] at h
  refine h.mono ?_
  rintro e w' ⟨h1, h2⟩
  exact ⟨h1, ((Below.refl w.heap.size w).alloc (Nat.le_refl _) _).trans (h2.mono (by simp))⟩
theorem qL_cells : (Tk.qL.map b8).toArray = #[.int .u8 60, .int .u8 113, .int .u8 62] := rfl
/-- What is known of the arguments, the tag and the variables in a later world. -/
structure PAt (w : World) (aa ab : Option Addr) (na ca nb cb : Nat) (A L : List UInt8) (wr : World) : Prop where
  below : Below w.heap.size w wr
  a : Byt wr aa na ca A
  b : Byt wr ab nb cb L
  tag : Byt wr (some ⟨w.heap.size, 0, none⟩) 3 3 Tk.qL
  env : Env wr wr.heap.size
theorem PAt.far {w : World} {aa ab : Option Addr} {na ca nb cb : Nat} {A L : List UInt8} {wr w2 : World} (h : PAt w aa ab na ca nb cb A L wr) (hb : Below wr.heap.size wr w2) : PAt w aa ab na ca nb cb A L w2 :=
  ⟨h.below.trans (hb.mono h.below.size), h.a.below hb, h.b.below hb, h.tag.below hb, h.env.top hb⟩
theorem one_b8 (l : List UInt8) : ∀ u ∈ l.map b8, u.oneCell' = true := by
  intro u hu
  obtain ⟨c, _, rfl⟩ := List.mem_map.1 hu
  rfl
set_option maxRecDepth 100000 in
set_option maxHeartbeats 1600000 in
theorem parts_any (aa ab : Option Addr) (na ca nb cb : Nat) (A L : List UInt8) (w : World) (hA : Byt w aa na ca A) (hB : Byt w ab nb cb L) (hE : Env w w.heap.size) (hna : na ≤ 140737488351232) :
    Calls Tryd.prog 4 #[.slice aa na ca, .slice ab nb cb] w fun e w' => e = .returned (.bool true) ∧ Below w.heap.size w w' := by
  obtain ⟨w1, hw1⟩ : ∃ w1, w1 = w.alloc (.cells (Tk.qL.map b8).toArray 5 (3, 4)) := ⟨_, rfl⟩
  have hb1 : Below w.heap.size w w1 := by rw [hw1]; exact (Below.refl _ _).alloc (Nat.le_refl _) _
  have HP1 : Hid (PAt w aa ab na ca nb cb A L w1) := ⟨hb1, hA.below hb1, hB.below hb1, by rw [hw1]; exact row_new w 1 3 (Tk.qL.map b8) 5 (3, 4) rfl (by decide), hE.top hb1⟩
  have hcs := Lib.run_convert_bytes_const (P := Tryd.prog) w 30 5 #[.int .u8 60, .int .u8 113, .int .u8 62] 3 3 Tryd.underlying30 Tryd.underlying5
  change (convert 30 30 _).run Tryd.prog _ = .ok _ (w.alloc (.cells (Tk.qL.map b8).toArray 5 (3, 4))) at hcs
  rw [← hw1] at hcs
  have hla := hA.bytes
  have hlb := hB.bytes
  have hAr := hA.room
  have hAb := hA.big
  have hBr := hB.room
  have hBb := hB.big
  have CT : Hid (∀ w', Env w' w'.heap.size → Calls Tryd.prog 7 #[] w' fun e w2 => e = .returned (.bool true) ∧ Below w'.heap.size w' w2) := fun w' h => torn_any w' h
  clear hA hB hE hb1 hw1
  have hps : Pcs (w1.alloc (.cells #[.slice aa na ca, .slice (some ⟨w.heap.size, 0, none⟩) 3 3] 30)) w1.heap.size 1 140737488355328 [⟨aa, na, ca, A.map b8⟩, ⟨some ⟨w.heap.size, 0, none⟩, 3, 3, Tk.qL.map b8⟩] := by
    have hb := (Below.refl w1.heap.size w1).alloc (Nat.le_refl _) (.cells #[.slice aa na ca, .slice (some ⟨w.heap.size, 0, none⟩) 3 3] 30)
    have hk := Blk.new w1 [.slice aa na ca, .slice (some ⟨w.heap.size, 0, none⟩) 3 3] 30
    refine ⟨fun i hi => ?_, fun i hi => ?_, fun i hi => ?_, by simp [Pc.tot]; omega, by simp⟩
    all_goals
      have : i = 0 ∨ i = 1 := by simp at hi; omega
      rcases this with rfl | rfl
    · exact hk.cell 0
    · exact hk.cell 1
    · exact HP1.out.a.below hb
    · exact HP1.out.tag.below hb
    · exact one_b8 A
    · exact one_b8 Tk.qL
  have CC := concatB_any w1.heap.size _ _ hps
  rw [show Pc.tot [⟨aa, na, ca, A.map b8⟩, ⟨some ⟨w.heap.size, 0, none⟩, 3, 3, Tk.qL.map b8⟩] = na + 3 by simp [Pc.tot], show Pc.cat [⟨aa, na, ca, A.map b8⟩, ⟨some ⟨w.heap.size, 0, none⟩, 3, 3, Tk.qL.map b8⟩] = (A ++ Tk.qL).map b8 by simp [Pc.cat]] at CC
  have HCC : Hid (Calls Tryd.prog 12 #[.slice (some ⟨w1.heap.size, 0, none⟩) 2 2] (w1.alloc (.cells #[.slice aa na ca, .slice (some ⟨w.heap.size, 0, none⟩) 3 3] 30)) fun e w' => (∃ ao' cap', e = .returned (.slice ao' (na + 3) cap') ∧ Byt w' ao' (na + 3) cap' (A ++ Tk.qL)) ∧ Below (w1.alloc (.cells #[.slice aa na ca, .slice (some ⟨w.heap.size, 0, none⟩) 3 3] 30)).heap.size (w1.alloc (.cells #[.slice aa na ca, .slice (some ⟨w.heap.size, 0, none⟩) 3 3] 30)) w') := CC
  have HP2 : Hid (PAt w aa ab na ca nb cb A L (w1.alloc (.cells #[.slice aa na ca, .slice (some ⟨w.heap.size, 0, none⟩) 3 3] 30))) := HP1.out.far ((Below.refl _ _).alloc (Nat.le_refl _) _)
  clear CC hps
  go_enter Tryd.func4, Tryd.ntmps4
  go_wp2_with fail
  refine HCC.out.mono ?_
  rintro e w3 ⟨⟨ao3, cap3, rfl, h3⟩, hb⟩
  have HP3 : Hid (PAt w aa ab na ca nb cb A L w3) := HP2.out.far hb
  have H3 : Hid (Byt w3 ao3 (na + 3) cap3 (A ++ Tk.qL)) := h3
  clear h3 hb HCC
  by_cases hmany : 20000 < na + 3
  · go_wp2_with fail
    refine (page_many ao3 (na + 3) cap3 w3 hmany).mono ?_
    rintro e w4 ⟨rfl, hw⟩
    rw [hw]
    clear hw w4
    go_wp2_with fail
    refine (CT.out w3 HP3.out.env).mono ?_
    rintro e w4 ⟨rfl, hb⟩
    have HP4 : Hid (PAt w aa ab na ca nb cb A L w4) := HP3.out.far hb
    clear hb
    go_wp2_with fail
    refine (CT.out w4 HP4.out.env).mono ?_
    rintro e w5 ⟨rfl, hb⟩
    have HP5 : Hid (PAt w aa ab na ca nb cb A L w5) := HP4.out.far hb
    clear hb
    go_wp2
    go_ret
    exact ⟨rfl, HP5.out.below⟩
  · have hfew : na + 3 ≤ 20000 := by omega
    clear hmany
    obtain ⟨T1, hT1⟩ : ∃ T1, Tk.toks (A ++ Tk.qL) = T1 := ⟨_, rfl⟩
    have HT1 : Hid (Tk.toks (A ++ Tk.qL) = T1) := hT1
    have hT1l : T1.length ≤ 20000 := by rw [← hT1]; have h := Tk.toks_len (A ++ Tk.qL); rw [List.length_append, hla, show Tk.qL.length = 3 from rfl] at h; omega
    have CP := page_ok ao3 (na + 3) cap3 (A ++ Tk.qL) w3 H3.out HP3.out.env hfew
    rw [hT1] at CP
    obtain ⟨n1, hn1⟩ : ∃ n1, T1.length = n1 := ⟨_, rfl⟩
    have HN1 : Hid (T1.length = n1) := hn1
    rw [hn1] at CP hT1l
    clear hT1 hn1
    have HCP : Hid (Calls Tryd.prog 6 #[.slice ao3 (na + 3) cap3] w3 fun e w' => (∃ ao' cap', e = .returned (.tuple #[.slice ao' n1 cap', .int .i64 0]) ∧ Tks w' ao' n1 cap' T1) ∧ Below w3.heap.size w3 w') := CP
    clear CP
    go_wp2_with fail
    refine HCP.out.mono ?_
    rintro e w4 ⟨⟨ao4, cap4, rfl, h4⟩, hb⟩
    have HP4 : Hid (PAt w aa ab na ca nb cb A L w4) := HP3.out.far hb
    have H4 : Hid (Tks w4 ao4 n1 cap4 T1) := h4
    have h4r := h4.room
    have h4b := h4.big
    clear h4 hb HCP
    go_wp2_with fail
    refine (CT.out w4 HP4.out.env).mono ?_
    rintro e w5 ⟨rfl, hb⟩
    have HP5 : Hid (PAt w aa ab na ca nb cb A L w5) := HP4.out.far hb
    have H5 : Hid (Tks w5 ao4 n1 cap4 T1) := H4.out.below hb
    clear hb
    by_cases hc1 : 20000 - (na : Int) - 10 < (nb : Int)
    · have hd1 : decide (20000 - (na : Int) - 10 < (nb : Int)) = true := by simpa using hc1
      go_wp2_with fail
      refine (CT.out w5 HP5.out.env).mono ?_
      rintro e w6 ⟨rfl, hb⟩
      have HP6 : Hid (PAt w aa ab na ca nb cb A L w6) := HP5.out.far hb
      clear hb
      go_wp2
      go_ret
      exact ⟨rfl, HP6.out.below⟩
    have hd1 : decide (20000 - (na : Int) - 10 < (nb : Int)) = false := by simpa using hc1
    rcases Nat.eq_zero_or_pos n1 with rfl | hn1p
    · skip
      go_wp2_with fail
      refine (CT.out w5 HP5.out.env).mono ?_
      rintro e w6 ⟨rfl, hb⟩
      have HP6 : Hid (PAt w aa ab na ca nb cb A L w6) := HP5.out.far hb
      clear hb
      go_wp2
      go_ret
      exact ⟨rfl, HP6.out.below⟩
    obtain ⟨m, rfl⟩ : ∃ m, n1 = m + 1 := ⟨n1 - 1, by omega⟩
    have hml : m < T1.length := by rw [HN1.out]; omega
    obtain ⟨bt, offt, rfl, hcl⟩ := H5.out.tok (by omega)
    obtain ⟨t0, t1, t2, t3⟩ := hcl m hml
    have HX : Hid (T1[m]? = some T1[m]) := List.getElem?_eq_getElem hml
    have hg := guardTk
    obtain ⟨x, hx⟩ : ∃ x, T1[m] = x := ⟨_, rfl⟩
    rw [hx] at t0 t1 t2 t3 HX
    have hq : ∀ w, (binOp .neq 34 (.agg #[.int .i64 x.kind, .string (B x.name), .string (B x.text), .string (B x.href)]) (.agg #[.int .i64 2, .string ⟨#[113]⟩, .string ⟨#[]⟩, .string ⟨#[]⟩])).run Tryd.prog w = .ok (.bool (!Tk.alike x ⟨2, [113], [], []⟩)) w := fun w => neq_toks x ⟨2, [113], [], []⟩ w
    clear hcl hx
    cases hal : Tk.alike x ⟨2, [113], [], []⟩
    · rw [hal] at hq
      clear hal
      go_wp2_with fail
      refine (CT.out w5 HP5.out.env).mono ?_
      rintro e w6 ⟨rfl, hb⟩
      have HP6 : Hid (PAt w aa ab na ca nb cb A L w6) := HP5.out.far hb
      clear hb
      go_wp2
      go_ret
      exact ⟨rfl, HP6.out.below⟩
    have HXQ : Hid (x = ⟨2, [113], [], []⟩) := Tk.alike_eq hal
    rw [hal] at hq
    clear hal
    have hstop : (A = [] ∨ Tk.E A) ∨ (0 < na ∧ ∃ p : Nat, (na : Int) - 1 = (p : Int) ∧ ∃ hp : p < A.length, A[p] ≠ 62) := by
      rcases Nat.eq_zero_or_pos na with h | h
      · exact .inl (.inl (List.length_eq_zero_iff.1 (by omega)))
      · obtain ⟨p, hp⟩ : ∃ p, na = p + 1 := ⟨na - 1, by omega⟩
        have hpl : p < A.length := by omega
        by_cases he : A[p] = 62
        · refine .inl (.inr ?_)
          unfold Tk.E
          rw [List.getLast?_eq_getElem?, show A.length - 1 = p by omega, List.getElem?_eq_getElem hpl, he]
        · exact .inr ⟨h, p, by omega, hpl, he⟩
    rcases hstop with hok | ⟨hpos, p, hpn, hpl, hne⟩
    · have hna0 : na = 0 ∨ (0 < na ∧ ∃ p : Nat, (na : Int) - 1 = (p : Int) ∧ ∃ hp : p < A.length, A[p] = 62) := by
        rcases Nat.eq_zero_or_pos na with h | h
        · exact .inl h
        · right
          obtain ⟨p, hp⟩ : ∃ p, na = p + 1 := ⟨na - 1, by omega⟩
          have hpl : p < A.length := by omega
          refine ⟨h, p, by omega, hpl, ?_⟩
          rcases hok with h0 | h0
          · rw [h0] at hla; simp at hla; omega
          · unfold Tk.E at h0
            rw [List.getLast?_eq_getElem?, show A.length - 1 = p by omega, List.getElem?_eq_getElem hpl] at h0
            exact Option.some.inj h0
      rcases hna0 with hz | ⟨hpos, p, hpn, hpl, he⟩
      · have hz2 : decide ((0 : Int) < (na : Int)) = false := by simp; omega
        have hz3 : decide (0 < na) = false := by simp; omega
        clear hz
        have CP6 := page_ok aa na ca A w5 HP5.out.a HP5.out.env (by omega)
        obtain ⟨T2, hT2⟩ : ∃ T2, Tk.toks A = T2 := ⟨_, rfl⟩
        have HT2 : Hid (Tk.toks A = T2) := hT2
        rw [hT2] at CP6
        have hT2l : T2.length ≤ 20000 := by rw [← hT2]; have h := Tk.toks_len A; omega
        obtain ⟨n2, hn2⟩ : ∃ n2, T2.length = n2 := ⟨_, rfl⟩
        have HN2 : Hid (T2.length = n2) := hn2
        rw [hn2] at CP6 hT2l
        clear hT2 hn2
        have HCP6 : Hid (Calls Tryd.prog 6 #[.slice aa na ca] w5 fun e w' => (∃ ao' cap', e = .returned (.tuple #[.slice ao' n2 cap', .int .i64 0]) ∧ Tks w' ao' n2 cap' T2) ∧ Below w5.heap.size w5 w') := CP6
        clear CP6
        go_wp2_with fail
        refine HCP6.out.mono ?_
        rintro e w6 ⟨⟨ao6, cap6, rfl, h6⟩, hb⟩
        have HP6 : Hid (PAt w aa ab na ca nb cb A L w6) := HP5.out.far hb
        have H6 : Hid (Tks w6 ao6 n2 cap6 T2) := h6
        have H6b : Hid (Tks w6 (some ⟨bt, offt, none⟩) (m + 1) cap4 T1) := H5.out.below hb
        clear h6 hb HCP6 t0 t1 t2 t3
        have hsl := slice_last4 bt offt m cap4 h4r
        have H6c : Hid (Tks w6 (some ⟨bt, offt + m * 4, none⟩) 1 (cap4 - m) [x]) := row_last H6b.out x HX.out
        have HCC7 : Hid (Calls Tryd.prog 14 #[.slice (some ⟨w6.heap.size, 0, none⟩) 2 2] (w6.alloc (.cells #[.slice ao6 n2 cap6, .slice (some ⟨bt, offt + m * 4, none⟩) 1 (cap4 - m)] 27)) fun e w' => (∃ ao' cap', e = .returned (.slice ao' (n2 + 1) cap') ∧ Tks w' ao' (n2 + 1) cap' (T2 ++ [x])) ∧ Below w6.heap.size w6 w') := concat_two w6 _ _ n2 cap6 1 (cap4 - m) T2 [x] H6.out H6c.out (by omega)
        go_wp2_with fail
        refine HCC7.out.mono ?_
        rintro e w7 ⟨⟨ao7, cap7, rfl, h7⟩, hb⟩
        have HP7 : Hid (PAt w aa ab na ca nb cb A L w7) := HP6.out.far hb
        have H7 : Hid (Tks w7 ao7 (n2 + 1) cap7 (T2 ++ [x])) := h7
        have H7b : Hid (Tks w7 (some ⟨bt, offt, none⟩) (m + 1) cap4 T1) := H6b.out.below hb
        clear h7 hb HCC7 hsl
        have CE := equalTk_any ao7 (some ⟨bt, offt, none⟩) (n2 + 1) cap7 (m + 1) cap4 (T2 ++ [x]) T1 w7 H7.out H7b.out
        cases hsm : Tk.same (T2 ++ [x]) T1
        · rw [hsm] at CE
          have HCE : Hid (Calls Tryd.prog 13 #[.slice ao7 (n2 + 1) cap7, .slice (some ⟨bt, offt, none⟩) (m + 1) cap4] w7 fun e w' => e = .returned (.bool false) ∧ ∃ m, w' = w7.drewN m) := CE
          clear CE hsm
          go_wp2_with fail
          refine HCE.out.mono ?_
          rintro e w8 ⟨rfl, dm, hw⟩
          have H8 : Hid (Below w.heap.size w w8) := by rw [hw]; exact ⟨HP7.out.below.os, HP7.out.below.tape, HP7.out.below.output, HP7.out.below.size, HP7.out.below.block⟩
          clear hw
          go_wp2
          go_ret
          exact ⟨rfl, H8.out⟩
        · rw [hsm] at CE
          have HCE : Hid (Calls Tryd.prog 13 #[.slice ao7 (n2 + 1) cap7, .slice (some ⟨bt, offt, none⟩) (m + 1) cap4] w7 fun e w' => e = .returned (.bool true) ∧ ∃ m, w' = w7.drewN m) := CE
          have hpq : Tk.toks (A ++ Tk.qL ++ L) = T1 ++ Tk.toks L := by
            have h := Tk.same_eq hsm
            have := Tk.parts_q A L hok (by rw [HT1.out, HT2.out, ← h, HXQ.out])
            rw [HT1.out] at this
            exact this
          have HPQ : Hid (Tk.toks (A ++ Tk.qL ++ L) = T1 ++ Tk.toks L) := hpq
          clear CE hsm hpq
          go_wp2_with fail
          refine HCE.out.mono ?_
          rintro e w8 ⟨rfl, dm, hw⟩
          have hb : Below w7.heap.size w7 w8 := by rw [hw]; exact ⟨rfl, rfl, rfl, Nat.le_refl _, fun _ _ => rfl⟩
          have HP8 : Hid (PAt w aa ab na ca nb cb A L w8) := HP7.out.far hb
          have H8 : Hid (Tks w8 (some ⟨bt, offt, none⟩) (m + 1) cap4 T1) := H7b.out.below hb
          clear hw hb HCE
          have CP9 := page_ok ab nb cb L w8 HP8.out.b HP8.out.env (by omega)
          obtain ⟨T3, hT3⟩ : ∃ T3, Tk.toks L = T3 := ⟨_, rfl⟩
          rw [hT3] at CP9 HPQ
          have hT3l : T3.length ≤ 20000 := by rw [← hT3]; have h := Tk.toks_len L; omega
          obtain ⟨n3, hn3⟩ : ∃ n3, T3.length = n3 := ⟨_, rfl⟩
          rw [hn3] at CP9 hT3l
          clear hT3 hn3
          have HCP9 : Hid (Calls Tryd.prog 6 #[.slice ab nb cb] w8 fun e w' => (∃ ao' cap', e = .returned (.tuple #[.slice ao' n3 cap', .int .i64 0]) ∧ Tks w' ao' n3 cap' T3) ∧ Below w8.heap.size w8 w') := CP9
          clear CP9
          go_wp2_with fail
          refine HCP9.out.mono ?_
          rintro e w9 ⟨⟨ao9, cap9, rfl, h9⟩, hb⟩
          have HP9 : Hid (PAt w aa ab na ca nb cb A L w9) := HP8.out.far hb
          have H9 : Hid (Tks w9 ao9 n3 cap9 T3) := h9
          have H9b : Hid (Tks w9 (some ⟨bt, offt, none⟩) (m + 1) cap4 T1) := H8.out.below hb
          clear h9 hb HCP9
          have hps : Pcs (w9.alloc (.cells #[.slice aa na ca, .slice (some ⟨w.heap.size, 0, none⟩) 3 3, .slice ab nb cb] 30)) w9.heap.size 1 140737488355328 [⟨aa, na, ca, A.map b8⟩, ⟨some ⟨w.heap.size, 0, none⟩, 3, 3, Tk.qL.map b8⟩, ⟨ab, nb, cb, L.map b8⟩] := by
            have hb := (Below.refl w9.heap.size w9).alloc (Nat.le_refl _) (.cells #[.slice aa na ca, .slice (some ⟨w.heap.size, 0, none⟩) 3 3, .slice ab nb cb] 30)
            have hk := Blk.new w9 [.slice aa na ca, .slice (some ⟨w.heap.size, 0, none⟩) 3 3, .slice ab nb cb] 30
            refine ⟨fun i hi => ?_, fun i hi => ?_, fun i hi => ?_, by simp [Pc.tot]; omega, by simp⟩
            all_goals
              have : i = 0 ∨ i = 1 ∨ i = 2 := by simp at hi; omega
              rcases this with rfl | rfl | rfl
            · exact hk.cell 0
            · exact hk.cell 1
            · exact hk.cell 2
            · exact HP9.out.a.below hb
            · exact HP9.out.tag.below hb
            · exact HP9.out.b.below hb
            · exact one_b8 A
            · exact one_b8 Tk.qL
            · exact one_b8 L
          have CC10 := concatB_any w9.heap.size _ _ hps
          rw [show Pc.tot [⟨aa, na, ca, A.map b8⟩, ⟨some ⟨w.heap.size, 0, none⟩, 3, 3, Tk.qL.map b8⟩, ⟨ab, nb, cb, L.map b8⟩] = na + 3 + nb by simp [Pc.tot]; omega, show Pc.cat [⟨aa, na, ca, A.map b8⟩, ⟨some ⟨w.heap.size, 0, none⟩, 3, 3, Tk.qL.map b8⟩, ⟨ab, nb, cb, L.map b8⟩] = (A ++ Tk.qL ++ L).map b8 by simp [Pc.cat]] at CC10
          have HCC10 : Hid (Calls Tryd.prog 12 #[.slice (some ⟨w9.heap.size, 0, none⟩) 3 3] (w9.alloc (.cells #[.slice aa na ca, .slice (some ⟨w.heap.size, 0, none⟩) 3 3, .slice ab nb cb] 30)) fun e w' => (∃ ao' cap', e = .returned (.slice ao' (na + 3 + nb) cap') ∧ Byt w' ao' (na + 3 + nb) cap' (A ++ Tk.qL ++ L)) ∧ Below (w9.alloc (.cells #[.slice aa na ca, .slice (some ⟨w.heap.size, 0, none⟩) 3 3, .slice ab nb cb] 30)).heap.size (w9.alloc (.cells #[.slice aa na ca, .slice (some ⟨w.heap.size, 0, none⟩) 3 3, .slice ab nb cb] 30)) w') := CC10
          clear CC10 hps
          go_wp2_with fail
          refine HCC10.out.mono ?_
          rintro e w10 ⟨⟨ao10, cap10, rfl, h10⟩, hb⟩
          have hb' : Below w9.heap.size w9 w10 := ((Below.refl w9.heap.size w9).alloc (Nat.le_refl _) _).trans (hb.mono (by simp))
          have HP10 : Hid (PAt w aa ab na ca nb cb A L w10) := HP9.out.far hb'
          have H10 : Hid (Tks w10 ao9 n3 cap9 T3) := H9.out.below hb'
          have H10b : Hid (Tks w10 (some ⟨bt, offt, none⟩) (m + 1) cap4 T1) := H9b.out.below hb'
          have CP11 := page_ok ao10 (na + 3 + nb) cap10 (A ++ Tk.qL ++ L) w10 h10 HP10.out.env (by omega)
          rw [HPQ.out, List.length_append, HN1.out] at CP11
          clear h10 hb hb' HCC10
          obtain ⟨n3', hn3'⟩ : ∃ n3', T3.length = n3' := ⟨_, rfl⟩
          have hn33 : n3' = n3 := hn3'.symm.trans H10.out.toks
          rw [hn3', hn33] at CP11
          clear hn3' hn33
          have HCP11 : Hid (Calls Tryd.prog 6 #[.slice ao10 (na + 3 + nb) cap10] w10 fun e w' => (∃ ao' cap', e = .returned (.tuple #[.slice ao' (m + 1 + n3) cap', .int .i64 0]) ∧ Tks w' ao' (m + 1 + n3) cap' (T1 ++ T3)) ∧ Below w10.heap.size w10 w') := CP11
          clear CP11
          go_wp2_with fail
          refine HCP11.out.mono ?_
          rintro e w11 ⟨⟨ao11, cap11, rfl, h11⟩, hb⟩
          have HP11 : Hid (PAt w aa ab na ca nb cb A L w11) := HP10.out.far hb
          have H11 : Hid (Tks w11 ao11 (m + 1 + n3) cap11 (T1 ++ T3)) := h11
          have HCC12 : Hid (Calls Tryd.prog 14 #[.slice (some ⟨w11.heap.size, 0, none⟩) 2 2] (w11.alloc (.cells #[.slice (some ⟨bt, offt, none⟩) (m + 1) cap4, .slice ao9 n3 cap9] 27)) fun e w' => (∃ ao' cap', e = .returned (.slice ao' (m + 1 + n3) cap') ∧ Tks w' ao' (m + 1 + n3) cap' (T1 ++ T3)) ∧ Below w11.heap.size w11 w') := concat_two w11 _ _ (m + 1) cap4 n3 cap9 T1 T3 (H10b.out.below hb) (H10.out.below hb) (by omega)
          clear h11 hb HCP11
          go_wp2_with fail
          refine HCC12.out.mono ?_
          rintro e w12 ⟨⟨ao12, cap12, rfl, h12⟩, hb⟩
          have HP12 : Hid (PAt w aa ab na ca nb cb A L w12) := HP11.out.far hb
          have CE13 := equalTk_any ao11 ao12 (m + 1 + n3) cap11 (m + 1 + n3) cap12 (T1 ++ T3) (T1 ++ T3) w12 (H11.out.below hb) h12
          rw [Tk.same_self] at CE13
          have HCE13 : Hid (Calls Tryd.prog 13 #[.slice ao11 (m + 1 + n3) cap11, .slice ao12 (m + 1 + n3) cap12] w12 fun e w' => e = .returned (.bool true) ∧ ∃ m, w' = w12.drewN m) := CE13
          clear h12 hb HCC12 CE13
          go_wp2_with fail
          refine HCE13.out.mono ?_
          rintro e w13 ⟨rfl, dm, hw⟩
          have H13 : Hid (Below w.heap.size w w13) := by rw [hw]; exact ⟨HP12.out.below.os, HP12.out.below.tape, HP12.out.below.output, HP12.out.below.size, HP12.out.below.block⟩
          clear hw
          go_wp2
          go_ret
          exact ⟨rfl, H13.out⟩
      · obtain ⟨ba, offa, haa, hca⟩ := HP5.out.a.byte (by omega)
        have ca' := hca p hpl
        rw [he] at ca'
        change w5.cell? _ = some (.int .u8 62) at ca'
        subst haa
        have hpos' : (0 : Int) < (na : Int) := by omega
        have hpn2 : (p : Int) < (na : Int) := by omega
        clear hca
        have CP6 := page_ok (some ⟨ba, offa, none⟩) na ca A w5 HP5.out.a HP5.out.env (by omega)
        obtain ⟨T2, hT2⟩ : ∃ T2, Tk.toks A = T2 := ⟨_, rfl⟩
        have HT2 : Hid (Tk.toks A = T2) := hT2
        rw [hT2] at CP6
        have hT2l : T2.length ≤ 20000 := by rw [← hT2]; have h := Tk.toks_len A; omega
        obtain ⟨n2, hn2⟩ : ∃ n2, T2.length = n2 := ⟨_, rfl⟩
        have HN2 : Hid (T2.length = n2) := hn2
        rw [hn2] at CP6 hT2l
        clear hT2 hn2
        have HCP6 : Hid (Calls Tryd.prog 6 #[.slice (some ⟨ba, offa, none⟩) na ca] w5 fun e w' => (∃ ao' cap', e = .returned (.tuple #[.slice ao' n2 cap', .int .i64 0]) ∧ Tks w' ao' n2 cap' T2) ∧ Below w5.heap.size w5 w') := CP6
        clear CP6
        go_wp2_with fail
        refine HCP6.out.mono ?_
        rintro e w6 ⟨⟨ao6, cap6, rfl, h6⟩, hb⟩
        have HP6 : Hid (PAt w (some ⟨ba, offa, none⟩) ab na ca nb cb A L w6) := HP5.out.far hb
        have H6 : Hid (Tks w6 ao6 n2 cap6 T2) := h6
        have H6b : Hid (Tks w6 (some ⟨bt, offt, none⟩) (m + 1) cap4 T1) := H5.out.below hb
        clear h6 hb HCP6 t0 t1 t2 t3
        have hsl := slice_last4 bt offt m cap4 h4r
        have H6c : Hid (Tks w6 (some ⟨bt, offt + m * 4, none⟩) 1 (cap4 - m) [x]) := row_last H6b.out x HX.out
        have HCC7 : Hid (Calls Tryd.prog 14 #[.slice (some ⟨w6.heap.size, 0, none⟩) 2 2] (w6.alloc (.cells #[.slice ao6 n2 cap6, .slice (some ⟨bt, offt + m * 4, none⟩) 1 (cap4 - m)] 27)) fun e w' => (∃ ao' cap', e = .returned (.slice ao' (n2 + 1) cap') ∧ Tks w' ao' (n2 + 1) cap' (T2 ++ [x])) ∧ Below w6.heap.size w6 w') := concat_two w6 _ _ n2 cap6 1 (cap4 - m) T2 [x] H6.out H6c.out (by omega)
        go_wp2_with fail
        refine HCC7.out.mono ?_
        rintro e w7 ⟨⟨ao7, cap7, rfl, h7⟩, hb⟩
        have HP7 : Hid (PAt w (some ⟨ba, offa, none⟩) ab na ca nb cb A L w7) := HP6.out.far hb
        have H7 : Hid (Tks w7 ao7 (n2 + 1) cap7 (T2 ++ [x])) := h7
        have H7b : Hid (Tks w7 (some ⟨bt, offt, none⟩) (m + 1) cap4 T1) := H6b.out.below hb
        clear h7 hb HCC7 hsl
        have CE := equalTk_any ao7 (some ⟨bt, offt, none⟩) (n2 + 1) cap7 (m + 1) cap4 (T2 ++ [x]) T1 w7 H7.out H7b.out
        cases hsm : Tk.same (T2 ++ [x]) T1
        · rw [hsm] at CE
          have HCE : Hid (Calls Tryd.prog 13 #[.slice ao7 (n2 + 1) cap7, .slice (some ⟨bt, offt, none⟩) (m + 1) cap4] w7 fun e w' => e = .returned (.bool false) ∧ ∃ m, w' = w7.drewN m) := CE
          clear CE hsm
          go_wp2_with fail
          refine HCE.out.mono ?_
          rintro e w8 ⟨rfl, dm, hw⟩
          have H8 : Hid (Below w.heap.size w w8) := by rw [hw]; exact ⟨HP7.out.below.os, HP7.out.below.tape, HP7.out.below.output, HP7.out.below.size, HP7.out.below.block⟩
          clear hw
          go_wp2
          go_ret
          exact ⟨rfl, H8.out⟩
        · rw [hsm] at CE
          have HCE : Hid (Calls Tryd.prog 13 #[.slice ao7 (n2 + 1) cap7, .slice (some ⟨bt, offt, none⟩) (m + 1) cap4] w7 fun e w' => e = .returned (.bool true) ∧ ∃ m, w' = w7.drewN m) := CE
          have hpq : Tk.toks (A ++ Tk.qL ++ L) = T1 ++ Tk.toks L := by
            have h := Tk.same_eq hsm
            have := Tk.parts_q A L hok (by rw [HT1.out, HT2.out, ← h, HXQ.out])
            rw [HT1.out] at this
            exact this
          have HPQ : Hid (Tk.toks (A ++ Tk.qL ++ L) = T1 ++ Tk.toks L) := hpq
          clear CE hsm hpq
          go_wp2_with fail
          refine HCE.out.mono ?_
          rintro e w8 ⟨rfl, dm, hw⟩
          have hb : Below w7.heap.size w7 w8 := by rw [hw]; exact ⟨rfl, rfl, rfl, Nat.le_refl _, fun _ _ => rfl⟩
          have HP8 : Hid (PAt w (some ⟨ba, offa, none⟩) ab na ca nb cb A L w8) := HP7.out.far hb
          have H8 : Hid (Tks w8 (some ⟨bt, offt, none⟩) (m + 1) cap4 T1) := H7b.out.below hb
          clear hw hb HCE
          have CP9 := page_ok ab nb cb L w8 HP8.out.b HP8.out.env (by omega)
          obtain ⟨T3, hT3⟩ : ∃ T3, Tk.toks L = T3 := ⟨_, rfl⟩
          rw [hT3] at CP9 HPQ
          have hT3l : T3.length ≤ 20000 := by rw [← hT3]; have h := Tk.toks_len L; omega
          obtain ⟨n3, hn3⟩ : ∃ n3, T3.length = n3 := ⟨_, rfl⟩
          rw [hn3] at CP9 hT3l
          clear hT3 hn3
          have HCP9 : Hid (Calls Tryd.prog 6 #[.slice ab nb cb] w8 fun e w' => (∃ ao' cap', e = .returned (.tuple #[.slice ao' n3 cap', .int .i64 0]) ∧ Tks w' ao' n3 cap' T3) ∧ Below w8.heap.size w8 w') := CP9
          clear CP9
          go_wp2_with fail
          refine HCP9.out.mono ?_
          rintro e w9 ⟨⟨ao9, cap9, rfl, h9⟩, hb⟩
          have HP9 : Hid (PAt w (some ⟨ba, offa, none⟩) ab na ca nb cb A L w9) := HP8.out.far hb
          have H9 : Hid (Tks w9 ao9 n3 cap9 T3) := h9
          have H9b : Hid (Tks w9 (some ⟨bt, offt, none⟩) (m + 1) cap4 T1) := H8.out.below hb
          clear h9 hb HCP9
          have hps : Pcs (w9.alloc (.cells #[.slice (some ⟨ba, offa, none⟩) na ca, .slice (some ⟨w.heap.size, 0, none⟩) 3 3, .slice ab nb cb] 30)) w9.heap.size 1 140737488355328 [⟨some ⟨ba, offa, none⟩, na, ca, A.map b8⟩, ⟨some ⟨w.heap.size, 0, none⟩, 3, 3, Tk.qL.map b8⟩, ⟨ab, nb, cb, L.map b8⟩] := by
            have hb := (Below.refl w9.heap.size w9).alloc (Nat.le_refl _) (.cells #[.slice (some ⟨ba, offa, none⟩) na ca, .slice (some ⟨w.heap.size, 0, none⟩) 3 3, .slice ab nb cb] 30)
            have hk := Blk.new w9 [.slice (some ⟨ba, offa, none⟩) na ca, .slice (some ⟨w.heap.size, 0, none⟩) 3 3, .slice ab nb cb] 30
            refine ⟨fun i hi => ?_, fun i hi => ?_, fun i hi => ?_, by simp [Pc.tot]; omega, by simp⟩
            all_goals
              have : i = 0 ∨ i = 1 ∨ i = 2 := by simp at hi; omega
              rcases this with rfl | rfl | rfl
            · exact hk.cell 0
            · exact hk.cell 1
            · exact hk.cell 2
            · exact HP9.out.a.below hb
            · exact HP9.out.tag.below hb
            · exact HP9.out.b.below hb
            · exact one_b8 A
            · exact one_b8 Tk.qL
            · exact one_b8 L
          have CC10 := concatB_any w9.heap.size _ _ hps
          rw [show Pc.tot [⟨some ⟨ba, offa, none⟩, na, ca, A.map b8⟩, ⟨some ⟨w.heap.size, 0, none⟩, 3, 3, Tk.qL.map b8⟩, ⟨ab, nb, cb, L.map b8⟩] = na + 3 + nb by simp [Pc.tot]; omega, show Pc.cat [⟨some ⟨ba, offa, none⟩, na, ca, A.map b8⟩, ⟨some ⟨w.heap.size, 0, none⟩, 3, 3, Tk.qL.map b8⟩, ⟨ab, nb, cb, L.map b8⟩] = (A ++ Tk.qL ++ L).map b8 by simp [Pc.cat]] at CC10
          have HCC10 : Hid (Calls Tryd.prog 12 #[.slice (some ⟨w9.heap.size, 0, none⟩) 3 3] (w9.alloc (.cells #[.slice (some ⟨ba, offa, none⟩) na ca, .slice (some ⟨w.heap.size, 0, none⟩) 3 3, .slice ab nb cb] 30)) fun e w' => (∃ ao' cap', e = .returned (.slice ao' (na + 3 + nb) cap') ∧ Byt w' ao' (na + 3 + nb) cap' (A ++ Tk.qL ++ L)) ∧ Below (w9.alloc (.cells #[.slice (some ⟨ba, offa, none⟩) na ca, .slice (some ⟨w.heap.size, 0, none⟩) 3 3, .slice ab nb cb] 30)).heap.size (w9.alloc (.cells #[.slice (some ⟨ba, offa, none⟩) na ca, .slice (some ⟨w.heap.size, 0, none⟩) 3 3, .slice ab nb cb] 30)) w') := CC10
          clear CC10 hps
          go_wp2_with fail
          refine HCC10.out.mono ?_
          rintro e w10 ⟨⟨ao10, cap10, rfl, h10⟩, hb⟩
          have hb' : Below w9.heap.size w9 w10 := ((Below.refl w9.heap.size w9).alloc (Nat.le_refl _) _).trans (hb.mono (by simp))
          have HP10 : Hid (PAt w (some ⟨ba, offa, none⟩) ab na ca nb cb A L w10) := HP9.out.far hb'
          have H10 : Hid (Tks w10 ao9 n3 cap9 T3) := H9.out.below hb'
          have H10b : Hid (Tks w10 (some ⟨bt, offt, none⟩) (m + 1) cap4 T1) := H9b.out.below hb'
          have CP11 := page_ok ao10 (na + 3 + nb) cap10 (A ++ Tk.qL ++ L) w10 h10 HP10.out.env (by omega)
          rw [HPQ.out, List.length_append, HN1.out] at CP11
          clear h10 hb hb' HCC10
          obtain ⟨n3', hn3'⟩ : ∃ n3', T3.length = n3' := ⟨_, rfl⟩
          have hn33 : n3' = n3 := hn3'.symm.trans H10.out.toks
          rw [hn3', hn33] at CP11
          clear hn3' hn33
          have HCP11 : Hid (Calls Tryd.prog 6 #[.slice ao10 (na + 3 + nb) cap10] w10 fun e w' => (∃ ao' cap', e = .returned (.tuple #[.slice ao' (m + 1 + n3) cap', .int .i64 0]) ∧ Tks w' ao' (m + 1 + n3) cap' (T1 ++ T3)) ∧ Below w10.heap.size w10 w') := CP11
          clear CP11
          go_wp2_with fail
          refine HCP11.out.mono ?_
          rintro e w11 ⟨⟨ao11, cap11, rfl, h11⟩, hb⟩
          have HP11 : Hid (PAt w (some ⟨ba, offa, none⟩) ab na ca nb cb A L w11) := HP10.out.far hb
          have H11 : Hid (Tks w11 ao11 (m + 1 + n3) cap11 (T1 ++ T3)) := h11
          have HCC12 : Hid (Calls Tryd.prog 14 #[.slice (some ⟨w11.heap.size, 0, none⟩) 2 2] (w11.alloc (.cells #[.slice (some ⟨bt, offt, none⟩) (m + 1) cap4, .slice ao9 n3 cap9] 27)) fun e w' => (∃ ao' cap', e = .returned (.slice ao' (m + 1 + n3) cap') ∧ Tks w' ao' (m + 1 + n3) cap' (T1 ++ T3)) ∧ Below w11.heap.size w11 w') := concat_two w11 _ _ (m + 1) cap4 n3 cap9 T1 T3 (H10b.out.below hb) (H10.out.below hb) (by omega)
          clear h11 hb HCP11
          go_wp2_with fail
          refine HCC12.out.mono ?_
          rintro e w12 ⟨⟨ao12, cap12, rfl, h12⟩, hb⟩
          have HP12 : Hid (PAt w (some ⟨ba, offa, none⟩) ab na ca nb cb A L w12) := HP11.out.far hb
          have CE13 := equalTk_any ao11 ao12 (m + 1 + n3) cap11 (m + 1 + n3) cap12 (T1 ++ T3) (T1 ++ T3) w12 (H11.out.below hb) h12
          rw [Tk.same_self] at CE13
          have HCE13 : Hid (Calls Tryd.prog 13 #[.slice ao11 (m + 1 + n3) cap11, .slice ao12 (m + 1 + n3) cap12] w12 fun e w' => e = .returned (.bool true) ∧ ∃ m, w' = w12.drewN m) := CE13
          clear h12 hb HCC12 CE13
          go_wp2_with fail
          refine HCE13.out.mono ?_
          rintro e w13 ⟨rfl, dm, hw⟩
          have H13 : Hid (Below w.heap.size w w13) := by rw [hw]; exact ⟨HP12.out.below.os, HP12.out.below.tape, HP12.out.below.output, HP12.out.below.size, HP12.out.below.block⟩
          clear hw
          go_wp2
          go_ret
          exact ⟨rfl, H13.out⟩
    · obtain ⟨ba, offa, rfl, hca⟩ := HP5.out.a.byte (by omega)
      have cap0 := hca p hpl
      have hnb : ((A[p].toNat : Int) != 62) = true := by
        rw [bne_iff_ne]
        intro e
        exact hne (UInt8.toNat_inj.1 (by show A[p].toNat = 62; omega))
      have hpos' : (0 : Int) < (na : Int) := by omega
      have hpn2 : (p : Int) < (na : Int) := by omega
      clear hca hne
      generalize A[p] = cp at *
      go_wp2_with fail
      refine (CT.out w5 HP5.out.env).mono ?_
      rintro e w6 ⟨rfl, hb⟩
      have HP6 : Hid (PAt w (some ⟨ba, offa, none⟩) ab na ca nb cb A L w6) := HP5.out.far hb
      clear hb
      go_wp2
      go_ret
      exact ⟨rfl, HP6.out.below⟩
end Go.Proofs.YtdlacdoakkklaabDoor
