/-
  Texts of this proof, one behind the other.
-/
import Derived.Test.YtbhcklkbckacpaaGreatDoorG8
import Derived.Test.YtbhcklkbckacpaaGreatDoorZr5d
import Derived.Test.YtbhcklkbckacpaaGreatDoorZr5e
import Derived.Test.YtbhcklkbckacpaaGreatDoorG10

/-
  The reference's Read: a round.
-/
namespace Go.Proofs.YtbhcklkbckacpaaGreatDoor
open Go.RowKit Go.Maps Go.WideMaps
theorem rone_le (k : Int) : -1 ≤ Sn.one k ∧ Sn.one k ≤ 1 := by unfold Sn.one; split <;> (try split) <;> omega
theorem rup_le (x : Int) (k : Int) (h : 0 ≤ x) : 0 ≤ Sn.up (x + Sn.one k) ∧ Sn.up (x + Sn.one k) ≤ x + 1 := by
  have := rone_le k
  unfold Sn.up
  split <;> omega
theorem rstep_marks (s : Sn.S) (t : Tk) (h0 : 0 ≤ s.bold) (h1 : 0 ≤ s.slant) : (0 ≤ (Sn.step s t).bold ∧ (Sn.step s t).bold ≤ s.bold + 1) ∧ (0 ≤ (Sn.step s t).slant ∧ (Sn.step s t).slant ≤ s.slant + 1) := by
  have a := rup_le s.bold t.kind h0
  have c := rup_le s.slant t.kind h1
  have e1 : (Sn.shut s).bold = s.bold := rfl
  have e2 : (Sn.shut s).slant = s.slant := rfl
  unfold Sn.step
  split
  · split <;> exact ⟨⟨h0, by show s.bold ≤ _; omega⟩, h1, by show s.slant ≤ _; omega⟩
  split
  · exact ⟨⟨h0, by show s.bold ≤ _; omega⟩, h1, by show s.slant ≤ _; omega⟩
  split
  · exact ⟨⟨h0, by omega⟩, h1, by omega⟩
  split
  · split <;> exact ⟨⟨h0, by show s.bold ≤ _; omega⟩, h1, by show s.slant ≤ _; omega⟩
  · unfold Sn.other
    split
    · exact ⟨a, h1, by show s.slant ≤ _; omega⟩
    split
    · exact ⟨⟨h0, by show s.bold ≤ _; omega⟩, c⟩
    split
    · exact ⟨⟨h0, by show s.bold ≤ _; omega⟩, h1, by show s.slant ≤ _; omega⟩
    split
    · exact ⟨⟨h0, by omega⟩, h1, by omega⟩
    split
    · exact ⟨⟨h0, by show s.bold ≤ _; omega⟩, h1, by show s.slant ≤ _; omega⟩
    split
    · exact ⟨⟨h0, by show s.bold ≤ _; omega⟩, h1, by show s.slant ≤ _; omega⟩
    · exact ⟨⟨h0, by omega⟩, h1, by omega⟩
theorem rd_switch (w1 : World) (b : Nat) (ta : Option Addr) (nt tc : Nat) (s : Sn.S) (v : Value) (j tb : Nat) (t : Tk) (us : Nat → Value) (w2 : World) (K : Act → World → Prop) (Q : Exit → Act → World → Prop) (hC : AtTk w1 b s v tb t w2)
    (hK : ∀ us' v' w', RdM w1 b (Sn.step s t) v' w' → K (frmR b ta nt tc (Sn.step s t) j us') w') (hT : Tk.Fits 20000 t) (hb0 : 0 ≤ s.bold) (hb1 : s.bold ≤ 1000000) (hs0 : 0 ≤ s.slant) (hs1 : s.slant ≤ 1000000)
    (hTab : ∀ w', Kept w1 w' [b + 1, b + 2, b + 3] → Lib.TabIs Tryz.prog w' "strings.asciiSpace" .u8 Lib.asciiSpaceTab) :
    Code.wp Tryz.prog ((Tryz.f15.body.bind (blockOn 2)).getD .skip) (Exit.then K Q) (frmS b ta nt tc s j tb ((Sn.blockOf t.name).getD 0) (Sn.blockOf t.name).isSome us) w2 := by
  have hw : (Lit.int .i64 t.kind).wf = true := by rcases hT.kind with h | h | h | h <;> rw [h] <;> decide
  cases hh : s.hides.isEmpty
  · by_cases hk : t.kind = 3 ∧ t.name = s.hides
    · exact rd_shown w1 b ta nt tc s v j tb t us w2 K Q hC hK hh hk.1 hk.2
    · exact rd_hidden w1 b ta nt tc s v j tb t us w2 K Q hC hK hh (by
        rw [Bool.and_eq_false_iff]
        by_cases h3 : t.kind = 3
        · exact .inr (by simpa using fun e => hk ⟨h3, e⟩)
        · exact .inl (by simpa using h3))
  by_cases hk1 : t.kind = 1
  · exact rd_text w1 b ta nt tc s v j tb t us w2 K Q hC hK hh hk1 hT.text
  by_cases hk4 : t.kind = 4
  · exact rd_other w1 b ta nt tc s v j tb t us w2 K Q hC hK hh hk4
  cases hbk : Sn.blockOf t.name with
  | some k =>
    rw [← hbk]
    by_cases hk2 : t.kind = 2
    · exact rd_open w1 b ta nt tc s v j tb t us w2 K Q hC hK hh hk1 hk4 k hbk hk2
    · exact rd_end w1 b ta nt tc s v j tb t us w2 K Q hC hK hh hk1 hk4 k hbk hk2
  | none =>
    rw [← hbk]
    by_cases n1 : t.name = [98]
    · exact rd_b w1 b ta nt tc s v j tb t us w2 K Q hC hK hh hk1 hk4 n1 hw hb0 hb1
    by_cases n2 : t.name = [115, 116, 114, 111, 110, 103]
    · exact rd_strong w1 b ta nt tc s v j tb t us w2 K Q hC hK hh hk1 hk4 n2 hw hb0 hb1
    by_cases n3 : t.name = [105]
    · exact rd_i w1 b ta nt tc s v j tb t us w2 K Q hC hK hh hk1 hk4 n3 hw hs0 hs1
    by_cases n4 : t.name = [101, 109]
    · exact rd_em w1 b ta nt tc s v j tb t us w2 K Q hC hK hh hk1 hk4 n4 hw hs0 hs1
    by_cases n5 : t.name = [97]
    · by_cases hk2 : t.kind = 2
      · exact rd_a w1 b ta nt tc s v j tb t us w2 K Q hC hK hh hk1 hk4 n5 hk2 hT.href
      · exact rd_aend w1 b ta nt tc s v j tb t us w2 K Q hC hK hh hk1 hk4 n5 hk2
    by_cases hk3 : t.kind = 3
    · exact rd_close w1 b ta nt tc s v j tb t us w2 K Q hC hK hh hk1 hk4 hbk n1 n2 n3 n4 n5 hk3
    by_cases n6 : t.name = [98, 114]
    · exact rd_br w1 b ta nt tc s v j tb t us w2 K Q hC hK hh hk1 hk4 n6 hk3
    cases hin : Sn.hiddenL.contains t.name
    · exact rd_else w1 b ta nt tc s v j tb t us w2 K Q hC hK hh hk1 hk4 hbk n1 n2 n3 n4 n5 n6 hk3 hTab hin
    · exact rd_hide w1 b ta nt tc s v j tb t us w2 K Q hC hK hh hk1 hk4 hbk n1 n2 n3 n4 n5 n6 hk3 hTab hin
def RdO (w1 : World) (b : Nat) (R : Option Sn.S) (Q0 : Exit → Act → World → Prop) : Prop := ∀ (a : Act) (w' : World), R = none → Kept w1 w' [b + 1, b + 2, b + 3] → a.tmps.getD 2 undef = .slice none 0 0 → a.tmps.getD 3 undef = .int .i64 2 → a.defers = [] → Q0 .ret a w'
set_option maxRecDepth 1000000 in
set_option maxHeartbeats 3200000 in
theorem rd_round (w1 : World) (b : Nat) (ta : Option Addr) (nt tc : Nat) (T : List Tk) (R : Option Sn.S) (s : Sn.S) (v : Value) (j : Nat) (us : Nat → Value) (wr : World) (Q0 : Exit → Act → World → Prop) (hA : RdAt w1 b nt T R s v j wr) (hTK : ∀ wr, Kept w1 wr [b + 1, b + 2, b + 3] → Tks wr ta nt tc T) (hj : j < T.length) (hn : nt ≤ 20000) (hname : ∀ t ∈ T, t.name.length ≤ 1000000) (hfit : ∀ t ∈ T, Tk.Fits 20000 t)
    (hTab : ∀ w', Kept w1 w' [b + 1, b + 2, b + 3] → Lib.TabIs Tryz.prog w' "strings.asciiSpace" .u8 Lib.asciiSpaceTab) (hQ : RdO w1 b R Q0) :
    Code.wp Tryz.prog ((Tryz.f15.body.bind firstLoop).getD .skip) (Exit.then (fun a' w' => RdI w1 b ta nt tc T R a' w' ∧ rdMu nt a' < nt - j) Q0) (frmR b ta nt tc s j us) wr := by
  have hT := hTK wr hA.mem.kp
  have hll := hT.toks
  have hroom := hT.room
  have hbig := hT.big
  obtain ⟨tb0, toff, rfl, hcs⟩ := hT.tok (by omega)
  obtain ⟨q0, q1, q2, q3⟩ := hcs j hj
  have hjn : j < nt := by omega
  obtain ⟨t, ht⟩ : ∃ t, T[j] = t := ⟨_, rfl⟩
  have htm : t ∈ T := by rw [← ht]; exact List.getElem_mem hj
  have htn : t.name.length ≤ 1000000 := hname t htm
  have htf := hfit t htm
  rw [ht] at q0 q1 q2 q3
  have HM : Hid (RdM w1 b s v (wr.alloc (.cells #[.int .i64 t.kind, .string (B t.name), .string (B t.text), .string (B t.href)] 30))) := hA.mem.far ((Below.refl _ _).alloc (Nat.le_refl _) _)
  have HC : Hid (AtTk w1 b s v wr.heap.size t (wr.alloc (.cells #[.int .i64 t.kind, .string (B t.name), .string (B t.text), .string (B t.href)] 30))) := ⟨HM.out, Blk.new wr _ _, fun e => by have := (hA.mem.own.lt _ e).2; omega, hA.mem.kp.size, hA.few⟩
  have hlk := look5 HM.out.map t.name htn
  have HA : Hid (RdAt w1 b nt T R s v j wr) := hA
  have HG : Hid ((if 80 < (Sn.step s t).d.length then none else Sn.run (Sn.step s t) (T.drop (j + 1))) = R) := by
    have := hA.go
    rw [List.drop_eq_getElem_cons hj, ht] at this
    exact this
  have HSM : Hid ((0 ≤ (Sn.step s t).bold ∧ (Sn.step s t).bold ≤ s.bold + 1) ∧ (0 ≤ (Sn.step s t).slant ∧ (Sn.step s t).slant ≤ s.slant + 1)) := rstep_marks s t hA.b0 hA.s0
  have HTF : Hid (Tk.Fits 20000 t) := htf
  have HTB : Hid (∀ w', Kept w1 w' [b + 1, b + 2, b + 3] → Lib.TabIs Tryz.prog w' "strings.asciiSpace" .u8 Lib.asciiSpaceTab) := hTab
  have HQ : Hid (RdO w1 b R Q0) := hQ
  have hb0 := hA.b0
  have hb1 := hA.b1
  have hs0 := hA.s0
  have hs1 := hA.s1
  clear hT hcs ht hA htm htf hTab hQ hTK hname hfit
  unfold frmR
  conv => arg 2; whnf
  go_upto_block 2 with fail
  refine wp_cut (fun a' w' => ∃ us' v', a' = frmR b (some ⟨tb0, toff, none⟩) nt tc (Sn.step s t) j us' ∧ RdM w1 b (Sn.step s t) v' w') ?_ ?_
  rotate_left
  · intro J K' hJ hK'
    refine wp_frame (frmS b (some ⟨tb0, toff, none⟩) nt tc s j wr.heap.size ((Sn.blockOf t.name).getD 0) (Sn.blockOf t.name).isSome) (by kernel_rfl) (fun us4 => ?_)
    exact rd_switch w1 b (some ⟨tb0, toff, none⟩) nt tc s v j wr.heap.size t us4 _ K' _ HC.out (fun us' v' w' h => hK' _ _ (hJ _ _ ⟨us', v', rfl, h⟩)) HTF.out hb0 (by omega) hs0 (by omega) HTB.out
  · rintro _ wc ⟨us', v', rfl, hR⟩
    obtain ⟨ao, cap, hv, -⟩ := own_row hR.own
    obtain ⟨n, hnn⟩ : ∃ n, (Sn.step s t).d.length = n := ⟨_, rfl⟩
    rw [hnn] at hv HG
    subst hv
    have HR : Hid (RdM w1 b (Sn.step s t) (.slice ao n cap) wc) := hR
    have HN : Hid ((Sn.step s t).d.length = n) := hnn
    have d1 : wc.cell? ⟨b + 1, 0, none⟩ = some (.slice ao n cap) := hR.db.cell 0
    clear hR hnn HC HM HA hlk q0 q1 q2 q3
    generalize wc = W at *
    generalize Sn.step s t = s' at *
    unfold frmR
    by_cases h80 : 80 < n
    · have HE : Hid (R = none) := by have := HG.out; rw [if_pos h80] at this; exact this.symm
      have hd : decide ((80 : Int) < (n : Int)) = true := by simp; omega
      go_wp2
      exact HQ.out _ _ HE.out HR.out.kp rfl rfl rfl
    · have HE : Hid (Sn.run s' (T.drop (j + 1)) = R) := by have := HG.out; rw [if_neg h80] at this; exact this
      have hd : decide ((80 : Int) < (n : Int)) = false := by simp; omega
      have HNW : Hid (RdAt w1 b nt T R s' (.slice ao n cap) (j + 1) W) := ⟨HR.out, HE.out, by rw [HN.out]; omega, HSM.out.1.1, by have := HSM.out.1.2; omega, HSM.out.2.1, by have := HSM.out.2.2; omega, by omega⟩
      go_wp2
      exact RdI.step (by kernel_rfl) HNW.out (Nat.lt_succ_self _)
end Go.Proofs.YtbhcklkbckacpaaGreatDoor

/-
  The reference's Read: any page, of few enough bytes, is made a document as chapter 6 says.
-/
namespace Go.Proofs.YtbhcklkbckacpaaGreatDoor
open Go.RowKit Go.Maps Go.WideMaps
theorem doc_nil (w : World) : Doc w none 0 0 [] := ⟨(fun x hx => by cases hx), rfl, Nat.le_refl _, (by decide), (fun h => absurd rfl h)⟩
theorem own_keptS {w w' : World} {base n sz : Nat} {e : TypeId} {v : Value} {xs : List Value} {S : List Nat} (h : w.ownsRow base e sz v n xs) (hk : Kept w w' S) (hb : ∀ x ∈ S, x < base) : w'.ownsRow base e sz v n xs := by
  refine ⟨h.1, ?_⟩
  rcases h.2 with h2 | ⟨g, cap, cur, hv, hg, hh, r⟩
  · exact .inl h2
  · exact .inr ⟨g, cap, cur, hv, hg, (hk.block g (Array.getElem?_eq_some_iff.1 hh).1 (fun hm => by have := hb g hm; omega)).trans hh, r⟩
theorem first_name (c : UInt8) (t : List UInt8) : ∀ k ∈ (Tk.first c t).1, k.name.length ≤ t.length + 1 := by
  intro k hk
  unfold Tk.first at hk
  split at hk
  · cases t with
    | nil => rw [Tk.angle_nil] at hk; rw [Tk.mem_one hk]; exact Nat.zero_le _
    | cons d u =>
      rw [Tk.angle_cons] at hk
      split at hk
      · rw [Tk.mem_one hk]; exact Nat.zero_le _
      split at hk
      · rw [Tk.mem_one hk]; exact Nat.zero_le _
      split at hk
      · cases u with
        | nil => rw [Tk.mem_one hk]; exact Nat.zero_le _
        | cons e v =>
          rw [Tk.shutAt] at hk
          split at hk
          · have := tag_name true (e :: v) k hk
            simp only [List.length_cons] at this ⊢
            omega
          · rw [Tk.mem_one hk]; exact Nat.zero_le _
      split at hk
      · have := tag_name false (d :: u) k hk
        simp only [List.length_cons] at this ⊢
        omega
      · rw [Tk.mem_one hk]; exact Nat.zero_le _
  · rw [Tk.mem_one hk]; exact Nat.zero_le _
theorem toks_name : ∀ (n : Nat) (l : List UInt8), l.length ≤ n → ∀ t ∈ Tk.toks l, t.name.length ≤ n
  | _, [], _, t, ht => by rw [Tk.toks_nil] at ht; cases ht
  | 0, _ :: _, h, _, _ => by simp at h
  | n + 1, c :: u, h, t, ht => by
    have hl := Tk.first_len c u
    simp only [List.length_cons] at h
    rw [Tk.toks_cons] at ht
    rcases List.mem_append.1 ht with h1 | h1
    · have := first_name c u t h1
      omega
    · have := toks_name n _ (by omega) t h1
      omega
def RdAns (w : World) (r : Option (List It)) (e : Ending) (w' : World) : Prop := (∃ ao' cap', e = .returned (.tuple #[.slice ao' (r.getD []).length cap', .int .i64 (if r.isNone then 2 else 0)]) ∧ Doc w' ao' (r.getD []).length cap' (r.getD [])) ∧ Below w.heap.size w w'
def W4 (w5 : World) : World := ((w5.alloc (.cells #[.slice none 0 0] 34)).alloc (.cells #[.int .i64 0] 3)).alloc (.cells #[.bool false] 4)
set_option maxRecDepth 1000000 in
set_option maxHeartbeats 3200000 in
theorem readR_any (ao : Option Addr) (n cap : Nat) (l : List UInt8) (w : World) (hB : Byt w ao n cap l) (hM : Mxl w) (hn : n ≤ 20000) (hTab : ∀ w', Below w.heap.size w w' → Lib.TabIs Tryz.prog w' "strings.asciiSpace" .u8 Lib.asciiSpaceTab) (r : Option (List It)) (hr : Sn.read (Tk.toks l) = r) :
    Calls Tryz.prog 15 #[.slice ao n cap] w (RdAns w r) := by
  obtain ⟨wa, wb, wc', wd, w5, r1, r2, r3, r4, r5, o5, hb5, hs5⟩ := five5 w
  have hmm := @run_makeMap Tryz.prog
  have hb4 : Below w.heap.size w (W4 w5) := ((hb5.alloc hb5.size _).alloc (by simp; omega) _).alloc (by simp; omega) _
  have CT : Hid (Calls Tryz.prog 12 #[.slice ao n cap] (W4 w5) fun e w' => (∃ v, e = .returned v ∧ w'.ownsRow ((W4 w5).heap.size + 1) 30 4 v (Tk.toks l).length (tkCells (Tk.toks l))) ∧ Below (W4 w5).heap.size (W4 w5) w') := tokensR_own ao n cap l (W4 w5) (hB.below hb4) (by obtain ⟨m, hm⟩ := hM; exact ⟨m, cell_under hm hb4⟩) hn
  have HB4 : Hid (Below w.heap.size w (W4 w5)) := hb4
  have hz4 : (W4 w5).heap.size = w.heap.size + 4 := by simp [W4]; omega
  have HDB : Hid (Blk (W4 w5) (w.heap.size + 1) [.slice none 0 0] 34 ∧ Blk (W4 w5) (w.heap.size + 2) [.int .i64 0] 3 ∧ Blk (W4 w5) (w.heap.size + 3) [.bool false] 4 ∧ (W4 w5).ownsMap Tryz.prog 9 (plainElem Tryz.prog 3) w.heap.size 5 D5) := by
    refine ⟨?_, ?_, ?_, ((o5.alloc _).alloc _).alloc _⟩
    · exact ((Blk.newAt w5 (w.heap.size + 1) [.slice none 0 0] 34 hs5).alloc _).alloc _
    · exact (Blk.newAt (w5.alloc _) (w.heap.size + 2) [.int .i64 0] 3 (by simp; omega)).alloc _
    · exact Blk.newAt ((w5.alloc _).alloc _) (w.heap.size + 3) [.bool false] 4 (by simp; omega)
  obtain ⟨T, hT⟩ : ∃ T, Tk.toks l = T := ⟨_, rfl⟩
  have hTl : T.length ≤ 20000 := by rw [← hT]; have := Tk.toks_len l; have := hB.bytes; omega
  have HNM : Hid (∀ t ∈ T, t.name.length ≤ 1000000) := fun t ht => by rw [← hT] at ht; have := toks_name _ l (Nat.le_refl _) t ht; have := hB.bytes; omega
  have HFT : Hid (∀ t ∈ T, Tk.Fits 20000 t) := fun t ht => by rw [← hT] at ht; exact Tk.toks_fits Esc.rd_len 20000 l (by have := hB.bytes; omega) t ht
  rw [hT] at CT hr
  have HTab : Hid (∀ w', Below w.heap.size w w' → Lib.TabIs Tryz.prog w' "strings.asciiSpace" .u8 Lib.asciiSpaceTab) := hTab
  have HRR : Hid (Sn.read T = r) := hr
  have e5 : w5.heap.size = w.heap.size + 1 := hs5
  clear hB hM hTab hr hT hb4 hb5 o5
  go_enter Tryz.func15, Tryz.ntmps15
  go_wp2_with fail
  refine CT.out.mono ?_
  rintro e w1 ⟨⟨tv, rfl, how⟩, hb1⟩
  obtain ⟨ta, tc, hv, htk⟩ := own_row how
  subst hv
  have hz1 := hb1.size
  have HW1 : Hid (Below w.heap.size w w1) := HB4.out.trans (hb1.mono HB4.out.size)
  have HM1 : Hid (RdM w1 w.heap.size Sn.s0 (.slice none 0 0) w1) := by
    obtain ⟨p1, p2, p3, p4⟩ := HDB.out
    have hmp : w1.ownsMap Tryz.prog 9 (plainElem Tryz.prog 3) w.heap.size 5 D5 := by
      obtain ⟨es, clock, h1, h2, h3, h4⟩ := p4
      exact ⟨es, clock, (hb1.block _ (by omega)).trans h1, h2, h3, h4⟩
    exact ⟨by omega, hmp, Kept.refl _ _, (hb1.block _ p1.lt).trans p1, (hb1.block _ p2.lt).trans p2, (hb1.block _ p3.lt).trans p3, ⟨rfl, .inl ⟨rfl, rfl⟩⟩⟩
  have HTK : Hid (∀ wr, Kept w1 wr [w.heap.size + 1, w.heap.size + 2, w.heap.size + 3] → Tks wr ta T.length tc T) := fun wr hk => by
    obtain ⟨a', c', he, hrow⟩ := own_row (own_keptS how hk (fun x hx => by simp at hx; omega))
    cases he
    exact hrow
  have HKB : Hid (∀ w', Kept w1 w' [w.heap.size + 1, w.heap.size + 2, w.heap.size + 3] → Below w.heap.size w w') := fun w' hk => HW1.out.trans (hk.below (by have := HW1.out.size; omega) (fun x hx => by simp at hx; omega))
  have HTB1 : Hid (∀ w', Kept w1 w' [w.heap.size + 1, w.heap.size + 2, w.heap.size + 3] → Lib.TabIs Tryz.prog w' "strings.asciiSpace" .u8 Lib.asciiSpaceTab) := fun w' hk => HTab.out w' (HKB.out w' hk)
  obtain ⟨R, hR⟩ : ∃ R, Sn.run Sn.s0 T = R := ⟨_, rfl⟩
  have HRd : Hid (R.bind Sn.fin = r) := by have := HRR.out; unfold Sn.read at this; rw [hR] at this; exact this
  have HRn : Hid (Sn.run Sn.s0 T = R) := hR
  clear how hb1 htk CT HB4 HDB hR hmm r1 r2 r3 r4 r5
  go_wp2_with fail
  refine wp_loop (RdI w1 w.heap.size ta T.length tc T R) (fun a _ => rdMu T.length a) ?_ ?_
  · exact RdI.start (s := Sn.s0) (j := 0) (by kernel_rfl) ⟨HM1.out, HRn.out, Nat.zero_le _, Int.le_refl _, Int.le_refl _, Int.le_refl _, Int.le_refl _, Nat.zero_le _⟩
  · rintro a wr ⟨s, v, j, us, rfl, hA⟩
    show Code.wp _ _ (Exit.then (fun a' w' => RdI w1 w.heap.size ta T.length tc T R a' w' ∧ rdMu T.length a' < T.length - j) _) _ _
    by_cases hj : j < T.length
    · refine rd_round w1 w.heap.size ta T.length tc T R s v j us wr _ hA HTK.out hj hTl HNM.out HFT.out HTB1.out ?_
      intro a w' hR0 hk h2 h3 hd
      have er : r = none := by rw [← HRd.out, hR0]; rfl
      have hz : bodyPost Tryz.prog Tryz.f15 (RdAns w r) .ret a w' := bodyPost_ret (by rw [results_tmp2 (t := 2) (u := 3) rfl, h2, h3]) hd ⟨⟨none, 0, by rw [er]; rfl, by rw [er]; exact doc_nil w'⟩, HKB.out w' hk⟩
      exact hz
    · have hjn : j = T.length := by have := hA.le; omega
      have ers : R = some s := by have := hA.go; rw [List.drop_eq_nil_of_le (by omega)] at this; exact this.symm
      have HFn : Hid (Sn.fin s = r) := by have := HRd.out; rw [ers] at this; exact this
      have CE : Hid (Calls Tryz.prog 69 #[.pointer (some ⟨w.heap.size + 3, 0, none⟩), .pointer (some ⟨w.heap.size + 1, 0, none⟩), .pointer (some ⟨w.heap.size + 2, 0, none⟩)] wr fun e w' => e = .returned (.tuple #[]) ∧ (∃ v', RdM w1 w.heap.size (Sn.shut s) v' w') ∧ Kept wr w' ((w.heap.size + 1) :: (w.heap.size + 2) :: (w.heap.size + 3) :: ob v)) := endR_any w1 w.heap.size s v wr hA.mem (by have := hA.few; omega)
      subst hjn
      have HRD2 : Hid (Sn.read T = r) := HRR.out
      clear hA ers hj
      unfold frmR
      go_wp2_with fail
      refine CE.out.mono ?_
      rintro e w3 ⟨rfl, ⟨v3, hR3⟩, -⟩
      obtain ⟨a3, c3, hv3, -⟩ := own_row hR3.own
      obtain ⟨n3, hn3⟩ : ∃ n3, (Sn.shut s).d.length = n3 := ⟨_, rfl⟩
      rw [hn3] at hv3
      subst hv3
      have H3 : Hid (RdM w1 w.heap.size (Sn.shut s) (.slice a3 n3 c3) w3) := hR3
      have HN3 : Hid ((Sn.shut s).d.length = n3) := hn3
      have d1 : w3.cell? ⟨w.heap.size + 1, 0, none⟩ = some (.slice a3 n3 c3) := hR3.db.cell 0
      have f1 := hR3.db.frozen 0
      clear hR3 hn3 CE
      by_cases h0 : n3 = 0
      · subst h0
        have hd0 : (Sn.shut s).d = [] := List.length_eq_zero_iff.1 HN3.out
        have HE : Hid (r = some [Sn.endOf 0]) := by
          have ha : Sn.all s = [Sn.endOf 0] := by unfold Sn.all; rw [hd0]; rfl
          have := HFn.out
          unfold Sn.fin at this
          rw [ha] at this
          exact this.symm
        clear hd0
        have d9 : (w3.alloc (.cells #[.int .u8 10, .int .i64 0, .string ⟨#[]⟩] 39)).cell? ⟨w.heap.size + 1, 0, none⟩ = some (.slice a3 0 c3) := (H3.out.db.alloc _).cell 0
        have f9 : (w3.alloc (.cells #[.int .u8 10, .int .i64 0, .string ⟨#[]⟩] 39)).frozen? ⟨w.heap.size + 1, 0, none⟩ = false := (H3.out.db.alloc _).frozen 0
        have k9 : ((w3.alloc (.cells #[.int .u8 10, .int .i64 0, .string ⟨#[]⟩] 39)).setCell ⟨w.heap.size + 1, 0, none⟩ (.slice (some ⟨w3.heap.size, 0, none⟩) 1 1)).cell? ⟨w.heap.size + 1, 0, none⟩ = some (.slice (some ⟨w3.heap.size, 0, none⟩) 1 1) := ((H3.out.db.alloc _).set 0 _).cell 0
        go_wp2
        go_ret2
        have hlt := H3.out.db.lt
        have hbk : Blk ((w3.alloc (.cells #[.int .u8 10, .int .i64 0, .string ⟨#[]⟩] 39)).setCell ⟨w.heap.size + 1, 0, none⟩ (.slice (some ⟨w3.heap.size, 0, none⟩) 1 1)) w3.heap.size (itCells [Sn.endOf 0]) 39 := (Blk.new w3 (itCells [Sn.endOf 0]) 39).other _ _ (by show w3.heap.size ≠ w.heap.size + 1; omega)
        refine ⟨⟨some ⟨w3.heap.size, 0, none⟩, 1, by rw [HE.out]; rfl, ?_⟩, HKB.out _ ((H3.out.kp.alloc _).setCell ⟨w.heap.size + 1, 0, none⟩ _ (.inl (by simp)))⟩
        rw [HE.out]
        exact ⟨fun x hx => by rw [List.mem_singleton.1 hx]; exact Nat.zero_le _, rfl, Nat.le_refl _, by decide, fun _ => ⟨_, _, rfl, at_block hbk⟩⟩
      · have hne : (Sn.shut s).d ≠ [] := fun e => h0 (by rw [← HN3.out, e]; rfl)
        have ha : Sn.all s = (Sn.shut s).d := by
          unfold Sn.all
          rw [if_neg (by simpa using hne)]
        by_cases h80 : 80 < n3
        · have HE : Hid (r = none) := by
            have := HFn.out
            unfold Sn.fin at this
            rw [ha, HN3.out, if_pos h80] at this
            exact this.symm
          have hd : decide ((80 : Int) < (n3 : Int)) = true := by simp; omega
          have hq : ((n3 : Int) == 0) = false := by simp; omega
          clear ha hne
          go_wp2
          go_ret2
          exact ⟨⟨none, 0, by rw [HE.out]; rfl, by rw [HE.out]; exact doc_nil _⟩, HKB.out _ H3.out.kp⟩
        · have HE : Hid (r = some (Sn.shut s).d) := by
            have := HFn.out
            unfold Sn.fin at this
            rw [ha, HN3.out, if_neg h80] at this
            exact this.symm
          have hd : decide ((80 : Int) < (n3 : Int)) = false := by simp; omega
          have hq : ((n3 : Int) == 0) = false := by simp; omega
          clear ha hne
          go_wp2
          go_ret2
          obtain ⟨b', hb'⟩ : ∃ b', w1.heap.size = b' + 1 := ⟨w1.heap.size - 1, by have := H3.out.lo; omega⟩
          have ho := H3.out.own
          rw [hb'] at ho
          obtain ⟨a9, c9, hv9, hD⟩ := made_doc (HRD2.out.trans HE.out) ho
          cases hv9
          rw [HN3.out] at hD
          refine ⟨⟨a3, c3, by rw [HE.out]; show _ = Ending.returned (.tuple #[.slice a3 (Sn.shut s).d.length c3, .int .i64 0]); rw [HN3.out]; try rfl, by rw [HE.out]; show Doc w3 a3 (Sn.shut s).d.length c3 (Sn.shut s).d; rw [HN3.out]; exact hD⟩, HKB.out _ H3.out.kp⟩
end Go.Proofs.YtbhcklkbckacpaaGreatDoor
