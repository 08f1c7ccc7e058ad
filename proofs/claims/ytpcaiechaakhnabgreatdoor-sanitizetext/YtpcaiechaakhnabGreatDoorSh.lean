/-
  sanitize.Page: whatever a page is, what is made of it is what chapter 6 says.
-/
import Derived.Test.YtpcaiechaakhnabGreatDoorSg
import Derived.Test.YtpcaiechaakhnabGreatDoorTg
namespace Go.Proofs.YtpcaiechaakhnabGreatDoor
open Go.RowKit

/-- What sanitize.Page comes to. -/
def Made1 (r : Option (List It)) (e : Ending) (w' : World) : Prop :=
  match r with
  | some d => ∃ ao cap, e = .returned (.tuple #[.slice ao d.length cap, .int .i64 0]) ∧ Doc w' ao d.length cap d
  | none => e = .returned (.tuple #[.slice none 0 0, .int .i64 2])

set_option maxRecDepth 100000 in
set_option maxHeartbeats 800000 in
theorem zpage_many (ao : Option Addr) (n cap : Nat) (w : World) (hn : 20000 < n) :
    Calls Tryz.prog 12 #[.slice ao n cap] w fun e w' => e = .returned (.tuple #[.slice none 0 0, .int .i64 2]) ∧ w' = w := by
  have CT : Hid (Calls Tryz.prog 8 #[.slice ao n cap] w fun e w' => e = .returned (.tuple #[.slice none 0 0, .int .i64 2]) ∧ w' = w) := tpage_many ao n cap w hn
  go_enter Tryz.func12, Tryz.ntmps12
  go_wp2_with fail
  refine CT.out.mono ?_
  rintro e w1 ⟨rfl, rfl⟩
  go_wp2
  go_ret2
  exact ⟨rfl, rfl⟩

theorem drop_cons {ts : List Tk} {k : Nat} (h : k < ts.length) : ts.drop k = ts[k] :: ts.drop (k + 1) := List.drop_eq_getElem_cons h
/-- A page whose tokens are being taken. -/
structure Zat (w1 : World) (b : Nat) (ts : List Tk) (k : Nat) (s : Sn.S) (v : Value) (wr : World) : Prop where
  go : Sn.run s (ts.drop k) = Sn.run Sn.s0 ts
  wk : Wk wr b s v
  below : Below b w1 wr
  few : s.d.length ≤ 80
  lim : Lim k s

theorem fit_nice {x : It} (h : Sn.Nice x) : x.l.size ≤ 9223372036854775807 := by
  have h1 := h.1
  have hl := len_list x.l
  rcases h1.2.2 with h2 | h2
  · rw [Lib.toList_data] at h2
    have : x.l.data.toList = [] := by simpa using h2
    rw [this] at hl
    simp at hl
    omega
  · by_cases h3 : 24 < x.l.data.toList.length
    · rw [may_len _ (.inr h3)] at h2
      cases h2
    · omega
theorem made_doc {ts : List Tk} {d : List It} {w : World} {b : Nat} {v : Value} (hr : Sn.read ts = some d) (ho : w.ownsRow (b + 1) 39 3 v d.length (itCells d)) : ∃ ao cap, v = .slice ao d.length cap ∧ Doc w ao d.length cap d := by
  obtain ⟨hN, h80, k, x, hk, _⟩ := Sn.read_doc hr
  have hne : d.length ≠ 0 := by rw [hk]; simp
  rcases ho.2 with ⟨hv, h0⟩ | ⟨g, cap, cur, rfl, hg, hh, h1, h2, h3, h4⟩
  · exact absurd h0 hne
  · unfold maxLen at h2
    exact ⟨_, cap, rfl, fun y hy => fit_nice (hN y hy), rfl, h1, by omega, fun _ => ⟨g, 0, rfl, own_at ho⟩⟩

theorem run_end {ts : List Tk} {k : Nat} {s : Sn.S} (h : Sn.run s (ts.drop k) = Sn.run Sn.s0 ts) (hk : ts.length ≤ k) : Sn.read ts = Sn.fin s := by
  rw [List.drop_eq_nil_of_le hk] at h
  unfold Sn.read
  rw [← h]
  rfl
theorem run_more {ts : List Tk} {k : Nat} {s : Sn.S} (h : Sn.run s (ts.drop k) = Sn.run Sn.s0 ts) (hk : k < ts.length) (h80 : 80 < (Sn.step s ts[k]).d.length) : Sn.read ts = none := by
  rw [drop_cons hk, Sn.run, if_pos h80] at h
  unfold Sn.read
  rw [← h]
  rfl
theorem run_on {ts : List Tk} {k : Nat} {s : Sn.S} (h : Sn.run s (ts.drop k) = Sn.run Sn.s0 ts) (hk : k < ts.length) (h80 : ¬ 80 < (Sn.step s ts[k]).d.length) : Sn.run (Sn.step s ts[k]) (ts.drop (k + 1)) = Sn.run Sn.s0 ts := by
  rw [drop_cons hk, Sn.run, if_neg h80] at h
  exact h
theorem fin_many {s : Sn.S} (h : 80 < (Sn.shut s).d.length) : Sn.fin s = none := by
  unfold Sn.fin Sn.all
  have : (Sn.shut s).d.isEmpty = false := by
    cases hd : (Sn.shut s).d with
    | nil => rw [hd] at h; simp at h
    | cons _ _ => rfl
  rw [this, if_neg Bool.false_ne_true, if_pos h]
theorem fin_some {s : Sn.S} (h0 : (Sn.shut s).d.length ≠ 0) (h : ¬ 80 < (Sn.shut s).d.length) : Sn.fin s = some (Sn.shut s).d := by
  unfold Sn.fin Sn.all
  have : (Sn.shut s).d.isEmpty = false := by
    cases hd : (Sn.shut s).d with
    | nil => rw [hd] at h0; simp at h0
    | cons _ _ => rfl
  rw [this, if_neg Bool.false_ne_true, if_neg h]
theorem fin_none {s : Sn.S} (h0 : (Sn.shut s).d.length = 0) : Sn.fin s = some ((Sn.shut s).plus (Sn.endOf 0)).d := by
  have hd : (Sn.shut s).d = [] := List.length_eq_zero_iff.1 h0
  unfold Sn.fin Sn.all Sn.S.plus
  rw [hd]
  rfl

set_option maxRecDepth 100000 in
set_option maxHeartbeats 6400000 in
theorem zpage_ok (ao : Option Addr) (n cap : Nat) (l : List UInt8) (w : World) (hB : Byt w ao n cap l) (hE : Env w w.heap.size) (hZ : Zt w w.heap.size) (hn : n ≤ 20000) :
    Calls Tryz.prog 12 #[.slice ao n cap] w fun e w' => Made1 (Sn.read (Tk.toks l)) e w' ∧ Below w.heap.size w w' := by
  have hll := hB.bytes
  have CT : Hid (Calls Tryz.prog 8 #[.slice ao n cap] w fun e w' => (∃ ao' cap', e = .returned (.tuple #[.slice ao' (Tk.toks l).length cap', .int .i64 0]) ∧ Tks w' ao' (Tk.toks l).length cap' (Tk.toks l)) ∧ Below w.heap.size w w') := tpage_ok ao n cap l w hB hE hn
  have HF : Hid (∀ t ∈ Tk.toks l, Tk.Fits 20000 t) := fun t ht => Tk.toks_fits Esc.rd_len 20000 l (by omega) t ht
  have hct : (Tk.toks l).length ≤ 20000 := Nat.le_trans (Tk.toks_count _ l (Nat.le_refl _)) (by omega)
  have HZ : Hid (Zt w w.heap.size) := hZ
  clear hB hE hZ hll
  generalize Tk.toks l = ts at *
  obtain ⟨m, hm⟩ : ∃ m, ts.length = m := ⟨_, rfl⟩
  have HM : Hid (ts.length = m) := hm
  rw [hm] at hct CT
  clear hm
  go_enter Tryz.func12, Tryz.ntmps12
  go_wp2_with fail
  refine CT.out.mono ?_
  rintro e w1 ⟨⟨ao', cap', rfl, hT⟩, hb⟩
  have HT : Hid (Tks w1 ao' m cap' ts) := hT
  have HB1 : Hid (Below w.heap.size w w1) := hb
  have hcap := hT.room
  have hbig := hT.big
  have hb2 : Below w1.heap.size w1 (w1.alloc (.cells (zcells (.slice none 0 0) Sn.s0).toArray 58)) := (Below.refl _ _).alloc (Nat.le_refl _) _
  have HZ1 : Hid (Zt w1 w1.heap.size) := ⟨(HZ.out.below hb).bn, (HZ.out.below hb).hn, (HZ.out.below hb).sch, Nat.lt_of_lt_of_le HZ.out.b1 hb.size, Nat.lt_of_lt_of_le HZ.out.b2 hb.size, Nat.lt_of_lt_of_le HZ.out.b3 hb.size⟩
  have H0 : Hid (Zat w1 w1.heap.size ts 0 Sn.s0 (.slice none 0 0) (w1.alloc (.cells (zcells (.slice none 0 0) Sn.s0).toArray 58))) :=
    ⟨rfl, ⟨Blk.new w1 (zcells (.slice none 0 0) Sn.s0) _, World.ownsRow_nil _ _ _ _⟩, hb2, Nat.zero_le _, ⟨Int.le_refl _, Int.le_refl _, Int.le_refl _, Int.le_refl _⟩⟩
  clear hT hb hb2 CT HZ
  go_wp2
  go_loopw [19] (fun i wr => ∃ k s v, i = .int .i64 (k : Nat) ∧ k ≤ m ∧ Zat w1 w1.heap.size ts k s v wr) (fun i _ => m - (intOf i).toNat)
  case atStart => exact ⟨0, _, _, rfl, Nat.zero_le _, H0.out⟩
  case round =>
    obtain ⟨k, s, v, rfl, hk, hz⟩ := hrel
    have HZA : Hid (Zat w1 w1.heap.size ts k s v wr) := hz
    have HZW : Hid (Zt wr w1.heap.size) := HZ1.out.below hz.below
    clear hz H0
    by_cases hkl : k < m
    · have hkt : k < ts.length := by rw [HM.out]; exact hkl
      obtain ⟨tb, off, rfl, hc⟩ := HT.out.tok (by omega)
      obtain ⟨q0, q1, q2, q3⟩ := hc k hkt
      have hlt : tb < w1.heap.size := World.block_lt_of_cell? _ _ q0
      have up : ∀ j u, w1.cell? ⟨tb, j, none⟩ = some u → wr.cell? ⟨tb, j, none⟩ = some u := fun j u h => (World.cell?_of_block (w := w1) (HZA.out.below.block tb hlt)).trans h
      have r0 := up _ _ q0
      have r1 := up _ _ q1
      have r2 := up _ _ q2
      have r3 := up _ _ q3
      obtain ⟨t, ht⟩ : ∃ t, ts[k] = t := ⟨_, rfl⟩
      rw [ht] at r0 r1 r2 r3
      have HTE : Hid (ts[k] = t) := ht
      have HFT : Hid (Tk.Fits 20000 t) := by rw [← ht]; exact HF.out _ (List.getElem_mem hkt)
      clear hc q0 q1 q2 q3 up ht
      have hb3 : Below wr.heap.size wr (wr.alloc (.cells #[.int .i64 t.kind, .string (B t.name), .string (B t.text), .string (B t.href)] 30)) := (Below.refl _ _).alloc (Nat.le_refl _) _
      have CTK : Hid (Calls Tryz.prog 31 #[.pointer (some ⟨w1.heap.size, 0, none⟩), .agg #[.int .i64 t.kind, .string (B t.name), .string (B t.text), .string (B t.href)]] (wr.alloc (.cells #[.int .i64 t.kind, .string (B t.name), .string (B t.text), .string (B t.href)] 30)) fun e w' => e = .returned (.tuple #[]) ∧ PutTo wr w1.heap.size v w' (Sn.step s t)) :=
        (ztake_any w1.heap.size s v t _ (HZA.out.wk.under hb3) (HZW.out.under hb3 (Nat.le_of_lt HZA.out.wk.big)) HZA.out.few (HZA.out.lim.mono (by omega)) HFT.out).mono fun e w2 h => ⟨h.1, PutTo.pre hb3 h.2⟩
      clear hb3 HFT
      go_wp2_with fail
      refine CTK.out.mono ?_
      rintro e w2 ⟨rfl, hP⟩
      obtain ⟨⟨v1, hW1, hv1⟩, hK1⟩ := hP
      obtain ⟨ao2, cap2, rfl, -⟩ := own_row hW1.own
      have d0 : w2.cell? ⟨w1.heap.size, 0, none⟩ = some (.slice ao2 (Sn.step s t).d.length cap2) := hW1.blk.cell 0
      have HW1 : Hid (Wk w2 w1.heap.size (Sn.step s t) (.slice ao2 (Sn.step s t).d.length cap2)) := hW1
      have HB2 : Hid (Below w1.heap.size w1 w2) := HZA.out.below.trans (HZA.out.wk.blw hK1)
      have HBW : Hid (Below w.heap.size w w2) := HB1.out.trans (HB2.out.mono HB1.out.size)
      clear hW1 hv1 hK1 r0 r1 r2 r3 CTK
      obtain ⟨N, hN⟩ : ∃ N, (Sn.step s t).d.length = N := ⟨_, rfl⟩
      have HN : Hid ((Sn.step s t).d.length = N) := hN
      rw [hN] at d0
      clear hN
      by_cases h80 : 80 < N
      · have CM : Hid (Calls Tryz.prog 32 #[.pointer (some ⟨w1.heap.size, 0, none⟩)] w2 fun e w' => e = .returned (.bool true) ∧ w' = w2) := by have := tooMany_any w1.heap.size N cap2 ao2 w2 d0; rw [decide_eq_true h80] at this; exact this
        clear d0
        go_wp2_with fail
        refine CM.out.mono ?_
        rintro e w3 ⟨rfl, rfl⟩
        go_wp2
        go_ret2
        refine ⟨?_, HBW.out⟩
        rw [run_more HZA.out.go hkt (by rw [HTE.out, HN.out]; exact h80)]
        exact rfl
      · have CM : Hid (Calls Tryz.prog 32 #[.pointer (some ⟨w1.heap.size, 0, none⟩)] w2 fun e w' => e = .returned (.bool false) ∧ w' = w2) := by have := tooMany_any w1.heap.size N cap2 ao2 w2 d0; rw [decide_eq_false h80] at this; exact this
        have HZN : Hid (Zat w1 w1.heap.size ts (k + 1) (Sn.step s t) (.slice ao2 (Sn.step s t).d.length cap2) w2) :=
          ⟨by have := run_on HZA.out.go hkt (by rw [HTE.out, HN.out]; exact h80); rw [HTE.out] at this; exact this, HW1.out, HB2.out, by rw [HN.out]; omega, lim_step HZA.out.lim t⟩
        clear d0
        go_wp2_with fail
        refine CM.out.mono ?_
        rintro e w3 ⟨rfl, rfl⟩
        go_wp2
        go_roundw
        case rel => exact ⟨k + 1, _, _, by go_num, by omega, HZN.out⟩
        case measure => simp [intOf]; omega
    · obtain rfl : k = m := by omega
      have HR : Hid (Sn.read ts = Sn.fin s) := run_end HZA.out.go (by rw [HM.out]; exact Nat.le_refl _)
      go_wp2_with fail
      refine (endBlock_any w1.heap.size s v wr HZA.out.wk (by have := HZA.out.few; omega)).mono ?_
      rintro e w2 ⟨rfl, ⟨v1, hW1, hv1⟩, hK1⟩
      obtain ⟨ao2, cap2, rfl, -⟩ := own_row hW1.own
      have d0 : w2.cell? ⟨w1.heap.size, 0, none⟩ = some (.slice ao2 (Sn.shut s).d.length cap2) := hW1.blk.cell 0
      have HW1 : Hid (Wk w2 w1.heap.size (Sn.shut s) (.slice ao2 (Sn.shut s).d.length cap2)) := hW1
      have HB2 : Hid (Below w1.heap.size w1 w2) := HZA.out.below.trans (HZA.out.wk.blw hK1)
      have HBW : Hid (Below w.heap.size w w2) := HB1.out.trans (HB2.out.mono HB1.out.size)
      clear hW1 hv1 hK1
      obtain ⟨N, hN⟩ : ∃ N, (Sn.shut s).d.length = N := ⟨_, rfl⟩
      have HN : Hid ((Sn.shut s).d.length = N) := hN
      rw [hN] at d0 HW1
      clear hN
      by_cases h0 : N = 0
      · have hl0 : (Sn.shut s).d.length = 0 := HN.out.trans h0
        have HRS : Hid (Sn.read ts = some ((Sn.shut s).plus (Sn.endOf 0)).d) := HR.out.trans (fin_none hl0)
        have CP : Hid (Calls Tryz.prog 34 #[.pointer (some ⟨w1.heap.size, 0, none⟩), .int .u8 10, .int .i64 0, .string ⟨#[]⟩] w2 fun e w3 => e = .returned (.tuple #[]) ∧ PutTo w2 w1.heap.size (.slice ao2 N cap2) w3 ((Sn.shut s).plus (Sn.endOf 0))) := put_any w1.heap.size (Sn.shut s) _ (Sn.endOf 0) w2 HW1.out (by rw [hl0]; decide)
        have hlen : ((Sn.shut s).plus (Sn.endOf 0)).d.length = 1 := by unfold Sn.S.plus; simp [hl0]
        have HLen : Hid (((Sn.shut s).plus (Sn.endOf 0)).d.length = 1) := hlen
        subst h0
        clear hl0 hlen
        go_wp2_with fail
        refine CP.out.mono ?_
        rintro e w3 ⟨rfl, ⟨v2, hW2, hv2⟩, hK2⟩
        have ho := hW2.own
        obtain ⟨ao3, cap3, rfl, hDD⟩ := made_doc HRS.out ho
        have d3 : w3.cell? ⟨w1.heap.size, 0, none⟩ = some (.slice ao3 ((Sn.shut s).plus (Sn.endOf 0)).d.length cap3) := hW2.blk.cell 0
        rw [HLen.out] at d3
        have HD : Hid (Doc w3 ao3 ((Sn.shut s).plus (Sn.endOf 0)).d.length cap3 ((Sn.shut s).plus (Sn.endOf 0)).d) := hDD
        have HB3 : Hid (Below w.heap.size w w3) := HBW.out.trans ((HW1.out.blw hK2).mono HB1.out.size)
        have CM : Hid (Calls Tryz.prog 32 #[.pointer (some ⟨w1.heap.size, 0, none⟩)] w3 fun e w' => e = .returned (.bool false) ∧ w' = w3) := tooMany_any w1.heap.size 1 cap3 ao3 w3 d3
        clear ho hW2 hv2 hK2 hDD d0
        go_wp2_with fail
        refine CM.out.mono ?_
        rintro e w4 ⟨rfl, rfl⟩
        go_wp2
        go_ret2
        refine ⟨?_, HB3.out⟩
        rw [HRS.out]
        exact ⟨ao3, cap3, by rw [HLen.out]; rfl, HD.out⟩
      · by_cases h80 : 80 < N
        · have CM : Hid (Calls Tryz.prog 32 #[.pointer (some ⟨w1.heap.size, 0, none⟩)] w2 fun e w' => e = .returned (.bool true) ∧ w' = w2) := by have := tooMany_any w1.heap.size N cap2 ao2 w2 d0; rw [decide_eq_true h80] at this; exact this
          go_wp2_with fail
          refine CM.out.mono ?_
          rintro e w3 ⟨rfl, rfl⟩
          go_wp2
          go_ret2
          refine ⟨?_, HBW.out⟩
          rw [HR.out, fin_many (by rw [HN.out]; exact h80)]
          exact rfl
        · have CM : Hid (Calls Tryz.prog 32 #[.pointer (some ⟨w1.heap.size, 0, none⟩)] w2 fun e w' => e = .returned (.bool false) ∧ w' = w2) := by have := tooMany_any w1.heap.size N cap2 ao2 w2 d0; rw [decide_eq_false h80] at this; exact this
          have HRS : Hid (Sn.read ts = some (Sn.shut s).d) := HR.out.trans (fin_some (by rw [HN.out]; exact h0) (by rw [HN.out]; exact h80))
          go_wp2_with fail
          refine CM.out.mono ?_
          rintro e w3 ⟨rfl, rfl⟩
          go_wp2
          go_ret2
          refine ⟨?_, HBW.out⟩
          rw [HRS.out]
          have ho := HW1.out.own
          obtain ⟨ao3, cap3, he, hDD⟩ := made_doc HRS.out ho
          rw [HN.out] at he
          simp only [Value.slice.injEq, true_and] at he
          obtain ⟨rfl, rfl⟩ := he
          exact ⟨ao2, cap2, by rw [HN.out]; rfl, hDD⟩
end Go.Proofs.YtpcaiechaakhnabGreatDoor
