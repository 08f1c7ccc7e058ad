/-
  (*strings.genericReplacer).WriteString, at the tree of the four ways of writing and an appendSliceWriter: the text as it is read.
-/
import Derived.Test.YtbhcklkbckacpaaGreatDoorLook2
import Derived.Test.YtbhcklkbckacpaaGreatDoorAsw
import Derived.Deep.LoopGhost
namespace Go.Proofs.YtbhcklkbckacpaaGreatDoor
open Go.RowKit

theorem Blk.below {w w' : World} {b : Nat} {cs : List Value} {t : TypeId} (h : Blk w b cs t) (hb : Below w.heap.size w w') : Blk w' b cs t := (hb.block b h.lt).trans h
theorem Leads.below {w w' : World} {x y : Nat} {p v : ByteArray} {i : Int} (h : Leads w x y p v i) (hb : Below w.heap.size w w') : Leads w' x y p v i := ⟨h.1.below hb, h.2.below hb⟩
theorem Trie.below {w w' : World} {n : Nat} (h : Trie w n) (hb : Below w.heap.size w w') : Trie w' n := by
  obtain ⟨tb, a, t1, c, b, d, e, f, g, i, j, h1, h2, h3, h4, h5, h6, h7, h8⟩ := h
  exact ⟨tb, a, t1, c, b, d, e, f, g, i, j, h1.below hb, h2.below hb, h3.below hb, h4.below hb, h5.below hb, h6.below hb, h7.below hb, h8.below hb⟩

def Goes (l : List UInt8) (out : List UInt8) (last i : Nat) : Prop :=
  last ≤ i ∧ last ≤ l.length ∧ i ≤ l.length + 1 ∧ out.length ≤ last ∧ (if i ≤ l.length then out ++ (l.take i).drop last ++ Esc.rd (l.drop i) = Esc.rd l else out ++ l.drop last = Esc.rd l)

theorem Goes.start (l : List UInt8) : Goes l [] 0 0 := ⟨by omega, by omega, by omega, by simp, by simp⟩
theorem Goes.step {l out : List UInt8} {last i : Nat} (h : Goes l out last i) (hi : i < l.length) (hf : Esc.fst1 (l.drop i) = (l[i], 1)) : Goes l out last (i + 1) := by
  obtain ⟨h1, h2, h3, h4, h5⟩ := h
  rw [if_pos (by omega)] at h5
  refine ⟨by omega, h2, by omega, h4, ?_⟩
  rw [if_pos (by omega), ← h5, Esc.rd_step (l.drop i) (by intro e; have := congrArg List.length e; simp at this; omega), hf, List.drop_drop]
  rw [List.take_succ_eq_append_getElem hi, List.drop_append_of_le_length (by simp; omega)]
  simp
theorem Goes.hit {l out : List UInt8} {last i k : Nat} {c : UInt8} (h : Goes l out last i) (hi : i < l.length) (hf : Esc.fst1 (l.drop i) = (c, k)) : Goes l (out ++ (l.take i).drop last ++ [c]) (i + k) (i + k) := by
  obtain ⟨h1, h2, h3, h4, h5⟩ := h
  rw [if_pos (by omega)] at h5
  have hne : l.drop i ≠ [] := by intro e; have := congrArg List.length e; simp at this; omega
  have hk := Esc.fst1_le _ hne
  have hp := Esc.fst1_pos (l.drop i)
  rw [hf] at hk hp
  simp at hk hp
  refine ⟨by omega, by omega, by omega, by simp; omega, ?_⟩
  have hz : (l.take (i + k)).drop (i + k) = [] := List.drop_eq_nil_of_le (by simp; omega)
  rw [if_pos (by omega), ← h5, Esc.rd_step _ hne, hf, List.drop_drop, hz]
  simp
theorem Goes.last {l out : List UInt8} {last : Nat} (h : Goes l out last l.length) : Goes l out last (l.length + 1) := by
  obtain ⟨h1, h2, h3, h4, h5⟩ := h
  rw [if_pos (by omega)] at h5
  refine ⟨by omega, h2, by omega, h4, ?_⟩
  rw [if_neg (by omega)]
  simpa [Esc.rd_nil] using h5
theorem Goes.fin {l out : List UInt8} {last : Nat} (h : Goes l out last (l.length + 1)) : out ++ l.drop last = Esc.rd l := by
  have := h.2.2.2.2
  rwa [if_neg (by omega)] at this

theorem fst1_plain (c : UInt8) (r : List UInt8) (h : c ≠ 38) : Esc.fst1 (c :: r) = (c, 1) := by
  have h' : (38 == c) = false := by simp; exact fun e => h e.symm
  simp [Esc.fst1, List.isPrefixOf, h']

theorem Bufr.drewN {B vb : Nat} {l : List UInt8} {W0 w : World} (h : Bufr B vb l W0 w) (n : Nat) : Bufr B vb l W0 (w.drewN n) := by
  obtain ⟨v, h1, h2, h3⟩ := h
  exact ⟨v, h1.drewN n, h2.drewN n, h3⟩
theorem nils_at (m a : Nat) (hm : m < 11) (h0 : m ≠ 0) : ((nils 11).set 0 (ptr a))[m]? = some (.pointer none) := by
  rw [List.getElem?_set, if_neg (Ne.symm h0)]
  unfold nils
  rw [List.getElem?_replicate, if_pos hm]
theorem extract_end (s : ByteArray) : s.extract s.size s.size = ⟨#[]⟩ := by
  have : (s.extract s.size s.size).data.toList = [] := by rw [Lib.extract_to_end, Lib.size_eq, List.drop_length]
  apply ByteArray.ext
  apply Array.ext'
  exact this

theorem nil_ahead (vb : Nat) (w : World) : (nilAhead 523 411 (pw vb) "WriteString").run Tryz.prog w = .ok (some false) w := by kernel_rfl
theorem meth_ws (vb : Nat) (w : World) : (method 523 411 (pw vb) "WriteString").run Tryz.prog w = .ok (372, pw vb) w := by kernel_rfl

theorem fst1_one (l r : List UInt8) (h : l = 38 :: r) (h1 : (Esc.fst1 l).2 = 1) : (Esc.fst1 l).1 = 38 := by
  subst h
  unfold Esc.fst1 at h1 ⊢
  split
  · rfl
  split
  · rename_i g1 g2; simp [g1, g2] at h1
  split
  · rename_i g1 g2 g3; simp [g1, g2, g3] at h1
  split
  · rename_i g1 g2 g3 g4; simp [g1, g2, g3, g4] at h1
  · rfl

theorem size_one (c : UInt8) : (ByteArray.mk #[c]).size = 1 := rfl

theorem fin_nz : ∀ x : Fin 256, x.val ≠ 38 → FIN x.val = 11 ∨ ∃ m : Nat, m < 11 ∧ m ≠ 0 ∧ FIN x.val = m := by
  have h : ∀ x : Fin 256, x.val ≠ 38 → FIN x.val = 11 ∨ (0 < FIN x.val ∧ FIN x.val < 11) := by decide +kernel
  intro x hx
  rcases h x hx with h1 | ⟨h1, h2⟩
  · exact .inl h1
  · exact .inr ⟨(FIN x.val).toNat, by omega, by omega, by omega⟩

set_option maxRecDepth 100000 in
set_option maxHeartbeats 3200000 in
theorem gws_any (n vb : Nat) (s : ByteArray) (W0 w : World) (hT : Trie W0 n) (hs : s.size ≤ 120000) (hb : Bufr W0.heap.size vb [] W0 w) :
    Calls Tryz.prog 358 #[ptr n, sw vb, .string s] w fun e w' => (∃ v, e = .returned v) ∧ Bufr W0.heap.size vb (Esc.rd s.data.toList) W0 w' := by
  have HT : Hid (Trie W0 n) := hT
  have HB : Hid (Bufr W0.heap.size vb [] W0 w) := hb
  clear hT hb
  go_enter Tryz.func358, Tryz.ntmps358
  go_wp2_with (go_at_call 359; refine (gsw_any vb _).mono ?_; rintro e w' ⟨rfl, hw⟩; rw [hw]; clear hw)
  go_loopg [6, 7, 9, 11, 12] (s.size + 2) (fun g nn er la pm ii wx => ∃ (i last : Nat) (z : Int) (out : List UInt8), i + g = s.size + 2 ∧ nn = .int .i64 z ∧ er = .nilIface ∧ la = .int .i64 last ∧ pm = .bool false ∧ ii = .int .i64 i ∧ Goes s.data.toList out last i ∧ Bufr W0.heap.size vb out W0 wx)
  case atStart => exact ⟨0, 0, 0, [], by omega, rfl, rfl, rfl, rfl, rfl, Goes.start _, HB.out⟩
  case round =>
    obtain ⟨i, last, z, out, hig, rfl, rfl, rfl, rfl, rfl, hG, hBf⟩ := hrel
    have HG : Hid (Goes s.data.toList out last i) := hG
    have HF : Hid (Bufr W0.heap.size vb out W0 wr) := hBf
    have HTr : Hid (Trie wr n) := HT.out.below (by obtain ⟨v, _, hb, _⟩ := hBf; exact hb.2.1)
    clear hG hBf HB
    have hll : s.data.toList.length = s.size := by simp
    have g1 : last ≤ i := HG.out.1
    have g2 : last ≤ s.size := by have := HG.out.2.1; omega
    have g4 : out.length ≤ last := HG.out.2.2.2.1
    obtain ⟨tb, a, t1, _, _, _, _, _, _, _, _, tR, tT, tA, _⟩ := HTr.out
    have r1 : wr.cell? ⟨n, 1, none⟩ = some (.int .i64 0) := (tR.cell 1).trans (RC_root tb 1 (by omega))
    have r4 : wr.cell? ⟨n, 4, none⟩ = some (.slice (some ⟨tb, 0, none⟩) 11 11) := (tR.cell 4).trans (RC_root tb 4 (by omega))
    have r5 : wr.cell? ⟨n, 5, none⟩ = some (.int .i64 11) := (tR.cell 5).trans (RC_ts tb)
    by_cases hlt : i < s.size
    · obtain ⟨c, hc⟩ : ∃ c : UInt8, s[i]'hlt = c := ⟨_, rfl⟩
      have hix := run_index_at s i hlt
      rw [hc] at hix
      have hc256 := c.toNat_lt
      have hdrop : s.data.toList.drop i = c :: s.data.toList.drop (i + 1) := by
        rw [List.drop_eq_getElem_cons (by omega), ← hc]; rfl
      by_cases h38 : c = 38
      · subst h38
        have hmap : wr.cell? ⟨n, 44, none⟩ = some (.int .u8 0) := (tR.cell _).trans (RC_map tb 38 (by omega) _ fin38)
        have ht0 : wr.cell? ⟨tb, 0, none⟩ = some (ptr a) := tT.cell 0
        have hne : ((i : Int) != (s.size : Int)) = true := by rw [bne_iff_ne]; omega
        have hle : decide ((i : Int) ≤ (s.size : Int)) = true := decide_eq_true (by omega)
        have hex : (s.extract i s.size).data.toList = s.data.toList.drop i := Lib.extract_to_end s i
        have HL : Hid (∀ j, Calls Tryz.prog 360 #[ptr n, .string (s.extract i s.size), .bool false] (wr.drewN j) fun e w' => e = .returned (lookOf (s.data.toList.drop i)) ∧ ∃ k, w' = (wr.drewN j).drewN k) := fun j => by
          have := look_amp n (s.extract i s.size) _ (wr.drewN j) (HTr.out.below (Go.below_drewN (Below.refl _ _) j)) (hex.trans hdrop)
          rw [hex] at this
          exact this
        have hsl : ∀ w, (Instr.slice 9 (.string s) (some (.int .i64 i)) none none).run Tryz.prog w = .ok (.string (s.extract i s.size)) w := sl_at s i (by omega)
        obtain ⟨cc, k, hfk⟩ : ∃ cc k, Esc.fst1 (s.data.toList.drop i) = (cc, k) := ⟨_, _, rfl⟩
        have hpos := Esc.fst1_pos (s.data.toList.drop i)
        rw [hfk] at hpos
        obtain ⟨hp1, hp6⟩ := hpos
        by_cases hk1 : k = 1
        · subst hk1
          have hcc : cc = 38 := by
            have := fst1_one _ _ hdrop
            rw [hfk] at this
            exact this rfl
          have HG1 : Hid (Goes s.data.toList out last (i + 1)) := HG.out.step (by omega) (by rw [hfk, hcc, ← hc]; rfl)
          have HL1 : Hid (∀ j, Calls Tryz.prog 360 #[ptr n, .string (s.extract i s.size), .bool false] (wr.drewN j) fun e w' => e = .returned (look ⟨#[]⟩ 0 false) ∧ ∃ k, w' = (wr.drewN j).drewN k) := fun j => by
            have := HL.out j
            rw [lookOf, hfk] at this
            exact this
          clear tR tT tA hc hdrop HG hfk HL hex hp1 hp6
          go_wp2_with fail
          go_quiet (fail)
          go_wp2_with fail
          refine (HL1.out _).mono ?_
          rintro e w1 ⟨rfl, k, rfl⟩
          unfold look
          go_wp2
          go_roundg (s.size + 1 - i)
          case measure => omega
          case rel => exact ⟨i + 1, last, z, out, by omega, rfl, rfl, rfl, rfl, by go_num, HG1.out, HF.out.drewN _⟩
        · have HG1 : Hid (Goes s.data.toList (out ++ (s.data.toList.take i).drop last ++ [cc]) (i + k) (i + k)) := HG.out.hit (by omega) hfk
          have hik : i + k ≤ s.size := by have := HG1.out.2.1; omega
          have HL1 : Hid (∀ j, Calls Tryz.prog 360 #[ptr n, .string (s.extract i s.size), .bool false] (wr.drewN j) fun e w' => e = .returned (look ⟨#[cc]⟩ k true) ∧ ∃ k, w' = (wr.drewN j).drewN k) := fun j => by
            have := HL.out j
            rw [lookOf, hfk, if_neg hk1] at this
            exact this
          have hmid : (s.extract last i).data.toList = (s.data.toList.take i).drop last := by rw [Lib.extract_data, List.drop_take]
          have HW1 : Hid (∀ j, Calls Tryz.prog 372 #[pw vb, .string (s.extract last i)] (wr.drewN j) fun e w' => e = .returned (.tuple #[.int .i64 (s.extract last i).size, .nilIface]) ∧ Bufr W0.heap.size vb (out ++ (s.data.toList.take i).drop last) W0 w') := fun j => by
            have := asw_any W0.heap.size vb out W0 (wr.drewN j) (s.extract last i) (HF.out.drewN j) (by rw [Lib.size_eq, hmid]; simp; omega)
            rw [hmid] at this
            exact this
          have hsl2 : ∀ w, (Instr.slice 9 (.string s) (some (.int .i64 last)) (some (.int .i64 i)) none).run Tryz.prog w = .ok (.string (s.extract last i)) w := fun w => by
            have := run_slice_string (P := Tryz.prog) (w := w) 9 s .i64 .i64 (last : Int) (i : Int) Tryz.underlying9 (by omega) (by omega) (by omega)
            simpa using this
          have hna := nil_ahead vb
          have hme := meth_ws vb
          have hk0 : ((k : Int) == 0) = false := beq_eq_false_iff_ne.2 (by omega)
          clear tR tT tA hc hdrop HG hfk HL hex hmid
          go_wp2_with fail
          go_quiet (fail)
          go_wp2_with fail
          refine (HL1.out _).mono ?_
          rintro e w1 ⟨rfl, k2, rfl⟩
          unfold look
          go_wp2_with fail
          go_region_with (go_at_call 372; refine (HW1.out _).mono ?_; rintro e w3 ⟨rfl, hq⟩)
          go_wp2_with fail
          refine (asw_any W0.heap.size vb (out ++ (s.data.toList.take i).drop last) W0 _ ⟨#[cc]⟩ (by assumption) (by simp [size_one]; omega)).mono ?_
          rintro e w4 ⟨rfl, hq4⟩
          have HQ : Hid (Bufr W0.heap.size vb (out ++ (s.data.toList.take i).drop last ++ [cc]) W0 w4) := hq4
          clear hq4
          go_wp2
          go_roundg (s.size + 2 - (i + k))
          case measure => omega
          case rel => exact ⟨i + k, i + k, _, _, by omega, rfl, rfl, by go_num, rfl, by go_num, HG1.out, HQ.out⟩
      · have HG1 : Hid (Goes s.data.toList out last (i + 1)) := HG.out.step (by omega) (by rw [hdrop, fst1_plain c _ h38]; rw [← hc]; rfl)
        have hmap : wr.cell? ⟨n, 6 + c.toNat, none⟩ = some (.int .u8 (FIN c.toNat)) := (tR.cell _).trans (RC_map tb c.toNat hc256 _ rfl)
        have hne : ((i : Int) != (s.size : Int)) = true := by rw [bne_iff_ne]; omega
        have hle : decide ((i : Int) ≤ (s.size : Int)) = true := decide_eq_true (by omega)
        rcases fin_nz ⟨c.toNat, hc256⟩ (fun e => h38 (UInt8.toNat_inj.1 e)) with h11 | ⟨m, hm, hm0, hfm⟩
        · have h11' : FIN c.toNat = 11 := h11
          rw [h11'] at hmap
          clear tR tT tA hc hdrop HG
          go_wp2_with fail
          go_quiet (fail)
          go_wp2
          go_roundg (s.size + 1 - i)
          case measure => omega
          case rel => exact ⟨i + 1, last, z, out, by omega, rfl, rfl, rfl, rfl, by go_num, HG1.out, HF.out.drewN _⟩
        · have hfm' : FIN c.toNat = m := hfm
          rw [hfm'] at hmap
          have htm : wr.cell? ⟨tb, m, none⟩ = some (.pointer none) := (tT.cell m).trans (nils_at m a hm hm0)
          have hm11 : ((m : Int) == 11) = false := beq_eq_false_iff_ne.2 (by omega)
          clear tR tT tA hc hdrop HG
          go_wp2_with fail
          go_quiet (fail)
          go_wp2
          go_roundg (s.size + 1 - i)
          case measure => omega
          case rel => exact ⟨i + 1, last, z, out, by omega, rfl, rfl, rfl, rfl, by go_num, HG1.out, HF.out.drewN _⟩
    · by_cases hend : i = s.size
      · have HG1 : Hid (Goes s.data.toList out last (s.size + 1)) := by
          have := HG.out
          rw [hend, ← hll] at this
          have h2 := this.last
          rw [hll] at h2
          exact h2
        subst hend
        have hle : decide ((s.size : Int) ≤ (s.size : Int)) = true := decide_eq_true (Int.le_refl _)
        have HL : Hid (Calls Tryz.prog 360 #[ptr n, .string ⟨#[]⟩, .bool false] wr fun e w' => e = .returned (look ⟨#[]⟩ 0 false) ∧ ∃ k, w' = wr.drewN k) := look_empty n tb wr tR
        have hsl : ∀ w, (Instr.slice 9 (.string s) (some (.int .i64 s.size)) none none).run Tryz.prog w = .ok (.string ⟨#[]⟩) w := fun w => by
          rw [sl_at s s.size (Nat.le_refl _), extract_end]
        clear tR tT tA HG
        go_wp2_with fail
        refine HL.out.mono ?_
        rintro e w1 ⟨rfl, k, rfl⟩
        unfold look
        go_wp2
        go_roundg 1
        case measure => omega
        case rel => exact ⟨s.size + 1, last, z, out, by omega, rfl, rfl, rfl, rfl, by go_num, HG1.out, HF.out.drewN _⟩
      · obtain rfl : i = s.size + 1 := by have := HG.out.2.2.1; omega
        have HGf : Hid (out ++ s.data.toList.drop last = Esc.rd s.data.toList) := by
          have := HG.out
          rw [← hll] at this
          exact this.fin
        have hle : decide (((s.size + 1 : Nat) : Int) ≤ (s.size : Int)) = false := decide_eq_false (by omega)
        by_cases hla : last = s.size
        · have HFf : Hid (Bufr W0.heap.size vb (Esc.rd s.data.toList) W0 wr) := by
            have h1 := HGf.out
            rw [hla, ← hll, List.drop_length, List.append_nil] at h1
            rw [← h1]
            exact HF.out
          subst hla
          clear tR tT tA HG HGf
          go_wp2
          go_ret2
          exact ⟨⟨_, rfl⟩, HFf.out⟩
        · have hne : ((last : Int) != (s.size : Int)) = true := by rw [bne_iff_ne]; omega
          have HL : Hid (∀ j, Calls Tryz.prog 372 #[pw vb, .string (s.extract last s.size)] (wr.drewN j) fun e w' => e = .returned (.tuple #[.int .i64 (s.extract last s.size).size, .nilIface]) ∧ Bufr W0.heap.size vb (Esc.rd s.data.toList) W0 w') := fun j => by
            have := asw_any W0.heap.size vb out W0 (wr.drewN j) (s.extract last s.size) (HF.out.drewN j) (by rw [Lib.size_eq, Lib.extract_to_end]; simp; omega)
            rw [Lib.extract_to_end, HGf.out] at this
            exact this
          have hsl : ∀ w, (Instr.slice 9 (.string s) (some (.int .i64 last)) none none).run Tryz.prog w = .ok (.string (s.extract last s.size)) w := sl_at s last g2
          clear tR tT tA HG HGf
          have HL1 : Hid (Calls Tryz.prog 372 #[pw vb, .string (s.extract last s.size)] wr.drew fun e w' => e = .returned (.tuple #[.int .i64 (s.extract last s.size).size, .nilIface]) ∧ Bufr W0.heap.size vb (Esc.rd s.data.toList) W0 w') := HL.out 1
          have hna := nil_ahead vb
          have hme := meth_ws vb
          go_wp2_with fail
          go_region_with (go_at_call 372; refine HL1.out.mono ?_; rintro e w1 ⟨rfl, hq⟩)
          go_wp2
          go_ret2
          exact ⟨⟨_, rfl⟩, by assumption⟩
end Go.Proofs.YtbhcklkbckacpaaGreatDoor
