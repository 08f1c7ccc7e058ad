/-
  The reference's Read: a text.
-/
import Derived.Test.YtbhcklkbckacpaaGreatDoorG8
namespace Go.Proofs.YtbhcklkbckacpaaGreatDoor
open Go.RowKit Go.Maps Go.WideMaps
theorem blank_idx (c : UInt8) : decide (0 ≤ Lib.indexByte [9, 10, 13, 12] c) = (c == 9 || c == 10 || c == 13 || c == 12) := by
  rw [← Lib.contains_iff_indexByte]
  simp only [List.contains_cons, List.contains_nil, Bool.or_false, Bool.or_assoc]
def Sn.S.upto (s : Sn.S) (l : List UInt8) (i : Nat) : Sn.S := { s with d := s.d ++ (l.take i).map (Sn.item s) }
theorem upto_0 (s : Sn.S) (l : List UInt8) : s.upto l 0 = s := by unfold Sn.S.upto; simp
theorem upto_all (s : Sn.S) (l : List UInt8) : s.upto l l.length = { s with d := s.d ++ l.map (Sn.item s) } := by unfold Sn.S.upto; rw [List.take_length]
theorem upto_more (s : Sn.S) (l : List UInt8) (i : Nat) (h : i < l.length) : (s.upto l i).more (Sn.item s l[i]) = s.upto l (i + 1) := by
  unfold Sn.S.upto Sn.S.more
  rw [List.take_succ_eq_append_getElem h, List.map_append, List.append_assoc]
  rfl
theorem upto_len (s : Sn.S) (l : List UInt8) (i : Nat) : (s.upto l i).d.length ≤ s.d.length + l.length := by
  unfold Sn.S.upto
  simp only [List.length_append, List.length_map, List.length_take]
  omega
structure TxI (w1 : World) (b : Nat) (s : Sn.S) (tb : Nat) (t : Tk) (i : Nat) (v : Value) (wr : World) : Prop where
  mem : RdM w1 b (s.upto t.text i) v wr
  blk : Blk wr tb (tkC t) 30
  ne : v.ownBlock ≠ some tb
  lo : w1.heap.size ≤ tb
theorem TxI.far {w1 : World} {b : Nat} {s : Sn.S} {tb : Nat} {t : Tk} {i : Nat} {v : Value} {wr w2 : World} (h : TxI w1 b s tb t i v wr) (hb : Below wr.heap.size wr w2) : TxI w1 b s tb t i v w2 := ⟨h.mem.far hb, (hb.block _ h.blk.lt).trans h.blk, h.ne, h.lo⟩
theorem RdM.poke {w1 : World} {b : Nat} {s : Sn.S} {v : Value} {wr : World} (h : RdM w1 b s v wr) (g j : Nat) (u : Value) (hg : w1.heap.size ≤ g) (hne : v.ownBlock ≠ some g) : RdM w1 b s v (wr.setCell ⟨g, j, none⟩ u) := by
  have hl := h.lo
  exact ⟨h.lo, h.mp, h.kp.setCell _ _ (.inr hg), h.db.other _ _ (by show b + 1 ≠ g; omega), h.kb.other _ _ (by show b + 2 ≠ g; omega), h.ob.other _ _ (by show b + 3 ≠ g; omega), ownsRow_setCell_other h.own hne _⟩
structure TxJ (w1 : World) (b : Nat) (s : Sn.S) (tb : Nat) (t : Tk) (i : Nat) (v : Value) (ib : Nat) (x : It) (wr : World) : Prop where
  at_ : TxI w1 b s tb t i v wr
  item : Blk wr ib [.int .u8 x.c.toNat, .int .i64 x.m, .string x.l] 39
  ne : v.ownBlock ≠ some ib
  lo : w1.heap.size ≤ ib
  tb : tb ≠ ib
theorem TxJ.new {w1 : World} {b : Nat} {s : Sn.S} {tb : Nat} {t : Tk} {i : Nat} {v : Value} {W : World} (x : It) (h : TxI w1 b s tb t i v W) : TxJ w1 b s tb t i v W.heap.size x (W.alloc (.cells #[.int .u8 x.c.toNat, .int .i64 x.m, .string x.l] 39)) :=
  ⟨h.far ((Below.refl _ _).alloc (Nat.le_refl _) _), Blk.new W _ _, fun e => by have := (h.mem.own.lt _ e).2; omega, h.mem.kp.size, by have := h.blk.lt; omega⟩
theorem TxJ.setM {w1 : World} {b : Nat} {s : Sn.S} {tb : Nat} {t : Tk} {i : Nat} {v : Value} {ib : Nat} {x : It} {W : World} (m : Int) (h : TxJ w1 b s tb t i v ib x W) : TxJ w1 b s tb t i v ib ⟨x.c, m, x.l⟩ (W.setCell ⟨ib, 1, none⟩ (.int .i64 m)) :=
  ⟨⟨h.at_.mem.poke ib 1 _ h.lo h.ne, h.at_.blk.other _ _ h.tb, h.at_.ne, h.at_.lo⟩, h.item.set 1 _, h.ne, h.lo, h.tb⟩
set_option maxRecDepth 1000000 in
set_option maxHeartbeats 3200000 in
theorem rd_text (w1 : World) (b : Nat) (ta : Option Addr) (nt tc : Nat) (s : Sn.S) (v : Value) (j tb : Nat) (t : Tk) (us : Nat → Value) (w2 : World) (K : Act → World → Prop) (Q : Exit → Act → World → Prop) (hC : AtTk w1 b s v tb t w2) (hK : ∀ us' v' w', RdM w1 b (Sn.step s t) v' w' → K (frmR b ta nt tc (Sn.step s t) j us') w') (hh : s.hides.isEmpty = true) (hk : t.kind = 1) (hz : t.text.length ≤ 20000) :
    Code.wp Tryz.prog ((Tryz.f15.body.bind (blockOn 2)).getD .skip) (Exit.then K Q) (frmS b ta nt tc s j tb ((Sn.blockOf t.name).getD 0) (Sn.blockOf t.name).isSome us) w2 := by
  have hst : Sn.step s t = { s with d := s.d ++ t.text.map (Sn.item s) } := by
    unfold Sn.step
    rw [hh, hk]
    rfl
  rw [hst] at hK
  have HK : Hid (∀ us' v' w', RdM w1 b { s with d := s.d ++ t.text.map (Sn.item s) } v' w' → K (frmR b ta nt tc { s with d := s.d ++ t.text.map (Sn.item s) } j us') w') := hK
  have hM := hC.mem
  have hB := hC.blk
  have t0 : w2.cell? ⟨tb, 0, none⟩ = some (.int .i64 t.kind) := hB.cell 0
  have t1 : w2.cell? ⟨tb, 1, none⟩ = some (.string (B t.name)) := hB.cell 1
  have t2 : w2.cell? ⟨tb, 2, none⟩ = some (.string (B t.text)) := hB.cell 2
  have t3 : w2.cell? ⟨tb, 3, none⟩ = some (.string (B t.href)) := hB.cell 3
  have HM : Hid (RdM w1 b s v w2) := hM
  have HC : Hid (AtTk w1 b s v tb t w2) := hC
  have HB : Hid (Blk w2 tb (tkC t) 30) := hB
  have e0 : ((B s.hides).toList == []) = s.hides.isEmpty := by rw [toList_B]; cases s.hides <;> rfl
  have e1 : (B s.hides).toList.isEmpty = s.hides.isEmpty := by rw [toList_B]
  rw [hh] at e0 e1
  have b1 : (t.kind == 1) = true := by rw [hk]; rfl
  have hzz := B_size t.text
  have HI0 : Hid (TxI w1 b s tb t 0 v w2) := ⟨by rw [upto_0]; exact hM, hB, hC.ne, hC.lo⟩
  have hfew := hC.few
  clear hk hh
  clear hK hst hM hB hC
  generalize (Sn.blockOf t.name).getD 0 = bk at *
  unfold frmS
  conv => arg 2; whnf
  go_wp2_with fail
  go_loopw [57] (fun x wx => ∃ (i : Nat) (v' : Value), i ≤ t.text.length ∧ x = .int .i64 i ∧ TxI w1 b s tb t i v' wx) (fun x _ => t.text.length - (intOf x).toNat)
  case atStart => exact ⟨0, v, Nat.zero_le _, rfl, HI0.out⟩
  case round =>
    obtain ⟨i, v', hi, rfl, hI⟩ := hrel
    have HI : Hid (TxI w1 b s tb t i v' wr) := hI
    generalize wr = W at *
    have u2 : W.cell? ⟨tb, 2, none⟩ = some (.string (B t.text)) := hI.blk.cell 2
    clear hI HI0 t0 t1 t2 t3 HM HC HB
    by_cases hlt : i < t.text.length
    · obtain ⟨c, hc⟩ : ∃ c, t.text[i] = c := ⟨_, rfl⟩
      have hix : ∀ w, (Instr.index 9 (.string (B t.text)) (.int .i64 i)).run Tryz.prog w = .ok (.int .u8 c.toNat) w := fun w => by
        have h1 := run_index_at (B t.text) i (by rw [B_size]; exact hlt) w
        rw [show (B t.text)[i]'(by rw [B_size]; exact hlt) = c by rw [← hc]; rfl] at h1
        exact h1
      have HCC : Hid (t.text[i] = c) := hc
      clear hc
      obtain ⟨c1, hc1⟩ : ∃ c1 : UInt8, (if c == 9 || c == 10 || c == 13 || c == 12 then 32 else c) = c1 := ⟨_, rfl⟩
      obtain ⟨lh, hlh⟩ : ∃ lh : Bool, (decide (c1 < 32) || decide (126 < c1)) = lh := ⟨_, rfl⟩
      have HCH : Hid (Sn.chr c = if lh then 63 else c1) := by
        show _ = _
        rw [← hlh, ← hc1]
        unfold Sn.chr
        cases (c == 9 || c == 10 || c == 13 || c == 12)
        · simp
        · rfl
      have CI := Tryz.strings_IndexByte (B [9, 10, 13, 12]) (c.toNat : Int) W
      rw [show ((c.toNat : Int)).toNat.toUInt8 = c by simp, B_data] at CI
      have hbl := blank_idx c
      obtain ⟨ix, hxx⟩ : ∃ ix, Lib.indexByte [9, 10, 13, 12] c = ix := ⟨_, rfl⟩
      rw [hxx] at CI hbl
      have HCI : Hid (Calls Tryz.prog 70 #[.string (B [9, 10, 13, 12]), .int .u8 c.toNat] W fun e w' => e = .returned (.int .i64 ix) ∧ w' = W) := CI
      have HC1 : Hid ((if c == 9 || c == 10 || c == 13 || c == 12 then 32 else c) = c1) := hc1
      have HLH : Hid ((decide (c1 < 32) || decide (126 < c1)) = lh) := hlh
      have HBL : Hid (decide (0 ≤ ix) = (c == 9 || c == 10 || c == 13 || c == 12)) := hbl
      clear CI hxx hc1 hlh hbl
      go_wp2_with fail
      refine HCI.out.mono ?_
      rintro e wx ⟨rfl, hw⟩
      rw [hw]
      clear hw wx HCI
      go_upto_if 66 with fail
      go_cut [18] from 66 to 66 (fun x wx => x = .int .u8 c1.toNat ∧ wx = W)
      case first =>
        cases hq : (c == 9 || c == 10 || c == 13 || c == 12)
        · have hbl : ix < 0 := by have := HBL.out.trans hq; simpa using this
          have HE1 : Hid (c1 = c) := by show _ = _; rw [← HC1.out, hq]; rfl
          clear hq
          go_wp2
          go_meet
          case rel => exact ⟨by rw [HE1.out], rfl⟩
        · have hbl : 0 ≤ ix := by have := HBL.out.trans hq; simpa using this
          have HE1 : Hid (c1 = 32) := by show _ = _; rw [← HC1.out, hq]; rfl
          clear hq
          go_wp2
          go_meet
          case rel => exact ⟨by rw [HE1.out]; rfl, rfl⟩
      case rest =>
        obtain ⟨rfl, hw⟩ := hcut
        rw [hw]
        clear hw wc
        go_upto_region 20 with fail
        go_cut [72] from 67 to 72 (fun x wx => x = .bool lh ∧ wx = W)
        case first =>
          have r1 : decide ((c1.toNat : Int) < 32) = decide (c1 < 32) := by rw [decide_eq_decide, UInt8.lt_iff_toNat_lt]; exact Int.ofNat_lt
          have r2 : decide ((126 : Int) < (c1.toNat : Int)) = decide (126 < c1) := by rw [decide_eq_decide, UInt8.lt_iff_toNat_lt]; exact Int.ofNat_lt
          obtain ⟨y1, hy1⟩ : ∃ y, decide (c1 < 32) = y := ⟨_, rfl⟩
          obtain ⟨y2, hy2⟩ : ∃ y, decide (126 < c1) = y := ⟨_, rfl⟩
          have hl := HLH.out
          rw [hy1] at r1 hl
          rw [hy2] at r2 hl
          clear hy1 hy2
          subst hl
          cases y1
          · go_wp2
            go_meet
            case rel => exact ⟨rfl, rfl⟩
          · go_wp2
            go_meet
            case rel => exact ⟨rfl, rfl⟩
        case rest =>
          obtain ⟨rfl, hw⟩ := hcut
          rw [hw]
          clear hw wc
          go_upto_if 72 with fail
          go_cut [18] from 72 to 72 (fun x wx => x = .int .u8 (Sn.chr c).toNat ∧ wx = W)
          case first =>
            cases lh
            · go_wp2
              go_meet
              case rel => exact ⟨by rw [HCH.out]; rfl, rfl⟩
            · go_wp2
              go_meet
              case rel => exact ⟨by rw [HCH.out]; rfl, rfl⟩
          case rest =>
            obtain ⟨rfl, hw⟩ := hcut
            rw [hw]
            clear hw wc HCH HC1 HLH HBL
            obtain ⟨x, hx⟩ : ∃ x, Sn.chr c = x := ⟨_, rfl⟩
            have HX : Hid (Sn.chr c = x) := hx
            rw [hx]
            clear hx
            obtain ⟨m1, hm1⟩ : ∃ m : Int, (if 0 < s.bold then 1 else 0) = m := ⟨_, rfl⟩
            obtain ⟨m2, hm2⟩ : ∃ m : Int, m1 + (if 0 < s.slant then 2 else 0) = m := ⟨_, rfl⟩
            have HM1 : Hid ((if 0 < s.bold then 1 else 0) = m1) := hm1
            have HM2 : Hid (m1 + (if 0 < s.slant then 2 else 0) = m2) := hm2
            have q1 : 0 ≤ m1 ∧ m1 ≤ 1 := by rw [← hm1]; split <;> omega
            have q2 : 0 ≤ m2 ∧ m2 ≤ 3 := by rw [← hm2]; split <;> omega
            clear hm1 hm2
            go_upto_if 77 with fail
            change Code.wp Tryz.prog _ _ _ (W.alloc (.cells #[.int .u8 x.toNat, .int .i64 0, .string (B s.link)] 39))
            have HJ : Hid (TxJ w1 b s tb t i v' W.heap.size ⟨x, 0, B s.link⟩ (W.alloc (.cells #[.int .u8 x.toNat, .int .i64 0, .string (B s.link)] 39))) := TxJ.new ⟨x, 0, B s.link⟩ HI.out
            clear HI u2
            generalize W.alloc (.cells #[.int .u8 x.toNat, .int .i64 0, .string (B s.link)] 39) = V1 at *
            generalize W.heap.size = ib at *
            go_cut [] from 78 to 81 (fun wx => TxJ w1 b s tb t i v' ib ⟨x, m1, B s.link⟩ wx)
            case first =>
              have i1 : V1.cell? ⟨ib, 1, none⟩ = some (.int .i64 0) := HJ.out.item.cell 1
              have i2 := HJ.out.item.frozen 1
              by_cases hp : 0 < s.bold
              · have HE : Hid (m1 = 1) := by show _ = _; rw [← HM1.out, if_pos hp]
                go_wp2
                go_meet
                case rel => rw [HE.out]; exact HJ.out.setM 1
              · have HE : Hid (m1 = 0) := by show _ = _; rw [← HM1.out, if_neg hp]
                have hp2 : s.bold ≤ 0 := by omega
                go_wp2
                go_meet
                case rel => rw [HE.out]; exact HJ.out
            case rest =>
              have HJ2 : Hid (TxJ w1 b s tb t i v' ib ⟨x, m1, B s.link⟩ wc) := hcut
              clear hcut HJ
              generalize wc = V2 at *
              go_upto_if 83 with fail
              go_cut [] from 84 to 87 (fun wx => TxJ w1 b s tb t i v' ib ⟨x, m2, B s.link⟩ wx)
              case first =>
                have i1 : V2.cell? ⟨ib, 1, none⟩ = some (.int .i64 m1) := HJ2.out.item.cell 1
                have i2 := HJ2.out.item.frozen 1
                by_cases hp : 0 < s.slant
                · have HE : Hid (m2 = m1 + 2) := by show _ = _; rw [← HM2.out, if_pos hp]
                  have wr1 : wrap64 (m1 + 2) = m1 + 2 := by unfold wrap64; omega
                  go_wp2
                  go_meet
                  case rel => rw [HE.out]; exact HJ2.out.setM _
                · have HE : Hid (m2 = m1) := by show _ = _; rw [← HM2.out, if_neg hp]; omega
                  have hp2 : s.slant ≤ 0 := by omega
                  go_wp2
                  go_meet
                  case rel => rw [HE.out]; exact HJ2.out
              case rest =>
                have HJ3 : Hid (TxJ w1 b s tb t i v' ib ⟨x, m2, B s.link⟩ wc) := hcut
                clear hcut HJ2
                generalize wc = V at *
                have HIT : Hid (Sn.item s t.text[i] = ⟨x, m2, B s.link⟩) := by
                  show _ = _
                  unfold Sn.item
                  rw [HCC.out, HX.out, HM1.out, HM2.out]
                obtain ⟨ao, cap, hv, hrow⟩ := own_row HJ3.out.at_.mem.own
                obtain ⟨n, hnn⟩ : ∃ n, (s.upto t.text i).d.length = n := ⟨_, rfl⟩
                have HN : Hid ((s.upto t.text i).d.length = n) := hnn
                have hnb : n ≤ 30000 := by rw [← hnn]; have := upto_len s t.text i; omega
                rw [hnn] at hv
                subst hv
                have k1 : V.cell? ⟨b + 1, 0, none⟩ = some (.slice ao n cap) := HJ3.out.at_.mem.db.cell 0
                have k2 : V.cell? ⟨ib, 0, none⟩ = some (.int .u8 x.toNat) := HJ3.out.item.cell 0
                have k3 : V.cell? ⟨ib, 1, none⟩ = some (.int .i64 m2) := HJ3.out.item.cell 1
                have k4 : V.cell? ⟨ib, 2, none⟩ = some (.string (B s.link)) := HJ3.out.item.cell 2
                have HO : Hid (V.ownsRow w1.heap.size 39 3 (.slice ao n cap) n (itCells (s.upto t.text i).d)) := by have := HJ3.out.at_.mem.own; rw [hnn] at this; exact this
                have hz9 := HJ3.out.at_.mem.kp.size
                obtain ⟨i0, hi0, hz0, hz1, hz2⟩ := info_parts Tryz.info39
                clear hnn hrow
                go_wp2_with (at_builtin; refine wpList_append_lies _ rfl (.tmp 88) (.tmp 90) 34 rfl w1.heap.size 39 i0 (.agg #[.int .u8 0, .int .i64 0, .string ⟨#[]⟩]) 3 32 Tryz.underlying34 hi0 hz0 hz1 hz2 rfl (by decide) _ n (itCells (s.upto t.text i).d) rfl ?c1 ⟨V.heap.size, 0, none⟩ 1 1 (itCells [⟨x, m2, B s.link⟩]) rfl rfl ?c2 (itCells_one [⟨x, m2, B s.link⟩]) (by decide) ?c4 ?c5 ?c6 _ rfl ?c7)
                case c1 => exact HO.out.alloc _
                case c2 => first | exact fun _ _ h => h | exact World.news_of_block (heap_alloc_new V _)
                case c4 => unfold maxLen; omega
                case c5 => omega
                case c6 => first | omega | (simp; omega)
                case c7 =>
                  intro g cap2 w3 hown hgrow hg hlt3
                  have HA : Hid (TxJ w1 b s tb t i (.slice ao n cap) ib ⟨x, m2, B s.link⟩ (V.alloc (.cells #[.int .u8 x.toNat, .int .i64 m2, .string (B s.link)] 39))) := ⟨HJ3.out.at_.far ((Below.refl _ _).alloc (Nat.le_refl _) _), HJ3.out.item.alloc _, HJ3.out.ne, HJ3.out.lo, HJ3.out.tb⟩
                  have hB := HA.out.at_.mem.dbAt hgrow
                  have e1 : w3.cell? ⟨b + 1, 0, none⟩ = some (.slice ao n cap) := hB.cell 0
                  have e2 := hB.frozen 0
                  have HP : Hid (TxI w1 b s tb t (i + 1) (.slice (some ⟨g, 0, none⟩) (n + 1) cap2) (w3.setCell ⟨b + 1, 0, none⟩ (.slice (some ⟨g, 0, none⟩) (n + 1) cap2))) := by
                    have hp := HA.out.at_.mem.push HN.out hown hgrow
                    rw [← HIT.out, upto_more s t.text i hlt] at hp
                    have l1 := HA.out.at_.mem.lo
                    have l2 := HA.out.at_.lo
                    have l3 := HJ3.out.at_.blk.lt
                    refine ⟨hp, ?_, ?_, l2⟩
                    · exact Blk.other ((hgrow.block _ HA.out.at_.blk.lt (fun e => HA.out.at_.ne e.symm)).trans HA.out.at_.blk) _ _ (by show tb ≠ b + 1; omega)
                    · intro e
                      have e' : g = tb := by simpa [Value.ownBlock] using e
                      rcases hg with h | h
                      · exact HA.out.at_.ne (by rw [h, e'])
                      · first | omega | (simp at h; omega)
                  clear hB hown hgrow hg hlt3 HA
                  go_wp2
                  go_roundw
                  case rel => exact ⟨i + 1, _, by omega, by go_num, HP.out⟩
                  case measure => simp [intOf]; omega
    · obtain rfl : i = t.text.length := by omega
      have hF : RdM w1 b { s with d := s.d ++ t.text.map (Sn.item s) } v' W := by have := HI.out.mem; rw [upto_all] at this; exact this
      have HF : Hid (RdM w1 b { s with d := s.d ++ t.text.map (Sn.item s) } v' W) := hF
      clear hF
      go_wp2
      exact as_frame (frmR b ta nt tc { s with d := s.d ++ t.text.map (Sn.item s) } j) (by kernel_rfl) (fun us' => HK.out us' v' _ HF.out)
end Go.Proofs.YtbhcklkbckacpaaGreatDoor
