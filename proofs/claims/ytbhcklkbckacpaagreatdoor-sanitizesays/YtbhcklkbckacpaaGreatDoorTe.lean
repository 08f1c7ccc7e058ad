/-
  The reference's Tokens: a tag.
-/
import Derived.Test.YtbhcklkbckacpaaGreatDoorTe3
namespace Go.Proofs.YtbhcklkbckacpaaGreatDoor
open Go.RowKit
set_option maxRecDepth 1000000 in
set_option maxHeartbeats 12800000 in
theorem ref_tag (w : World) (bb off n cap i : Nat) (l : List UInt8) (v : Value) (wr : World) (pre : List Tk) (us : Nat → Value) (Q0 : Exit → Act → World → Prop) (hS : RefAt w bb off n cap l v wr pre i) (hn : n ≤ 20000) (hi : i < l.length) (hc : ((l[i].toNat : Int) != 60) = false) (hpx : ([60, 33, 45, 45] : List UInt8).isPrefixOf (l.drop i) = false)
    (shut : Bool) (st : Nat) (hi1 : i + 1 < l.length) (hb47 : ((l[i + 1].toNat : Int) == 47) = shut) (hb33 : ((l[i + 1].toNat : Int) == 33) = false) (hb63 : ((l[i + 1].toNat : Int) == 63) = false) (hst : st = i + 1 + (if shut then 1 else 0)) (hst1 : st < l.length) (hlet : Tk.letter l[st] = true) (hf : Tk.first 60 (l.drop (i + 1)) = Tk.tag shut (l.drop st)) (hQ : RefO w bb off n cap l Q0) :
    Code.wp Tryz.prog ((Tryz.f12.body.bind firstLoop).getD .skip) (Exit.then (fun a' w' => RefI w bb off n cap l a' w' ∧ frmMu n a' < n - i) Q0) (frm w.heap.size v i us) wr := by
  have HS : Hid (RefAt w bb off n cap l v wr pre i) := hS
  have hll := hS.bytes.bytes
  have hcap := hS.bytes.room
  have hpre := hS.len
  have c0 : wr.cell? ⟨w.heap.size, 0, none⟩ = some (.slice (some ⟨bb, off, none⟩) n cap) := hS.box.cell 0
  obtain ⟨b', off', he, hcs⟩ := hS.bytes.byte (by omega)
  cases he
  have HC : Hid (∀ i (hi : i < l.length), wr.cell? ⟨bb, off + i, none⟩ = some (.int .u8 l[i].toNat)) := hcs
  have c1 := hcs i hi
  have hin : i < n := by omega
  obtain ⟨i0, hif, hz0, hz1, hz2⟩ := info_parts Tryz.infoTr
  clear hcs hS
  have h60 : l[i] = 60 := UInt8.toNat_inj.1 (by have : (l[i].toNat : Int) = 60 := (by simpa using hc); show l[i].toNat = 60; omega)
  have hdr : l.drop i = 60 :: l.drop (i + 1) := by rw [drop_at hi, h60]
  have HM : Hid (RefM w bb off n cap l v wr pre) := HS.out.mem
  have hsl := slice_l bb off n cap i (Nat.le_of_lt hin)
  have hcv := conv_byt (HS.out.bytes.part i n (Nat.le_of_lt hin) (Nat.le_refl _))
  rw [List.take_of_length_le (by rw [List.length_drop]; omega)] at hcv
  have HP : Hid (∀ w, Calls Tryz.prog 57 #[.string (B (l.drop i)), .string (B [60, 33, 45, 45])] w fun e w' => e = .returned (.bool false) ∧ w' = w) := fun w => by
    have := Tryz.strings_HasPrefix (B (l.drop i)) (B [60, 33, 45, 45]) w
    rw [B_data, B_data] at this
    unfold Lib.hasPrefix at this
    rw [hpx] at this
    exact this
  generalize subA bb off cap i = sa at *
  have HF : Hid (Tk.toks (l.drop i) = (Tk.tag shut (l.drop st)).1 ++ Tk.toks (Tk.tag shut (l.drop st)).2) := by
    show _ = _
    rw [hdr, Tk.toks_cons, hf]
  have A1 : Hid (Calls Tryz.prog 53 #[.int .i64 ((i : Int) + 1), .pointer (some ⟨w.heap.size, 0, none⟩)] wr fun e w' => e = .returned (.int .u8 l[i + 1].toNat) ∧ w' = wr) := at_in w.heap.size bb off n cap (i + 1) l wr HS.out.box HS.out.bytes hi1
  have d1 := HC.out (i + 1) hi1
  have hi1n : i + 1 < n := by omega
  have q1 : (i : Int) + 1 < (n : Int) := by omega
  have q2 : (0 : Int) ≤ (i : Int) + 1 := by omega
  have q3 : ((i : Int) + 1).toNat = i + 1 := by omega
  have d1' := d1
  rw [← Nat.add_assoc] at d1'
  have d2 := HC.out st hst1
  have hstn : st < n := by omega
  have hist : i < st := by omega
  have hns : decide (n ≤ st) = false := by simp; omega
  have hst2 : st ≤ i + 2 := by cases shut <;> simp at hst <;> omega
  have HL : Hid (∀ w, Calls Tryz.prog 58 #[.int .u8 l[st].toNat] w fun e w' => e = .returned (.bool true) ∧ Below w.heap.size w w') := fun w => by
    have := rletter_any l[st] w
    rw [hlet] at this
    exact this
  have HST : Hid (st = i + 1 + (if shut then 1 else 0)) := hst
  clear hpx hdr hf hlet hst
  generalize l[i + 1] = d at *
  generalize l[st] = dst at *
  unfold frm
  conv => arg 2; whnf
  go_wp2_with fail
  refine (A1.out).mono ?_
  rintro e wx ⟨rfl, hw⟩
  rw [hw]
  clear hw wx
  go_upto_if 61 with fail
  go_cut [8] from 62 to 63 (fun s8 wx => s8 = .int .i64 (st : Nat) ∧ wx = wr)
  case first =>
    cases shut
    · have e8 : (st : Int) = (i : Int) + 1 := by have := HST.out; simp at this; omega
      go_wp2
      go_meet
      case rel => exact ⟨by rw [e8], rfl⟩
    · have e8 : (st : Int) = (i : Int) + 1 + 1 := by have := HST.out; simp at this; omega
      go_wp2
      go_meet
      case rel => exact ⟨by rw [e8], rfl⟩
  case rest =>
    obtain ⟨rfl, hw⟩ := hcut
    rw [hw]
    clear hw wc
    go_wp2_with fail
    refine (HP.out _).mono ?_
    rintro e wx ⟨rfl, hw⟩
    rw [hw]
    clear hw wx
    go_wp2_with fail
    refine (HL.out _).mono ?_
    rintro e w2 ⟨rfl, hb⟩
    have HM2 : Hid (RefM w bb off n cap l v w2 pre) := HM.out.far hb
    clear hb HM HP HL A1 HC c0 c1 d1 d1' d2 hsl hcv hb33 hb63 hb47 q1 q2 q3 hc
    have c0 : w2.cell? ⟨w.heap.size, 0, none⟩ = some (.slice (some ⟨bb, off, none⟩) n cap) := HM2.out.box.cell 0
    obtain ⟨b', off', he, hcs⟩ := HM2.out.bytes.byte (by omega)
    cases he
    have HC : Hid (∀ i (hi : i < l.length), w2.cell? ⟨bb, off + i, none⟩ = some (.int .u8 l[i].toNat)) := hcs
    clear hcs
    go_upto_block 5 with fail
    go_cut [10] from 127 to 154 (fun s wx => ∃ m : Nat, s = .int .i64 m ∧ st ≤ m ∧ m ≤ n ∧ l.drop m = (l.drop (st)).dropWhile Tk.nam ∧ wx = w2)
    case first =>
      go_wp2_with fail
      go_loopw [10] (fun s wx => ∃ m : Nat, m ≤ n ∧ st ≤ m ∧ s = .int .i64 m ∧ (l.drop m).dropWhile Tk.nam = (l.drop (st)).dropWhile Tk.nam ∧ wx = w2) (fun s _ => n - (intOf s).toNat)
      case atStart => exact ⟨st, by omega, Nat.le_refl _, by go_num, rfl, rfl⟩
      case round =>
        obtain ⟨m, hm, him, rfl, hd, hw⟩ := hrel
        rw [hw]
        clear hw
        have HD : Hid ((l.drop m).dropWhile Tk.nam = (l.drop (st)).dropWhile Tk.nam) := hd
        clear hd
        by_cases hmn : m < n
        · have hml : m < l.length := by omega
          have cm := HC.out m hml
          have HX : Hid (Tk.nam l[m] = false → l.drop m = (l.drop (st)).dropWhile Tk.nam) := fun hp => by rw [← HD.out]; exact (Tk.dw_stop hml hp).symm
          have HG : Hid (Tk.nam l[m] = true → (l.drop (m + 1)).dropWhile Tk.nam = (l.drop (st)).dropWhile Tk.nam) := fun hp => (Tk.dw_go hml hp).trans HD.out
          generalize l[m] = c at *
          cases hs : Tk.sp c
          · by_cases h47 : c = 47
            · have HE : Hid (l.drop m = (l.drop (st)).dropWhile Tk.nam) := HX.out (by rw [h47]; rfl)
              have b47 : ((c.toNat : Int) != 47) = false := by rw [h47]; rfl
              clear HX HG HD h47
              go_wp2_with fail
              refine (space_any c _).mono ?_
              rintro e wx ⟨rfl, hw⟩
              rw [hw, hs]
              clear hw wx
              go_wp2
              go_meet
              case rel => exact ⟨m, rfl, him, hm, HE.out, rfl⟩
            · have b47 : ((c.toNat : Int) != 47) = true := u8_ne c 47 h47
              by_cases h62 : c = 62
              · have HE : Hid (l.drop m = (l.drop (st)).dropWhile Tk.nam) := HX.out (by rw [h62]; rfl)
                have b62 : ((c.toNat : Int) != 62) = false := by rw [h62]; rfl
                clear HX HG HD h62
                go_wp2_with fail
                refine (space_any c _).mono ?_
                rintro e wx ⟨rfl, hw⟩
                rw [hw, hs]
                clear hw wx
                go_wp2
                go_meet
                case rel => exact ⟨m, rfl, him, hm, HE.out, rfl⟩
              · have b62 : ((c.toNat : Int) != 62) = true := u8_ne c 62 h62
                have HE : Hid ((l.drop (m + 1)).dropWhile Tk.nam = (l.drop (st)).dropWhile Tk.nam) := HG.out (by unfold Tk.nam; simp [hs, h47, h62])
                clear HX HG HD
                go_wp2_with fail
                refine (space_any c _).mono ?_
                rintro e wx ⟨rfl, hw⟩
                rw [hw, hs]
                clear hw wx
                go_wp2
                go_roundw
                case rel => exact ⟨m + 1, by omega, by omega, by go_num, HE.out, trivial⟩
                case measure => simp [intOf]; omega
          · have HE : Hid (l.drop m = (l.drop (st)).dropWhile Tk.nam) := HX.out (by unfold Tk.nam; rw [hs]; rfl)
            clear HX HG HD
            go_wp2_with fail
            refine (space_any c _).mono ?_
            rintro e wx ⟨rfl, hw⟩
            rw [hw, hs]
            clear hw wx
            go_wp2
            go_meet
            case rel => exact ⟨m, rfl, him, hm, HE.out, rfl⟩
        · have HE : Hid (l.drop m = (l.drop (st)).dropWhile Tk.nam) := by rw [← HD.out]; exact (Tk.dw_end (by omega)).symm
          clear HD
          go_wp2
          go_meet
          case rel => exact ⟨m, rfl, him, hm, HE.out, rfl⟩
    case rest =>
      obtain ⟨m, rfl, hm1, hm2, hdm, hw⟩ := hcut
      rw [hw]
      clear hw wc
      have HDM : Hid (l.drop m = (l.drop st).dropWhile Tk.nam) := hdm
      have htw := Tk.tw_of_dw (l := l) (p := Tk.nam) hm1 (by omega) hdm
      have hsl := slice_lh bb off n cap st m hm1 hm2 hcap
      have hcv := conv_byt (HM2.out.bytes.part st m hm1 hm2)
      rw [htw] at hcv
      have hsz := B_len_take (l.drop st) Tk.nam
      rw [List.length_drop] at hsz
      clear hdm htw
      generalize subA bb off cap st = sa2 at *
      obtain ⟨tw, htw⟩ : ∃ tw, (l.drop st).takeWhile Tk.nam = tw := ⟨_, rfl⟩
      rw [htw] at hcv hsz
      have HTW : Hid ((l.drop st).takeWhile Tk.nam = tw) := htw
      clear htw
      go_wp2_with fail
      refine (Small_any (B tw) _ (by omega)).mono ?_
      rintro e w3 ⟨rfl, hb⟩
      have HM3 : Hid (RefM w bb off n cap l v w3 pre) := HM2.out.far hb
      clear hb HM2 c0 HC hcv hsl hsz
      rw [B_data]
      go_upto_if 162 with fail
      change Code.wp Tryz.prog _ _ _ (w3.alloc (.cells (tkC ⟨2, Lk.small tw, [], []⟩).toArray 30))
      have HT : Hid (TagM w bb off n cap l v pre w3.heap.size ⟨2, Lk.small tw, [], []⟩ (w3.alloc (.cells (tkC ⟨2, Lk.small tw, [], []⟩).toArray 30))) := TagM.new _ HM3.out
      clear HM3
      generalize w3.alloc (.cells (tkC ⟨2, Lk.small tw, [], []⟩).toArray 30) = W4 at *
      generalize w3.heap.size = tb at *
      obtain ⟨kd, hkd⟩ : ∃ kd : Int, (if shut then 3 else 2) = kd := ⟨_, rfl⟩
      obtain ⟨nm, hnm⟩ : ∃ nm, Lk.small tw = nm := ⟨_, rfl⟩
      rw [hnm] at HT
      simp only [hnm]
      go_cut [] from 163 to 163 (fun wx => TagM w bb off n cap l v pre tb ⟨kd, nm, [], []⟩ wx)
      case first =>
        have t0 := HT.out.blk.cell 0
        have t1 := HT.out.blk.frozen 0
        simp only [tkC, List.getElem?_cons_zero] at t0
        cases shut
        · have e2 : kd = 2 := hkd.symm
          go_wp2
          go_meet
          case rel => rw [e2]; exact HT.out
        · have e2 : kd = 3 := hkd.symm
          go_wp2
          go_meet
          case rel => rw [e2]; exact HT.out.set 0 _ rfl
      case rest =>
        have HT4 : Hid (TagM w bb off n cap l v pre tb ⟨kd, nm, [], []⟩ wc) := hcut
        clear hcut HT
        generalize wc = w4 at *
        have c0 : w4.cell? ⟨w.heap.size, 0, none⟩ = some (.slice (some ⟨bb, off, none⟩) n cap) := HT4.out.m.box.cell 0
        obtain ⟨R, hR⟩ : ∃ R, Tk.attr (l.drop m) none = R := ⟨_, rfl⟩
        have HR : Hid (Tk.attr (l.drop m) none = R) := hR
        clear hR
        go_upto_block 7 with fail
        refine wp_cut (fun a' w' => ∃ k h us', a' = frmA w.heap.size v i shut tb k h us' ∧ (∀ hk : k < l.length, l[k] = 62) ∧ AttAt w bb off n cap l v pre tb ⟨kd, nm, [], []⟩ m R w' k h) ?_ ?_
        rotate_left
        · intro J K' hJ hK'
          go_wp2_with fail
          refine wp_loop (AttI w bb off n cap l v pre tb ⟨kd, nm, [], []⟩ m R i shut) (fun a _ => attMu n a) ?_ ?_
          · exact AttI.start (k := m) (h := none) (by kernel_rfl) ⟨Nat.le_refl _, hm2, Nat.zero_le _, HR.out, HT4.out⟩
          · rintro a w5 ⟨k, h, us', rfl, hA⟩
            show Code.wp _ _ (Exit.then (fun a' w' => AttI w bb off n cap l v pre tb ⟨kd, nm, [], []⟩ m R i shut a' w' ∧ attMu n a' < n - k) _) _ _
            refine att_round w bb off n cap l v pre tb kd nm i shut m R k h us' w5 _ hn hA ?_
            intro us6 h6
            exact hK' _ _ (hJ _ _ ⟨k, h, us6, rfl, h6, hA⟩)
        · rintro _ wc ⟨k, h, us', rfl, hk3, hk1, hk2, hk5, hk4, hT⟩
          unfold frmA frm4
          have HT5 : Hid (TagM w bb off n cap l v pre tb ⟨kd, nm, [], []⟩ wc) := hT
          clear hT HT4 c0
          generalize wc = w5 at *
          have c0 : w5.cell? ⟨w.heap.size, 0, none⟩ = some (.slice (some ⟨bb, off, none⟩) n cap) := HT5.out.m.box.cell 0
          by_cases hkn : k < n
          · have hkl : k < l.length := by omega
            obtain ⟨hr, hhr⟩ : ∃ hr : List UInt8, (if shut then [] else Esc.rd (h.getD [])) = hr := ⟨_, rfl⟩
            have HTG : Hid (Tk.tag shut (l.drop st) = ([⟨kd, nm, [], hr⟩], l.drop (k + 1))) := by
              show _ = _
              unfold Tk.tag
              rw [← HDM.out, HR.out, ← hk4, drop_at hkl, hk3 hkl, Tk.attr_cons, HTW.out, hnm, ← hkd, ← hhr]
              rfl
            have HGo : Hid ((pre ++ [⟨kd, nm, [], hr⟩]) ++ Tk.toks (l.drop (k + 1)) = Tk.toks l) := by
              show _ = _
              rw [← HS.out.go, HF.out, HTG.out, List.append_assoc]
            have hg1 : decide (n ≤ k) = false := by simp; omega
            clear hk3 hk4 HTG HTW hnm HDM HR HF
            go_upto_if 340 with fail
            go_cut [] from 341 to 343 (fun wx => TagM w bb off n cap l v pre tb ⟨kd, nm, [], hr⟩ wx)
            case first =>
              cases shut
              · have e3 : hr = Esc.rd (h.getD []) := hhr.symm
                have hz : (B (h.getD [])).size ≤ 120000 := by rw [B_size]; omega
                go_wp2_with fail
                refine (readSo_any (B (h.getD [])) _ hz).mono ?_
                rintro e w6 ⟨rfl, hb⟩
                have HT6 : Hid (TagM w bb off n cap l v pre tb ⟨kd, nm, [], []⟩ w6) := HT5.out.far hb
                clear hb
                rw [B_data]
                have t0 := HT6.out.blk.cell 3
                have t1 := HT6.out.blk.frozen 3
                simp only [tkC, List.getElem?_cons_succ, List.getElem?_cons_zero] at t0
                go_wp2
                go_meet
                case rel => rw [e3]; exact HT6.out.set 3 _ rfl
              · have e3 : hr = [] := hhr.symm
                go_wp2
                go_meet
                case rel => rw [e3]; exact HT5.out
            case rest =>
              have HT7 : Hid (TagM w bb off n cap l v pre tb ⟨kd, nm, [], hr⟩ wc) := hcut
              clear hcut HT5 c0
              generalize wc = w7 at *
              have t0 := HT7.out.blk.cell 0
              have t1 := HT7.out.blk.cell 1
              have t2 := HT7.out.blk.cell 2
              have t3 := HT7.out.blk.cell 3
              simp only [tkC, List.getElem?_cons_succ, List.getElem?_cons_zero] at t0 t1 t2 t3
              go_wp2_with (at_builtin; refine wpList_append_lies _ rfl (.tmp 344) (.tmp 346) 23 rfl (w.heap.size + 1) 30 i0 (tkA tk0) 4 56 Tryz.underlying23 hif hz0 hz1 hz2 rfl (by decide) v pre.length (tkCells pre) rfl ?c1 ⟨w7.heap.size, 0, none⟩ 1 1 (tkC ⟨kd, nm, [], hr⟩) rfl rfl ?c2 ?c3 (by decide) ?c4 ?c5 ?c6 _ rfl ?c7)
              case c1 => exact World.ownsRow.alloc HT7.out.m.own _
              case c2 => first | exact fun _ _ h => h | exact World.news_of_block (heap_alloc_new w7 _)
              case c3 => rw [← tkCells_one]; exact tkCells_oneCell _
              case c4 => unfold maxLen; omega
              case c5 => omega
              case c6 =>
                have := HT7.out.m.box.lt
                first | omega | (simp; omega)
              case c7 =>
                intro g cap2 w8 hown hgrow _ _
                have HN : Hid (RefM w bb off n cap l (.slice (some ⟨g, 0, none⟩) (pre.length + 1) cap2) w8 (pre ++ [⟨kd, nm, [], hr⟩])) := (HT7.out.m.far ((Below.refl _ _).alloc (Nat.le_refl _) _)).push hown hgrow
                clear hown hgrow
                have HRR : Hid (RefAt w bb off n cap l (.slice (some ⟨g, 0, none⟩) (pre.length + 1) cap2) w8 (pre ++ [⟨kd, nm, [], hr⟩]) (k + 1)) := HN.out.full HGo.out (by simp; omega) (by omega)
                go_wp2
                exact RefI.step (by kernel_rfl) HRR.out (by omega)
          · have HTG : Hid (Tk.tag shut (l.drop st) = ([], [])) := by
              show _ = _
              unfold Tk.tag
              rw [← HDM.out, HR.out, ← hk4, List.drop_eq_nil_of_le (by omega), Tk.attr_nil]
            have HGo : Hid (Tk.toks l = pre) := by
              show _ = _
              rw [← HS.out.go, HF.out, HTG.out]
              exact List.append_nil _
            have hg1 : decide (n ≤ k) = true := by simp; omega
            clear hk3 hk4 HTG HTW hnm HDM HR HF
            go_wp2
            exact hQ _ _ v (by rw [HGo.out]; exact HT5.out.m) rfl rfl
end Go.Proofs.YtbhcklkbckacpaaGreatDoor
