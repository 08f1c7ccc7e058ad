/-
  The reference's Tokens: the value of an attribute.
-/
import Derived.Test.YtbhcklkbckacpaaGreatDoorTe0
namespace Go.Proofs.YtbhcklkbckacpaaGreatDoor
open Go.RowKit
set_option maxRecDepth 1000000 in
set_option maxHeartbeats 12800000 in
theorem tag_value (w : World) (bb off n cap : Nat) (l : List UInt8) (v : Value) (pre : List Tk) (tb : Nat) (kd : Int) (nm : List UInt8) (i : Nat) (shut : Bool) (m1 j : Nat) (hr fd nv : Value) (q : UInt8) (us : Nat → Value) (w6 : World) (K : Act → World → Prop) (Q : Exit → Act → World → Prop) (hn : n ≤ 20000) (h0 : n ≠ 0) (hm4 : m1 ≤ n) (hj1 : m1 ≤ j) (hj2 : j ≤ n) (hdj : l.drop j = (l.drop m1).dropWhile Tk.sp) (hq : (∃ hj : j < l.length, l[j] = q) ∨ (n ≤ j ∧ q = 0)) (hT : TagM w bb off n cap l v pre tb ⟨kd, nm, [], []⟩ w6)
    (hK : ∀ us' (k2 : Nat) vl w', Tk.value (l.drop m1) = (vl, l.drop k2) → m1 ≤ k2 → k2 ≤ n → TagM w bb off n cap l v pre tb ⟨kd, nm, [], []⟩ w' → K (frmV w.heap.size v i shut k2 tb hr fd nv (.string (B vl)) us') w') :
    Code.wp Tryz.prog ((Tryz.f12.body.bind (ifOn 250)).getD .skip) (Exit.then K Q) (frmU w.heap.size v i shut m1 j tb hr fd nv q us) w6 := by
  have HK : Hid (∀ us' (k2 : Nat) vl w', Tk.value (l.drop m1) = (vl, l.drop k2) → m1 ≤ k2 → k2 ≤ n → TagM w bb off n cap l v pre tb ⟨kd, nm, [], []⟩ w' → K (frmV w.heap.size v i shut k2 tb hr fd nv (.string (B vl)) us') w') := hK
  have HT6 : Hid (TagM w bb off n cap l v pre tb ⟨kd, nm, [], []⟩ w6) := hT
  have HDJ : Hid (l.drop j = (l.drop m1).dropWhile Tk.sp) := hdj
  have hll := hT.m.bytes.bytes
  have hcap := hT.m.bytes.room
  clear hK hT hdj
  have c0 : w6.cell? ⟨w.heap.size, 0, none⟩ = some (.slice (some ⟨bb, off, none⟩) n cap) := HT6.out.m.box.cell 0
  obtain ⟨b', off', he, hcs⟩ := HT6.out.m.bytes.byte (by omega)
  cases he
  have HC : Hid (∀ i (hi : i < l.length), w6.cell? ⟨bb, off + i, none⟩ = some (.int .u8 l[i].toNat)) := hcs
  clear hcs
  unfold frmU
  conv => arg 2; whnf
  by_cases h61 : q = 61
  · obtain ⟨hjl, hlj⟩ : ∃ hj : j < l.length, l[j] = 61 := by
      rcases hq with ⟨hj, e⟩ | ⟨_, e⟩
      · exact ⟨hj, e.trans h61⟩
      · rw [e] at h61; cases h61
    have HVP : Hid (Tk.value (l.drop m1) = Tk.val ((l.drop (j + 1)).dropWhile Tk.sp)) := by
      show _ = _
      unfold Tk.value
      rw [← HDJ.out, drop_at hjl, hlj]
      rfl
    have b61 : ((q.toNat : Int) == 61) = true := by rw [h61]; rfl
    have hjn : j < n := by omega
    clear hq h61 hlj HDJ
    go_upto_block 13 with fail
    clear b61
    go_cut [17] from 253 to 265 (fun s wx => ∃ m : Nat, s = .int .i64 m ∧ j + 1 ≤ m ∧ m ≤ n ∧ l.drop m = (l.drop (j + 1)).dropWhile Tk.sp ∧ wx = w6)
    case first =>
      go_wp2_with fail
      go_loopw [17] (fun s wx => ∃ m : Nat, m ≤ n ∧ j + 1 ≤ m ∧ s = .int .i64 m ∧ (l.drop m).dropWhile Tk.sp = (l.drop (j + 1)).dropWhile Tk.sp ∧ wx = w6) (fun s _ => n - (intOf s).toNat)
      case atStart => exact ⟨j + 1, by omega, Nat.le_refl _, by go_num, rfl, rfl⟩
      case round =>
        obtain ⟨m, hm, him, rfl, hd, hw⟩ := hrel
        rw [hw]
        clear hw
        have HD : Hid ((l.drop m).dropWhile Tk.sp = (l.drop (j + 1)).dropWhile Tk.sp) := hd
        clear hd
        by_cases hmn : m < n
        · have hml : m < l.length := by omega
          have cm := HC.out m hml
          have HX : Hid (Tk.sp l[m] = false → l.drop m = (l.drop (j + 1)).dropWhile Tk.sp) := fun hp => by rw [← HD.out]; exact (Tk.dw_stop hml hp).symm
          have HG : Hid (Tk.sp l[m] = true → (l.drop (m + 1)).dropWhile Tk.sp = (l.drop (j + 1)).dropWhile Tk.sp) := fun hp => (Tk.dw_go hml hp).trans HD.out
          generalize l[m] = c at *
          cases hs : Tk.sp c
          · have HE : Hid (l.drop m = (l.drop (j + 1)).dropWhile Tk.sp) := HX.out hs
            clear HX HG HD
            go_wp2_with fail
            refine (space_any c _).mono ?_
            rintro e wx ⟨rfl, hw⟩
            rw [hw, hs]
            clear hw wx
            go_wp2
            go_meet
            case rel => exact ⟨m, rfl, him, hm, HE.out, rfl⟩
          · have HE : Hid ((l.drop (m + 1)).dropWhile Tk.sp = (l.drop (j + 1)).dropWhile Tk.sp) := HG.out hs
            clear HX HG HD
            go_wp2_with fail
            refine (space_any c _).mono ?_
            rintro e wx ⟨rfl, hw⟩
            rw [hw, hs]
            clear hw wx
            go_wp2
            go_roundw
            case rel => exact ⟨m + 1, by omega, by omega, by go_num, HE.out, trivial⟩
            case measure => simp [intOf]; omega
        · have HE : Hid (l.drop m = (l.drop (j + 1)).dropWhile Tk.sp) := by rw [← HD.out]; exact (Tk.dw_end (by omega)).symm
          clear HD
          go_wp2
          go_meet
          case rel => exact ⟨m, rfl, him, hm, HE.out, rfl⟩
    case rest =>
      obtain ⟨j2, rfl, hj3, hj4, hdj2, hw⟩ := hcut
      rw [hw]
      clear hw wc
      rw [← hdj2] at HVP
      clear hdj2
      obtain ⟨q2, hq, A2⟩ : ∃ q : UInt8, ((∃ hj : j2 < l.length, l[j2] = q) ∨ (n ≤ j2 ∧ q = 0)) ∧ Hid (Calls Tryz.prog 53 #[.int .i64 j2, .pointer (some ⟨w.heap.size, 0, none⟩)] w6 fun e w' => e = .returned (.int .u8 q.toNat) ∧ w' = w6) := by
        by_cases hj : j2 < l.length
        · exact ⟨l[j2], .inl ⟨hj, rfl⟩, at_in w.heap.size bb off n cap j2 l w6 HT6.out.m.box HT6.out.m.bytes hj⟩
        · exact ⟨0, .inr ⟨by omega, rfl⟩, at_out w.heap.size bb off n cap j2 w6 HT6.out.m.box (by omega)⟩
      go_wp2_with fail
      refine A2.out.mono ?_
      rintro e wx ⟨rfl, hw⟩
      rw [hw]
      clear hw wx A2
      obtain ⟨isq, hisq⟩ : ∃ b : Bool, (q2 == 34 || q2 == 39) = b := ⟨_, rfl⟩
      have HIQ : Hid ((q2 == 34 || q2 == 39) = isq) := hisq
      clear hisq
      go_upto_region 48 with fail
      go_cut [274] from 269 to 274 (fun s wx => s = .bool isq ∧ wx = w6)
      case first =>
        by_cases h34 : q2 = 34
        · have b34 : ((q2.toNat : Int) == 34) = true := by rw [h34]; rfl
          have hb : isq = true := by rw [← HIQ.out, h34]; rfl
          go_wp2
          go_meet
          case rel => exact ⟨by rw [hb], rfl⟩
        · have b34 : ((q2.toNat : Int) == 34) = false := by have := u8_ne q2 34 h34; simpa using this
          by_cases h39 : q2 = 39
          · have b39 : ((q2.toNat : Int) == 39) = true := by rw [h39]; rfl
            have hb : isq = true := by rw [← HIQ.out, h39]; rfl
            go_wp2
            go_meet
            case rel => exact ⟨by rw [hb], rfl⟩
          · have b39 : ((q2.toNat : Int) == 39) = false := by have := u8_ne q2 39 h39; simpa using this
            have hb : isq = false := by rw [← HIQ.out]; simp [h34, h39]
            go_wp2
            go_meet
            case rel => exact ⟨by rw [hb], rfl⟩
      case rest =>
        obtain ⟨rfl, hw⟩ := hcut
        rw [hw]
        clear hw wc
        cases isq
        · have HVN : Hid (Tk.value (l.drop m1) = ((l.drop j2).takeWhile Tk.avl, (l.drop j2).dropWhile Tk.avl)) := by
            show _ = _
            rw [HVP.out]
            rcases hq with ⟨hj, e⟩ | ⟨hj, e⟩
            · rw [drop_at hj, e, val_cons, HIQ.out]
              rfl
            · rw [List.drop_eq_nil_of_le (by omega)]
              rfl
          clear HVP HIQ hq
          go_upto_block 15 with fail
          go_cut [10] from 299 to 319 (fun s wx => ∃ m : Nat, s = .int .i64 m ∧ j2 ≤ m ∧ m ≤ n ∧ l.drop m = (l.drop (j2)).dropWhile Tk.avl ∧ wx = w6)
          case first =>
            go_wp2_with fail
            go_loopw [10] (fun s wx => ∃ m : Nat, m ≤ n ∧ j2 ≤ m ∧ s = .int .i64 m ∧ (l.drop m).dropWhile Tk.avl = (l.drop (j2)).dropWhile Tk.avl ∧ wx = w6) (fun s _ => n - (intOf s).toNat)
            case atStart => exact ⟨j2, by omega, Nat.le_refl _, by go_num, rfl, rfl⟩
            case round =>
              obtain ⟨m, hm, him, rfl, hd, hw⟩ := hrel
              rw [hw]
              clear hw
              have HD : Hid ((l.drop m).dropWhile Tk.avl = (l.drop (j2)).dropWhile Tk.avl) := hd
              clear hd
              by_cases hmn : m < n
              · have hml : m < l.length := by omega
                have cm := HC.out m hml
                have HX : Hid (Tk.avl l[m] = false → l.drop m = (l.drop (j2)).dropWhile Tk.avl) := fun hp => by rw [← HD.out]; exact (Tk.dw_stop hml hp).symm
                have HG : Hid (Tk.avl l[m] = true → (l.drop (m + 1)).dropWhile Tk.avl = (l.drop (j2)).dropWhile Tk.avl) := fun hp => (Tk.dw_go hml hp).trans HD.out
                generalize l[m] = c at *
                cases hs : Tk.sp c
                · by_cases h62 : c = 62
                  · have HE : Hid (l.drop m = (l.drop (j2)).dropWhile Tk.avl) := HX.out (by rw [h62]; rfl)
                    have b62 : ((c.toNat : Int) != 62) = false := by rw [h62]; rfl
                    clear HX HG HD h62
                    go_wp2_with fail
                    refine (space_any c _).mono ?_
                    rintro e wx ⟨rfl, hw⟩
                    rw [hw, hs]
                    clear hw wx
                    go_wp2
                    go_meet
                    case rel => exact ⟨m, rfl, him, hm, HE.out, rfl⟩
                  · have b62 : ((c.toNat : Int) != 62) = true := u8_ne c 62 h62
                    have HE : Hid ((l.drop (m + 1)).dropWhile Tk.avl = (l.drop (j2)).dropWhile Tk.avl) := HG.out (by unfold Tk.avl; simp [hs, h62])
                    clear HX HG HD
                    go_wp2_with fail
                    refine (space_any c _).mono ?_
                    rintro e wx ⟨rfl, hw⟩
                    rw [hw, hs]
                    clear hw wx
                    go_wp2
                    go_roundw
                    case rel => exact ⟨m + 1, by omega, by omega, by go_num, HE.out, trivial⟩
                    case measure => simp [intOf]; omega
                · have HE : Hid (l.drop m = (l.drop (j2)).dropWhile Tk.avl) := HX.out (by unfold Tk.avl; rw [hs]; rfl)
                  clear HX HG HD
                  go_wp2_with fail
                  refine (space_any c _).mono ?_
                  rintro e wx ⟨rfl, hw⟩
                  rw [hw, hs]
                  clear hw wx
                  go_wp2
                  go_meet
                  case rel => exact ⟨m, rfl, him, hm, HE.out, rfl⟩
              · have HE : Hid (l.drop m = (l.drop (j2)).dropWhile Tk.avl) := by rw [← HD.out]; exact (Tk.dw_end (by omega)).symm
                clear HD
                go_wp2
                go_meet
                case rel => exact ⟨m, rfl, him, hm, HE.out, rfl⟩
          case rest =>
            obtain ⟨k2, rfl, hk3, hk6, hdk2, hw⟩ := hcut
            rw [hw]
            clear hw wc
            have hsl := slice_lh bb off n cap j2 k2 hk3 hk6 hcap
            have hcv := conv_byt (HT6.out.m.bytes.part j2 k2 hk3 hk6)
            rw [Tk.tw_of_dw hk3 (by omega) hdk2] at hcv
            rw [← hdk2] at HVN
            generalize (l.drop j2).takeWhile Tk.avl = vl at *
            generalize subA bb off cap j2 = sa4 at *
            clear hdk2
            go_wp2
            exact as_frame (frmV w.heap.size v i shut k2 tb hr fd nv (.string (B vl))) (by kernel_rfl) (fun us' => HK.out us' k2 vl _ HVN.out (by omega) hk6 HT6.out)
        · obtain ⟨hj2l, hlj2⟩ : ∃ hj : j2 < l.length, l[j2] = q2 := by
            rcases hq with h | ⟨_, e⟩
            · exact h
            · have := HIQ.out
              rw [e] at this
              cases this
          have HVQ : Hid (Tk.value (l.drop m1) = ((l.drop (j2 + 1)).takeWhile (Tk.not q2), ((l.drop (j2 + 1)).dropWhile (Tk.not q2)).drop 1)) := by
            show _ = _
            rw [HVP.out, drop_at hj2l, hlj2, val_cons, if_pos HIQ.out]
          clear HVP HIQ hq hlj2
          have k0 : (w6.alloc (.cells #[.int .u8 q2.toNat] 5)).cell? ⟨w6.heap.size, 0, none⟩ = some (.int .u8 q2.toNat) := (Blk.new w6 [.int .u8 q2.toNat] 5).cell 0
          have e1 := conv_one q2 w6.heap.size (w6.alloc (.cells #[.int .u8 q2.toNat] 5)) k0
          have HT7 : Hid (TagM w bb off n cap l v pre tb ⟨kd, nm, [], []⟩ (w6.alloc (.cells #[.int .u8 q2.toNat] 5))) := HT6.out.far ((Below.refl _ _).alloc (Nat.le_refl _) _)
          clear k0
          go_wp2_with fail
          refine (find_any w.heap.size bb off n cap (j2 + 1) l [q2] _ HT7.out.m.box HT7.out.m.bytes HT7.out.m.mx hn (by omega) (by simp) (by simp)).mono ?_
          rintro e wx ⟨⟨k2, rfl, hF⟩, hw⟩
          rw [hw]
          clear hw wx c0 HC e1
          generalize (w6.alloc (.cells #[.int .u8 q2.toNat] 5)) = w7 at *
          have c0 : w7.cell? ⟨w.heap.size, 0, none⟩ = some (.slice (some ⟨bb, off, none⟩) n cap) := HT7.out.m.box.cell 0
          obtain ⟨b', off', he, hcs⟩ := HT7.out.m.bytes.byte (by omega)
          cases he
          have HC : Hid (∀ i (hi : i < l.length), w7.cell? ⟨bb, off + i, none⟩ = some (.int .u8 l[i].toNat)) := hcs
          clear hcs
          have hk3 : j2 + 1 ≤ k2 := by
            rcases hF with ⟨_, e⟩ | ⟨jj, _, e, _⟩
            · omega
            · omega
          have hk6 : k2 ≤ n := by
            rcases hF with ⟨_, e⟩ | ⟨jj, _, e, e2⟩
            · omega
            · rw [e]; omega
          have hsl : ∀ w, (Instr.slice 22 (.slice (some ⟨bb, off, none⟩) n cap) (some (.int .i64 ((j2 : Int) + 1))) (some (.int .i64 k2)) none).run Tryz.prog w = .ok (.slice (subA bb off cap (j2 + 1)) (k2 - (j2 + 1)) (cap - (j2 + 1))) w := slice_lh bb off n cap (j2 + 1) k2 hk3 hk6 hcap
          have hcv := conv_byt (HT7.out.m.bytes.part (j2 + 1) k2 hk3 hk6)
          obtain ⟨vr, hvr⟩ : ∃ vr, (l.drop (j2 + 1)).take (k2 - (j2 + 1)) = vr := ⟨_, rfl⟩
          rw [hvr] at hcv
          have hvl : vr.length ≤ n := by rw [← hvr, List.length_take, List.length_drop]; omega
          generalize subA bb off cap (j2 + 1) = sa5 at *
          have k0 : (w7.alloc (.cells #[.int .u8 q2.toNat] 5)).cell? ⟨w7.heap.size, 0, none⟩ = some (.int .u8 q2.toNat) := (Blk.new w7 [.int .u8 q2.toNat] 5).cell 0
          have e1 := conv_one q2 w7.heap.size (w7.alloc (.cells #[.int .u8 q2.toNat] 5)) k0
          clear k0
          rcases Tk.quote_at q2 (l.drop (j2 + 1)) with ⟨qa, qb, qd, qe⟩ | ⟨kk, qa, qb, qd, qe, qf⟩
          · have ek : k2 = l.length := by
              rcases hF with ⟨_, e⟩ | ⟨jj, e, _⟩
              · exact e
              · rw [qa] at e; omega
            have ev : vr = l.drop (j2 + 1) := by rw [← hvr, ek, List.take_of_length_le (by rw [List.length_drop]; omega)]
            have HSU : Hid (([q2] : List UInt8).isSuffixOf vr = false) := by show _ = _; rw [ev]; exact Tk.suf_none q2 _ qe
            have HVV : Hid (Tk.value (l.drop m1) = (vr, l.drop k2)) := by show _ = _; rw [HVQ.out, qb, qd, ev, ek, List.drop_length]; rfl
            clear hF qa qb qd qe ek ev hvr HVQ
            have HSF : Hid (∀ w, Calls Tryz.prog 61 #[.string (B vr), .string ⟨#[q2]⟩] w fun e w' => e = .returned (.bool false) ∧ w' = w) := fun w => by
              have := Tryz.strings_HasSuffix (B vr) ⟨#[q2]⟩ w (by rw [B_size]; omega)
              rw [B_data] at this
              unfold Lib.hasSuffix at this
              rw [show ([q2] : List UInt8).isSuffixOf vr = false from HSU.out] at this
              exact this
            clear HSU
            go_wp2_with fail
            refine (HSF.out _).mono ?_
            rintro e wx ⟨rfl, hw⟩
            rw [hw]
            clear hw wx
            go_wp2
            exact as_frame (frmV w.heap.size v i shut k2 tb hr fd nv (.string (B vr))) (by kernel_rfl) (fun us' => HK.out us' k2 vr _ HVV.out (by omega) hk6 (HT7.out.far ((Below.refl _ _).alloc (Nat.le_refl _) _)))
          · have ek : k2 = j2 + 1 + kk + 1 := by
              rcases hF with ⟨e, _⟩ | ⟨jj, e, e2, _⟩
              · rw [qa] at e; omega
              · rw [qa] at e
                simp at e2
                omega
            obtain ⟨tv, htv⟩ : ∃ tv, (l.drop (j2 + 1)).takeWhile (Tk.not q2) = tv := ⟨_, rfl⟩
            have ev : vr = tv ++ [q2] := by rw [← hvr, ek, show j2 + 1 + kk + 1 - (j2 + 1) = kk + 1 by omega, qe, htv]
            have HSU : Hid (([q2] : List UInt8).isSuffixOf vr = true) := by show _ = _; rw [ev]; exact List.isSuffixOf_iff_suffix.2 ⟨tv, rfl⟩
            have HVV : Hid (Tk.value (l.drop m1) = (tv, l.drop k2)) := by
              show _ = _
              rw [HVQ.out, htv, ← qf, List.drop_drop, ek]
              rfl
            have hvl2 : vr.length = tv.length + 1 := by rw [ev]; simp
            clear hF qa qb qd qe qf ek hvr HVQ htv
            have HSF : Hid (∀ w, Calls Tryz.prog 61 #[.string (B vr), .string ⟨#[q2]⟩] w fun e w' => e = .returned (.bool true) ∧ w' = w) := fun w => by
              have := Tryz.strings_HasSuffix (B vr) ⟨#[q2]⟩ w (by rw [B_size]; omega)
              rw [B_data] at this
              unfold Lib.hasSuffix at this
              rw [show ([q2] : List UInt8).isSuffixOf vr = true from HSU.out] at this
              exact this
            have hszv : ((B vr).size : Int) - 1 = (tv.length : Int) := by rw [B_size]; omega
            have hzv2 : (B vr).size = tv.length + 1 := by rw [B_size]; exact hvl2
            have hzv3 : wrap64 (tv.length : Int) = tv.length := by unfold wrap64; omega
            have hst : ∀ w, (Instr.slice 9 (.string (B vr)) none (some (.int .i64 tv.length)) none).run Tryz.prog w = .ok (.string (B tv)) w := fun w => by rw [ev]; exact slice_lst tv q2 w
            clear ev hvl2
            clear HSU
            go_wp2_with fail
            refine (HSF.out _).mono ?_
            rintro e wx ⟨rfl, hw⟩
            rw [hw]
            clear hw wx
            go_wp2
            exact as_frame (frmV w.heap.size v i shut k2 tb hr fd nv (.string (B tv))) (by kernel_rfl) (fun us' => HK.out us' k2 tv _ HVV.out (by omega) hk6 (HT7.out.far ((Below.refl _ _).alloc (Nat.le_refl _) _)))
  · have HVN : Hid (Tk.value (l.drop m1) = ([], l.drop m1)) := by
      show _ = _
      unfold Tk.value
      rw [← HDJ.out]
      rcases hq with ⟨hj, e⟩ | ⟨hj, e⟩
      · rw [drop_at hj, e]
        have : (q == 61) = false := by simpa using h61
        simp only [this]
        rfl
      · rw [List.drop_eq_nil_of_le (by omega)]
    have b61 : ((q.toNat : Int) == 61) = false := by have := u8_ne q 61 h61; simpa using this
    clear hq h61 HDJ
    go_wp2
    exact as_frame (frmV w.heap.size v i shut m1 tb hr fd nv (.string (B []))) (by kernel_rfl) (fun us' => HK.out us' m1 [] _ HVN.out (Nat.le_refl _) hm4 HT6.out)
end Go.Proofs.YtbhcklkbckacpaaGreatDoor
