/-
  The reference's Tokens: an attribute.
-/
import Derived.Test.YtbhcklkbckacpaaGreatDoorTe1
namespace Go.Proofs.YtbhcklkbckacpaaGreatDoor
open Go.RowKit
set_option maxRecDepth 1000000 in
set_option maxHeartbeats 12800000 in
theorem att_go (w : World) (bb off n cap : Nat) (l : List UInt8) (v : Value) (pre : List Tk) (tb : Nat) (kd : Int) (nm : List UInt8) (i : Nat) (shut : Bool) (m : Nat) (R : Option (Option (List UInt8) × List UInt8)) (k : Nat) (h : Option (List UInt8)) (us : Nat → Value) (w5 : World) (Q : Exit → Act → World → Prop) (hn : n ≤ 20000) (hA : AttAt w bb off n cap l v pre tb ⟨kd, nm, [], []⟩ m R w5 k h) (hkl : k < l.length) (g62 : ¬ l[k] = 62) (g47 : ¬ l[k] = 47) (gs : Tk.sp l[k] = false) :
    Code.wp Tryz.prog (((Tryz.f12.body.map loopsOf).getD []).getD 3 .skip) (Exit.then (fun a' w' => AttI w bb off n cap l v pre tb ⟨kd, nm, [], []⟩ m R i shut a' w' ∧ attMu n a' < n - k) Q) (frmA w.heap.size v i shut tb k h us) w5 := by
  obtain ⟨hk1, hk2, hk5, hk4, hT⟩ := hA
  have HT5 : Hid (TagM w bb off n cap l v pre tb ⟨kd, nm, [], []⟩ w5) := hT
  have HA : Hid (Tk.attr (l.drop k) h = R) := hk4
  have hll := hT.m.bytes.bytes
  have hcap := hT.m.bytes.room
  clear hT hk4
  have hkn : k < n := by omega
  have c0 : w5.cell? ⟨w.heap.size, 0, none⟩ = some (.slice (some ⟨bb, off, none⟩) n cap) := HT5.out.m.box.cell 0
  obtain ⟨b', off', he, hcs⟩ := HT5.out.m.bytes.byte (by omega)
  cases he
  have HC : Hid (∀ i (hi : i < l.length), w5.cell? ⟨bb, off + i, none⟩ = some (.int .u8 l[i].toNat)) := hcs
  clear hcs
  have ck := HC.out k hkl
  obtain ⟨c, hc⟩ : ∃ c, l[k] = c := ⟨_, rfl⟩
  rw [hc] at ck
  have HCC : Hid (l[k] = c) := hc
  clear hc
  have h62 : ¬ c = 62 := by rw [← HCC.out]; exact g62
  have h47 : ¬ c = 47 := by rw [← HCC.out]; exact g47
  have hs : Tk.sp c = false := by rw [← HCC.out]; exact gs
  clear g62 g47 gs
  have b62 : ((c.toNat : Int) != 62) = true := u8_ne c 62 h62
  have b47 : ((c.toNat : Int) == 47) = false := by have := u8_ne c 47 h47; simpa using this
  unfold frmA frm4
  conv => arg 2; whnf
  have HV : Hid (Tk.attr (Tk.value ((l.drop (k + 1)).dropWhile Tk.anm)).2 (if Lk.small (c :: (l.drop (k + 1)).takeWhile Tk.anm) == Tk.hrefL && h.isNone then some (Tk.value ((l.drop (k + 1)).dropWhile Tk.anm)).1 else h) = R) := by
    have := HA.out
    rw [drop_at hkl, HCC.out, Tk.attr_cons, if_neg (by simpa using h62), if_neg (by rw [hs]; simpa using h47)] at this
    exact this
  clear HA h47 h62
  go_wp2_with fail
  refine (space_any c _).mono ?_
  rintro e wx ⟨rfl, hw⟩
  rw [hw, hs]
  clear hw wx
  go_upto_block 9 with fail
  go_cut [10] from 192 to 226 (fun s wx => ∃ m : Nat, s = .int .i64 m ∧ k + 1 ≤ m ∧ m ≤ n ∧ l.drop m = (l.drop (k + 1)).dropWhile Tk.anm ∧ wx = w5)
  case first =>
    go_wp2_with fail
    go_loopw [10] (fun s wx => ∃ m : Nat, m ≤ n ∧ k + 1 ≤ m ∧ s = .int .i64 m ∧ (l.drop m).dropWhile Tk.anm = (l.drop (k + 1)).dropWhile Tk.anm ∧ wx = w5) (fun s _ => n - (intOf s).toNat)
    case atStart => exact ⟨k + 1, by omega, Nat.le_refl _, by go_num, rfl, rfl⟩
    case round =>
      obtain ⟨m, hm, him, rfl, hd, hw⟩ := hrel
      rw [hw]
      clear hw
      have HD : Hid ((l.drop m).dropWhile Tk.anm = (l.drop (k + 1)).dropWhile Tk.anm) := hd
      clear hd
      by_cases hmn : m < n
      · have hml : m < l.length := by omega
        have cm := HC.out m hml
        have HX : Hid (Tk.anm l[m] = false → l.drop m = (l.drop (k + 1)).dropWhile Tk.anm) := fun hp => by rw [← HD.out]; exact (Tk.dw_stop hml hp).symm
        have HG : Hid (Tk.anm l[m] = true → (l.drop (m + 1)).dropWhile Tk.anm = (l.drop (k + 1)).dropWhile Tk.anm) := fun hp => (Tk.dw_go hml hp).trans HD.out
        generalize l[m] = c at *
        cases hs : Tk.sp c
        · by_cases h47 : c = 47
          · have HE : Hid (l.drop m = (l.drop (k + 1)).dropWhile Tk.anm) := HX.out (by rw [h47]; rfl)
            have b47 : ((c.toNat : Int) != 47) = false := by rw [h47]; rfl
            clear HX HG HD h47
            go_wp2_with fail
            refine (space_any c _).mono ?_
            rintro e wx ⟨rfl, hw⟩
            rw [hw, hs]
            clear hw wx
            go_wp2
            go_meet
            case rel => exact ⟨m, rfl, him, hm, HE.out, rfl⟩
          · have b47 : ((c.toNat : Int) != 47) = true := u8_ne c 47 h47
            by_cases h62 : c = 62
            · have HE : Hid (l.drop m = (l.drop (k + 1)).dropWhile Tk.anm) := HX.out (by rw [h62]; rfl)
              have b62 : ((c.toNat : Int) != 62) = false := by rw [h62]; rfl
              clear HX HG HD h62
              go_wp2_with fail
              refine (space_any c _).mono ?_
              rintro e wx ⟨rfl, hw⟩
              rw [hw, hs]
              clear hw wx
              go_wp2
              go_meet
              case rel => exact ⟨m, rfl, him, hm, HE.out, rfl⟩
            · have b62 : ((c.toNat : Int) != 62) = true := u8_ne c 62 h62
              by_cases h61 : c = 61
              · have HE : Hid (l.drop m = (l.drop (k + 1)).dropWhile Tk.anm) := HX.out (by rw [h61]; rfl)
                have b61 : ((c.toNat : Int) != 61) = false := by rw [h61]; rfl
                clear HX HG HD h61
                go_wp2_with fail
                refine (space_any c _).mono ?_
                rintro e wx ⟨rfl, hw⟩
                rw [hw, hs]
                clear hw wx
                go_wp2
                go_meet
                case rel => exact ⟨m, rfl, him, hm, HE.out, rfl⟩
              · have b61 : ((c.toNat : Int) != 61) = true := u8_ne c 61 h61
                have HE : Hid ((l.drop (m + 1)).dropWhile Tk.anm = (l.drop (k + 1)).dropWhile Tk.anm) := HG.out (by unfold Tk.anm; simp [hs, h47, h62, h61])
                clear HX HG HD
                go_wp2_with fail
                refine (space_any c _).mono ?_
                rintro e wx ⟨rfl, hw⟩
                rw [hw, hs]
                clear hw wx
                go_wp2
                go_roundw
                case rel => exact ⟨m + 1, by omega, by omega, by go_num, HE.out, trivial⟩
                case measure => simp [intOf]; omega
        · have HE : Hid (l.drop m = (l.drop (k + 1)).dropWhile Tk.anm) := HX.out (by unfold Tk.anm; rw [hs]; rfl)
          clear HX HG HD
          go_wp2_with fail
          refine (space_any c _).mono ?_
          rintro e wx ⟨rfl, hw⟩
          rw [hw, hs]
          clear hw wx
          go_wp2
          go_meet
          case rel => exact ⟨m, rfl, him, hm, HE.out, rfl⟩
      · have HE : Hid (l.drop m = (l.drop (k + 1)).dropWhile Tk.anm) := by rw [← HD.out]; exact (Tk.dw_end (by omega)).symm
        clear HD
        go_wp2
        go_meet
        case rel => exact ⟨m, rfl, him, hm, HE.out, rfl⟩
  case rest =>
    obtain ⟨m1, rfl, hm3, hm4, hdm1, hw⟩ := hcut
    rw [hw]
    clear hw wc
    have htw1 : (l.drop k).take (m1 - k) = c :: (l.drop (k + 1)).takeWhile Tk.anm := by
      rw [drop_at hkl, HCC.out, show m1 - k = (m1 - (k + 1)) + 1 by omega, List.take_succ_cons, Tk.tw_of_dw hm3 (by omega) hdm1]
    have hsl := slice_lh bb off n cap k m1 (by omega) hm4 hcap
    have hcv := conv_byt (HT5.out.m.bytes.part k m1 (by omega) hm4)
    rw [htw1] at hcv
    have hsz : (B (c :: (l.drop (k + 1)).takeWhile Tk.anm)).size ≤ n := by rw [← htw1, B_size, List.length_take, List.length_drop]; omega
    rw [← hdm1] at HV
    generalize c :: (l.drop (k + 1)).takeWhile Tk.anm = tw1 at *
    generalize subA bb off cap k = sa3 at *
    clear htw1 hdm1 HCC
    go_wp2_with fail
    refine (Small_any (B tw1) _ (by omega)).mono ?_
    rintro e w6 ⟨rfl, hb⟩
    have HT6 : Hid (TagM w bb off n cap l v pre tb ⟨kd, nm, [], []⟩ w6) := HT5.out.far hb
    clear hb c0 HC hcv hsl hsz ck
    rw [B_data]
    generalize Lk.small tw1 = nm1 at *
    have c0 : w6.cell? ⟨w.heap.size, 0, none⟩ = some (.slice (some ⟨bb, off, none⟩) n cap) := HT6.out.m.box.cell 0
    obtain ⟨b', off', he, hcs⟩ := HT6.out.m.bytes.byte (by omega)
    cases he
    have HC : Hid (∀ i (hi : i < l.length), w6.cell? ⟨bb, off + i, none⟩ = some (.int .u8 l[i].toNat)) := hcs
    clear hcs
    go_upto_block 11 with fail
    go_cut [17] from 234 to 246 (fun s wx => ∃ m : Nat, s = .int .i64 m ∧ m1 ≤ m ∧ m ≤ n ∧ l.drop m = (l.drop (m1)).dropWhile Tk.sp ∧ wx = w6)
    case first =>
      go_wp2_with fail
      go_loopw [17] (fun s wx => ∃ m : Nat, m ≤ n ∧ m1 ≤ m ∧ s = .int .i64 m ∧ (l.drop m).dropWhile Tk.sp = (l.drop (m1)).dropWhile Tk.sp ∧ wx = w6) (fun s _ => n - (intOf s).toNat)
      case atStart => exact ⟨m1, by omega, Nat.le_refl _, by go_num, rfl, rfl⟩
      case round =>
        obtain ⟨m, hm, him, rfl, hd, hw⟩ := hrel
        rw [hw]
        clear hw
        have HD : Hid ((l.drop m).dropWhile Tk.sp = (l.drop (m1)).dropWhile Tk.sp) := hd
        clear hd
        by_cases hmn : m < n
        · have hml : m < l.length := by omega
          have cm := HC.out m hml
          have HX : Hid (Tk.sp l[m] = false → l.drop m = (l.drop (m1)).dropWhile Tk.sp) := fun hp => by rw [← HD.out]; exact (Tk.dw_stop hml hp).symm
          have HG : Hid (Tk.sp l[m] = true → (l.drop (m + 1)).dropWhile Tk.sp = (l.drop (m1)).dropWhile Tk.sp) := fun hp => (Tk.dw_go hml hp).trans HD.out
          generalize l[m] = c at *
          cases hs : Tk.sp c
          · have HE : Hid (l.drop m = (l.drop (m1)).dropWhile Tk.sp) := HX.out hs
            clear HX HG HD
            go_wp2_with fail
            refine (space_any c _).mono ?_
            rintro e wx ⟨rfl, hw⟩
            rw [hw, hs]
            clear hw wx
            go_wp2
            go_meet
            case rel => exact ⟨m, rfl, him, hm, HE.out, rfl⟩
          · have HE : Hid ((l.drop (m + 1)).dropWhile Tk.sp = (l.drop (m1)).dropWhile Tk.sp) := HG.out hs
            clear HX HG HD
            go_wp2_with fail
            refine (space_any c _).mono ?_
            rintro e wx ⟨rfl, hw⟩
            rw [hw, hs]
            clear hw wx
            go_wp2
            go_roundw
            case rel => exact ⟨m + 1, by omega, by omega, by go_num, HE.out, trivial⟩
            case measure => simp [intOf]; omega
        · have HE : Hid (l.drop m = (l.drop (m1)).dropWhile Tk.sp) := by rw [← HD.out]; exact (Tk.dw_end (by omega)).symm
          clear HD
          go_wp2
          go_meet
          case rel => exact ⟨m, rfl, him, hm, HE.out, rfl⟩
    case rest =>
      obtain ⟨j, rfl, hj1, hj2, hdj, hw⟩ := hcut
      rw [hw]
      clear hw wc
      have HDJ : Hid (l.drop j = (l.drop m1).dropWhile Tk.sp) := hdj
      clear hdj
      obtain ⟨q, hq, A1⟩ : ∃ q : UInt8, ((∃ hj : j < l.length, l[j] = q) ∨ (n ≤ j ∧ q = 0)) ∧ Hid (Calls Tryz.prog 53 #[.int .i64 j, .pointer (some ⟨w.heap.size, 0, none⟩)] w6 fun e w' => e = .returned (.int .u8 q.toNat) ∧ w' = w6) := by
        by_cases hj : j < l.length
        · exact ⟨l[j], .inl ⟨hj, rfl⟩, at_in w.heap.size bb off n cap j l w6 HT6.out.m.box HT6.out.m.bytes hj⟩
        · exact ⟨0, .inr ⟨by omega, rfl⟩, at_out w.heap.size bb off n cap j w6 HT6.out.m.box (by omega)⟩
      go_wp2_with fail
      refine A1.out.mono ?_
      rintro e wx ⟨rfl, hw⟩
      rw [hw]
      clear hw wx A1
      go_upto_if 250 with fail
      refine wp_frame (frmU w.heap.size v i shut m1 j tb (.string (B (h.getD []))) (.bool h.isSome) (.string (B nm1)) q) (by kernel_rfl) (fun us4 => tag_value w bb off n cap l v pre tb kd nm i shut m1 j _ _ _ q us4 w6 _ _ hn (by omega) hm4 hj1 hj2 HDJ.out hq HT6.out ?_)
      intro us5 k2 vl w7 hvv hk6 hk7 hT
      have HT7 : Hid (TagM w bb off n cap l v pre tb ⟨kd, nm, [], []⟩ w7) := hT
      clear hT HT6 HT5 c0 HC
      rw [hvv] at HV
      have hvl : vl.length ≤ n := by
        have := Tk.value_len1 (l.drop m1)
        rw [hvv, List.length_drop] at this
        simp only at this
        omega
      clear hvv HDJ hq
      have bn := beq_href nm1
      unfold frmV
      cases hx : (nm1 == Tk.hrefL)
      · rw [hx] at bn HV
        clear hx
        go_wp2
        exact AttI.step (h := h) (by kernel_rfl) ⟨by omega, hk7, hk5, HV.out, HT7.out⟩ (by omega)
      · rw [hx] at bn HV
        clear hx
        cases h with
        | none =>
          go_wp2
          exact AttI.step (h := some vl) (by kernel_rfl) ⟨by omega, hk7, hvl, HV.out, HT7.out⟩ (by omega)
        | some x =>
          go_wp2
          exact AttI.step (h := some x) (by kernel_rfl) ⟨by omega, hk7, hk5, HV.out, HT7.out⟩ (by omega)
end Go.Proofs.YtbhcklkbckacpaaGreatDoor
