/-
  Package op: Long and Same, of whatever operations; the reference's SameOp.
-/
import Derived.Test.YtgidmnoinbbajaaDoorOe
namespace Go.Proofs.YtgidmnoinbbajaaDoor
open Go.RowKit

set_option maxRecDepth 100000 in
set_option maxHeartbeats 3200000 in
theorem long_any (ao : Option Addr) (n cap : Nat) (vs : List PV) (w : World) (hO : Ops w ao n cap vs) :
    Calls Tryd.prog 12 #[.slice ao n cap] w fun e w' => e = .returned (.tuple #[.int .i64 (Ac.lf (vs.map PV.pt)), .int .i64 (Ac.lt (vs.map PV.pt))]) ∧ Below w.heap.size w w' := by
  have HO : Hid (Ops w ao n cap vs) := hO
  have HN : Hid (vs.length = n) := hO.len
  have hcap := hO.row.room
  have hbig := hO.row.big
  clear hO
  obtain ⟨A, hA⟩ : ∃ A, Ac.lf (vs.map PV.pt) = A := ⟨_, rfl⟩
  obtain ⟨C, hC⟩ : ∃ C, Ac.lt (vs.map PV.pt) = C := ⟨_, rfl⟩
  have HA : Hid (Ac.lf (vs.map PV.pt) = A) := hA
  have HC : Hid (Ac.lt (vs.map PV.pt) = C) := hC
  rw [hA, hC]
  clear hA hC
  go_enter Tryd.func12, Tryd.ntmps12
  go_wp2
  go_loopw [2, 3, 8] (fun f t i wr => ∃ k : Nat, k ≤ n ∧ i = .int .i64 k ∧ f = .int .i64 (((vs.map PV.pt).take k).foldl Ac.lfS 0) ∧ t = .int .i64 (((vs.map PV.pt).take k).foldl Ac.ltS 0) ∧ Below w.heap.size w wr) (fun _ _ i _ => n - (intOf i).toNat)
  case atStart => exact ⟨0, Nat.zero_le _, rfl, rfl, rfl, Below.refl _ _⟩
  case round =>
    obtain ⟨k, hk, rfl, rfl, rfl, hbr⟩ := hrel
    have HBR : Hid (Below w.heap.size w wr) := hbr
    clear hbr
    by_cases hlt : k < n
    · obtain ⟨b, off, rfl, hG⟩ := HO.out.get (by omega)
      have hkv : k < vs.length := by rw [HN.out]; exact hlt
      have htk : (vs.map PV.pt).take (k + 1) = (vs.map PV.pt).take k ++ [vs[k].pt] := by
        rw [List.take_succ_eq_append_getElem (by rw [List.length_map]; exact hkv), List.getElem_map]
      have HF : Hid (((vs.map PV.pt).take (k + 1)).foldl Ac.lfS 0 = Ac.lfS (((vs.map PV.pt).take k).foldl Ac.lfS 0) vs[k].pt) := by show _ = _; rw [htk, List.foldl_append]; rfl
      have HT : Hid (((vs.map PV.pt).take (k + 1)).foldl Ac.ltS 0 = Ac.ltS (((vs.map PV.pt).take k).foldl Ac.ltS 0) vs[k].pt) := by show _ = _; rw [htk, List.foldl_append]; rfl
      have HL : Hid (vs[k].items.length = vs[k].m) := (HO.out.pts _ (List.getElem_mem hkv)).doc.len
      obtain ⟨c0, c1, c2, c3, c4, c5, c6⟩ := (hG k hkv).below HBR.out
      clear hG htk
      generalize ((vs.map PV.pt).take k).foldl Ac.lfS 0 = f at *
      generalize ((vs.map PV.pt).take k).foldl Ac.ltS 0 = t at *
      generalize vs[k] = v at *
      obtain ⟨kind, q, vo, m, vcap, items, st, cl, gs, lk⟩ := v
      simp only at c0 c1 c2 c3 c4 c5 c6
      clear hkv
      have HB1 : Hid (Below w.heap.size w (boxp ⟨kind, q, vo, m, vcap, items, st, cl, gs, lk⟩ wr)) := HBR.out.trans ((boxp_below _ wr).mono HBR.out.size)
      by_cases h1 : kind = 1
      · subst h1
        go_wp2
        go_roundw
        case rel => exact ⟨k + 1, by omega, by go_num, by rw [HF.out]; rfl, by rw [HT.out]; rfl, HB1.out⟩
        case measure => simp [intOf]; omega
      · have k1 : (kind == 1) = false := by simp [h1]
        by_cases h2 : kind = 2
        · subst h2
          clear h1
          go_wp2
          go_roundw
          case rel => exact ⟨k + 1, by omega, by go_num, by rw [HF.out]; rfl, by have hl : items.length = m := HL.out; rw [HT.out]; show _ = Value.int .i64 (wrap64 (t + (items.length : Int))); rw [hl], HB1.out⟩
          case measure => simp [intOf]; omega
        · have k2 : (kind == 2) = false := by simp [h2]
          by_cases h3 : kind = 3
          · subst h3
            clear h1 h2
            go_wp2
            go_roundw
            case rel => exact ⟨k + 1, by omega, by go_num, by rw [HF.out]; rfl, by rw [HT.out]; rfl, HB1.out⟩
            case measure => simp [intOf]; omega
          · have k3 : (kind == 3) = false := by simp [h3]
            have e1 : Ac.lfS f (PV.pt ⟨kind, q, vo, m, vcap, items, st, cl, gs, lk⟩) = f := if_neg (fun h => h.elim h1 h3)
            have e2 : Ac.ltS t (PV.pt ⟨kind, q, vo, m, vcap, items, st, cl, gs, lk⟩) = t := (if_neg h1).trans (if_neg h2)
            rw [e1] at HF
            rw [e2] at HT
            clear h1 h2 h3 e1 e2
            go_wp2
            go_roundw
            case rel => exact ⟨k + 1, by omega, by go_num, by rw [HF.out], by rw [HT.out], HB1.out⟩
            case measure => simp [intOf]; omega
    · have hkn : k = n := by omega
      have e1 : ((vs.map PV.pt).take k).foldl Ac.lfS 0 = A := by rw [List.take_of_length_le (by rw [List.length_map, HN.out]; omega)]; exact HA.out
      have e2 : ((vs.map PV.pt).take k).foldl Ac.ltS 0 = C := by rw [List.take_of_length_le (by rw [List.length_map, HN.out]; omega)]; exact HC.out
      rw [e1, e2]
      clear e1 e2
      subst hkn
      go_wp2
      go_ret2
      exact ⟨rfl, HBR.out⟩

set_option maxRecDepth 100000 in
set_option maxHeartbeats 3200000 in
theorem LongOf_any (ao : Option Addr) (n cap : Nat) (vs : List PV) (w : World) (hO : Ops w ao n cap vs) :
    Calls Tryd.prog 13 #[.slice ao n cap] w fun e w' => e = .returned (.tuple #[.int .i64 (Ac.lf (vs.map PV.pt)), .int .i64 (Ac.lt (vs.map PV.pt))]) ∧ Below w.heap.size w w' := by
  have HO : Hid (Ops w ao n cap vs) := hO
  have HN : Hid (vs.length = n) := hO.len
  have hcap := hO.row.room
  have hbig := hO.row.big
  clear hO
  obtain ⟨A, hA⟩ : ∃ A, Ac.lf (vs.map PV.pt) = A := ⟨_, rfl⟩
  obtain ⟨C, hC⟩ : ∃ C, Ac.lt (vs.map PV.pt) = C := ⟨_, rfl⟩
  have HA : Hid (Ac.lf (vs.map PV.pt) = A) := hA
  have HC : Hid (Ac.lt (vs.map PV.pt) = C) := hC
  rw [hA, hC]
  clear hA hC
  go_enter Tryd.func13, Tryd.ntmps13
  go_wp2
  go_loopw [2, 3, 8] (fun f t i wr => ∃ k : Nat, k ≤ n ∧ i = .int .i64 k ∧ f = .int .i64 (((vs.map PV.pt).take k).foldl Ac.lfS 0) ∧ t = .int .i64 (((vs.map PV.pt).take k).foldl Ac.ltS 0) ∧ Below w.heap.size w wr) (fun _ _ i _ => n - (intOf i).toNat)
  case atStart => exact ⟨0, Nat.zero_le _, rfl, rfl, rfl, Below.refl _ _⟩
  case round =>
    obtain ⟨k, hk, rfl, rfl, rfl, hbr⟩ := hrel
    have HBR : Hid (Below w.heap.size w wr) := hbr
    clear hbr
    by_cases hlt : k < n
    · obtain ⟨b, off, rfl, hG⟩ := HO.out.get (by omega)
      have hkv : k < vs.length := by rw [HN.out]; exact hlt
      have htk : (vs.map PV.pt).take (k + 1) = (vs.map PV.pt).take k ++ [vs[k].pt] := by
        rw [List.take_succ_eq_append_getElem (by rw [List.length_map]; exact hkv), List.getElem_map]
      have HF : Hid (((vs.map PV.pt).take (k + 1)).foldl Ac.lfS 0 = Ac.lfS (((vs.map PV.pt).take k).foldl Ac.lfS 0) vs[k].pt) := by show _ = _; rw [htk, List.foldl_append]; rfl
      have HT : Hid (((vs.map PV.pt).take (k + 1)).foldl Ac.ltS 0 = Ac.ltS (((vs.map PV.pt).take k).foldl Ac.ltS 0) vs[k].pt) := by show _ = _; rw [htk, List.foldl_append]; rfl
      have HL : Hid (vs[k].items.length = vs[k].m) := (HO.out.pts _ (List.getElem_mem hkv)).doc.len
      obtain ⟨c0, c1, c2, c3, c4, c5, c6⟩ := (hG k hkv).below HBR.out
      clear hG htk
      generalize ((vs.map PV.pt).take k).foldl Ac.lfS 0 = f at *
      generalize ((vs.map PV.pt).take k).foldl Ac.ltS 0 = t at *
      generalize vs[k] = v at *
      obtain ⟨kind, q, vo, m, vcap, items, st, cl, gs, lk⟩ := v
      simp only at c0 c1 c2 c3 c4 c5 c6
      clear hkv
      have HB1 : Hid (Below w.heap.size w (boxp ⟨kind, q, vo, m, vcap, items, st, cl, gs, lk⟩ wr)) := HBR.out.trans ((boxp_below _ wr).mono HBR.out.size)
      by_cases h1 : kind = 1
      · subst h1
        go_wp2
        go_roundw
        case rel => exact ⟨k + 1, by omega, by go_num, by rw [HF.out]; rfl, by rw [HT.out]; rfl, HB1.out⟩
        case measure => simp [intOf]; omega
      · have k1 : (kind == 1) = false := by simp [h1]
        by_cases h2 : kind = 2
        · subst h2
          clear h1
          go_wp2
          go_roundw
          case rel => exact ⟨k + 1, by omega, by go_num, by rw [HF.out]; rfl, by have hl : items.length = m := HL.out; rw [HT.out]; show _ = Value.int .i64 (wrap64 (t + (items.length : Int))); rw [hl], HB1.out⟩
          case measure => simp [intOf]; omega
        · have k2 : (kind == 2) = false := by simp [h2]
          by_cases h3 : kind = 3
          · subst h3
            clear h1 h2
            go_wp2
            go_roundw
            case rel => exact ⟨k + 1, by omega, by go_num, by rw [HF.out]; rfl, by rw [HT.out]; rfl, HB1.out⟩
            case measure => simp [intOf]; omega
          · have k3 : (kind == 3) = false := by simp [h3]
            have e1 : Ac.lfS f (PV.pt ⟨kind, q, vo, m, vcap, items, st, cl, gs, lk⟩) = f := if_neg (fun h => h.elim h1 h3)
            have e2 : Ac.ltS t (PV.pt ⟨kind, q, vo, m, vcap, items, st, cl, gs, lk⟩) = t := (if_neg h1).trans (if_neg h2)
            rw [e1] at HF
            rw [e2] at HT
            clear h1 h2 h3 e1 e2
            go_wp2
            go_roundw
            case rel => exact ⟨k + 1, by omega, by go_num, by rw [HF.out], by rw [HT.out], HB1.out⟩
            case measure => simp [intOf]; omega
    · have hkn : k = n := by omega
      have e1 : ((vs.map PV.pt).take k).foldl Ac.lfS 0 = A := by rw [List.take_of_length_le (by rw [List.length_map, HN.out]; omega)]; exact HA.out
      have e2 : ((vs.map PV.pt).take k).foldl Ac.ltS 0 = C := by rw [List.take_of_length_le (by rw [List.length_map, HN.out]; omega)]; exact HC.out
      rw [e1, e2]
      clear e1 e2
      subst hkn
      go_wp2
      go_ret2
      exact ⟨rfl, HBR.out⟩
end Go.Proofs.YtgidmnoinbbajaaDoor
