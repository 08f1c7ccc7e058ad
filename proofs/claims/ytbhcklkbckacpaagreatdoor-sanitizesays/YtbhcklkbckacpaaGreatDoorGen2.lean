/-
  strings.makeGenericReplacer at the four ways of writing: the replacer that it lays.
-/
import Derived.Test.YtbhcklkbckacpaaGreatDoorG1
namespace Go.Proofs.YtbhcklkbckacpaaGreatDoor
open Go.RowKit

theorem st_rel {w wj : World} {n ob q : Nat} {ex : List Value} {i : Value} (hq : q < 4) (h : St w n ob ex (q + 1) wj) (hi : i = .int .i64 (2 * ((q + 1 : Nat) : Int))) : ∃ q : Nat, q ≤ 4 ∧ i = .int .i64 (2 * (q : Int)) ∧ St w n ob ex q wj :=
  ⟨q + 1, by omega, hi, h⟩

set_option maxRecDepth 100000 in
set_option maxHeartbeats 3200000 in
theorem gen_any (ob cap : Nat) (ex : List Value) (w : World) (ho : Blk w ob (onCells ++ ex) 9) :
    Calls Tryz.prog 277 #[.slice (some ⟨ob, 0, none⟩) 8 cap] w fun e w' => e = .returned (ptr w.heap.size) ∧ Trie w' w.heap.size ∧ Kept w w' [] := by
  have hz := zero101
  have HO : Hid (Blk w ob (onCells ++ ex) 9) := ho
  have hob := ho.lt
  clear ho
  go_enter Tryz.func277, Tryz.ntmps277
  go_wp2_with fail
  go_loopw [4] (fun i wr => ∃ q : Nat, q ≤ 4 ∧ i = .int .i64 (2 * (q : Int)) ∧ Blk wr w.heap.size (rarr emptyN 0 (mk (preL q))) 356 ∧ Kept w wr []) (fun i _ => 8 - (intOf i).toNat)
  case atStart => exact ⟨0, by omega, rfl, Blk.new w _ 356, (Kept.refl w []).alloc _⟩
  case round =>
    obtain ⟨q, hq, rfl, hR, hK⟩ := hrel
    have HR : Hid (Blk wr w.heap.size (rarr emptyN 0 (mk (preL q))) 356) := hR
    have HK : Hid (Kept w wr []) := hK
    clear hR hK
    by_cases hq4 : q < 4
    · obtain ⟨key, hkey, hks, hkp⟩ := on_key ex q hq4
      have HP : Hid (preL q ++ key.data.toList = preL (q + 1)) := hkp
      have hcell : wr.cell? ⟨ob, 2 * q, none⟩ = some (.string key) := ((HK.out.blk HO.out (by simp)).cell (2 * q)).trans hkey
      have hlt8 : decide (2 * (q : Int) < 8) = true := decide_eq_true (by omega)
      clear hkp hkey
      go_wp2_with fail
      go_loopw [6] (fun j wj => ∃ k : Nat, k ≤ key.size ∧ j = .int .i64 k ∧ Blk wj w.heap.size (rarr emptyN 0 (mk (preL q ++ key.data.toList.take k))) 356 ∧ Kept w wj []) (fun j _ => key.size - (intOf j).toNat)
      case atStart => exact ⟨0, Nat.zero_le _, rfl, by simpa using HR.out, HK.out⟩
      case round =>
        obtain ⟨k, hk, rfl, hR2, hK2⟩ := hrel
        have HR2 : Hid (Blk wr w.heap.size (rarr emptyN 0 (mk (preL q ++ key.data.toList.take k))) 356) := hR2
        have HK2 : Hid (Kept w wr []) := hK2
        clear hR2 hK2
        by_cases hlt : k < key.size
        · obtain ⟨x, hx⟩ : ∃ x : UInt8, key[k]'hlt = x := ⟨_, rfl⟩
          have hix := run_index_at key k hlt
          rw [hx] at hix
          have HX : Hid (preL q ++ key.data.toList.take (k + 1) = (preL q ++ key.data.toList.take k) ++ [x]) := by show _ = _; rw [take_snoc' key k hlt, hx, List.append_assoc]
          have hx256 : x.toNat < 256 := x.toNat_lt
          have hc : wr.cell? ⟨w.heap.size, 6 + x.toNat, none⟩ = some (.int .u8 (mk (preL q ++ key.data.toList.take k) x.toNat)) := (HR2.out.cell _).trans (rarr_map emptyN 0 _ rfl x.toNat hx256)
          have hf : wr.frozen? ⟨w.heap.size, 6 + x.toNat, none⟩ = false := HR2.out.frozen _
          clear hx
          go_wp2_with fail
          go_region
          go_wp2
          go_roundw
          case rel => exact ⟨k + 1, by omega, by go_num, by rw [HX.out, ← mk_snoc, ← rarr_set_map emptyN 0 _ rfl]; exact HR2.out.set _ _, (HK2.out.setCell _ _ (.inr (Nat.le_refl _))).drew⟩
          case measure => simp [intOf]; omega
        · have hkk : key.data.toList.take k = key.data.toList := List.take_of_length_le (by simp; omega)
          have HR3 : Hid (Blk wr w.heap.size (rarr emptyN 0 (mk (preL (q + 1)))) 356) := by have := HR2.out; rw [hkk, HP.out] at this; exact this
          clear hkk
          go_wp2
          go_roundw
          case rel => exact ⟨q + 1, by omega, by go_num, HR3.out, HK2.out⟩
          case measure => simp [intOf]; omega
    · obtain rfl : q = 4 := by omega
      have HR4 : Hid (Blk wr w.heap.size (rarr emptyN 0 F4) 356) := HR.out
      have HM : Hid (wr.rangeAt w.heap.size 6 (mapL F4)) := range_mid rfl HR4.out
      clear HR
      go_wp2_with (refine wpList_load_mid rfl 182 _ rfl w.heap.size 6 rfl _ _ HM.out Tryz.underlying182 rfl (by rw [mapL_length]; exact info80) ?_)
      go_loopw [41] (fun j wj => ∃ k : Nat, k ≤ 256 ∧ j = .int .i64 k ∧ Blk wj w.heap.size (rarr emptyN (cnt F4 k) F4) 356 ∧ Kept w wj []) (fun j _ => 256 - (intOf j).toNat)
      case atStart => exact ⟨0, Nat.zero_le _, rfl, HR4.out, HK.out⟩
      case round =>
        obtain ⟨k, hk, rfl, hR5, hK5⟩ := hrel
        have HR5 : Hid (Blk wr w.heap.size (rarr emptyN (cnt F4 k) F4) 356) := hR5
        have HK5 : Hid (Kept w wr []) := hK5
        clear hR5 hK5 HM HR4 HK
        have hcb := cnt_bd k
        by_cases hlt : k < 256
        · have hix := run_index80 F4 k hlt
          have hf01 := F4_01 k
          have HS : Hid (cnt F4 (k + 1) = cnt F4 k + F4 k) := rfl
          generalize F4 k = fk at *
          generalize cnt F4 k = ck at *
          have hc : wr.cell? ⟨w.heap.size, 5, none⟩ = some (.int .i64 ck) := (HR5.out.cell 5).trans (rarr_ts emptyN _ _ rfl)
          have hf : wr.frozen? ⟨w.heap.size, 5, none⟩ = false := HR5.out.frozen _
          go_wp2
          go_roundw
          case rel => exact ⟨k + 1, by omega, by go_num, by rw [HS.out, ← rarr_set_ts emptyN ck _ rfl]; exact HR5.out.set _ _, HK5.out.setCell _ _ (.inr (Nat.le_refl _))⟩
          case measure => simp [intOf]; omega
        · obtain rfl : k = 256 := by omega
          have HR6 : Hid (Blk wr w.heap.size (rarr emptyN 11 F4) 356) := by have := HR5.out; rw [cnt_all] at this; exact this
          have HM6 : Hid (wr.rangeAt w.heap.size 6 (mapL F4)) := range_mid rfl HR6.out
          clear hcb HR5
          go_wp2_with (refine wpList_load_mid rfl 182 _ rfl w.heap.size 6 rfl _ _ HM6.out Tryz.underlying182 rfl (by rw [mapL_length]; exact info80) ?_)
          go_loopw [58, 9] (fun j x wj => ∃ k : Nat, k ≤ 256 ∧ j = .int .i64 k ∧ x = .int .u8 (cnt F4 k) ∧ Blk wj w.heap.size (rarr emptyN 11 (GG k)) 356 ∧ Kept w wj []) (fun j _ _ => 256 - (intOf j).toNat)
          case atStart => exact ⟨0, Nat.zero_le _, rfl, rfl, HR6.out, HK5.out⟩
          case round =>
            obtain ⟨k, hk, rfl, rfl, hR7, hK7⟩ := hrel
            have HR7 : Hid (Blk wr w.heap.size (rarr emptyN 11 (GG k)) 356) := hR7
            have HK7 : Hid (Kept w wr []) := hK7
            clear hR7 hK7 HM6 HR6 HK5
            by_cases hlt : k < 256
            · have hix := run_index80 F4 k hlt
              have hc5 : wr.cell? ⟨w.heap.size, 5, none⟩ = some (.int .i64 11) := (HR7.out.cell 5).trans (rarr_ts emptyN _ _ rfl)
              have hc : wr.cell? ⟨w.heap.size, 6 + k, none⟩ = some (.int .u8 (GG k k)) := (HR7.out.cell _).trans (rarr_map emptyN _ _ rfl k hlt)
              have hf : wr.frozen? ⟨w.heap.size, 6 + k, none⟩ = false := HR7.out.frozen _
              have hcb := cnt_bd k
              have hcl := cnt_le k (by omega)
              have HU : Hid (upd (GG k) k (FIN k) = GG (k + 1)) := GG_succ k
              have HC : Hid (cnt F4 (k + 1) = cnt F4 k + F4 k) := rfl
              rcases F4_two k with h0 | h1
              · have HFn : Hid (FIN k = 11) := by show _ = _; simp [FIN, h0]
                rw [h0] at hix
                have HF0 : Hid (F4 k = 0) := h0
                clear h0
                generalize cnt F4 k = ck at *
                go_wp2_with fail
                go_region
                go_wp2
                go_roundw
                case rel => exact ⟨k + 1, by omega, by go_num, by rw [HC.out, HF0.out]; simp, by rw [← HU.out, HFn.out, ← rarr_set_map emptyN 11 _ rfl]; exact HR7.out.set _ _, (HK7.out.setCell _ _ (.inr (Nat.le_refl _))).drew⟩
                case measure => simp [intOf]; omega
              · have HFn : Hid (FIN k = cnt F4 k) := by show _ = _; simp [FIN, h1]
                rw [h1] at hix
                have HF1 : Hid (F4 k = 1) := h1
                clear h1
                generalize cnt F4 k = ck at *
                go_wp2
                go_roundw
                case rel => exact ⟨k + 1, by omega, by go_num, by rw [HC.out, HF1.out], by rw [← HU.out, HFn.out, ← rarr_set_map emptyN 11 _ rfl]; exact HR7.out.set _ _, HK7.out.setCell _ _ (.inr (Nat.le_refl _))⟩
                case measure => simp [intOf]; omega
            · obtain rfl : k = 256 := by omega
              have hc5 : wr.cell? ⟨w.heap.size, 5, none⟩ = some (.int .i64 11) := (HR7.out.cell 5).trans (rarr_ts emptyN _ _ rfl)
              have hc4 : ∀ o, (wr.alloc o).cell? ⟨w.heap.size, 4, none⟩ = some nilS := fun o => ((HR7.out.alloc o).cell 4).trans (rarr_root emptyN _ _ rfl 4 (by omega))
              have hf4 : ∀ o, (wr.alloc o).frozen? ⟨w.heap.size, 4, none⟩ = false := fun o => (HR7.out.alloc o).frozen 4
              have hmk := mk97
              have hNr := HR7.out.lt
              go_wp2_with fail
              change Code.wp Tryz.prog _ _ _ (genW wr w.heap.size)
              have hG := genW_st w wr ob ex HR7.out HK7.out HO.out
              have HG : Hid (St w w.heap.size ob ex 0 (genW wr w.heap.size)) := hG
              clear hc5 hc4 hf4 hmk HR7 HK7 hG
              generalize genW wr w.heap.size = V at *
              go_loopw [12] (fun i wj => ∃ q : Nat, q ≤ 4 ∧ i = .int .i64 (2 * (q : Int)) ∧ St w w.heap.size ob ex q wj) (fun i _ => 8 - (intOf i).toNat)
              case atStart => exact ⟨0, by omega, rfl, HG.out⟩
              case round =>
                obtain ⟨q, hq, rfl, hS⟩ := hrel
                have HS : Hid (St w w.heap.size ob ex q wr) := hS
                clear hS HG
                by_cases hq4 : q < 4
                · obtain ⟨key, val, hc1, hc2, hadd⟩ := step_any w w.heap.size ob ex q wr hq4 HS.out
                  have HADD : Hid (Calls Tryz.prog 293 #[ptr w.heap.size, .string key, .string val, .int .i64 (8 - 2 * (q : Int)), ptr w.heap.size] wr.drew fun e w' => e = .returned (.tuple #[]) ∧ St w w.heap.size ob ex (q + 1) w') := hadd
                  clear hadd
                  have hlt8 : decide (2 * (q : Int) < 8) = true := decide_eq_true (by omega)
                  have hqi : (q : Int) < 4 := by omega
                  have hb1 : 2 * (q : Int) + 1 < 8 := by omega
                  have hb2 : (0 : Int) ≤ 2 * (q : Int) + 1 := by omega
                  have hwr : IntKind.i64.wrap (2 * (q : Int) + 1) = 2 * (q : Int) + 1 := IntWalk.i64_in _ ⟨by omega, by omega⟩
                  have hw8 : IntKind.i64.wrap (8 - 2 * (q : Int)) = 8 - 2 * (q : Int) := IntWalk.i64_in _ ⟨by omega, by omega⟩
                  have hnat : (2 * (q : Int) + 1).toNat = 2 * q + 1 := by omega
                  go_wp2_with fail
                  go_region_with (go_at_call 293; refine HADD.out.mono ?_; rintro e w1 ⟨rfl, hst⟩)
                  all_goals
                    go_wp2
                    go_roundw
                    case rel =>
                      repeat apply Exists.intro
                      exact ⟨st_rel hq4 (by assumption) (by go_num), rfl⟩
                    case measure => simp [intOf]; omega
                · obtain rfl : q = 4 := by omega
                  go_wp2
                  go_ret
                  exact ⟨rfl, HS.out.2, HS.out.1.2.1⟩
end Go.Proofs.YtbhcklkbckacpaaGreatDoor
