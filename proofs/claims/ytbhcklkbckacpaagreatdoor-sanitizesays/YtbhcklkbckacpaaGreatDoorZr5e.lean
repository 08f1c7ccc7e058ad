/-
  The reference's Read: what hides.
-/
import Derived.Test.YtbhcklkbckacpaaGreatDoorG8
namespace Go.Proofs.YtbhcklkbckacpaaGreatDoor
open Go.RowKit Go.Maps Go.WideMaps
def hidS : List UInt8 := [115, 99, 114, 105, 112, 116, 32, 115, 116, 121, 108, 101, 32, 116, 101, 109, 112, 108, 97, 116, 101, 32, 115, 118, 103, 32, 109, 97, 116, 104, 32, 105, 102, 114, 97, 109, 101, 32, 116, 105, 116, 108, 101, 32, 116, 101, 120, 116, 97, 114, 101, 97, 32, 110, 111, 115, 99, 114, 105, 112, 116]
theorem hid_fields : Lib.fields hidS = Sn.hiddenL := by decide +kernel
theorem hid_ascii : ∀ (j : Nat) b, (B hidS).data.toList[j]? = some b → b.toNat < 128 := by
  intro j b hb
  rw [B_data] at hb
  have hm := List.mem_of_getElem? hb
  have hall : hidS.all (fun b => decide (b.toNat < 128)) = true := by decide +kernel
  exact of_decide_eq_true (List.all_eq_true.1 hall b hm)
def nineB : List ByteArray := Sn.hiddenL.map B
theorem nine_has (n : List UInt8) : Lib.containsS (nineB.take 9) (B n) = Sn.hiddenL.contains n := by
  have h1 := Lib.containsS_iff (nineB.take 9) (B n)
  have h2 : B n ∈ nineB.take 9 ↔ Sn.hiddenL.contains n = true := by
    have e : nineB.take 9 = Sn.hiddenL.map B := rfl
    rw [e, List.contains_iff_mem]
    constructor
    · intro h
      obtain ⟨y, hy, hb⟩ := List.mem_map.1 h
      rw [← B_inj hb]; exact hy
    · intro h; exact List.mem_map.2 ⟨n, h, rfl⟩
  rw [h2] at h1
  exact Bool.eq_iff_iff.2 h1
def nineV : Array Value := (Sn.hiddenL.map fun l => Value.string ⟨l.toArray⟩).toArray
theorem nine_at (w : World) : ∀ j, j < nineB.length → (w.alloc (.cells nineV 9)).cell? ⟨w.heap.size, 0 + j, none⟩ = some (.string (nineB.getD j ByteArray.empty)) := by
  intro j hj
  have hb : Blk (w.alloc (.cells nineV 9)) w.heap.size nineV.toList 9 := Blk.new w nineV.toList 9
  rw [Nat.zero_add, hb.cell j]
  have hl : nineB.length = 9 := by decide +kernel
  rw [hl] at hj
  match j, hj with
  | 0, _ => rfl
  | 1, _ => rfl
  | 2, _ => rfl
  | 3, _ => rfl
  | 4, _ => rfl
  | 5, _ => rfl
  | 6, _ => rfl
  | 7, _ => rfl
  | 8, _ => rfl
set_option maxRecDepth 1000000 in
set_option maxHeartbeats 3200000 in
theorem rd_hide (w1 : World) (b : Nat) (ta : Option Addr) (nt tc : Nat) (s : Sn.S) (v : Value) (j tb : Nat) (t : Tk) (us : Nat → Value) (w2 : World) (K : Act → World → Prop) (Q : Exit → Act → World → Prop) (hC : AtTk w1 b s v tb t w2) (hK : ∀ us' v' w', RdM w1 b (Sn.step s t) v' w' → K (frmR b ta nt tc (Sn.step s t) j us') w') (hh : s.hides.isEmpty = true) (hk1 : ¬ t.kind = 1) (hk4 : ¬ t.kind = 4) (hbn : Sn.blockOf t.name = none) (m98 : ¬ t.name = [98]) (mst : ¬ t.name = [115, 116, 114, 111, 110, 103]) (m105 : ¬ t.name = [105]) (mem : ¬ t.name = [101, 109]) (m97 : ¬ t.name = [97]) (mbr : ¬ t.name = [98, 114]) (hk : ¬ t.kind = 3) (hTab : ∀ w', Kept w1 w' [b + 1, b + 2, b + 3] → Lib.TabIs Tryz.prog w' "strings.asciiSpace" .u8 Lib.asciiSpaceTab) (hin : Sn.hiddenL.contains t.name = true) :
    Code.wp Tryz.prog ((Tryz.f15.body.bind (blockOn 2)).getD .skip) (Exit.then K Q) (frmS b ta nt tc s j tb ((Sn.blockOf t.name).getD 0) (Sn.blockOf t.name).isSome us) w2 := by
  have hst : Sn.step s t = { s with hides := t.name } := by
    unfold Sn.step
    rw [hh, if_neg (by simp), if_neg (by simpa using hk1), if_neg (by simpa using hk4), hbn]
    show Sn.other s t = _
    unfold Sn.other
    rw [if_neg (by simp [Sn.boldL, m98, mst]), if_neg (by simp [Sn.slantL, m105, mem]), if_neg (by simpa using m97), if_neg (by simpa using hk), if_neg (by simpa [Sn.brL] using mbr), if_pos hin]
  rw [hst] at hK
  have HK : Hid (∀ us' v' w', RdM w1 b { s with hides := t.name } v' w' → K (frmR b ta nt tc { s with hides := t.name } j us') w') := hK
  have hM := hC.mem
  have hB := hC.blk
  have t0 : w2.cell? ⟨tb, 0, none⟩ = some (.int .i64 t.kind) := hB.cell 0
  have t1 : w2.cell? ⟨tb, 1, none⟩ = some (.string (B t.name)) := hB.cell 1
  have t2 : w2.cell? ⟨tb, 2, none⟩ = some (.string (B t.text)) := hB.cell 2
  have t3 : w2.cell? ⟨tb, 3, none⟩ = some (.string (B t.href)) := hB.cell 3
  have HM : Hid (RdM w1 b s v w2) := hM
  have HC : Hid (AtTk w1 b s v tb t w2) := hC
  have HB : Hid (Blk w2 tb (tkC t) 30) := hB
  have e0 : ((B s.hides).toList == []) = s.hides.isEmpty := by rw [toList_B]; cases s.hides <;> rfl
  have e1 : (B s.hides).toList.isEmpty = s.hides.isEmpty := by rw [toList_B]
  rw [hh] at e0 e1
  have b1 : (t.kind == 1) = false := by simpa using hk1
  have b4 : (t.kind == 4) = false := by simpa using hk4
  have n98 : ((B t.name).toList == [98]) = false := by rw [toList_B]; simpa using m98
  have nst : ((B t.name).toList == [115, 116, 114, 111, 110, 103]) = false := by rw [toList_B]; simpa using mst
  have n105 : ((B t.name).toList == [105]) = false := by rw [toList_B]; simpa using m105
  have nem : ((B t.name).toList == [101, 109]) = false := by rw [toList_B]; simpa using mem
  have n97 : ((B t.name).toList == [97]) = false := by rw [toList_B]; simpa using m97
  have hbs : (Sn.blockOf t.name).isSome = false := by rw [hbn]; rfl
  have nbr : ((B t.name).toList == [98, 114]) = false := by rw [toList_B]; simpa using mbr
  have b3 : (t.kind == 3) = false := by simpa using hk
  have HF : Hid (∀ w', Below w2.heap.size w2 w' → Calls Tryz.prog 73 #[.string (B hidS)] w' fun e w'' => e = .returned (.slice (some ⟨w'.heap.size, 0, none⟩) 9 9) ∧ w'' = w'.alloc (.cells nineV 9)) := fun w' hb => by
    have h1 := Tryz.strings_Fields (B hidS) w' (by rw [B_size]; decide) hid_ascii (hTab w' (hM.kp.trans (Kept.of hb _)))
    rw [B_data, hid_fields] at h1
    exact h1
  have HN : Hid (∀ w' g, (∀ j, j < nineB.length → w'.cell? ⟨g, 0 + j, none⟩ = some (.string (nineB.getD j ByteArray.empty))) → Calls Tryz.prog 72 #[.slice (some ⟨g, 0, none⟩) 9 9, .string (B t.name)] w' fun e w'' => e = .returned (.bool (Sn.hiddenL.contains t.name)) ∧ w'' = w') := fun w' g hc => by
    have h1 := Tryz.slices_Contains_string g 0 9 9 nineB (B t.name) w' (by decide +kernel) (by decide) hc
    rw [nine_has] at h1
    exact h1
  clear hTab hk mbr
  clear hbn hk1 hk4 hh m98 mst m105 mem m97
  rw [hin] at HN
  clear hin
  clear hK hst hM hB hC
  generalize (Sn.blockOf t.name).getD 0 = bk at *
  unfold frmS
  conv => arg 2; whnf
  go_upto_region 48 with fail
  go_cut [161] from 162 to 165 (fun x wx => x = .bool true ∧ Below w2.heap.size w2 wx)
  case first =>
    first
    | go_region_with (first | (go_at_call 73; refine (HF.out _ (by first | exact Below.refl _ _ | exact (Below.refl _ _).drew)).mono ?_; rintro e w3 ⟨rfl, hw⟩; have HN9 : Hid (∀ j, j < nineB.length → w3.cell? ⟨w2.heap.size, 0 + j, none⟩ = some (.string (nineB.getD j ByteArray.empty))) := (by rw [hw]; exact nine_at _); have t1c : w3.cell? ⟨tb, 1, none⟩ = some (.string (B t.name)) := (by rw [hw]; exact cell_under t1 (by first | exact (Below.refl _ _).alloc (Nat.le_refl _) _ | exact (Below.refl _ _).drew.alloc (Nat.le_refl _) _)); have HB3 : Hid (Below w2.heap.size w2 w3) := (by rw [hw]; first | exact (Below.refl _ _).alloc (Nat.le_refl _) _ | exact (Below.refl _ _).drew.alloc (Nat.le_refl _) _); clear hw) | (go_at_call 72; refine (HN.out _ _ HN9.out).mono ?_; rintro e w4 ⟨rfl, hw4⟩; rw [hw4]; clear hw4))
    | fail
    all_goals
      go_wp2
      go_meet
      case rel => exact ⟨rfl, HB3.out⟩
  case rest =>
    obtain ⟨rfl, hb⟩ := hcut
    have HW : Hid (RdM w1 b s v wc) := HM.out.far hb
    have t1c : wc.cell? ⟨tb, 1, none⟩ = some (.string (B t.name)) := cell_under t1 hb
    clear hb
    generalize wc = w5 at *
    go_wp2
    exact as_frame (frmR b ta nt tc { s with hides := t.name } j) (by kernel_rfl) (fun us' => HK.out us' v _ (HW.out.same rfl rfl rfl))
set_option maxRecDepth 1000000 in
set_option maxHeartbeats 3200000 in
theorem rd_else (w1 : World) (b : Nat) (ta : Option Addr) (nt tc : Nat) (s : Sn.S) (v : Value) (j tb : Nat) (t : Tk) (us : Nat → Value) (w2 : World) (K : Act → World → Prop) (Q : Exit → Act → World → Prop) (hC : AtTk w1 b s v tb t w2) (hK : ∀ us' v' w', RdM w1 b (Sn.step s t) v' w' → K (frmR b ta nt tc (Sn.step s t) j us') w') (hh : s.hides.isEmpty = true) (hk1 : ¬ t.kind = 1) (hk4 : ¬ t.kind = 4) (hbn : Sn.blockOf t.name = none) (m98 : ¬ t.name = [98]) (mst : ¬ t.name = [115, 116, 114, 111, 110, 103]) (m105 : ¬ t.name = [105]) (mem : ¬ t.name = [101, 109]) (m97 : ¬ t.name = [97]) (mbr : ¬ t.name = [98, 114]) (hk : ¬ t.kind = 3) (hTab : ∀ w', Kept w1 w' [b + 1, b + 2, b + 3] → Lib.TabIs Tryz.prog w' "strings.asciiSpace" .u8 Lib.asciiSpaceTab) (hin : Sn.hiddenL.contains t.name = false) :
    Code.wp Tryz.prog ((Tryz.f15.body.bind (blockOn 2)).getD .skip) (Exit.then K Q) (frmS b ta nt tc s j tb ((Sn.blockOf t.name).getD 0) (Sn.blockOf t.name).isSome us) w2 := by
  have hst : Sn.step s t = s := by
    unfold Sn.step
    rw [hh, if_neg (by simp), if_neg (by simpa using hk1), if_neg (by simpa using hk4), hbn]
    show Sn.other s t = _
    unfold Sn.other
    rw [if_neg (by simp [Sn.boldL, m98, mst]), if_neg (by simp [Sn.slantL, m105, mem]), if_neg (by simpa using m97), if_neg (by simpa using hk), if_neg (by simpa [Sn.brL] using mbr), if_neg (by rw [hin]; simp)]
  rw [hst] at hK
  have HK : Hid (∀ us' v' w', RdM w1 b s v' w' → K (frmR b ta nt tc s j us') w') := hK
  have hM := hC.mem
  have hB := hC.blk
  have t0 : w2.cell? ⟨tb, 0, none⟩ = some (.int .i64 t.kind) := hB.cell 0
  have t1 : w2.cell? ⟨tb, 1, none⟩ = some (.string (B t.name)) := hB.cell 1
  have t2 : w2.cell? ⟨tb, 2, none⟩ = some (.string (B t.text)) := hB.cell 2
  have t3 : w2.cell? ⟨tb, 3, none⟩ = some (.string (B t.href)) := hB.cell 3
  have HM : Hid (RdM w1 b s v w2) := hM
  have HC : Hid (AtTk w1 b s v tb t w2) := hC
  have HB : Hid (Blk w2 tb (tkC t) 30) := hB
  have e0 : ((B s.hides).toList == []) = s.hides.isEmpty := by rw [toList_B]; cases s.hides <;> rfl
  have e1 : (B s.hides).toList.isEmpty = s.hides.isEmpty := by rw [toList_B]
  rw [hh] at e0 e1
  have b1 : (t.kind == 1) = false := by simpa using hk1
  have b4 : (t.kind == 4) = false := by simpa using hk4
  have n98 : ((B t.name).toList == [98]) = false := by rw [toList_B]; simpa using m98
  have nst : ((B t.name).toList == [115, 116, 114, 111, 110, 103]) = false := by rw [toList_B]; simpa using mst
  have n105 : ((B t.name).toList == [105]) = false := by rw [toList_B]; simpa using m105
  have nem : ((B t.name).toList == [101, 109]) = false := by rw [toList_B]; simpa using mem
  have n97 : ((B t.name).toList == [97]) = false := by rw [toList_B]; simpa using m97
  have hbs : (Sn.blockOf t.name).isSome = false := by rw [hbn]; rfl
  have nbr : ((B t.name).toList == [98, 114]) = false := by rw [toList_B]; simpa using mbr
  have b3 : (t.kind == 3) = false := by simpa using hk
  have HF : Hid (∀ w', Below w2.heap.size w2 w' → Calls Tryz.prog 73 #[.string (B hidS)] w' fun e w'' => e = .returned (.slice (some ⟨w'.heap.size, 0, none⟩) 9 9) ∧ w'' = w'.alloc (.cells nineV 9)) := fun w' hb => by
    have h1 := Tryz.strings_Fields (B hidS) w' (by rw [B_size]; decide) hid_ascii (hTab w' (hM.kp.trans (Kept.of hb _)))
    rw [B_data, hid_fields] at h1
    exact h1
  have HN : Hid (∀ w' g, (∀ j, j < nineB.length → w'.cell? ⟨g, 0 + j, none⟩ = some (.string (nineB.getD j ByteArray.empty))) → Calls Tryz.prog 72 #[.slice (some ⟨g, 0, none⟩) 9 9, .string (B t.name)] w' fun e w'' => e = .returned (.bool (Sn.hiddenL.contains t.name)) ∧ w'' = w') := fun w' g hc => by
    have h1 := Tryz.slices_Contains_string g 0 9 9 nineB (B t.name) w' (by decide +kernel) (by decide) hc
    rw [nine_has] at h1
    exact h1
  clear hTab hk mbr
  clear hbn hk1 hk4 hh m98 mst m105 mem m97
  rw [hin] at HN
  clear hin
  clear hK hst hM hB hC
  generalize (Sn.blockOf t.name).getD 0 = bk at *
  unfold frmS
  conv => arg 2; whnf
  go_upto_region 48 with fail
  go_cut [161] from 162 to 165 (fun x wx => x = .bool false ∧ Below w2.heap.size w2 wx)
  case first =>
    first
    | go_region_with (first | (go_at_call 73; refine (HF.out _ (by first | exact Below.refl _ _ | exact (Below.refl _ _).drew)).mono ?_; rintro e w3 ⟨rfl, hw⟩; have HN9 : Hid (∀ j, j < nineB.length → w3.cell? ⟨w2.heap.size, 0 + j, none⟩ = some (.string (nineB.getD j ByteArray.empty))) := (by rw [hw]; exact nine_at _); have t1c : w3.cell? ⟨tb, 1, none⟩ = some (.string (B t.name)) := (by rw [hw]; exact cell_under t1 (by first | exact (Below.refl _ _).alloc (Nat.le_refl _) _ | exact (Below.refl _ _).drew.alloc (Nat.le_refl _) _)); have HB3 : Hid (Below w2.heap.size w2 w3) := (by rw [hw]; first | exact (Below.refl _ _).alloc (Nat.le_refl _) _ | exact (Below.refl _ _).drew.alloc (Nat.le_refl _) _); clear hw) | (go_at_call 72; refine (HN.out _ _ HN9.out).mono ?_; rintro e w4 ⟨rfl, hw4⟩; rw [hw4]; clear hw4))
    | fail
    all_goals
      go_wp2
      go_meet
      case rel => exact ⟨rfl, HB3.out⟩
  case rest =>
    obtain ⟨rfl, hb⟩ := hcut
    have HW : Hid (RdM w1 b s v wc) := HM.out.far hb
    have t1c : wc.cell? ⟨tb, 1, none⟩ = some (.string (B t.name)) := cell_under t1 hb
    clear hb
    generalize wc = w5 at *
    go_wp2
    exact as_frame (frmR b ta nt tc s j) (by kernel_rfl) (fun us' => HK.out us' v _ (HW.out))
end Go.Proofs.YtbhcklkbckacpaaGreatDoor
