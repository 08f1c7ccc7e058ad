/-
  token.token and token.Page: what a page is taken apart into is what chapter 5 says.
-/
import Derived.Test.YtbhcklkbckacpaaGreatDoorTc
namespace Go.Proofs.YtbhcklkbckacpaaGreatDoor
open Go.RowKit

set_option maxRecDepth 100000 in
set_option maxHeartbeats 800000 in
theorem token_text (b : Nat) (c : UInt8) (t : List UInt8) (w : World) (hR : Rd w b (c :: t)) (hE : Env w b) (hl : t.length ≤ 19999) (h60 : ((c.toNat : Int) != 60) = true) :
    Calls Tryz.prog 52 #[.pointer (some ⟨b, 0, none⟩)] w fun e w' => e = .returned (.tuple #[tkA (Tk.txt (Esc.rd ((c :: t).takeWhile (Tk.not 60)))), .bool true]) ∧ Rd w' b ((c :: t).dropWhile (Tk.not 60)) ∧ Kept w w' [b] := by
  have hbw : b < w.heap.size := hR.lt
  have r0 := hR.cell
  have R0 : Hid (Rd (zT w) b (c :: t)) := hR.far (zT_below w)
  have K0 : Hid (Kept w (zT w) [b]) := Kept.of (zT_below w) _
  have E0 : Hid (Env (zT w) b) := hE.below (zT_below w)
  have S0 : Hid (Blk (zT w) w.heap.size (tkC tk0) 30) := zT_blk w
  have z1 := B_size (c :: t)
  have hix := run_index_at (B (c :: t)) 0 (by rw [z1]; simp)
  have hget : (B (c :: t))[0]'(by rw [z1]; simp) = c := by simp [B, ByteArray.getElem_eq_getElem_data]
  rw [hget] at hix
  have h60b : ((((B (c :: t))[0]'(by rw [z1]; simp)).toNat : Int) != 60) = true := by rw [hget]; exact h60
  simp only [List.length_cons] at z1
  clear hR hE hget
  have d1 := tw_len (Tk.not 60) (c :: t)
  simp only [List.length_cons] at d1
  obtain ⟨x, hx⟩ : ∃ x, Esc.rd ((c :: t).takeWhile (Tk.not 60)) = x := ⟨_, rfl⟩
  have HX : Hid (Esc.rd ((c :: t).takeWhile (Tk.not 60)) = x) := hx
  rw [hx]
  clear hx
  go_enter Tryz.func52, Tryz.ntmps52
  go_wp2_with fail
  refine (oneOf_any [60] _).mono ?_
  rintro e w1 ⟨rfl, hA, hb⟩
  have A1 : Hid (Blk w1 (w.heap.size + 1) [.string (B [60])] 9) := by rw [← zT_size w]; exact hA
  have R1 : Hid (Rd w1 b (c :: t)) := R0.out.far hb
  have K1 : Hid (Kept w w1 [b]) := K0.out.far hb
  have E1 : Hid (Env w1 b) := E0.out.below hb
  have S1 : Hid (Blk w1 w.heap.size (tkC tk0) 30) := S0.out.under hb
  clear hA hb
  go_wp2_with fail
  refine (upTo_one _ b (Tk.not 60) [60] (c :: t) w1 (fun c => Tk.in_one 60 c) R1.out A1.out (by simp only [List.length_cons]; omega)).mono ?_
  rintro e w2 ⟨rfl, hR, hK⟩
  have R2 : Hid (Rd w2 b ((c :: t).dropWhile (Tk.not 60))) := hR
  have K2 : Hid (Kept w w2 [b]) := K1.out.trans hK
  have E2 : Hid (Env w2 b) := E1.out.kept hK (Nat.le_refl _)
  have S2 : Hid (Blk w2 w.heap.size (tkC tk0) 30) := S1.out.beside hK (by omega)
  clear hR hK
  go_wp2_with fail
  refine (text_any ((c :: t).takeWhile (Tk.not 60)) w2 E2.out.pairs (by omega)).mono ?_
  rintro e w3 ⟨rfl, hb⟩
  have R3 : Hid (Rd w3 b ((c :: t).dropWhile (Tk.not 60))) := R2.out.far hb
  have K3 : Hid (Kept w w3 [b]) := K2.out.far hb
  have E3 : Hid (Env w3 b) := E2.out.below hb
  have S3 : Hid (Blk w3 w.heap.size (tkC tk0) 30) := S2.out.under hb
  clear hb
  rw [HX.out]
  unfold tkA Tk.txt
  simp only
  have s0 : w3.cell? ⟨w.heap.size, 0, none⟩ = some (.int .i64 0) := S3.out.cell 0
  have sf0 := S3.out.frozen 0
  have s1 : w3.cell? ⟨w.heap.size, 1, none⟩ = some (.string (B ([]))) := S3.out.cell 1
  have sf1 := S3.out.frozen 1
  have s2 : w3.cell? ⟨w.heap.size, 2, none⟩ = some (.string (B ([]))) := S3.out.cell 2
  have sf2 := S3.out.frozen 2
  have s3 : w3.cell? ⟨w.heap.size, 3, none⟩ = some (.string (B ([]))) := S3.out.cell 3
  have sf3 := S3.out.frozen 3
  have hlt : b ≠ w.heap.size := by omega
  go_wp2
  change bodyPost Tryz.prog _ _ Exit.ret _ (putT w3 w.heap.size (Tk.txt x))
  exact bodyPost_ret (ret_tok2 (k := (Tk.txt x)) rfl _ rfl (putT_blk S3.out)) rfl ⟨rfl, Rd.over R3.out (putT_kept _ _ _ _ (List.mem_singleton.2 rfl)) hlt, K3.out.trans_new (putT_kept _ _ _ _ (List.mem_singleton.2 rfl)) (fun x hx => by rw [List.mem_singleton.1 hx]; exact .inr (Nat.le_refl _))⟩

set_option maxRecDepth 100000 in
set_option maxHeartbeats 800000 in
theorem token_comment (b : Nat) (t : List UInt8) (w : World) (hR : Rd w b (60 :: t)) (hE : Env w b) (hl : t.length ≤ 19999) (h1 : ([60, 33, 45, 45] : List UInt8).isPrefixOf (60 :: t) = true) :
    Calls Tryz.prog 52 #[.pointer (some ⟨b, 0, none⟩)] w fun e w' => e = .returned (.tuple #[tkA Tk.oth, .bool true]) ∧ Rd w' b ((Tk.after [45, 45, 62] (t.drop 3)).getD []) ∧ Kept w w' [b] := by
  have hbw : b < w.heap.size := hR.lt
  have r0 := hR.cell
  have R0 : Hid (Rd (zT w) b (60 :: t)) := hR.far (zT_below w)
  have K0 : Hid (Kept w (zT w) [b]) := Kept.of (zT_below w) _
  have E0 : Hid (Env (zT w) b) := hE.below (zT_below w)
  have S0 : Hid (Blk (zT w) w.heap.size (tkC tk0) 30) := zT_blk w
  have z1 := B_size (60 :: t)
  have hix := run_index_at (B (60 :: t)) 0 (by rw [z1]; simp)
  have hget : (B (60 :: t))[0]'(by rw [z1]; simp) = 60 := by simp [B, ByteArray.getElem_eq_getElem_data]
  rw [hget] at hix
  have h60b : ((((B (60 :: t))[0]'(by rw [z1]; simp)).toNat : Int) != 60) = false := by rw [hget]; rfl
  simp only [List.length_cons] at z1
  clear hR hE hget
  have hle : 3 ≤ t.length := by have := (List.isPrefixOf_iff_prefix.1 h1).length_le; simp at this; omega
  have d1 : (t.drop 3).length ≤ 20000 := by simp; omega
  have H1 : Hid (([60, 33, 45, 45] : List UInt8).isPrefixOf (60 :: t) = true) := h1
  clear h1
  have h60 : (((60 : UInt8).toNat : Int) != 60) = false := rfl
  go_enter Tryz.func52, Tryz.ntmps52
  go_wp2_with fail
  refine (begins_any b (60 :: t) [60, 33, 45, 45] _ R0.out).mono ?_
  rintro e wx ⟨rfl, hw⟩
  rw [hw, H1.out]
  clear hw wx
  go_wp2_with fail
  refine (take_any b 4 (60 :: t) _ R0.out (by simp; omega)).mono ?_
  rintro e w1 ⟨rfl, hR, hK⟩
  have R1 : Hid (Rd w1 b (t.drop 3)) := hR
  have K1 : Hid (Kept w w1 [b]) := K0.out.trans hK
  have E1 : Hid (Env w1 b) := E0.out.kept hK (Nat.le_refl _)
  have S1 : Hid (Blk w1 w.heap.size (tkC tk0) 30) := S0.out.beside hK (by omega)
  clear hR hK
  go_wp2_with fail
  refine (through_any b (t.drop 3) [45, 45, 62] w1 R1.out E1.out d1 (by simp)).mono ?_
  rintro e w2 ⟨rfl, hR, hK⟩
  have R2 : Hid (Rd w2 b ((Tk.after [45, 45, 62] (t.drop 3)).getD [])) := hR
  have K2 : Hid (Kept w w2 [b]) := K1.out.trans hK
  have E2 : Hid (Env w2 b) := E1.out.kept hK (Nat.le_refl _)
  have S2 : Hid (Blk w2 w.heap.size (tkC tk0) 30) := S1.out.beside hK (by omega)
  clear hR hK
  have s0 : w2.cell? ⟨w.heap.size, 0, none⟩ = some (.int .i64 0) := S2.out.cell 0
  have sf0 := S2.out.frozen 0
  have s1 : w2.cell? ⟨w.heap.size, 1, none⟩ = some (.string (B ([]))) := S2.out.cell 1
  have sf1 := S2.out.frozen 1
  have s2 : w2.cell? ⟨w.heap.size, 2, none⟩ = some (.string (B ([]))) := S2.out.cell 2
  have sf2 := S2.out.frozen 2
  have s3 : w2.cell? ⟨w.heap.size, 3, none⟩ = some (.string (B ([]))) := S2.out.cell 3
  have sf3 := S2.out.frozen 3
  have hlt : b ≠ w.heap.size := by omega
  go_wp2
  change bodyPost Tryz.prog _ _ Exit.ret _ (putT w2 w.heap.size Tk.oth)
  exact bodyPost_ret (ret_tok2 (k := Tk.oth) rfl _ rfl (putT_blk S2.out)) rfl ⟨rfl, Rd.over R2.out (putT_kept _ _ _ _ (List.mem_singleton.2 rfl)) hlt, K2.out.trans_new (putT_kept _ _ _ _ (List.mem_singleton.2 rfl)) (fun x hx => by rw [List.mem_singleton.1 hx]; exact .inr (Nat.le_refl _))⟩

set_option maxRecDepth 100000 in
set_option maxHeartbeats 800000 in
theorem token_bang (b : Nat) (t : List UInt8) (w : World) (hR : Rd w b (60 :: t)) (hE : Env w b) (hl : t.length ≤ 19999) (h1 : ([60, 33, 45, 45] : List UInt8).isPrefixOf (60 :: t) = false) (h2 : ([60, 33] : List UInt8).isPrefixOf (60 :: t) = true) :
    Calls Tryz.prog 52 #[.pointer (some ⟨b, 0, none⟩)] w fun e w' => e = .returned (.tuple #[tkA Tk.oth, .bool true]) ∧ Rd w' b ((Tk.after [62] (60 :: t)).getD []) ∧ Kept w w' [b] := by
  have hbw : b < w.heap.size := hR.lt
  have r0 := hR.cell
  have R0 : Hid (Rd (zT w) b (60 :: t)) := hR.far (zT_below w)
  have K0 : Hid (Kept w (zT w) [b]) := Kept.of (zT_below w) _
  have E0 : Hid (Env (zT w) b) := hE.below (zT_below w)
  have S0 : Hid (Blk (zT w) w.heap.size (tkC tk0) 30) := zT_blk w
  have z1 := B_size (60 :: t)
  have hix := run_index_at (B (60 :: t)) 0 (by rw [z1]; simp)
  have hget : (B (60 :: t))[0]'(by rw [z1]; simp) = 60 := by simp [B, ByteArray.getElem_eq_getElem_data]
  rw [hget] at hix
  have h60b : ((((B (60 :: t))[0]'(by rw [z1]; simp)).toNat : Int) != 60) = false := by rw [hget]; rfl
  simp only [List.length_cons] at z1
  clear hR hE hget
  have H1 : Hid (([60, 33, 45, 45] : List UInt8).isPrefixOf (60 :: t) = false) := h1
  have H2 : Hid (([60, 33] : List UInt8).isPrefixOf (60 :: t) = true) := h2
  clear h1 h2
  have h60 : (((60 : UInt8).toNat : Int) != 60) = false := rfl
  go_enter Tryz.func52, Tryz.ntmps52
  go_wp2_with fail
  refine (begins_any b (60 :: t) [60, 33, 45, 45] _ R0.out).mono ?_
  rintro e wx ⟨rfl, hw⟩
  rw [hw, H1.out]
  clear hw wx
  go_wp2_with fail
  refine (begins_any b (60 :: t) [60, 33] _ R0.out).mono ?_
  rintro e wx ⟨rfl, hw⟩
  rw [hw, H2.out]
  clear hw wx
  go_wp2_with fail
  refine (through_any b (60 :: t) [62] _ R0.out E0.out (by simp only [List.length_cons]; omega) (by simp)).mono ?_
  rintro e w1 ⟨rfl, hR, hK⟩
  have R1 : Hid (Rd w1 b ((Tk.after [62] (60 :: t)).getD [])) := hR
  have K1 : Hid (Kept w w1 [b]) := K0.out.trans hK
  have E1 : Hid (Env w1 b) := E0.out.kept hK (Nat.le_refl _)
  have S1 : Hid (Blk w1 w.heap.size (tkC tk0) 30) := S0.out.beside hK (by omega)
  clear hR hK
  have s0 : w1.cell? ⟨w.heap.size, 0, none⟩ = some (.int .i64 0) := S1.out.cell 0
  have sf0 := S1.out.frozen 0
  have s1 : w1.cell? ⟨w.heap.size, 1, none⟩ = some (.string (B ([]))) := S1.out.cell 1
  have sf1 := S1.out.frozen 1
  have s2 : w1.cell? ⟨w.heap.size, 2, none⟩ = some (.string (B ([]))) := S1.out.cell 2
  have sf2 := S1.out.frozen 2
  have s3 : w1.cell? ⟨w.heap.size, 3, none⟩ = some (.string (B ([]))) := S1.out.cell 3
  have sf3 := S1.out.frozen 3
  have hlt : b ≠ w.heap.size := by omega
  go_wp2
  change bodyPost Tryz.prog _ _ Exit.ret _ (putT w1 w.heap.size Tk.oth)
  exact bodyPost_ret (ret_tok2 (k := Tk.oth) rfl _ rfl (putT_blk S1.out)) rfl ⟨rfl, Rd.over R1.out (putT_kept _ _ _ _ (List.mem_singleton.2 rfl)) hlt, K1.out.trans_new (putT_kept _ _ _ _ (List.mem_singleton.2 rfl)) (fun x hx => by rw [List.mem_singleton.1 hx]; exact .inr (Nat.le_refl _))⟩

set_option maxRecDepth 100000 in
set_option maxHeartbeats 800000 in
theorem token_quest (b : Nat) (t : List UInt8) (w : World) (hR : Rd w b (60 :: t)) (hE : Env w b) (hl : t.length ≤ 19999) (h1 : ([60, 33, 45, 45] : List UInt8).isPrefixOf (60 :: t) = false) (h2 : ([60, 33] : List UInt8).isPrefixOf (60 :: t) = false) (h3 : ([60, 63] : List UInt8).isPrefixOf (60 :: t) = true) :
    Calls Tryz.prog 52 #[.pointer (some ⟨b, 0, none⟩)] w fun e w' => e = .returned (.tuple #[tkA Tk.oth, .bool true]) ∧ Rd w' b ((Tk.after [62] (60 :: t)).getD []) ∧ Kept w w' [b] := by
  have hbw : b < w.heap.size := hR.lt
  have r0 := hR.cell
  have R0 : Hid (Rd (zT w) b (60 :: t)) := hR.far (zT_below w)
  have K0 : Hid (Kept w (zT w) [b]) := Kept.of (zT_below w) _
  have E0 : Hid (Env (zT w) b) := hE.below (zT_below w)
  have S0 : Hid (Blk (zT w) w.heap.size (tkC tk0) 30) := zT_blk w
  have z1 := B_size (60 :: t)
  have hix := run_index_at (B (60 :: t)) 0 (by rw [z1]; simp)
  have hget : (B (60 :: t))[0]'(by rw [z1]; simp) = 60 := by simp [B, ByteArray.getElem_eq_getElem_data]
  rw [hget] at hix
  have h60b : ((((B (60 :: t))[0]'(by rw [z1]; simp)).toNat : Int) != 60) = false := by rw [hget]; rfl
  simp only [List.length_cons] at z1
  clear hR hE hget
  have H1 : Hid (([60, 33, 45, 45] : List UInt8).isPrefixOf (60 :: t) = false) := h1
  have H2 : Hid (([60, 33] : List UInt8).isPrefixOf (60 :: t) = false) := h2
  have H3 : Hid (([60, 63] : List UInt8).isPrefixOf (60 :: t) = true) := h3
  clear h1 h2 h3
  have h60 : (((60 : UInt8).toNat : Int) != 60) = false := rfl
  go_enter Tryz.func52, Tryz.ntmps52
  go_wp2_with fail
  refine (begins_any b (60 :: t) [60, 33, 45, 45] _ R0.out).mono ?_
  rintro e wx ⟨rfl, hw⟩
  rw [hw, H1.out]
  clear hw wx
  go_wp2_with fail
  refine (begins_any b (60 :: t) [60, 33] _ R0.out).mono ?_
  rintro e wx ⟨rfl, hw⟩
  rw [hw, H2.out]
  clear hw wx
  go_wp2_with fail
  refine (begins_any b (60 :: t) [60, 63] _ R0.out).mono ?_
  rintro e wx ⟨rfl, hw⟩
  rw [hw, H3.out]
  clear hw wx
  go_wp2_with fail
  refine (through_any b (60 :: t) [62] _ R0.out E0.out (by simp only [List.length_cons]; omega) (by simp)).mono ?_
  rintro e w1 ⟨rfl, hR, hK⟩
  have R1 : Hid (Rd w1 b ((Tk.after [62] (60 :: t)).getD [])) := hR
  have K1 : Hid (Kept w w1 [b]) := K0.out.trans hK
  have E1 : Hid (Env w1 b) := E0.out.kept hK (Nat.le_refl _)
  have S1 : Hid (Blk w1 w.heap.size (tkC tk0) 30) := S0.out.beside hK (by omega)
  clear hR hK
  have s0 : w1.cell? ⟨w.heap.size, 0, none⟩ = some (.int .i64 0) := S1.out.cell 0
  have sf0 := S1.out.frozen 0
  have s1 : w1.cell? ⟨w.heap.size, 1, none⟩ = some (.string (B ([]))) := S1.out.cell 1
  have sf1 := S1.out.frozen 1
  have s2 : w1.cell? ⟨w.heap.size, 2, none⟩ = some (.string (B ([]))) := S1.out.cell 2
  have sf2 := S1.out.frozen 2
  have s3 : w1.cell? ⟨w.heap.size, 3, none⟩ = some (.string (B ([]))) := S1.out.cell 3
  have sf3 := S1.out.frozen 3
  have hlt : b ≠ w.heap.size := by omega
  go_wp2
  change bodyPost Tryz.prog _ _ Exit.ret _ (putT w1 w.heap.size Tk.oth)
  exact bodyPost_ret (ret_tok2 (k := Tk.oth) rfl _ rfl (putT_blk S1.out)) rfl ⟨rfl, Rd.over R1.out (putT_kept _ _ _ _ (List.mem_singleton.2 rfl)) hlt, K1.out.trans_new (putT_kept _ _ _ _ (List.mem_singleton.2 rfl)) (fun x hx => by rw [List.mem_singleton.1 hx]; exact .inr (Nat.le_refl _))⟩

set_option maxRecDepth 100000 in
set_option maxHeartbeats 800000 in
theorem token_open (b : Nat) (t : List UInt8) (w : World) (hR : Rd w b (60 :: t)) (hE : Env w b) (hl : t.length ≤ 19999) (h1 : ([60, 33, 45, 45] : List UInt8).isPrefixOf (60 :: t) = false) (h2 : ([60, 33] : List UInt8).isPrefixOf (60 :: t) = false) (h3 : ([60, 63] : List UInt8).isPrefixOf (60 :: t) = false) (h4 : lbh [60] (60 :: t) = true) :
    Calls Tryz.prog 52 #[.pointer (some ⟨b, 0, none⟩)] w fun e w' => ∃ k whole rest, e = .returned (.tuple #[tkA k, .bool whole]) ∧ Tk.tag false t = (if whole then [k] else [], rest) ∧ Rd w' b rest ∧ Kept w w' [b] := by
  have hbw : b < w.heap.size := hR.lt
  have r0 := hR.cell
  have R0 : Hid (Rd (zT w) b (60 :: t)) := hR.far (zT_below w)
  have K0 : Hid (Kept w (zT w) [b]) := Kept.of (zT_below w) _
  have E0 : Hid (Env (zT w) b) := hE.below (zT_below w)
  have S0 : Hid (Blk (zT w) w.heap.size (tkC tk0) 30) := zT_blk w
  have z1 := B_size (60 :: t)
  have hix := run_index_at (B (60 :: t)) 0 (by rw [z1]; simp)
  have hget : (B (60 :: t))[0]'(by rw [z1]; simp) = 60 := by simp [B, ByteArray.getElem_eq_getElem_data]
  rw [hget] at hix
  have h60b : ((((B (60 :: t))[0]'(by rw [z1]; simp)).toNat : Int) != 60) = false := by rw [hget]; rfl
  simp only [List.length_cons] at z1
  clear hR hE hget
  have H1 : Hid (([60, 33, 45, 45] : List UInt8).isPrefixOf (60 :: t) = false) := h1
  have H2 : Hid (([60, 33] : List UInt8).isPrefixOf (60 :: t) = false) := h2
  have H3 : Hid (([60, 63] : List UInt8).isPrefixOf (60 :: t) = false) := h3
  have H4 : Hid (lbh [60] (60 :: t) = true) := h4
  clear h1 h2 h3 h4
  have h60 : (((60 : UInt8).toNat : Int) != 60) = false := rfl
  go_enter Tryz.func52, Tryz.ntmps52
  go_wp2_with fail
  refine (begins_any b (60 :: t) [60, 33, 45, 45] _ R0.out).mono ?_
  rintro e wx ⟨rfl, hw⟩
  rw [hw, H1.out]
  clear hw wx
  go_wp2_with fail
  refine (begins_any b (60 :: t) [60, 33] _ R0.out).mono ?_
  rintro e wx ⟨rfl, hw⟩
  rw [hw, H2.out]
  clear hw wx
  go_wp2_with fail
  refine (begins_any b (60 :: t) [60, 63] _ R0.out).mono ?_
  rintro e wx ⟨rfl, hw⟩
  rw [hw, H3.out]
  clear hw wx
  go_wp2_with fail
  refine (lbh_any b (60 :: t) [60] _ R0.out).mono ?_
  rintro e wx ⟨rfl, hw⟩
  rw [hw, H4.out]
  clear hw wx
  go_wp2_with fail
  refine (take_any b 1 (60 :: t) _ R0.out (by simp)).mono ?_
  rintro e w1 ⟨rfl, hR, hK⟩
  have R1 : Hid (Rd w1 b (t)) := hR
  have K1 : Hid (Kept w w1 [b]) := K0.out.trans hK
  have E1 : Hid (Env w1 b) := E0.out.kept hK (Nat.le_refl _)
  have S1 : Hid (Blk w1 w.heap.size (tkC tk0) 30) := S0.out.beside hK (by omega)
  clear hR hK
  go_wp2_with fail
  refine (tag_2 b (t) w1 R1.out E1.out (by simp at *; omega)).mono ?_
  rintro e w2 ⟨k, whole, rest, rfl, ht, hR, hK⟩
  obtain ⟨kk, kn, kt, kh⟩ := k
  have HT : Hid (Tk.tag false (t) = (if whole then [⟨kk, kn, kt, kh⟩] else [], rest)) := ht
  have R2 : Hid (Rd w2 b (rest)) := hR
  have K2 : Hid (Kept w w2 [b]) := K1.out.trans hK
  have E2 : Hid (Env w2 b) := E1.out.kept hK (Nat.le_refl _)
  have S2 : Hid (Blk w2 w.heap.size (tkC tk0) 30) := S1.out.beside hK (by omega)
  clear hR hK ht
  unfold tkA
  simp only
  have s0 : w2.cell? ⟨w.heap.size, 0, none⟩ = some (.int .i64 0) := S2.out.cell 0
  have sf0 := S2.out.frozen 0
  have s1 : w2.cell? ⟨w.heap.size, 1, none⟩ = some (.string (B ([]))) := S2.out.cell 1
  have sf1 := S2.out.frozen 1
  have s2 : w2.cell? ⟨w.heap.size, 2, none⟩ = some (.string (B ([]))) := S2.out.cell 2
  have sf2 := S2.out.frozen 2
  have s3 : w2.cell? ⟨w.heap.size, 3, none⟩ = some (.string (B ([]))) := S2.out.cell 3
  have sf3 := S2.out.frozen 3
  have hlt : b ≠ w.heap.size := by omega
  go_wp2
  change bodyPost Tryz.prog _ _ Exit.ret _ (putT w2 w.heap.size ⟨kk, kn, kt, kh⟩)
  exact bodyPost_ret (ret_tok2 (k := ⟨kk, kn, kt, kh⟩) rfl _ rfl (putT_blk S2.out)) rfl ⟨⟨kk, kn, kt, kh⟩, whole, rest, rfl, HT.out, Rd.over R2.out (putT_kept _ _ _ _ (List.mem_singleton.2 rfl)) hlt, K2.out.trans_new (putT_kept _ _ _ _ (List.mem_singleton.2 rfl)) (fun x hx => by rw [List.mem_singleton.1 hx]; exact .inr (Nat.le_refl _))⟩

set_option maxRecDepth 100000 in
set_option maxHeartbeats 800000 in
theorem token_shut (b : Nat) (t : List UInt8) (w : World) (hR : Rd w b (60 :: t)) (hE : Env w b) (hl : t.length ≤ 19999) (h1 : ([60, 33, 45, 45] : List UInt8).isPrefixOf (60 :: t) = false) (h2 : ([60, 33] : List UInt8).isPrefixOf (60 :: t) = false) (h3 : ([60, 63] : List UInt8).isPrefixOf (60 :: t) = false) (h4 : lbh [60] (60 :: t) = false) (h5 : lbh [60, 47] (60 :: t) = true) :
    Calls Tryz.prog 52 #[.pointer (some ⟨b, 0, none⟩)] w fun e w' => ∃ k whole rest, e = .returned (.tuple #[tkA k, .bool whole]) ∧ Tk.tag true (t.drop 1) = (if whole then [k] else [], rest) ∧ Rd w' b rest ∧ Kept w w' [b] := by
  have hbw : b < w.heap.size := hR.lt
  have r0 := hR.cell
  have R0 : Hid (Rd (zT w) b (60 :: t)) := hR.far (zT_below w)
  have K0 : Hid (Kept w (zT w) [b]) := Kept.of (zT_below w) _
  have E0 : Hid (Env (zT w) b) := hE.below (zT_below w)
  have S0 : Hid (Blk (zT w) w.heap.size (tkC tk0) 30) := zT_blk w
  have z1 := B_size (60 :: t)
  have hix := run_index_at (B (60 :: t)) 0 (by rw [z1]; simp)
  have hget : (B (60 :: t))[0]'(by rw [z1]; simp) = 60 := by simp [B, ByteArray.getElem_eq_getElem_data]
  rw [hget] at hix
  have h60b : ((((B (60 :: t))[0]'(by rw [z1]; simp)).toNat : Int) != 60) = false := by rw [hget]; rfl
  simp only [List.length_cons] at z1
  clear hR hE hget
  have hle : 1 ≤ t.length := by
    have h6 : ([60, 47] : List UInt8).isPrefixOf (60 :: t) = true := by unfold lbh at h5; exact (Bool.and_eq_true _ _ ▸ h5).1
    have := (List.isPrefixOf_iff_prefix.1 h6).length_le
    simp at this
    omega
  have H1 : Hid (([60, 33, 45, 45] : List UInt8).isPrefixOf (60 :: t) = false) := h1
  have H2 : Hid (([60, 33] : List UInt8).isPrefixOf (60 :: t) = false) := h2
  have H3 : Hid (([60, 63] : List UInt8).isPrefixOf (60 :: t) = false) := h3
  have H4 : Hid (lbh [60] (60 :: t) = false) := h4
  have H5 : Hid (lbh [60, 47] (60 :: t) = true) := h5
  clear h1 h2 h3 h4 h5
  have h60 : (((60 : UInt8).toNat : Int) != 60) = false := rfl
  go_enter Tryz.func52, Tryz.ntmps52
  go_wp2_with fail
  refine (begins_any b (60 :: t) [60, 33, 45, 45] _ R0.out).mono ?_
  rintro e wx ⟨rfl, hw⟩
  rw [hw, H1.out]
  clear hw wx
  go_wp2_with fail
  refine (begins_any b (60 :: t) [60, 33] _ R0.out).mono ?_
  rintro e wx ⟨rfl, hw⟩
  rw [hw, H2.out]
  clear hw wx
  go_wp2_with fail
  refine (begins_any b (60 :: t) [60, 63] _ R0.out).mono ?_
  rintro e wx ⟨rfl, hw⟩
  rw [hw, H3.out]
  clear hw wx
  go_wp2_with fail
  refine (lbh_any b (60 :: t) [60] _ R0.out).mono ?_
  rintro e wx ⟨rfl, hw⟩
  rw [hw, H4.out]
  clear hw wx
  go_wp2_with fail
  refine (lbh_any b (60 :: t) [60, 47] _ R0.out).mono ?_
  rintro e wx ⟨rfl, hw⟩
  rw [hw, H5.out]
  clear hw wx
  go_wp2_with fail
  refine (take_any b 2 (60 :: t) _ R0.out (by simp; omega)).mono ?_
  rintro e w1 ⟨rfl, hR, hK⟩
  have R1 : Hid (Rd w1 b (t.drop 1)) := hR
  have K1 : Hid (Kept w w1 [b]) := K0.out.trans hK
  have E1 : Hid (Env w1 b) := E0.out.kept hK (Nat.le_refl _)
  have S1 : Hid (Blk w1 w.heap.size (tkC tk0) 30) := S0.out.beside hK (by omega)
  clear hR hK
  go_wp2_with fail
  refine (tag_3 b (t.drop 1) w1 R1.out E1.out (by simp at *; omega)).mono ?_
  rintro e w2 ⟨k, whole, rest, rfl, ht, hR, hK⟩
  obtain ⟨kk, kn, kt, kh⟩ := k
  have HT : Hid (Tk.tag true (t.drop 1) = (if whole then [⟨kk, kn, kt, kh⟩] else [], rest)) := ht
  have R2 : Hid (Rd w2 b (rest)) := hR
  have K2 : Hid (Kept w w2 [b]) := K1.out.trans hK
  have E2 : Hid (Env w2 b) := E1.out.kept hK (Nat.le_refl _)
  have S2 : Hid (Blk w2 w.heap.size (tkC tk0) 30) := S1.out.beside hK (by omega)
  clear hR hK ht
  unfold tkA
  simp only
  have s0 : w2.cell? ⟨w.heap.size, 0, none⟩ = some (.int .i64 0) := S2.out.cell 0
  have sf0 := S2.out.frozen 0
  have s1 : w2.cell? ⟨w.heap.size, 1, none⟩ = some (.string (B ([]))) := S2.out.cell 1
  have sf1 := S2.out.frozen 1
  have s2 : w2.cell? ⟨w.heap.size, 2, none⟩ = some (.string (B ([]))) := S2.out.cell 2
  have sf2 := S2.out.frozen 2
  have s3 : w2.cell? ⟨w.heap.size, 3, none⟩ = some (.string (B ([]))) := S2.out.cell 3
  have sf3 := S2.out.frozen 3
  have hlt : b ≠ w.heap.size := by omega
  go_wp2
  change bodyPost Tryz.prog _ _ Exit.ret _ (putT w2 w.heap.size ⟨kk, kn, kt, kh⟩)
  exact bodyPost_ret (ret_tok2 (k := ⟨kk, kn, kt, kh⟩) rfl _ rfl (putT_blk S2.out)) rfl ⟨⟨kk, kn, kt, kh⟩, whole, rest, rfl, HT.out, Rd.over R2.out (putT_kept _ _ _ _ (List.mem_singleton.2 rfl)) hlt, K2.out.trans_new (putT_kept _ _ _ _ (List.mem_singleton.2 rfl)) (fun x hx => by rw [List.mem_singleton.1 hx]; exact .inr (Nat.le_refl _))⟩

set_option maxRecDepth 100000 in
set_option maxHeartbeats 800000 in
theorem token_angle (b : Nat) (t : List UInt8) (w : World) (hR : Rd w b (60 :: t)) (hE : Env w b) (h1 : ([60, 33, 45, 45] : List UInt8).isPrefixOf (60 :: t) = false) (h2 : ([60, 33] : List UInt8).isPrefixOf (60 :: t) = false) (h3 : ([60, 63] : List UInt8).isPrefixOf (60 :: t) = false) (h4 : lbh [60] (60 :: t) = false) (h5 : lbh [60, 47] (60 :: t) = false) :
    Calls Tryz.prog 52 #[.pointer (some ⟨b, 0, none⟩)] w fun e w' => e = .returned (.tuple #[tkA (Tk.txt [60]), .bool true]) ∧ Rd w' b t ∧ Kept w w' [b] := by
  have hbw : b < w.heap.size := hR.lt
  have r0 := hR.cell
  have R0 : Hid (Rd (zT w) b (60 :: t)) := hR.far (zT_below w)
  have K0 : Hid (Kept w (zT w) [b]) := Kept.of (zT_below w) _
  have E0 : Hid (Env (zT w) b) := hE.below (zT_below w)
  have S0 : Hid (Blk (zT w) w.heap.size (tkC tk0) 30) := zT_blk w
  have z1 := B_size (60 :: t)
  have hix := run_index_at (B (60 :: t)) 0 (by rw [z1]; simp)
  have hget : (B (60 :: t))[0]'(by rw [z1]; simp) = 60 := by simp [B, ByteArray.getElem_eq_getElem_data]
  rw [hget] at hix
  have h60b : ((((B (60 :: t))[0]'(by rw [z1]; simp)).toNat : Int) != 60) = false := by rw [hget]; rfl
  simp only [List.length_cons] at z1
  clear hR hE hget
  have H1 : Hid (([60, 33, 45, 45] : List UInt8).isPrefixOf (60 :: t) = false) := h1
  have H2 : Hid (([60, 33] : List UInt8).isPrefixOf (60 :: t) = false) := h2
  have H3 : Hid (([60, 63] : List UInt8).isPrefixOf (60 :: t) = false) := h3
  have H4 : Hid (lbh [60] (60 :: t) = false) := h4
  have H5 : Hid (lbh [60, 47] (60 :: t) = false) := h5
  clear h1 h2 h3 h4 h5
  have h60 : (((60 : UInt8).toNat : Int) != 60) = false := rfl
  go_enter Tryz.func52, Tryz.ntmps52
  go_wp2_with fail
  refine (begins_any b (60 :: t) [60, 33, 45, 45] _ R0.out).mono ?_
  rintro e wx ⟨rfl, hw⟩
  rw [hw, H1.out]
  clear hw wx
  go_wp2_with fail
  refine (begins_any b (60 :: t) [60, 33] _ R0.out).mono ?_
  rintro e wx ⟨rfl, hw⟩
  rw [hw, H2.out]
  clear hw wx
  go_wp2_with fail
  refine (begins_any b (60 :: t) [60, 63] _ R0.out).mono ?_
  rintro e wx ⟨rfl, hw⟩
  rw [hw, H3.out]
  clear hw wx
  go_wp2_with fail
  refine (lbh_any b (60 :: t) [60] _ R0.out).mono ?_
  rintro e wx ⟨rfl, hw⟩
  rw [hw, H4.out]
  clear hw wx
  go_wp2_with fail
  refine (lbh_any b (60 :: t) [60, 47] _ R0.out).mono ?_
  rintro e wx ⟨rfl, hw⟩
  rw [hw, H5.out]
  clear hw wx
  go_wp2_with fail
  refine (take_any b 1 (60 :: t) _ R0.out (by simp)).mono ?_
  rintro e w1 ⟨rfl, hR, hK⟩
  have R1 : Hid (Rd w1 b (t)) := hR
  have K1 : Hid (Kept w w1 [b]) := K0.out.trans hK
  have E1 : Hid (Env w1 b) := E0.out.kept hK (Nat.le_refl _)
  have S1 : Hid (Blk w1 w.heap.size (tkC tk0) 30) := S0.out.beside hK (by omega)
  clear hR hK
  go_wp2_with fail
  refine (text_any [60] w1 E1.out.pairs (by simp)).mono ?_
  rintro e w2 ⟨rfl, hb⟩
  have R2 : Hid (Rd w2 b (t)) := R1.out.far hb
  have K2 : Hid (Kept w w2 [b]) := K1.out.far hb
  have E2 : Hid (Env w2 b) := E1.out.below hb
  have S2 : Hid (Blk w2 w.heap.size (tkC tk0) 30) := S1.out.under hb
  clear hb
  rw [show Esc.rd [60] = [60] by decide]
  unfold tkA Tk.txt
  simp only
  have s0 : w2.cell? ⟨w.heap.size, 0, none⟩ = some (.int .i64 0) := S2.out.cell 0
  have sf0 := S2.out.frozen 0
  have s1 : w2.cell? ⟨w.heap.size, 1, none⟩ = some (.string (B ([]))) := S2.out.cell 1
  have sf1 := S2.out.frozen 1
  have s2 : w2.cell? ⟨w.heap.size, 2, none⟩ = some (.string (B ([]))) := S2.out.cell 2
  have sf2 := S2.out.frozen 2
  have s3 : w2.cell? ⟨w.heap.size, 3, none⟩ = some (.string (B ([]))) := S2.out.cell 3
  have sf3 := S2.out.frozen 3
  have hlt : b ≠ w.heap.size := by omega
  go_wp2
  change bodyPost Tryz.prog _ _ Exit.ret _ (putT w2 w.heap.size (Tk.txt [60]))
  exact bodyPost_ret (ret_tok2 (k := (Tk.txt [60])) rfl _ rfl (putT_blk S2.out)) rfl ⟨rfl, Rd.over R2.out (putT_kept _ _ _ _ (List.mem_singleton.2 rfl)) hlt, K2.out.trans_new (putT_kept _ _ _ _ (List.mem_singleton.2 rfl)) (fun x hx => by rw [List.mem_singleton.1 hx]; exact .inr (Nat.le_refl _))⟩

end Go.Proofs.YtbhcklkbckacpaaGreatDoor
