/-
  SanitizeHides: what stands in what is hidden doesn't matter, nor do other tags.
-/
import Derived.Test.YtpcaiechaakhnabGreatDoorSk
namespace Go.Proofs.YtpcaiechaakhnabGreatDoor
open Go.RowKit

/-- What sanitize.Page comes to, one form for both. -/
theorem zread_any (w : World) (ao : Option Addr) (n cap : Nat) (l : List UInt8) (hB : Byt w ao n cap l) (hT : Tz w) (hn : n ≤ 20000) (r : Option (List It)) (hr : Sn.read (Tk.toks l) = r) : Calls Tryz.prog 12 #[.slice ao n cap] w fun e w' => (∃ ao' cap', e = .returned (.tuple #[.slice ao' (r.getD []).length cap', .int .i64 (if r.isNone then 2 else 0)]) ∧ Doc w' ao' (r.getD []).length cap' (r.getD [])) ∧ Below w.heap.size w w' := by
  have := zpage_ok ao n cap l w hB hT.env hT.zt hn
  rw [hr] at this
  cases r with
  | some d => exact this
  | none => exact this.mono fun e w' h => ⟨⟨none, 0, h.1, fun x hx => (by cases hx), rfl, Nat.le_refl _, by decide, fun h0 => absurd rfl h0⟩, h.2⟩
theorem B_lit3 (a b c : UInt8) : (⟨#[a, b, c]⟩ : ByteArray) = B [a, b, c] := rfl
/-- What a law of texts has seen, later. -/
structure Bt (w wr : World) : Prop where
  below : Below w.heap.size w wr
  tz : Tz wr
theorem Bt.far {w wr w' : World} (h : Bt w wr) (hb : Below wr.heap.size wr w') : Bt w w' := ⟨h.below.trans (hb.mono h.below.size), h.tz.below hb⟩
theorem not_lt_of {l : List UInt8} (h : Lib.indexByte l 60 < 0) : ∀ y ∈ l, y ≠ 60 := by
  intro y hy e
  subst e
  have := (Lib.contains_iff_indexByte l 60)
  have hc : l.contains 60 = true := by simpa using hy
  rw [this] at hc
  simp at hc
  omega

set_option maxRecDepth 100000 in
set_option maxHeartbeats 1600000 in
theorem hides_lt (la lb li : List UInt8) (w : World) (hT : Tz w) (hs : la.length + li.length ≤ 1000000000000000) (hx : 0 ≤ Lib.indexByte (la ++ li) 60) : Calls Tryz.prog 6 #[.string (B la), .string (B lb), .string (B li)] w fun e w' => e = .returned (.bool true) ∧ Below w.heap.size w w' := by
  have H0 : Hid (Bt w w) := ⟨Below.refl _ _, hT⟩
  have za := B_size la
  have zb := B_size lb
  have zi := B_size li
  have hcat : B la ++ B li = B (la ++ li) := B_app la li
  have CC : Hid (∀ w', Calls Tryz.prog 19 #[.string (B la ++ B li), .string ⟨#[60]⟩] w' fun e w2 => e = .returned (.bool true) ∧ w2 = w') := fun w' => by
    have := Tryz.strings_Contains_one (B (la ++ li)) 60 w'
    rw [B_data, decide_eq_true hx] at this
    rw [hcat]
    exact this
  clear hT hcat hx
  go_enter Tryz.func6, Tryz.ntmps6
  go_wp2_with fail
  refine (paged_any w H0.out.tz).mono ?_
  rintro e w1 ⟨rfl, hb⟩
  have H1 : Hid (Bt w w1) := H0.out.far hb
  clear hb
  go_wp2_with fail
  refine (CC.out _).mono ?_
  rintro e w2 ⟨rfl, rfl⟩
  go_wp2_with fail
  refine (paged_any _ H1.out.tz).mono ?_
  rintro e w3 ⟨rfl, hb⟩
  have H2 : Hid (Bt w w3) := H1.out.far hb
  clear hb
  go_wp2
  go_ret
  exact ⟨rfl, H2.out.below⟩

set_option maxRecDepth 100000 in
set_option maxHeartbeats 1600000 in
theorem hides_a (la lb li : List UInt8) (w : World) (hT : Tz w) (hs : la.length + li.length ≤ 1000000000000000) (hx : ¬ 0 ≤ Lib.indexByte (la ++ li) 60) (h1 : 5000 < la.length) : Calls Tryz.prog 6 #[.string (B la), .string (B lb), .string (B li)] w fun e w' => e = .returned (.bool true) ∧ Below w.heap.size w w' := by
  have H0 : Hid (Bt w w) := ⟨Below.refl _ _, hT⟩
  have za := B_size la
  have zb := B_size lb
  have zi := B_size li
  have hcat : B la ++ B li = B (la ++ li) := B_app la li
  have CC : Hid (∀ w', Calls Tryz.prog 19 #[.string (B la ++ B li), .string ⟨#[60]⟩] w' fun e w2 => e = .returned (.bool false) ∧ w2 = w') := fun w' => by
    have := Tryz.strings_Contains_one (B (la ++ li)) 60 w'
    rw [B_data, decide_eq_false hx] at this
    rw [hcat]
    exact this
  clear hT hcat hx
  go_enter Tryz.func6, Tryz.ntmps6
  go_wp2_with fail
  refine (paged_any w H0.out.tz).mono ?_
  rintro e w1 ⟨rfl, hb⟩
  have H1 : Hid (Bt w w1) := H0.out.far hb
  clear hb
  go_wp2_with fail
  refine (CC.out _).mono ?_
  rintro e w2 ⟨rfl, rfl⟩
  go_wp2_with fail
  refine (paged_any _ H1.out.tz).mono ?_
  rintro e w3 ⟨rfl, hb⟩
  have H2 : Hid (Bt w w3) := H1.out.far hb
  clear hb
  go_wp2
  go_ret
  exact ⟨rfl, H2.out.below⟩

set_option maxRecDepth 100000 in
set_option maxHeartbeats 1600000 in
theorem hides_b (la lb li : List UInt8) (w : World) (hT : Tz w) (hs : la.length + li.length ≤ 1000000000000000) (hx : ¬ 0 ≤ Lib.indexByte (la ++ li) 60) (h1 : ¬ 5000 < la.length) (h2 : 5000 < lb.length) : Calls Tryz.prog 6 #[.string (B la), .string (B lb), .string (B li)] w fun e w' => e = .returned (.bool true) ∧ Below w.heap.size w w' := by
  have H0 : Hid (Bt w w) := ⟨Below.refl _ _, hT⟩
  have za := B_size la
  have zb := B_size lb
  have zi := B_size li
  have hcat : B la ++ B li = B (la ++ li) := B_app la li
  have CC : Hid (∀ w', Calls Tryz.prog 19 #[.string (B la ++ B li), .string ⟨#[60]⟩] w' fun e w2 => e = .returned (.bool false) ∧ w2 = w') := fun w' => by
    have := Tryz.strings_Contains_one (B (la ++ li)) 60 w'
    rw [B_data, decide_eq_false hx] at this
    rw [hcat]
    exact this
  clear hT hcat hx
  go_enter Tryz.func6, Tryz.ntmps6
  go_wp2_with fail
  refine (paged_any w H0.out.tz).mono ?_
  rintro e w1 ⟨rfl, hb⟩
  have H1 : Hid (Bt w w1) := H0.out.far hb
  clear hb
  go_wp2_with fail
  refine (CC.out _).mono ?_
  rintro e w2 ⟨rfl, rfl⟩
  go_wp2_with fail
  refine (paged_any _ H1.out.tz).mono ?_
  rintro e w3 ⟨rfl, hb⟩
  have H2 : Hid (Bt w w3) := H1.out.far hb
  clear hb
  go_wp2
  go_ret
  exact ⟨rfl, H2.out.below⟩

set_option maxRecDepth 100000 in
set_option maxHeartbeats 1600000 in
theorem hides_i (la lb li : List UInt8) (w : World) (hT : Tz w) (hs : la.length + li.length ≤ 1000000000000000) (hx : ¬ 0 ≤ Lib.indexByte (la ++ li) 60) (h1 : ¬ 5000 < la.length) (h2 : ¬ 5000 < lb.length) (h3 : 5000 < li.length) : Calls Tryz.prog 6 #[.string (B la), .string (B lb), .string (B li)] w fun e w' => e = .returned (.bool true) ∧ Below w.heap.size w w' := by
  have H0 : Hid (Bt w w) := ⟨Below.refl _ _, hT⟩
  have za := B_size la
  have zb := B_size lb
  have zi := B_size li
  have hcat : B la ++ B li = B (la ++ li) := B_app la li
  have CC : Hid (∀ w', Calls Tryz.prog 19 #[.string (B la ++ B li), .string ⟨#[60]⟩] w' fun e w2 => e = .returned (.bool false) ∧ w2 = w') := fun w' => by
    have := Tryz.strings_Contains_one (B (la ++ li)) 60 w'
    rw [B_data, decide_eq_false hx] at this
    rw [hcat]
    exact this
  clear hT hcat hx
  go_enter Tryz.func6, Tryz.ntmps6
  go_wp2_with fail
  refine (paged_any w H0.out.tz).mono ?_
  rintro e w1 ⟨rfl, hb⟩
  have H1 : Hid (Bt w w1) := H0.out.far hb
  clear hb
  go_wp2_with fail
  refine (CC.out _).mono ?_
  rintro e w2 ⟨rfl, rfl⟩
  go_wp2_with fail
  refine (paged_any _ H1.out.tz).mono ?_
  rintro e w3 ⟨rfl, hb⟩
  have H2 : Hid (Bt w w3) := H1.out.far hb
  clear hb
  go_wp2
  go_ret
  exact ⟨rfl, H2.out.below⟩

/-- The four that are tried. -/
def hx0 (li : List UInt8) : ByteArray := (⟨#[60, 115, 99, 114, 105, 112, 116, 62]⟩ ++ B li ++ ⟨#[60, 47, 115, 99, 114, 105, 112, 116, 62]⟩)
def hx1 (li : List UInt8) : ByteArray := (⟨#[60, 83, 84, 89, 76, 69, 32, 120, 61, 121, 62]⟩ ++ B li ++ ⟨#[60, 47, 115, 116, 121, 108, 101, 62]⟩)
def hx2 : ByteArray := ⟨#[60, 117, 62, 60, 47, 117, 62]⟩
def hx3 : ByteArray := ⟨#[60, 115, 112, 97, 110, 62]⟩
theorem hx0_eq (li : List UInt8) : hx0 li = B (Sn.scriptL ++ li ++ Sn.scriptE) := by
  unfold hx0
  show B Sn.scriptL ++ B li ++ B Sn.scriptE = _
  rw [B_app, B_app]
theorem hx1_eq (li : List UInt8) : hx1 li = B (Sn.styleL ++ li ++ Sn.styleE) := by
  unfold hx1
  show B Sn.styleL ++ B li ++ B Sn.styleE = _
  rw [B_app, B_app]
theorem hx2_eq : hx2 = B Sn.uuL := rfl
theorem hx3_eq : hx3 = B Sn.spanL := rfl
theorem cat_x (la lb x : List UInt8) (X : ByteArray) (hX : X = B x) : B la ++ ⟨#[60, 117, 62]⟩ ++ X ++ B lb = B (la ++ (Sn.uL ++ (x ++ lb))) := by
  subst hX
  show B la ++ B Sn.uL ++ B x ++ B lb = _
  rw [B_app, B_app, B_app]
  simp
theorem cat_0 (la lb : List UInt8) : B la ++ ⟨#[60, 117, 62]⟩ ++ B lb = B (la ++ (Sn.uL ++ lb)) := by
  show B la ++ B Sn.uL ++ B lb = _
  rw [B_app, B_app]
  simp

/-- One round: its page, and what is made of it. -/
structure Hr (la lb x : List UInt8) (X : ByteArray) (r : Option (List It)) : Prop where
  eq : X = B x
  few : (la ++ (Sn.uL ++ (x ++ lb))).length ≤ 20000
  read : Sn.read (Tk.toks (la ++ (Sn.uL ++ (x ++ lb)))) = r
  len : (B la ++ ⟨#[60, 117, 62]⟩ ++ X ++ B lb).size ≤ 20000
theorem Hr.go {la lb x : List UInt8} {X : ByteArray} {r : Option (List It)} (h : Hr la lb x X r) (w w0 : World) (hT : Bt w0 w) : ∃ w2 m cap, (convert 9 22 (.string (B la ++ ⟨#[60, 117, 62]⟩ ++ X ++ B lb))).run Tryz.prog w = .ok (.slice (some ⟨w.heap.size, 0, none⟩) m cap) w2 ∧ Bt w0 w2 ∧ Below w.heap.size w w2 ∧
    Calls Tryz.prog 12 #[.slice (some ⟨w.heap.size, 0, none⟩) m cap] w2 fun e w' => (∃ ao' cap', e = .returned (.tuple #[.slice ao' (r.getD []).length cap', .int .i64 (if r.isNone then 2 else 0)]) ∧ Doc w' ao' (r.getD []).length cap' (r.getD [])) ∧ Below w2.heap.size w2 w' := by
  obtain ⟨w2, cap, hV⟩ := cv_of w (la ++ (Sn.uL ++ (x ++ lb))) h.few
  have hr := hV.run
  rw [← cat_x la lb x X h.eq] at hr
  exact ⟨w2, _, cap, hr, hT.far hV.below, hV.below, zread_any w2 _ _ cap _ hV.byt (hT.far hV.below).tz h.few r h.read⟩

set_option maxRecDepth 100000 in
set_option maxHeartbeats 6400000 in
theorem hides_long (la lb li : List UInt8) (w : World) (hT : Tz w) (hx : ¬ 0 ≤ Lib.indexByte (la ++ li) 60) (h1 : ¬ 5000 < la.length) (h2 : ¬ 5000 < lb.length) (h3 : ¬ 5000 < li.length) : Calls Tryz.prog 6 #[.string (B la), .string (B lb), .string (B li)] w fun e w' => e = .returned (.bool true) ∧ Below w.heap.size w w' := by
  have H0 : Hid (Bt w w) := ⟨Below.refl _ _, hT⟩
  have za := B_size la
  have zb := B_size lb
  have zi := B_size li
  have hcat : B la ++ B li = B (la ++ li) := B_app la li
  have CC : Hid (∀ w', Calls Tryz.prog 19 #[.string (B la ++ B li), .string ⟨#[60]⟩] w' fun e w2 => e = .returned (.bool false) ∧ w2 = w') := fun w' => by
    have := Tryz.strings_Contains_one (B (la ++ li)) 60 w'
    rw [B_data, decide_eq_false hx] at this
    rw [hcat]
    exact this
  have hall := not_lt_of (l := la ++ li) (by omega)
  have ha : ∀ y ∈ la, y ≠ 60 := fun y hy => hall y (List.mem_append_left _ hy)
  have hi : ∀ y ∈ li, y ≠ 60 := fun y hy => hall y (List.mem_append_right _ hy)
  obtain ⟨r, hr⟩ : ∃ r, Sn.read (Tk.toks (la ++ (Sn.uL ++ lb))) = r := ⟨_, rfl⟩
  have hf0 : (la ++ (Sn.uL ++ lb)).length ≤ 20000 := by simp [Sn.uL]; omega
  have C0 : Hid (∀ w' : World, Bt w w' → ∃ w2 m cap, (convert 9 22 (.string (B la ++ ⟨#[60, 117, 62]⟩ ++ B lb))).run Tryz.prog w' = .ok (.slice (some ⟨w'.heap.size, 0, none⟩) m cap) w2 ∧ Bt w w2 ∧
      Calls Tryz.prog 12 #[.slice (some ⟨w'.heap.size, 0, none⟩) m cap] w2 fun e w3 => (∃ ao' cap', e = .returned (.tuple #[.slice ao' (r.getD []).length cap', .int .i64 (if r.isNone then 2 else 0)]) ∧ Doc w3 ao' (r.getD []).length cap' (r.getD [])) ∧ Below w2.heap.size w2 w3) := fun w' hB => by
    obtain ⟨w2, cap, hV⟩ := cv_of w' (la ++ (Sn.uL ++ lb)) hf0
    have hrn := hV.run
    rw [← cat_0 la lb] at hrn
    exact ⟨w2, _, cap, hrn, hB.far hV.below, zread_any w2 _ _ cap _ hV.byt (hB.far hV.below).tz hf0 r hr⟩

  have R0 : Hid (Hr la lb (Sn.scriptL ++ li ++ Sn.scriptE) (hx0 li) r) := ⟨hx0_eq li, by simp [Sn.uL, Sn.scriptL, Sn.scriptE]; omega, (Sn.hides_script la lb li ha hi).trans hr, by rw [cat_x la lb _ _ (hx0_eq li), B_size]; simp [Sn.uL, Sn.scriptL, Sn.scriptE]; omega⟩
  have R1 : Hid (Hr la lb (Sn.styleL ++ li ++ Sn.styleE) (hx1 li) r) := ⟨hx1_eq li, by simp [Sn.uL, Sn.styleL, Sn.styleE]; omega, (Sn.hides_style la lb li ha hi).trans hr, by rw [cat_x la lb _ _ (hx1_eq li), B_size]; simp [Sn.uL, Sn.styleL, Sn.styleE]; omega⟩
  have R2 : Hid (Hr la lb (Sn.uuL) hx2 r) := ⟨hx2_eq, by simp [Sn.uL, Sn.uuL]; omega, (Sn.hides_uu la lb ha).trans hr, by rw [cat_x la lb _ _ hx2_eq, B_size]; simp [Sn.uL, Sn.uuL]; omega⟩
  have R3 : Hid (Hr la lb (Sn.spanL) hx3 r) := ⟨hx3_eq, by simp [Sn.uL, Sn.spanL]; omega, (Sn.hides_span la lb ha).trans hr, by rw [cat_x la lb _ _ hx3_eq, B_size]; simp [Sn.uL, Sn.spanL]; omega⟩
  have s0 : (ByteArray.mk #[60, 117, 62]).size = 3 := rfl
  have s1 : (ByteArray.mk #[60, 115, 99, 114, 105, 112, 116, 62]).size = 8 := rfl
  have s2 : (ByteArray.mk #[60, 47, 115, 99, 114, 105, 112, 116, 62]).size = 9 := rfl
  have s3 : (ByteArray.mk #[60, 83, 84, 89, 76, 69, 32, 120, 61, 121, 62]).size = 11 := rfl
  have s4 : (ByteArray.mk #[60, 47, 115, 116, 121, 108, 101, 62]).size = 8 := rfl
  clear hT hcat hx hall ha hi hr hf0
  obtain ⟨nD, hnD⟩ : ∃ nD, (r.getD []).length = nD := ⟨_, rfl⟩
  obtain ⟨er, her⟩ : ∃ er : Int, (if r.isNone then 2 else 0) = er := ⟨_, rfl⟩
  have HN : Hid ((r.getD []).length = nD) := hnD
  have HER : Hid ((if r.isNone then (2 : Int) else 0) = er) := her
  have hself : (er != er) = false := by simp
  clear hnD her
  go_enter Tryz.func6, Tryz.ntmps6
  go_wp2_with fail
  refine (paged_any w H0.out.tz).mono ?_
  rintro e w1 ⟨rfl, hb⟩
  have H1 : Hid (Bt w w1) := H0.out.far hb
  clear hb
  go_wp2_with fail
  refine (CC.out _).mono ?_
  rintro e w2 ⟨rfl, rfl⟩
  obtain ⟨wc, mc, capc, hcv, hBc, hPc⟩ := C0.out w2 H1.out
  have HBc : Hid (Bt w wc) := hBc
  have HPc : Hid (Calls Tryz.prog 12 #[.slice (some ⟨w2.heap.size, 0, none⟩) mc capc] wc fun e w3 => (∃ ao' cap', e = .returned (.tuple #[.slice ao' (r.getD []).length cap', .int .i64 (if r.isNone then 2 else 0)]) ∧ Doc w3 ao' (r.getD []).length cap' (r.getD [])) ∧ Below wc.heap.size wc w3) := hPc
  clear hBc hPc C0 CC
  go_wp2_with fail
  refine HPc.out.mono ?_
  rintro e w3 ⟨⟨ao3, cap3, rfl, hD3⟩, hb⟩
  rw [HN.out, HER.out]
  have H3 : Hid (Bt w w3) := HBc.out.far hb
  have D3 : Hid (Doc w3 ao3 nD cap3 (r.getD [])) := by have := hD3; rw [HN.out] at this; exact this
  clear hb hD3 HPc HBc hcv
  have hb4 : Below w3.heap.size w3 (w3.alloc (.cells #[.string (hx0 li), .string (hx1 li), .string hx2, .string hx3] 9)) := (Below.refl _ _).alloc (Nat.le_refl _) _
  have K0 : Hid (Blk (w3.alloc (.cells #[.string (hx0 li), .string (hx1 li), .string hx2, .string hx3] 9)) w3.heap.size [.string (hx0 li), .string (hx1 li), .string hx2, .string hx3] 9) := Blk.new w3 [.string (hx0 li), .string (hx1 li), .string hx2, .string hx3] 9
  have G0 : Hid (Bt w (w3.alloc (.cells #[.string (hx0 li), .string (hx1 li), .string hx2, .string hx3] 9))) := H3.out.far hb4
  have E0 : Hid (Doc (w3.alloc (.cells #[.string (hx0 li), .string (hx1 li), .string hx2, .string hx3] 9)) ao3 nD cap3 (r.getD [])) := D3.out.below hb4
  clear hb4 H3 D3
  go_wp2
  change Code.wp Tryz.prog _ _ _ (w3.alloc (.cells #[.string (hx0 li), .string (hx1 li), .string hx2, .string hx3] 9))
  generalize hq0 : w3.alloc (.cells #[.string (hx0 li), .string (hx1 li), .string hx2, .string hx3] 9) = q0 at *
  clear hq0
  refine wp_loop_rounds 6 ?_
  rw [rounds_succ]
  have x0 : q0.cell? ⟨w3.heap.size, 0, none⟩ = some (.string (hx0 li)) := K0.out.cell 0
  have x1 : q0.cell? ⟨w3.heap.size, 1, none⟩ = some (.string (hx1 li)) := K0.out.cell 1
  have x2 : q0.cell? ⟨w3.heap.size, 2, none⟩ = some (.string hx2) := K0.out.cell 2
  have x3 : q0.cell? ⟨w3.heap.size, 3, none⟩ = some (.string hx3) := K0.out.cell 3
  have hsz : (hx0 li).size ≤ 20000 := by have := R0.out.len; simp only [ByteArray.size_append] at this; omega
  obtain ⟨wc, mc, capc, hcv, hBc, hbc, hPc⟩ := R0.out.go q0 w G0.out
  have HBc : Hid (Bt w wc) := hBc
  have HKc : Hid (Blk wc w3.heap.size [.string (hx0 li), .string (hx1 li), .string hx2, .string hx3] 9) := (hbc.block _ K0.out.lt).trans K0.out
  have HEc : Hid (Doc wc ao3 nD cap3 (r.getD [])) := E0.out.below hbc
  have HPc : Hid (Calls Tryz.prog 12 #[.slice (some ⟨q0.heap.size, 0, none⟩) mc capc] wc fun e w3 => (∃ ao' cap', e = .returned (.tuple #[.slice ao' (r.getD []).length cap', .int .i64 (if r.isNone then 2 else 0)]) ∧ Doc w3 ao' (r.getD []).length cap' (r.getD [])) ∧ Below wc.heap.size wc w3) := hPc
  clear hBc hbc hPc
  go_wp2_with fail
  refine HPc.out.mono ?_
  rintro e v0 ⟨⟨aon, capn, rfl, hDn⟩, hb⟩
  rw [HN.out, HER.out]
  have HG : Hid (Bt w v0) := HBc.out.far hb
  have HK : Hid (Blk v0 w3.heap.size [.string (hx0 li), .string (hx1 li), .string hx2, .string hx3] 9) := (hb.block _ HKc.out.lt).trans HKc.out
  have HE : Hid (Doc v0 ao3 nD cap3 (r.getD [])) := HEc.out.below hb
  have HD : Hid (Doc v0 aon nD capn (r.getD [])) := by have := hDn; rw [HN.out] at this; exact this
  clear hb hDn HPc HBc HKc HEc hcv x0 x1 x2 x3 hsz
  go_wp2_with fail
  refine (same_any aon ao3 nD capn nD cap3 (r.getD []) (r.getD []) v0 HD.out HE.out).mono ?_
  rintro e wx ⟨rfl, m, rfl⟩
  rw [dsame_self]
  have hbd : Below v0.heap.size v0 (v0.drewN m) := Go.below_drewN (Below.refl _ _) m
  have G1 : Hid (Bt w (v0.drewN m)) := HG.out.far hbd
  have K1 : Hid (Blk (v0.drewN m) w3.heap.size [.string (hx0 li), .string (hx1 li), .string hx2, .string hx3] 9) := HK.out
  have E1 : Hid (Doc (v0.drewN m) ao3 nD cap3 (r.getD [])) := HE.out.below hbd
  clear hbd HG HK HE HD
  generalize v0.drewN m = q1 at *
  go_wp2
  rw [rounds_succ]
  have x0 : q1.cell? ⟨w3.heap.size, 0, none⟩ = some (.string (hx0 li)) := K1.out.cell 0
  have x1 : q1.cell? ⟨w3.heap.size, 1, none⟩ = some (.string (hx1 li)) := K1.out.cell 1
  have x2 : q1.cell? ⟨w3.heap.size, 2, none⟩ = some (.string hx2) := K1.out.cell 2
  have x3 : q1.cell? ⟨w3.heap.size, 3, none⟩ = some (.string hx3) := K1.out.cell 3
  have hsz : (hx1 li).size ≤ 20000 := by have := R1.out.len; simp only [ByteArray.size_append] at this; omega
  obtain ⟨wc, mc, capc, hcv, hBc, hbc, hPc⟩ := R1.out.go q1 w G1.out
  have HBc : Hid (Bt w wc) := hBc
  have HKc : Hid (Blk wc w3.heap.size [.string (hx0 li), .string (hx1 li), .string hx2, .string hx3] 9) := (hbc.block _ K1.out.lt).trans K1.out
  have HEc : Hid (Doc wc ao3 nD cap3 (r.getD [])) := E1.out.below hbc
  have HPc : Hid (Calls Tryz.prog 12 #[.slice (some ⟨q1.heap.size, 0, none⟩) mc capc] wc fun e w3 => (∃ ao' cap', e = .returned (.tuple #[.slice ao' (r.getD []).length cap', .int .i64 (if r.isNone then 2 else 0)]) ∧ Doc w3 ao' (r.getD []).length cap' (r.getD [])) ∧ Below wc.heap.size wc w3) := hPc
  clear hBc hbc hPc
  go_wp2_with fail
  refine HPc.out.mono ?_
  rintro e v1 ⟨⟨aon, capn, rfl, hDn⟩, hb⟩
  rw [HN.out, HER.out]
  have HG : Hid (Bt w v1) := HBc.out.far hb
  have HK : Hid (Blk v1 w3.heap.size [.string (hx0 li), .string (hx1 li), .string hx2, .string hx3] 9) := (hb.block _ HKc.out.lt).trans HKc.out
  have HE : Hid (Doc v1 ao3 nD cap3 (r.getD [])) := HEc.out.below hb
  have HD : Hid (Doc v1 aon nD capn (r.getD [])) := by have := hDn; rw [HN.out] at this; exact this
  clear hb hDn HPc HBc HKc HEc hcv x0 x1 x2 x3 hsz
  go_wp2_with fail
  refine (same_any aon ao3 nD capn nD cap3 (r.getD []) (r.getD []) v1 HD.out HE.out).mono ?_
  rintro e wx ⟨rfl, m, rfl⟩
  rw [dsame_self]
  have hbd : Below v1.heap.size v1 (v1.drewN m) := Go.below_drewN (Below.refl _ _) m
  have G2 : Hid (Bt w (v1.drewN m)) := HG.out.far hbd
  have K2 : Hid (Blk (v1.drewN m) w3.heap.size [.string (hx0 li), .string (hx1 li), .string hx2, .string hx3] 9) := HK.out
  have E2 : Hid (Doc (v1.drewN m) ao3 nD cap3 (r.getD [])) := HE.out.below hbd
  clear hbd HG HK HE HD
  generalize v1.drewN m = q2 at *
  go_wp2
  rw [rounds_succ]
  have x0 : q2.cell? ⟨w3.heap.size, 0, none⟩ = some (.string (hx0 li)) := K2.out.cell 0
  have x1 : q2.cell? ⟨w3.heap.size, 1, none⟩ = some (.string (hx1 li)) := K2.out.cell 1
  have x2 : q2.cell? ⟨w3.heap.size, 2, none⟩ = some (.string hx2) := K2.out.cell 2
  have x3 : q2.cell? ⟨w3.heap.size, 3, none⟩ = some (.string hx3) := K2.out.cell 3
  have hsz : hx2.size ≤ 20000 := by have := R2.out.len; simp only [ByteArray.size_append] at this; omega
  obtain ⟨wc, mc, capc, hcv, hBc, hbc, hPc⟩ := R2.out.go q2 w G2.out
  have HBc : Hid (Bt w wc) := hBc
  have HKc : Hid (Blk wc w3.heap.size [.string (hx0 li), .string (hx1 li), .string hx2, .string hx3] 9) := (hbc.block _ K2.out.lt).trans K2.out
  have HEc : Hid (Doc wc ao3 nD cap3 (r.getD [])) := E2.out.below hbc
  have HPc : Hid (Calls Tryz.prog 12 #[.slice (some ⟨q2.heap.size, 0, none⟩) mc capc] wc fun e w3 => (∃ ao' cap', e = .returned (.tuple #[.slice ao' (r.getD []).length cap', .int .i64 (if r.isNone then 2 else 0)]) ∧ Doc w3 ao' (r.getD []).length cap' (r.getD [])) ∧ Below wc.heap.size wc w3) := hPc
  clear hBc hbc hPc
  go_wp2_with fail
  refine HPc.out.mono ?_
  rintro e v2 ⟨⟨aon, capn, rfl, hDn⟩, hb⟩
  rw [HN.out, HER.out]
  have HG : Hid (Bt w v2) := HBc.out.far hb
  have HK : Hid (Blk v2 w3.heap.size [.string (hx0 li), .string (hx1 li), .string hx2, .string hx3] 9) := (hb.block _ HKc.out.lt).trans HKc.out
  have HE : Hid (Doc v2 ao3 nD cap3 (r.getD [])) := HEc.out.below hb
  have HD : Hid (Doc v2 aon nD capn (r.getD [])) := by have := hDn; rw [HN.out] at this; exact this
  clear hb hDn HPc HBc HKc HEc hcv x0 x1 x2 x3 hsz
  go_wp2_with fail
  refine (same_any aon ao3 nD capn nD cap3 (r.getD []) (r.getD []) v2 HD.out HE.out).mono ?_
  rintro e wx ⟨rfl, m, rfl⟩
  rw [dsame_self]
  have hbd : Below v2.heap.size v2 (v2.drewN m) := Go.below_drewN (Below.refl _ _) m
  have G3 : Hid (Bt w (v2.drewN m)) := HG.out.far hbd
  have K3 : Hid (Blk (v2.drewN m) w3.heap.size [.string (hx0 li), .string (hx1 li), .string hx2, .string hx3] 9) := HK.out
  have E3 : Hid (Doc (v2.drewN m) ao3 nD cap3 (r.getD [])) := HE.out.below hbd
  clear hbd HG HK HE HD
  generalize v2.drewN m = q3 at *
  go_wp2
  rw [rounds_succ]
  have x0 : q3.cell? ⟨w3.heap.size, 0, none⟩ = some (.string (hx0 li)) := K3.out.cell 0
  have x1 : q3.cell? ⟨w3.heap.size, 1, none⟩ = some (.string (hx1 li)) := K3.out.cell 1
  have x2 : q3.cell? ⟨w3.heap.size, 2, none⟩ = some (.string hx2) := K3.out.cell 2
  have x3 : q3.cell? ⟨w3.heap.size, 3, none⟩ = some (.string hx3) := K3.out.cell 3
  have hsz : hx3.size ≤ 20000 := by have := R3.out.len; simp only [ByteArray.size_append] at this; omega
  obtain ⟨wc, mc, capc, hcv, hBc, hbc, hPc⟩ := R3.out.go q3 w G3.out
  have HBc : Hid (Bt w wc) := hBc
  have HKc : Hid (Blk wc w3.heap.size [.string (hx0 li), .string (hx1 li), .string hx2, .string hx3] 9) := (hbc.block _ K3.out.lt).trans K3.out
  have HEc : Hid (Doc wc ao3 nD cap3 (r.getD [])) := E3.out.below hbc
  have HPc : Hid (Calls Tryz.prog 12 #[.slice (some ⟨q3.heap.size, 0, none⟩) mc capc] wc fun e w3 => (∃ ao' cap', e = .returned (.tuple #[.slice ao' (r.getD []).length cap', .int .i64 (if r.isNone then 2 else 0)]) ∧ Doc w3 ao' (r.getD []).length cap' (r.getD [])) ∧ Below wc.heap.size wc w3) := hPc
  clear hBc hbc hPc
  go_wp2_with fail
  refine HPc.out.mono ?_
  rintro e v3 ⟨⟨aon, capn, rfl, hDn⟩, hb⟩
  rw [HN.out, HER.out]
  have HG : Hid (Bt w v3) := HBc.out.far hb
  have HK : Hid (Blk v3 w3.heap.size [.string (hx0 li), .string (hx1 li), .string hx2, .string hx3] 9) := (hb.block _ HKc.out.lt).trans HKc.out
  have HE : Hid (Doc v3 ao3 nD cap3 (r.getD [])) := HEc.out.below hb
  have HD : Hid (Doc v3 aon nD capn (r.getD [])) := by have := hDn; rw [HN.out] at this; exact this
  clear hb hDn HPc HBc HKc HEc hcv x0 x1 x2 x3 hsz
  go_wp2_with fail
  refine (same_any aon ao3 nD capn nD cap3 (r.getD []) (r.getD []) v3 HD.out HE.out).mono ?_
  rintro e wx ⟨rfl, m, rfl⟩
  rw [dsame_self]
  have hbd : Below v3.heap.size v3 (v3.drewN m) := Go.below_drewN (Below.refl _ _) m
  have G4 : Hid (Bt w (v3.drewN m)) := HG.out.far hbd
  have K4 : Hid (Blk (v3.drewN m) w3.heap.size [.string (hx0 li), .string (hx1 li), .string hx2, .string hx3] 9) := HK.out
  have E4 : Hid (Doc (v3.drewN m) ao3 nD cap3 (r.getD [])) := HE.out.below hbd
  clear hbd HG HK HE HD
  generalize v3.drewN m = q4 at *
  go_wp2
  rw [rounds_succ]
  go_wp2
  go_ret
  exact ⟨rfl, G4.out.below⟩

theorem hides_law (la lb li : List UInt8) (w : World) (hT : Tz w) (hs : la.length + li.length ≤ 1000000000000000) : Calls Tryz.prog 6 #[.string (B la), .string (B lb), .string (B li)] w fun e w' => e = .returned (.bool true) ∧ Below w.heap.size w w' := by
  by_cases hx : 0 ≤ Lib.indexByte (la ++ li) 60
  · exact hides_lt la lb li w hT hs hx
  by_cases h1 : 5000 < la.length
  · exact hides_a la lb li w hT hs hx h1
  by_cases h2 : 5000 < lb.length
  · exact hides_b la lb li w hT hs hx h1 h2
  by_cases h3 : 5000 < li.length
  · exact hides_i la lb li w hT hs hx h1 h2 h3
  exact hides_long la lb li w hT hx h1 h2 h3
end Go.Proofs.YtpcaiechaakhnabGreatDoor
