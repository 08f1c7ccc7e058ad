/-
  Package sanitize, a page at work: the end of a tag is taken, whatever token is taken.
-/
import Derived.Test.YtpcaiechaakhnabGreatDoorSf
namespace Go.Proofs.YtpcaiechaakhnabGreatDoor
open Go.RowKit

set_option maxRecDepth 100000 in
set_option maxHeartbeats 3200000 in
theorem close_block (b : Nat) (s : Sn.S) (v : Value) (kn : List UInt8) (w : World) (hW : Wk w b s v) (hZ : Zt w b) (hn : s.d.length ≤ 900000) (k : Int) (hbk : Sn.blockOf kn = some k) : Calls Tryz.prog 62 #[.pointer (some ⟨b, 0, none⟩), .string (B kn)] w fun e w' => e = .returned (.tuple #[]) ∧ PutTo w b v w' (Sn.shut s) := by
  have W1 : Hid (Wk w b s v) := hW
  have Z1 : Hid (Zt w b) := hZ
  have hbl := hW.big
  have CK : Hid (∀ w', Bn w' → Calls Tryz.prog 91 #[.string (B kn)] w' fun e w2 => e = .returned (.tuple #[.int .i64 k, .bool true]) ∧ Below w'.heap.size w' w2) := fun w' h => by have := kindOf_any kn w' h; rw [hbk] at this; exact this
  have CD : Hid (∀ w', Calls Tryz.prog 92 #[.pointer (some ⟨b, 0, none⟩), .string (B kn)] w' fun e w2 => e = .returned (.pointer (dp b kn)) ∧ w2 = w') := fun w' => by have := deep_any b kn w'; exact this
  clear hW hZ hbk
  go_enter Tryz.func62, Tryz.ntmps62
  go_wp2_with fail
  refine (CK.out _ Z1.out.bn).mono ?_
  rintro e w2 ⟨rfl, hb2⟩
  have W2 : Hid (Wk w2 b s v) := W1.out.under hb2
  have HB2 : Hid (Below w.heap.size w w2) := hb2
  clear hb2 W1 Z1 CK
  go_wp2_with fail
  refine (CD.out _).mono ?_
  rintro e w3 ⟨rfl, rfl⟩
  generalize dp b kn = dd at *
  go_wp2_with fail
  refine (endBlock_any b s v _ W2.out (by omega)).mono ?_
  rintro e w4 ⟨rfl, hP⟩
  have HP : Hid (PutTo w3 b v w4 (Sn.shut s)) := hP
  clear hP
  go_wp2
  go_end0
  exact ⟨rfl, PutTo.pre HB2.out HP.out⟩

set_option maxRecDepth 100000 in
set_option maxHeartbeats 3200000 in
theorem close_bold0 (b : Nat) (s : Sn.S) (v : Value) (kn : List UInt8) (w : World) (hW : Wk w b s v) (hZ : Zt w b) (_hn : s.d.length ≤ 900000) (hz : s.bold = 0) (_h1 : s.bold ≤ 1000000) (hbk : Sn.blockOf kn = none) (hdp : dp b kn = some ⟨b, 1, none⟩) : Calls Tryz.prog 62 #[.pointer (some ⟨b, 0, none⟩), .string (B kn)] w fun e w' => e = .returned (.tuple #[]) ∧ PutTo w b v w' { s with bold := 0 } := by
  have W1 : Hid (Wk w b s v) := hW
  have Z1 : Hid (Zt w b) := hZ
  have hbl := hW.big
  have CK : Hid (∀ w', Bn w' → Calls Tryz.prog 91 #[.string (B kn)] w' fun e w2 => e = .returned (.tuple #[.int .i64 0, .bool false]) ∧ Below w'.heap.size w' w2) := fun w' h => by have := kindOf_any kn w' h; rw [hbk] at this; exact this
  have CD : Hid (∀ w', Calls Tryz.prog 92 #[.pointer (some ⟨b, 0, none⟩), .string (B kn)] w' fun e w2 => e = .returned (.pointer (some ⟨b, 1, none⟩)) ∧ w2 = w') := fun w' => by have := deep_any b kn w'; rw [hdp] at this; exact this
  clear hW hZ hbk hdp
  go_enter Tryz.func62, Tryz.ntmps62
  go_wp2_with fail
  refine (CK.out _ Z1.out.bn).mono ?_
  rintro e w2 ⟨rfl, hb2⟩
  have W2 : Hid (Wk w2 b s v) := W1.out.under hb2
  have HB2 : Hid (Below w.heap.size w w2) := hb2
  clear hb2 W1 Z1 CK
  go_wp2_with fail
  refine (CD.out _).mono ?_
  rintro e w3 ⟨rfl, rfl⟩
  have c1 : w3.cell? ⟨b, 1, none⟩ = some (.int .i64 s.bold) := W2.out.blk.cell 1
  have f1 := W2.out.blk.frozen 1
  rw [hz] at c1
  clear hz
  go_wp2
  go_end0
  exact ⟨rfl, PutTo.pre HB2.out (PutTo.over (.inl rfl) (Kept.refl _ _) W2.out (W2.out.blk.set 1 _) (kept_set1 ..) rfl)⟩

set_option maxRecDepth 100000 in
set_option maxHeartbeats 3200000 in
theorem close_bold1 (b : Nat) (s : Sn.S) (v : Value) (kn : List UInt8) (w : World) (hW : Wk w b s v) (hZ : Zt w b) (_hn : s.d.length ≤ 900000) (hz : 0 < s.bold) (h1 : s.bold ≤ 1000000) (hbk : Sn.blockOf kn = none) (hdp : dp b kn = some ⟨b, 1, none⟩) : Calls Tryz.prog 62 #[.pointer (some ⟨b, 0, none⟩), .string (B kn)] w fun e w' => e = .returned (.tuple #[]) ∧ PutTo w b v w' { s with bold := s.bold - 1 } := by
  have W1 : Hid (Wk w b s v) := hW
  have Z1 : Hid (Zt w b) := hZ
  have hbl := hW.big
  have CK : Hid (∀ w', Bn w' → Calls Tryz.prog 91 #[.string (B kn)] w' fun e w2 => e = .returned (.tuple #[.int .i64 0, .bool false]) ∧ Below w'.heap.size w' w2) := fun w' h => by have := kindOf_any kn w' h; rw [hbk] at this; exact this
  have CD : Hid (∀ w', Calls Tryz.prog 92 #[.pointer (some ⟨b, 0, none⟩), .string (B kn)] w' fun e w2 => e = .returned (.pointer (some ⟨b, 1, none⟩)) ∧ w2 = w') := fun w' => by have := deep_any b kn w'; rw [hdp] at this; exact this
  clear hW hZ hbk hdp
  go_enter Tryz.func62, Tryz.ntmps62
  go_wp2_with fail
  refine (CK.out _ Z1.out.bn).mono ?_
  rintro e w2 ⟨rfl, hb2⟩
  have W2 : Hid (Wk w2 b s v) := W1.out.under hb2
  have HB2 : Hid (Below w.heap.size w w2) := hb2
  clear hb2 W1 Z1 CK
  go_wp2_with fail
  refine (CD.out _).mono ?_
  rintro e w3 ⟨rfl, rfl⟩
  have c1 : w3.cell? ⟨b, 1, none⟩ = some (.int .i64 s.bold) := W2.out.blk.cell 1
  have f1 := W2.out.blk.frozen 1
  obtain ⟨x, hx⟩ : ∃ x : Nat, s.bold = x + 1 := ⟨(s.bold - 1).toNat, by omega⟩
  have HX : Hid (s.bold - 1 = x) := by show s.bold - 1 = x; omega
  rw [hx] at c1 h1
  clear hx hz
  go_wp2
  go_end0
  refine ⟨rfl, PutTo.pre HB2.out (PutTo.over (.inl rfl) (Kept.refl _ _) W2.out ?_ (kept_set1 ..) rfl)⟩
  rw [HX.out]
  exact W2.out.blk.set 1 _

set_option maxRecDepth 100000 in
set_option maxHeartbeats 3200000 in
theorem close_slant0 (b : Nat) (s : Sn.S) (v : Value) (kn : List UInt8) (w : World) (hW : Wk w b s v) (hZ : Zt w b) (_hn : s.d.length ≤ 900000) (hz : s.slant = 0) (_h1 : s.slant ≤ 1000000) (hbk : Sn.blockOf kn = none) (hdp : dp b kn = some ⟨b, 2, none⟩) : Calls Tryz.prog 62 #[.pointer (some ⟨b, 0, none⟩), .string (B kn)] w fun e w' => e = .returned (.tuple #[]) ∧ PutTo w b v w' { s with slant := 0 } := by
  have W1 : Hid (Wk w b s v) := hW
  have Z1 : Hid (Zt w b) := hZ
  have hbl := hW.big
  have CK : Hid (∀ w', Bn w' → Calls Tryz.prog 91 #[.string (B kn)] w' fun e w2 => e = .returned (.tuple #[.int .i64 0, .bool false]) ∧ Below w'.heap.size w' w2) := fun w' h => by have := kindOf_any kn w' h; rw [hbk] at this; exact this
  have CD : Hid (∀ w', Calls Tryz.prog 92 #[.pointer (some ⟨b, 0, none⟩), .string (B kn)] w' fun e w2 => e = .returned (.pointer (some ⟨b, 2, none⟩)) ∧ w2 = w') := fun w' => by have := deep_any b kn w'; rw [hdp] at this; exact this
  clear hW hZ hbk hdp
  go_enter Tryz.func62, Tryz.ntmps62
  go_wp2_with fail
  refine (CK.out _ Z1.out.bn).mono ?_
  rintro e w2 ⟨rfl, hb2⟩
  have W2 : Hid (Wk w2 b s v) := W1.out.under hb2
  have HB2 : Hid (Below w.heap.size w w2) := hb2
  clear hb2 W1 Z1 CK
  go_wp2_with fail
  refine (CD.out _).mono ?_
  rintro e w3 ⟨rfl, rfl⟩
  have c1 : w3.cell? ⟨b, 2, none⟩ = some (.int .i64 s.slant) := W2.out.blk.cell 2
  have f1 := W2.out.blk.frozen 2
  rw [hz] at c1
  clear hz
  go_wp2
  go_end0
  exact ⟨rfl, PutTo.pre HB2.out (PutTo.over (.inl rfl) (Kept.refl _ _) W2.out (W2.out.blk.set 2 _) (kept_set1 ..) rfl)⟩

set_option maxRecDepth 100000 in
set_option maxHeartbeats 3200000 in
theorem close_slant1 (b : Nat) (s : Sn.S) (v : Value) (kn : List UInt8) (w : World) (hW : Wk w b s v) (hZ : Zt w b) (_hn : s.d.length ≤ 900000) (hz : 0 < s.slant) (h1 : s.slant ≤ 1000000) (hbk : Sn.blockOf kn = none) (hdp : dp b kn = some ⟨b, 2, none⟩) : Calls Tryz.prog 62 #[.pointer (some ⟨b, 0, none⟩), .string (B kn)] w fun e w' => e = .returned (.tuple #[]) ∧ PutTo w b v w' { s with slant := s.slant - 1 } := by
  have W1 : Hid (Wk w b s v) := hW
  have Z1 : Hid (Zt w b) := hZ
  have hbl := hW.big
  have CK : Hid (∀ w', Bn w' → Calls Tryz.prog 91 #[.string (B kn)] w' fun e w2 => e = .returned (.tuple #[.int .i64 0, .bool false]) ∧ Below w'.heap.size w' w2) := fun w' h => by have := kindOf_any kn w' h; rw [hbk] at this; exact this
  have CD : Hid (∀ w', Calls Tryz.prog 92 #[.pointer (some ⟨b, 0, none⟩), .string (B kn)] w' fun e w2 => e = .returned (.pointer (some ⟨b, 2, none⟩)) ∧ w2 = w') := fun w' => by have := deep_any b kn w'; rw [hdp] at this; exact this
  clear hW hZ hbk hdp
  go_enter Tryz.func62, Tryz.ntmps62
  go_wp2_with fail
  refine (CK.out _ Z1.out.bn).mono ?_
  rintro e w2 ⟨rfl, hb2⟩
  have W2 : Hid (Wk w2 b s v) := W1.out.under hb2
  have HB2 : Hid (Below w.heap.size w w2) := hb2
  clear hb2 W1 Z1 CK
  go_wp2_with fail
  refine (CD.out _).mono ?_
  rintro e w3 ⟨rfl, rfl⟩
  have c1 : w3.cell? ⟨b, 2, none⟩ = some (.int .i64 s.slant) := W2.out.blk.cell 2
  have f1 := W2.out.blk.frozen 2
  obtain ⟨x, hx⟩ : ∃ x : Nat, s.slant = x + 1 := ⟨(s.slant - 1).toNat, by omega⟩
  have HX : Hid (s.slant - 1 = x) := by show s.slant - 1 = x; omega
  rw [hx] at c1 h1
  clear hx hz
  go_wp2
  go_end0
  refine ⟨rfl, PutTo.pre HB2.out (PutTo.over (.inl rfl) (Kept.refl _ _) W2.out ?_ (kept_set1 ..) rfl)⟩
  rw [HX.out]
  exact W2.out.blk.set 2 _

set_option maxRecDepth 100000 in
set_option maxHeartbeats 3200000 in
theorem close_a (b : Nat) (s : Sn.S) (v : Value) (kn : List UInt8) (w : World) (hW : Wk w b s v) (hZ : Zt w b) (_hn : s.d.length ≤ 900000) (hbk : Sn.blockOf kn = none) (hdp : dp b kn = none) (ha : ((B kn).toList == [97]) = true) : Calls Tryz.prog 62 #[.pointer (some ⟨b, 0, none⟩), .string (B kn)] w fun e w' => e = .returned (.tuple #[]) ∧ PutTo w b v w' { s with link := [] } := by
  have W1 : Hid (Wk w b s v) := hW
  have Z1 : Hid (Zt w b) := hZ
  have hbl := hW.big
  have CK : Hid (∀ w', Bn w' → Calls Tryz.prog 91 #[.string (B kn)] w' fun e w2 => e = .returned (.tuple #[.int .i64 0, .bool false]) ∧ Below w'.heap.size w' w2) := fun w' h => by have := kindOf_any kn w' h; rw [hbk] at this; exact this
  have CD : Hid (∀ w', Calls Tryz.prog 92 #[.pointer (some ⟨b, 0, none⟩), .string (B kn)] w' fun e w2 => e = .returned (.pointer (none)) ∧ w2 = w') := fun w' => by have := deep_any b kn w'; rw [hdp] at this; exact this
  clear hW hZ hbk hdp
  go_enter Tryz.func62, Tryz.ntmps62
  go_wp2_with fail
  refine (CK.out _ Z1.out.bn).mono ?_
  rintro e w2 ⟨rfl, hb2⟩
  have W2 : Hid (Wk w2 b s v) := W1.out.under hb2
  have HB2 : Hid (Below w.heap.size w w2) := hb2
  clear hb2 W1 Z1 CK
  go_wp2_with fail
  refine (CD.out _).mono ?_
  rintro e w3 ⟨rfl, rfl⟩
  have f3 := W2.out.blk.frozen 3
  have c3 : w3.cell? ⟨b, 3, none⟩ = some (.string (B s.link)) := W2.out.blk.cell 3
  go_wp2
  go_end0
  exact ⟨rfl, PutTo.pre HB2.out (PutTo.over (.inl rfl) (Kept.refl _ _) W2.out (W2.out.blk.set 3 _) (kept_set1 ..) rfl)⟩

set_option maxRecDepth 100000 in
set_option maxHeartbeats 3200000 in
theorem close_none (b : Nat) (s : Sn.S) (v : Value) (kn : List UInt8) (w : World) (hW : Wk w b s v) (hZ : Zt w b) (_hn : s.d.length ≤ 900000) (hbk : Sn.blockOf kn = none) (hdp : dp b kn = none) (ha : ((B kn).toList == [97]) = false) : Calls Tryz.prog 62 #[.pointer (some ⟨b, 0, none⟩), .string (B kn)] w fun e w' => e = .returned (.tuple #[]) ∧ PutTo w b v w' s := by
  have W1 : Hid (Wk w b s v) := hW
  have Z1 : Hid (Zt w b) := hZ
  have hbl := hW.big
  have CK : Hid (∀ w', Bn w' → Calls Tryz.prog 91 #[.string (B kn)] w' fun e w2 => e = .returned (.tuple #[.int .i64 0, .bool false]) ∧ Below w'.heap.size w' w2) := fun w' h => by have := kindOf_any kn w' h; rw [hbk] at this; exact this
  have CD : Hid (∀ w', Calls Tryz.prog 92 #[.pointer (some ⟨b, 0, none⟩), .string (B kn)] w' fun e w2 => e = .returned (.pointer (none)) ∧ w2 = w') := fun w' => by have := deep_any b kn w'; rw [hdp] at this; exact this
  clear hW hZ hbk hdp
  go_enter Tryz.func62, Tryz.ntmps62
  go_wp2_with fail
  refine (CK.out _ Z1.out.bn).mono ?_
  rintro e w2 ⟨rfl, hb2⟩
  have W2 : Hid (Wk w2 b s v) := W1.out.under hb2
  have HB2 : Hid (Below w.heap.size w w2) := hb2
  clear hb2 W1 Z1 CK
  go_wp2_with fail
  refine (CD.out _).mono ?_
  rintro e w3 ⟨rfl, rfl⟩
  go_wp2
  go_end0
  exact ⟨rfl, PutTo.pre HB2.out (PutTo.refl W2.out)⟩

theorem up_zero : Sn.up (0 + -1) = 0 := rfl
theorem up_less {x : Int} (h : 0 < x) : Sn.up (x + -1) = x - 1 := by unfold Sn.up; rw [if_neg (by omega)]; omega
theorem takeClose_any (b : Nat) (s : Sn.S) (v : Value) (kn kt kh : List UInt8) (w : World) (hW : Wk w b s v) (hZ : Zt w b) (hn : s.d.length ≤ 900000) (hL : Lim 1000000 s) (h0 : s.hides = []) : Calls Tryz.prog 62 #[.pointer (some ⟨b, 0, none⟩), .string (B kn)] w fun e w' => e = .returned (.tuple #[]) ∧ PutTo w b v w' (Sn.step s ⟨3, kn, kt, kh⟩) := by
  have hs := Sn.step_seen s ⟨3, kn, kt, kh⟩ h0
  cases hb : Sn.blockOf kn with
  | some k =>
    have e : Sn.step s ⟨3, kn, kt, kh⟩ = Sn.shut s := by rw [hs]; simp [hb]
    rw [e]
    exact close_block b s v kn w hW hZ hn k hb
  | none =>
    have e : Sn.step s ⟨3, kn, kt, kh⟩ = Sn.other s ⟨3, kn, kt, kh⟩ := by rw [hs]; simp [hb]
    rw [e]
    clear hs e
    unfold Sn.other
    cases h1 : Sn.boldL.contains kn
    · cases h2 : Sn.slantL.contains kn
      · have hd := dp_none (b := b) h1 h2
        rw [if_neg Bool.false_ne_true, if_neg Bool.false_ne_true]
        cases h3 : (kn == [97])
        · rw [if_neg Bool.false_ne_true, if_pos (show ((3 : Int) == 3) = true by decide)]
          exact close_none b s v kn w hW hZ hn hb hd ((eq_beq kn [97]).trans h3)
        · rw [if_pos rfl, if_neg (show ¬ ((3 : Int) == 2) = true by decide)]
          exact close_a b s v kn w hW hZ hn hb hd ((eq_beq kn [97]).trans h3)
      · rw [if_neg Bool.false_ne_true, if_pos rfl]
        have hd := dp_slant (b := b) h1 h2
        show Calls _ _ _ _ fun e w' => _ ∧ PutTo w b v w' { s with slant := Sn.up (s.slant + -1) }
        by_cases hz : s.slant = 0
        · have e : Sn.up (s.slant + -1) = 0 := by rw [hz]; rfl
          rw [e]
          exact close_slant0 b s v kn w hW hZ hn hz hL.s1 hb hd
        · have hp : 0 < s.slant := by have := hL.s0; omega
          rw [up_less hp]
          exact close_slant1 b s v kn w hW hZ hn hp hL.s1 hb hd
    · rw [if_pos rfl]
      have hd := dp_bold (b := b) h1
      show Calls _ _ _ _ fun e w' => _ ∧ PutTo w b v w' { s with bold := Sn.up (s.bold + -1) }
      by_cases hz : s.bold = 0
      · have e : Sn.up (s.bold + -1) = 0 := by rw [hz]; rfl
        rw [e]
        exact close_bold0 b s v kn w hW hZ hn hz hL.b1 hb hd
      · have hp : 0 < s.bold := by have := hL.b0; omega
        rw [up_less hp]
        exact close_bold1 b s v kn w hW hZ hn hp hL.b1 hb hd

set_option maxRecDepth 100000 in
set_option maxHeartbeats 3200000 in
theorem take_h3 (b : Nat) (s : Sn.S) (v : Value) (kn kt kh : List UInt8) (w : World) (hW : Wk w b s v) (e0 : (B s.hides).toList.isEmpty = false) (hq : ((B kn).toList == (B s.hides).toList) = true) : Calls Tryz.prog 31 #[.pointer (some ⟨b, 0, none⟩), .agg #[.int .i64 3, .string (B kn), .string (B kt), .string (B kh)]] w fun e w' => e = .returned (.tuple #[]) ∧ PutTo w b v w' { s with hides := [] } := by
  have hb1 : Below w.heap.size w (w.alloc (.cells #[.int .i64 3, .string (B kn), .string (B kt), .string (B kh)] 30)) := (Below.refl _ _).alloc (Nat.le_refl _) _
  have W1 : Hid (Wk (w.alloc (.cells #[.int .i64 3, .string (B kn), .string (B kt), .string (B kh)] 30)) b s v) := hW.under hb1
  have HB1 : Hid (Below w.heap.size w (w.alloc (.cells #[.int .i64 3, .string (B kn), .string (B kt), .string (B kh)] 30))) := hb1
  have hbl := hW.big
  have c6 : w.cell? ⟨b, 6, none⟩ = some (.string (B s.hides)) := hW.blk.cell 6
  have f6 := hW.blk.frozen 6
  clear hW hb1
  go_enter Tryz.func31, Tryz.ntmps31
  go_wp2
  go_quiet (fail)
  go_wp2
  go_end0
  refine ⟨rfl, ?_⟩
  have hB := W1.out.blk.set 6 (.string (B []))
  exact PutTo.pre (Below.trans HB1.out (Below.mono (B := _) (Go.below_drewN (Below.refl _ _) _) (Nat.le_refl _))) (PutTo.over (.inl rfl) (Kept.refl _ _) (W1.out.under (Go.below_drewN (Below.refl _ _) _)) hB (kept_set1 ..) rfl)

set_option maxRecDepth 100000 in
set_option maxHeartbeats 3200000 in
theorem take_h3n (b : Nat) (s : Sn.S) (v : Value) (kn kt kh : List UInt8) (w : World) (hW : Wk w b s v) (e0 : (B s.hides).toList.isEmpty = false) (hq : ((B kn).toList == (B s.hides).toList) = false) : Calls Tryz.prog 31 #[.pointer (some ⟨b, 0, none⟩), .agg #[.int .i64 3, .string (B kn), .string (B kt), .string (B kh)]] w fun e w' => e = .returned (.tuple #[]) ∧ PutTo w b v w' s := by
  have hb1 : Below w.heap.size w (w.alloc (.cells #[.int .i64 3, .string (B kn), .string (B kt), .string (B kh)] 30)) := (Below.refl _ _).alloc (Nat.le_refl _) _
  have W1 : Hid (Wk (w.alloc (.cells #[.int .i64 3, .string (B kn), .string (B kt), .string (B kh)] 30)) b s v) := hW.under hb1
  have HB1 : Hid (Below w.heap.size w (w.alloc (.cells #[.int .i64 3, .string (B kn), .string (B kt), .string (B kh)] 30))) := hb1
  have hbl := hW.big
  have c6 : w.cell? ⟨b, 6, none⟩ = some (.string (B s.hides)) := hW.blk.cell 6
  have f6 := hW.blk.frozen 6
  clear hW hb1
  go_enter Tryz.func31, Tryz.ntmps31
  go_wp2
  go_quiet (fail)
  go_wp2
  go_end0
  exact ⟨rfl, PutTo.pre HB1.out (PutTo.pre (Go.below_drewN (Below.refl _ _) _) (PutTo.refl (W1.out.under (Go.below_drewN (Below.refl _ _) _))))⟩

set_option maxRecDepth 100000 in
set_option maxHeartbeats 3200000 in
theorem take_hn (b : Nat) (s : Sn.S) (v : Value) (kk : Int) (kn kt kh : List UInt8) (w : World) (hW : Wk w b s v) (e0 : (B s.hides).toList.isEmpty = false) (hk : (kk == 3) = false) : Calls Tryz.prog 31 #[.pointer (some ⟨b, 0, none⟩), .agg #[.int .i64 kk, .string (B kn), .string (B kt), .string (B kh)]] w fun e w' => e = .returned (.tuple #[]) ∧ PutTo w b v w' s := by
  have hb1 : Below w.heap.size w (w.alloc (.cells #[.int .i64 kk, .string (B kn), .string (B kt), .string (B kh)] 30)) := (Below.refl _ _).alloc (Nat.le_refl _) _
  have W1 : Hid (Wk (w.alloc (.cells #[.int .i64 kk, .string (B kn), .string (B kt), .string (B kh)] 30)) b s v) := hW.under hb1
  have HB1 : Hid (Below w.heap.size w (w.alloc (.cells #[.int .i64 kk, .string (B kn), .string (B kt), .string (B kh)] 30))) := hb1
  have hbl := hW.big
  have c6 : w.cell? ⟨b, 6, none⟩ = some (.string (B s.hides)) := hW.blk.cell 6
  have f6 := hW.blk.frozen 6
  clear hW hb1
  go_enter Tryz.func31, Tryz.ntmps31
  go_wp2
  go_quiet (fail)
  go_wp2
  go_end0
  exact ⟨rfl, PutTo.pre HB1.out (PutTo.pre (Go.below_drewN (Below.refl _ _) _) (PutTo.refl (W1.out.under (Go.below_drewN (Below.refl _ _) _))))⟩

set_option maxRecDepth 100000 in
set_option maxHeartbeats 3200000 in
theorem take_text (b : Nat) (s : Sn.S) (v : Value) (kn kt kh : List UInt8) (w : World) (hW : Wk w b s v) (hn : s.d.length + kt.length ≤ 900000) (e0 : (B s.hides).toList.isEmpty = true) : Calls Tryz.prog 31 #[.pointer (some ⟨b, 0, none⟩), .agg #[.int .i64 1, .string (B kn), .string (B kt), .string (B kh)]] w fun e w' => e = .returned (.tuple #[]) ∧ PutTo w b v w' (s.chars kt) := by
  have hb1 : Below w.heap.size w (w.alloc (.cells #[.int .i64 1, .string (B kn), .string (B kt), .string (B kh)] 30)) := (Below.refl _ _).alloc (Nat.le_refl _) _
  have W1 : Hid (Wk (w.alloc (.cells #[.int .i64 1, .string (B kn), .string (B kt), .string (B kh)] 30)) b s v) := hW.under hb1
  have HB1 : Hid (Below w.heap.size w (w.alloc (.cells #[.int .i64 1, .string (B kn), .string (B kt), .string (B kh)] 30))) := hb1
  have hbl := hW.big
  have c6 : w.cell? ⟨b, 6, none⟩ = some (.string (B s.hides)) := hW.blk.cell 6
  have f6 := hW.blk.frozen 6
  clear hW hb1
  go_enter Tryz.func31, Tryz.ntmps31
  go_wp2_with fail
  refine (takeText_any b s v kt _ W1.out hn).mono ?_
  rintro e w2 ⟨rfl, hP⟩
  have HP : Hid (PutTo (w.alloc (.cells #[.int .i64 1, .string (B kn), .string (B kt), .string (B kh)] 30)) b v w2 (s.chars kt)) := hP
  clear hP
  go_wp2
  go_end0
  exact ⟨rfl, PutTo.pre HB1.out HP.out⟩

set_option maxRecDepth 100000 in
set_option maxHeartbeats 3200000 in
theorem take_open (b : Nat) (s : Sn.S) (v : Value) (kn kt kh : List UInt8) (w : World) (hW : Wk w b s v) (hZ : Zt w b) (hn : s.d.length ≤ 900000) (hL : Lim 1000000 s) (hh : kh.length ≤ 20000) (h0 : s.hides = []) (e0 : (B s.hides).toList.isEmpty = true) : Calls Tryz.prog 31 #[.pointer (some ⟨b, 0, none⟩), .agg #[.int .i64 2, .string (B kn), .string (B kt), .string (B kh)]] w fun e w' => e = .returned (.tuple #[]) ∧ PutTo w b v w' (Sn.step s ⟨2, kn, kt, kh⟩) := by
  have hb1 : Below w.heap.size w (w.alloc (.cells #[.int .i64 2, .string (B kn), .string (B kt), .string (B kh)] 30)) := (Below.refl _ _).alloc (Nat.le_refl _) _
  have W1 : Hid (Wk (w.alloc (.cells #[.int .i64 2, .string (B kn), .string (B kt), .string (B kh)] 30)) b s v) := hW.under hb1
  have HB1 : Hid (Below w.heap.size w (w.alloc (.cells #[.int .i64 2, .string (B kn), .string (B kt), .string (B kh)] 30))) := hb1
  have hbl := hW.big
  have c6 : w.cell? ⟨b, 6, none⟩ = some (.string (B s.hides)) := hW.blk.cell 6
  have f6 := hW.blk.frozen 6
  have Z1 : Hid (Zt (w.alloc (.cells #[.int .i64 2, .string (B kn), .string (B kt), .string (B kh)] 30)) b) := hZ.under hb1 (Nat.le_of_lt hbl)
  have HL : Hid (Lim 1000000 s) := hL
  have H0 : Hid (s.hides = []) := h0
  clear hL h0 hZ
  clear hW hb1
  go_enter Tryz.func31, Tryz.ntmps31
  go_wp2_with fail
  refine (takeOpen_any b s v kn kt kh _ W1.out Z1.out hn HL.out hh H0.out).mono ?_
  rintro e w2 ⟨rfl, hP⟩
  have HP : Hid (PutTo (w.alloc (.cells #[.int .i64 2, .string (B kn), .string (B kt), .string (B kh)] 30)) b v w2 (Sn.step s ⟨2, kn, kt, kh⟩)) := hP
  clear hP
  go_wp2
  go_end0
  exact ⟨rfl, PutTo.pre HB1.out HP.out⟩

set_option maxRecDepth 100000 in
set_option maxHeartbeats 3200000 in
theorem take_close (b : Nat) (s : Sn.S) (v : Value) (kn kt kh : List UInt8) (w : World) (hW : Wk w b s v) (hZ : Zt w b) (hn : s.d.length ≤ 900000) (hL : Lim 1000000 s) (h0 : s.hides = []) (e0 : (B s.hides).toList.isEmpty = true) : Calls Tryz.prog 31 #[.pointer (some ⟨b, 0, none⟩), .agg #[.int .i64 3, .string (B kn), .string (B kt), .string (B kh)]] w fun e w' => e = .returned (.tuple #[]) ∧ PutTo w b v w' (Sn.step s ⟨3, kn, kt, kh⟩) := by
  have hb1 : Below w.heap.size w (w.alloc (.cells #[.int .i64 3, .string (B kn), .string (B kt), .string (B kh)] 30)) := (Below.refl _ _).alloc (Nat.le_refl _) _
  have W1 : Hid (Wk (w.alloc (.cells #[.int .i64 3, .string (B kn), .string (B kt), .string (B kh)] 30)) b s v) := hW.under hb1
  have HB1 : Hid (Below w.heap.size w (w.alloc (.cells #[.int .i64 3, .string (B kn), .string (B kt), .string (B kh)] 30))) := hb1
  have hbl := hW.big
  have c6 : w.cell? ⟨b, 6, none⟩ = some (.string (B s.hides)) := hW.blk.cell 6
  have f6 := hW.blk.frozen 6
  have Z1 : Hid (Zt (w.alloc (.cells #[.int .i64 3, .string (B kn), .string (B kt), .string (B kh)] 30)) b) := hZ.under hb1 (Nat.le_of_lt hbl)
  have HL : Hid (Lim 1000000 s) := hL
  have H0 : Hid (s.hides = []) := h0
  clear hL h0 hZ
  clear hW hb1
  go_enter Tryz.func31, Tryz.ntmps31
  go_wp2_with fail
  refine (takeClose_any b s v kn kt kh _ W1.out Z1.out hn HL.out H0.out).mono ?_
  rintro e w2 ⟨rfl, hP⟩
  have HP : Hid (PutTo (w.alloc (.cells #[.int .i64 3, .string (B kn), .string (B kt), .string (B kh)] 30)) b v w2 (Sn.step s ⟨3, kn, kt, kh⟩)) := hP
  clear hP
  go_wp2
  go_end0
  exact ⟨rfl, PutTo.pre HB1.out HP.out⟩

set_option maxRecDepth 100000 in
set_option maxHeartbeats 3200000 in
theorem take_other (b : Nat) (s : Sn.S) (v : Value) (kn kt kh : List UInt8) (w : World) (hW : Wk w b s v) (e0 : (B s.hides).toList.isEmpty = true) : Calls Tryz.prog 31 #[.pointer (some ⟨b, 0, none⟩), .agg #[.int .i64 4, .string (B kn), .string (B kt), .string (B kh)]] w fun e w' => e = .returned (.tuple #[]) ∧ PutTo w b v w' s := by
  have hb1 : Below w.heap.size w (w.alloc (.cells #[.int .i64 4, .string (B kn), .string (B kt), .string (B kh)] 30)) := (Below.refl _ _).alloc (Nat.le_refl _) _
  have W1 : Hid (Wk (w.alloc (.cells #[.int .i64 4, .string (B kn), .string (B kt), .string (B kh)] 30)) b s v) := hW.under hb1
  have HB1 : Hid (Below w.heap.size w (w.alloc (.cells #[.int .i64 4, .string (B kn), .string (B kt), .string (B kh)] 30))) := hb1
  have hbl := hW.big
  have c6 : w.cell? ⟨b, 6, none⟩ = some (.string (B s.hides)) := hW.blk.cell 6
  have f6 := hW.blk.frozen 6
  clear hW hb1
  go_enter Tryz.func31, Tryz.ntmps31
  go_wp2
  go_end0
  exact ⟨rfl, PutTo.pre HB1.out (PutTo.refl W1.out)⟩

theorem empty_of (l : List UInt8) : (B l).toList.isEmpty = l.isEmpty := by rw [Lib.toList_data, B_data]
theorem BB_beq (x y : List UInt8) : ((B x).toList == (B y).toList) = (x == y) := by rw [Lib.toList_data, B_data, Lib.toList_data, B_data]
theorem ztake_any (b : Nat) (s : Sn.S) (v : Value) (t : Tk) (w : World) (hW : Wk w b s v) (hZ : Zt w b) (hn : s.d.length ≤ 80) (hL : Lim 1000000 s) (hf : Tk.Fits 20000 t) : Calls Tryz.prog 31 #[.pointer (some ⟨b, 0, none⟩), .agg #[.int .i64 t.kind, .string (B t.name), .string (B t.text), .string (B t.href)]] w fun e w' => e = .returned (.tuple #[]) ∧ PutTo w b v w' (Sn.step s t) := by
  obtain ⟨kk, kn, kt, kh⟩ := t
  have ft := hf.text
  have fh := hf.href
  have fk := hf.kind
  simp only at ft fh fk ⊢
  cases h0 : s.hides.isEmpty
  · have e0 := (empty_of s.hides).trans h0
    have hs : Sn.step s ⟨kk, kn, kt, kh⟩ = if kk == 3 && kn == s.hides then { s with hides := [] } else s := by unfold Sn.step; rw [h0]; rfl
    rw [hs]
    cases hk : (kk == 3)
    · exact take_hn b s v kk kn kt kh w hW e0 hk
    · have : kk = 3 := by simpa using hk
      subst this
      cases hq : (kn == s.hides)
      · exact take_h3n b s v kn kt kh w hW e0 ((BB_beq _ _).trans hq)
      · exact take_h3 b s v kn kt kh w hW e0 ((BB_beq _ _).trans hq)
  · have e0 := (empty_of s.hides).trans h0
    have h0' : s.hides = [] := by simpa using h0
    rcases fk with rfl | rfl | rfl | rfl
    · have hs : Sn.step s ⟨1, kn, kt, kh⟩ = s.chars kt := by rw [Sn.step_seen s _ h0']; rfl
      rw [hs]
      exact take_text b s v kn kt kh w hW (by omega) e0
    · exact take_open b s v kn kt kh w hW hZ (by omega) hL fh h0' e0
    · exact take_close b s v kn kt kh w hW hZ (by omega) hL h0' e0
    · have hs : Sn.step s ⟨4, kn, kt, kh⟩ = s := by rw [Sn.step_seen s _ h0']; rfl
      rw [hs]
      exact take_other b s v kn kt kh w hW e0

theorem Lim.mono {n m : Nat} {s : Sn.S} (h : Lim n s) (hm : n ≤ m) : Lim m s := ⟨h.b0, by have := h.b1; omega, h.s0, by have := h.s1; omega⟩
theorem one_le (k : Int) : Sn.one k ≤ 1 := by
  unfold Sn.one
  split
  · omega
  · split <;> omega
theorem up_ge (x : Int) : 0 ≤ Sn.up x := by unfold Sn.up; split <;> omega
theorem up_le {x : Int} {n : Nat} (h : x ≤ n) : Sn.up x ≤ n := by unfold Sn.up; split <;> omega
theorem lim_shut {n : Nat} {s : Sn.S} (h : Lim n s) : Lim n (Sn.shut s) := ⟨h.b0, h.b1, h.s0, h.s1⟩
theorem lim_other {n : Nat} {s : Sn.S} (h : Lim n s) (t : Tk) : Lim (n + 1) (Sn.other s t) := by
  have g := h.mono (Nat.le_succ n)
  have ho := one_le t.kind
  have b1 := h.b1
  have s1 := h.s1
  unfold Sn.other
  split
  · exact ⟨up_ge _, up_le (by push_cast; omega), g.s0, g.s1⟩
  split
  · exact ⟨g.b0, g.b1, up_ge _, up_le (by push_cast; omega)⟩
  split
  · exact ⟨g.b0, g.b1, g.s0, g.s1⟩
  split
  · exact g
  split
  · exact ⟨g.b0, g.b1, g.s0, g.s1⟩
  split
  · exact ⟨g.b0, g.b1, g.s0, g.s1⟩
  · exact g
theorem lim_step {n : Nat} {s : Sn.S} (h : Lim n s) (t : Tk) : Lim (n + 1) (Sn.step s t) := by
  have g := h.mono (Nat.le_succ n)
  unfold Sn.step
  split
  · split
    · exact ⟨g.b0, g.b1, g.s0, g.s1⟩
    · exact g
  split
  · exact ⟨g.b0, g.b1, g.s0, g.s1⟩
  split
  · exact g
  split
  · split
    · exact ⟨g.b0, g.b1, g.s0, g.s1⟩
    · exact lim_shut g
  · exact lim_other h t
end Go.Proofs.YtpcaiechaakhnabGreatDoor
