/-
  Package sanitize, a page at work: a tag is taken, a token is taken.
-/
import Derived.Test.YtpcaiechaakhnabGreatDoorSe
import Derived.Test.YtpcaiechaakhnabGreatDoorTf
namespace Go.Proofs.YtpcaiechaakhnabGreatDoor
open Go.RowKit

/-- What is laid, as sanitize reads it. -/
structure Zt (w : World) (b : Nat) : Prop where
  bn : Bn w
  hn : Hn w
  sch : Sch w
  b1 : 5 < b
  b2 : 6 < b
  b3 : 8 < b
theorem Zt.below {w w' : World} {b : Nat} (h : Zt w b) (hb : Below b w w') : Zt w' b :=
  ⟨h.bn.below hb h.b1, h.hn.below hb h.b2, (by obtain ⟨t, fr, hg⟩ := h.sch; exact ⟨t, fr, (hb.block 8 h.b3).trans hg⟩), h.b1, h.b2, h.b3⟩
theorem Zt.under {w w' : World} {b : Nat} (h : Zt w b) (hb : Below w.heap.size w w') (hl : b ≤ w.heap.size) : Zt w' b := h.below (hb.mono hl)
/-- How deep marks are, and how much is made, within bounds. -/
structure Lim (n : Nat) (s : Sn.S) : Prop where
  b0 : 0 ≤ s.bold
  b1 : s.bold ≤ n
  s0 : 0 ≤ s.slant
  s1 : s.slant ≤ n
theorem up_pos {x : Int} (h : 0 ≤ x) : Sn.up x = x := by unfold Sn.up; rw [if_neg (by omega)]

set_option maxRecDepth 100000 in
set_option maxHeartbeats 3200000 in
theorem open_block (b : Nat) (s : Sn.S) (v : Value) (kk : Int) (kn kt kh : List UInt8) (w : World) (hW : Wk w b s v) (hZ : Zt w b) (hn : s.d.length ≤ 900000) (k : Int) (hbk : Sn.blockOf kn = some k) : Calls Tryz.prog 61 #[.pointer (some ⟨b, 0, none⟩), .agg #[.int .i64 kk, .string (B kn), .string (B kt), .string (B kh)]] w fun e w' => e = .returned (.tuple #[]) ∧ PutTo w b v w' { Sn.shut s with opened := true, kind := k } := by
  have hb1 : Below w.heap.size w (w.alloc (.cells #[.int .i64 kk, .string (B kn), .string (B kt), .string (B kh)] 30)) := (Below.refl _ _).alloc (Nat.le_refl _) _
  have W1 : Hid (Wk (w.alloc (.cells #[.int .i64 kk, .string (B kn), .string (B kt), .string (B kh)] 30)) b s v) := hW.under hb1
  have Z1 : Hid (Zt (w.alloc (.cells #[.int .i64 kk, .string (B kn), .string (B kt), .string (B kh)] 30)) b) := hZ.under hb1 (Nat.le_of_lt hW.big)
  have HB1 : Hid (Below w.heap.size w (w.alloc (.cells #[.int .i64 kk, .string (B kn), .string (B kt), .string (B kh)] 30))) := hb1
  have hbl := hW.big
  have B1 : Hid (Blk (w.alloc (.cells #[.int .i64 kk, .string (B kn), .string (B kt), .string (B kh)] 30)) w.heap.size [.int .i64 kk, .string (B kn), .string (B kt), .string (B kh)] 30) := Blk.new w [.int .i64 kk, .string (B kn), .string (B kt), .string (B kh)] 30
  have CK : Hid (∀ w', Bn w' → Calls Tryz.prog 91 #[.string (B kn)] w' fun e w2 => e = .returned (.tuple #[.int .i64 k, .bool true]) ∧ Below w'.heap.size w' w2) := fun w' h => by have := kindOf_any kn w' h; rw [hbk] at this; exact this
  have CD : Hid (∀ w', Calls Tryz.prog 92 #[.pointer (some ⟨b, 0, none⟩), .string (B kn)] w' fun e w2 => e = .returned (.pointer (dp b kn)) ∧ w2 = w') := fun w' => by have := deep_any b kn w'; exact this
  clear hW hZ hb1 hbk
  go_enter Tryz.func61, Tryz.ntmps61
  go_wp2_with fail
  refine (CK.out _ Z1.out.bn).mono ?_
  rintro e w2 ⟨rfl, hb2⟩
  have W2 : Hid (Wk w2 b s v) := W1.out.under hb2
  have Z2 : Hid (Zt w2 b) := Z1.out.under hb2 (Nat.le_of_lt W1.out.big)
  have HB2 : Hid (Below w.heap.size w w2) := HB1.out.trans (hb2.mono HB1.out.size)
  have B2 : Hid (Blk w2 w.heap.size [.int .i64 kk, .string (B kn), .string (B kt), .string (B kh)] 30) := (hb2.block _ B1.out.lt).trans B1.out
  have tn : w2.cell? ⟨w.heap.size, 1, none⟩ = some (.string (B kn)) := B2.out.cell 1
  have th : w2.cell? ⟨w.heap.size, 3, none⟩ = some (.string (B kh)) := B2.out.cell 3
  clear hb2 W1 Z1 HB1 B1 CK
  go_wp2_with fail
  refine (CD.out _).mono ?_
  rintro e w3 ⟨rfl, rfl⟩
  clear tn th
  generalize dp b kn = dd at *
  go_wp2_with fail
  refine (endBlock_any b s v _ W2.out (by omega)).mono ?_
  rintro e w4 ⟨rfl, ⟨v1, hW1, hv1⟩, hK1⟩
  have H1 : Hid (Wk w4 b (Sn.shut s) v1) := hW1
  have HV : Hid (v1.ownBlock = v.ownBlock ∨ ∀ k, v1.ownBlock = some k → w3.heap.size ≤ k) := hv1
  have HK : Hid (Kept w3 w4 (b :: ob v)) := hK1
  have d5 : w4.cell? ⟨b, 5, none⟩ = some (.bool (Sn.shut s).opened) := hW1.blk.cell 5
  have d4 : w4.cell? ⟨b, 4, none⟩ = some (.int .i64 (Sn.shut s).kind) := hW1.blk.cell 4
  have g5 := hW1.blk.frozen 5
  have g4 := hW1.blk.frozen 4
  clear hW1 hv1 hK1
  go_wp2
  go_end0
  exact ⟨rfl, PutTo.pre HB2.out (PutTo.over HV.out HK.out H1.out ((H1.out.blk.set 5 _).set 4 _) (kept_set2 ..) rfl)⟩

set_option maxRecDepth 100000 in
set_option maxHeartbeats 3200000 in
theorem open_bold (b : Nat) (s : Sn.S) (v : Value) (kk : Int) (kn kt kh : List UInt8) (w : World) (hW : Wk w b s v) (hZ : Zt w b) (_hn : s.d.length ≤ 900000) (h0 : 0 ≤ s.bold) (h1 : s.bold ≤ 1000000) (hbk : Sn.blockOf kn = none) (hdp : dp b kn = some ⟨b, 1, none⟩) : Calls Tryz.prog 61 #[.pointer (some ⟨b, 0, none⟩), .agg #[.int .i64 kk, .string (B kn), .string (B kt), .string (B kh)]] w fun e w' => e = .returned (.tuple #[]) ∧ PutTo w b v w' { s with bold := s.bold + 1 } := by
  have hb1 : Below w.heap.size w (w.alloc (.cells #[.int .i64 kk, .string (B kn), .string (B kt), .string (B kh)] 30)) := (Below.refl _ _).alloc (Nat.le_refl _) _
  have W1 : Hid (Wk (w.alloc (.cells #[.int .i64 kk, .string (B kn), .string (B kt), .string (B kh)] 30)) b s v) := hW.under hb1
  have Z1 : Hid (Zt (w.alloc (.cells #[.int .i64 kk, .string (B kn), .string (B kt), .string (B kh)] 30)) b) := hZ.under hb1 (Nat.le_of_lt hW.big)
  have HB1 : Hid (Below w.heap.size w (w.alloc (.cells #[.int .i64 kk, .string (B kn), .string (B kt), .string (B kh)] 30))) := hb1
  have hbl := hW.big
  have B1 : Hid (Blk (w.alloc (.cells #[.int .i64 kk, .string (B kn), .string (B kt), .string (B kh)] 30)) w.heap.size [.int .i64 kk, .string (B kn), .string (B kt), .string (B kh)] 30) := Blk.new w [.int .i64 kk, .string (B kn), .string (B kt), .string (B kh)] 30
  have CK : Hid (∀ w', Bn w' → Calls Tryz.prog 91 #[.string (B kn)] w' fun e w2 => e = .returned (.tuple #[.int .i64 0, .bool false]) ∧ Below w'.heap.size w' w2) := fun w' h => by have := kindOf_any kn w' h; rw [hbk] at this; exact this
  have CD : Hid (∀ w', Calls Tryz.prog 92 #[.pointer (some ⟨b, 0, none⟩), .string (B kn)] w' fun e w2 => e = .returned (.pointer (some ⟨b, 1, none⟩)) ∧ w2 = w') := fun w' => by have := deep_any b kn w'; rw [hdp] at this; exact this
  clear hW hZ hb1 hbk hdp
  go_enter Tryz.func61, Tryz.ntmps61
  go_wp2_with fail
  refine (CK.out _ Z1.out.bn).mono ?_
  rintro e w2 ⟨rfl, hb2⟩
  have W2 : Hid (Wk w2 b s v) := W1.out.under hb2
  have Z2 : Hid (Zt w2 b) := Z1.out.under hb2 (Nat.le_of_lt W1.out.big)
  have HB2 : Hid (Below w.heap.size w w2) := HB1.out.trans (hb2.mono HB1.out.size)
  have B2 : Hid (Blk w2 w.heap.size [.int .i64 kk, .string (B kn), .string (B kt), .string (B kh)] 30) := (hb2.block _ B1.out.lt).trans B1.out
  have tn : w2.cell? ⟨w.heap.size, 1, none⟩ = some (.string (B kn)) := B2.out.cell 1
  have th : w2.cell? ⟨w.heap.size, 3, none⟩ = some (.string (B kh)) := B2.out.cell 3
  clear hb2 W1 Z1 HB1 B1 CK
  go_wp2_with fail
  refine (CD.out _).mono ?_
  rintro e w3 ⟨rfl, rfl⟩
  clear tn th
  have c1 : w3.cell? ⟨b, 1, none⟩ = some (.int .i64 s.bold) := W2.out.blk.cell 1
  have f1 := W2.out.blk.frozen 1
  obtain ⟨x, hx⟩ : ∃ x, s.bold = x := ⟨_, rfl⟩
  have HX : Hid (s.bold = x) := hx
  rw [hx] at c1 h0 h1
  clear hx
  go_wp2
  go_end0
  refine ⟨rfl, PutTo.pre HB2.out (PutTo.over (.inl rfl) (Kept.refl _ _) W2.out ?_ (kept_set1 ..) rfl)⟩
  rw [← HX.out]
  exact W2.out.blk.set 1 _

set_option maxRecDepth 100000 in
set_option maxHeartbeats 3200000 in
theorem open_slant (b : Nat) (s : Sn.S) (v : Value) (kk : Int) (kn kt kh : List UInt8) (w : World) (hW : Wk w b s v) (hZ : Zt w b) (_hn : s.d.length ≤ 900000) (h0 : 0 ≤ s.slant) (h1 : s.slant ≤ 1000000) (hbk : Sn.blockOf kn = none) (hdp : dp b kn = some ⟨b, 2, none⟩) : Calls Tryz.prog 61 #[.pointer (some ⟨b, 0, none⟩), .agg #[.int .i64 kk, .string (B kn), .string (B kt), .string (B kh)]] w fun e w' => e = .returned (.tuple #[]) ∧ PutTo w b v w' { s with slant := s.slant + 1 } := by
  have hb1 : Below w.heap.size w (w.alloc (.cells #[.int .i64 kk, .string (B kn), .string (B kt), .string (B kh)] 30)) := (Below.refl _ _).alloc (Nat.le_refl _) _
  have W1 : Hid (Wk (w.alloc (.cells #[.int .i64 kk, .string (B kn), .string (B kt), .string (B kh)] 30)) b s v) := hW.under hb1
  have Z1 : Hid (Zt (w.alloc (.cells #[.int .i64 kk, .string (B kn), .string (B kt), .string (B kh)] 30)) b) := hZ.under hb1 (Nat.le_of_lt hW.big)
  have HB1 : Hid (Below w.heap.size w (w.alloc (.cells #[.int .i64 kk, .string (B kn), .string (B kt), .string (B kh)] 30))) := hb1
  have hbl := hW.big
  have B1 : Hid (Blk (w.alloc (.cells #[.int .i64 kk, .string (B kn), .string (B kt), .string (B kh)] 30)) w.heap.size [.int .i64 kk, .string (B kn), .string (B kt), .string (B kh)] 30) := Blk.new w [.int .i64 kk, .string (B kn), .string (B kt), .string (B kh)] 30
  have CK : Hid (∀ w', Bn w' → Calls Tryz.prog 91 #[.string (B kn)] w' fun e w2 => e = .returned (.tuple #[.int .i64 0, .bool false]) ∧ Below w'.heap.size w' w2) := fun w' h => by have := kindOf_any kn w' h; rw [hbk] at this; exact this
  have CD : Hid (∀ w', Calls Tryz.prog 92 #[.pointer (some ⟨b, 0, none⟩), .string (B kn)] w' fun e w2 => e = .returned (.pointer (some ⟨b, 2, none⟩)) ∧ w2 = w') := fun w' => by have := deep_any b kn w'; rw [hdp] at this; exact this
  clear hW hZ hb1 hbk hdp
  go_enter Tryz.func61, Tryz.ntmps61
  go_wp2_with fail
  refine (CK.out _ Z1.out.bn).mono ?_
  rintro e w2 ⟨rfl, hb2⟩
  have W2 : Hid (Wk w2 b s v) := W1.out.under hb2
  have Z2 : Hid (Zt w2 b) := Z1.out.under hb2 (Nat.le_of_lt W1.out.big)
  have HB2 : Hid (Below w.heap.size w w2) := HB1.out.trans (hb2.mono HB1.out.size)
  have B2 : Hid (Blk w2 w.heap.size [.int .i64 kk, .string (B kn), .string (B kt), .string (B kh)] 30) := (hb2.block _ B1.out.lt).trans B1.out
  have tn : w2.cell? ⟨w.heap.size, 1, none⟩ = some (.string (B kn)) := B2.out.cell 1
  have th : w2.cell? ⟨w.heap.size, 3, none⟩ = some (.string (B kh)) := B2.out.cell 3
  clear hb2 W1 Z1 HB1 B1 CK
  go_wp2_with fail
  refine (CD.out _).mono ?_
  rintro e w3 ⟨rfl, rfl⟩
  clear tn th
  have c1 : w3.cell? ⟨b, 2, none⟩ = some (.int .i64 s.slant) := W2.out.blk.cell 2
  have f1 := W2.out.blk.frozen 2
  obtain ⟨x, hx⟩ : ∃ x, s.slant = x := ⟨_, rfl⟩
  have HX : Hid (s.slant = x) := hx
  rw [hx] at c1 h0 h1
  clear hx
  go_wp2
  go_end0
  refine ⟨rfl, PutTo.pre HB2.out (PutTo.over (.inl rfl) (Kept.refl _ _) W2.out ?_ (kept_set1 ..) rfl)⟩
  rw [← HX.out]
  exact W2.out.blk.set 2 _

set_option maxRecDepth 100000 in
set_option maxHeartbeats 3200000 in
theorem open_a (b : Nat) (s : Sn.S) (v : Value) (kk : Int) (kn kt kh : List UInt8) (w : World) (hW : Wk w b s v) (hZ : Zt w b) (_hn : s.d.length ≤ 900000) (hh : kh.length ≤ 20000) (hbk : Sn.blockOf kn = none) (hdp : dp b kn = none) (ha : ((B kn).toList == [97]) = true) : Calls Tryz.prog 61 #[.pointer (some ⟨b, 0, none⟩), .agg #[.int .i64 kk, .string (B kn), .string (B kt), .string (B kh)]] w fun e w' => e = .returned (.tuple #[]) ∧ PutTo w b v w' { s with link := Lk.clean kh } := by
  have hb1 : Below w.heap.size w (w.alloc (.cells #[.int .i64 kk, .string (B kn), .string (B kt), .string (B kh)] 30)) := (Below.refl _ _).alloc (Nat.le_refl _) _
  have W1 : Hid (Wk (w.alloc (.cells #[.int .i64 kk, .string (B kn), .string (B kt), .string (B kh)] 30)) b s v) := hW.under hb1
  have Z1 : Hid (Zt (w.alloc (.cells #[.int .i64 kk, .string (B kn), .string (B kt), .string (B kh)] 30)) b) := hZ.under hb1 (Nat.le_of_lt hW.big)
  have HB1 : Hid (Below w.heap.size w (w.alloc (.cells #[.int .i64 kk, .string (B kn), .string (B kt), .string (B kh)] 30))) := hb1
  have hbl := hW.big
  have B1 : Hid (Blk (w.alloc (.cells #[.int .i64 kk, .string (B kn), .string (B kt), .string (B kh)] 30)) w.heap.size [.int .i64 kk, .string (B kn), .string (B kt), .string (B kh)] 30) := Blk.new w [.int .i64 kk, .string (B kn), .string (B kt), .string (B kh)] 30
  have CK : Hid (∀ w', Bn w' → Calls Tryz.prog 91 #[.string (B kn)] w' fun e w2 => e = .returned (.tuple #[.int .i64 0, .bool false]) ∧ Below w'.heap.size w' w2) := fun w' h => by have := kindOf_any kn w' h; rw [hbk] at this; exact this
  have CD : Hid (∀ w', Calls Tryz.prog 92 #[.pointer (some ⟨b, 0, none⟩), .string (B kn)] w' fun e w2 => e = .returned (.pointer (none)) ∧ w2 = w') := fun w' => by have := deep_any b kn w'; rw [hdp] at this; exact this
  clear hW hZ hb1 hbk hdp
  go_enter Tryz.func61, Tryz.ntmps61
  go_wp2_with fail
  refine (CK.out _ Z1.out.bn).mono ?_
  rintro e w2 ⟨rfl, hb2⟩
  have W2 : Hid (Wk w2 b s v) := W1.out.under hb2
  have Z2 : Hid (Zt w2 b) := Z1.out.under hb2 (Nat.le_of_lt W1.out.big)
  have HB2 : Hid (Below w.heap.size w w2) := HB1.out.trans (hb2.mono HB1.out.size)
  have B2 : Hid (Blk w2 w.heap.size [.int .i64 kk, .string (B kn), .string (B kt), .string (B kh)] 30) := (hb2.block _ B1.out.lt).trans B1.out
  have tn : w2.cell? ⟨w.heap.size, 1, none⟩ = some (.string (B kn)) := B2.out.cell 1
  have th : w2.cell? ⟨w.heap.size, 3, none⟩ = some (.string (B kh)) := B2.out.cell 3
  clear hb2 W1 Z1 HB1 B1 CK
  go_wp2_with fail
  refine (CD.out _).mono ?_
  rintro e w3 ⟨rfl, rfl⟩
  have f3 := W2.out.blk.frozen 3
  have c3 : w3.cell? ⟨b, 3, none⟩ = some (.string (B s.link)) := W2.out.blk.cell 3
  go_wp2_with fail
  refine (zclean_any kh _ hh Z2.out.sch).mono ?_
  rintro e w4 ⟨rfl, hb4⟩
  have W4 : Hid (Wk w4 b s v) := W2.out.under hb4
  have HB4 : Hid (Below w.heap.size w w4) := HB2.out.trans (hb4.mono HB2.out.size)
  have g3 := W4.out.blk.frozen 3
  have d3 : w4.cell? ⟨b, 3, none⟩ = some (.string (B s.link)) := W4.out.blk.cell 3
  clear hb4 f3 c3
  go_wp2
  go_end0
  exact ⟨rfl, PutTo.pre HB4.out (PutTo.over (.inl rfl) (Kept.refl _ _) W4.out (W4.out.blk.set 3 _) (kept_set1 ..) rfl)⟩

set_option maxRecDepth 100000 in
set_option maxHeartbeats 3200000 in
theorem open_br (b : Nat) (s : Sn.S) (v : Value) (kk : Int) (kn kt kh : List UInt8) (w : World) (hW : Wk w b s v) (hZ : Zt w b) (hn : s.d.length ≤ 900000) (hbk : Sn.blockOf kn = none) (hdp : dp b kn = none) (ha : ((B kn).toList == [97]) = false) (hbr : ((B kn).toList == [98, 114]) = true) : Calls Tryz.prog 61 #[.pointer (some ⟨b, 0, none⟩), .agg #[.int .i64 kk, .string (B kn), .string (B kt), .string (B kh)]] w fun e w' => e = .returned (.tuple #[]) ∧ PutTo w b v w' { Sn.shut { s with opened := true } with kind := s.kind } := by
  have hb1 : Below w.heap.size w (w.alloc (.cells #[.int .i64 kk, .string (B kn), .string (B kt), .string (B kh)] 30)) := (Below.refl _ _).alloc (Nat.le_refl _) _
  have W1 : Hid (Wk (w.alloc (.cells #[.int .i64 kk, .string (B kn), .string (B kt), .string (B kh)] 30)) b s v) := hW.under hb1
  have Z1 : Hid (Zt (w.alloc (.cells #[.int .i64 kk, .string (B kn), .string (B kt), .string (B kh)] 30)) b) := hZ.under hb1 (Nat.le_of_lt hW.big)
  have HB1 : Hid (Below w.heap.size w (w.alloc (.cells #[.int .i64 kk, .string (B kn), .string (B kt), .string (B kh)] 30))) := hb1
  have hbl := hW.big
  have B1 : Hid (Blk (w.alloc (.cells #[.int .i64 kk, .string (B kn), .string (B kt), .string (B kh)] 30)) w.heap.size [.int .i64 kk, .string (B kn), .string (B kt), .string (B kh)] 30) := Blk.new w [.int .i64 kk, .string (B kn), .string (B kt), .string (B kh)] 30
  have CK : Hid (∀ w', Bn w' → Calls Tryz.prog 91 #[.string (B kn)] w' fun e w2 => e = .returned (.tuple #[.int .i64 0, .bool false]) ∧ Below w'.heap.size w' w2) := fun w' h => by have := kindOf_any kn w' h; rw [hbk] at this; exact this
  have CD : Hid (∀ w', Calls Tryz.prog 92 #[.pointer (some ⟨b, 0, none⟩), .string (B kn)] w' fun e w2 => e = .returned (.pointer (none)) ∧ w2 = w') := fun w' => by have := deep_any b kn w'; rw [hdp] at this; exact this
  clear hW hZ hb1 hbk hdp
  go_enter Tryz.func61, Tryz.ntmps61
  go_wp2_with fail
  refine (CK.out _ Z1.out.bn).mono ?_
  rintro e w2 ⟨rfl, hb2⟩
  have W2 : Hid (Wk w2 b s v) := W1.out.under hb2
  have Z2 : Hid (Zt w2 b) := Z1.out.under hb2 (Nat.le_of_lt W1.out.big)
  have HB2 : Hid (Below w.heap.size w w2) := HB1.out.trans (hb2.mono HB1.out.size)
  have B2 : Hid (Blk w2 w.heap.size [.int .i64 kk, .string (B kn), .string (B kt), .string (B kh)] 30) := (hb2.block _ B1.out.lt).trans B1.out
  have tn : w2.cell? ⟨w.heap.size, 1, none⟩ = some (.string (B kn)) := B2.out.cell 1
  have th : w2.cell? ⟨w.heap.size, 3, none⟩ = some (.string (B kh)) := B2.out.cell 3
  clear hb2 W1 Z1 HB1 B1 CK
  go_wp2_with fail
  refine (CD.out _).mono ?_
  rintro e w3 ⟨rfl, rfl⟩
  go_wp2_with fail
  refine (break_any b s v _ W2.out (by omega)).mono ?_
  rintro e w4 ⟨rfl, hP⟩
  have HP : Hid (PutTo w3 b v w4 { Sn.shut { s with opened := true } with kind := s.kind }) := hP
  clear hP
  go_wp2
  go_end0
  exact ⟨rfl, PutTo.pre HB2.out HP.out⟩

set_option maxRecDepth 100000 in
set_option maxHeartbeats 3200000 in
theorem open_hides (b : Nat) (s : Sn.S) (v : Value) (kk : Int) (kn kt kh : List UInt8) (w : World) (hW : Wk w b s v) (hZ : Zt w b) (_hn : s.d.length ≤ 900000) (hbk : Sn.blockOf kn = none) (hdp : dp b kn = none) (ha : ((B kn).toList == [97]) = false) (hbr : ((B kn).toList == [98, 114]) = false) (hh : Sn.hiddenL.contains kn = true) : Calls Tryz.prog 61 #[.pointer (some ⟨b, 0, none⟩), .agg #[.int .i64 kk, .string (B kn), .string (B kt), .string (B kh)]] w fun e w' => e = .returned (.tuple #[]) ∧ PutTo w b v w' { s with hides := kn } := by
  have hb1 : Below w.heap.size w (w.alloc (.cells #[.int .i64 kk, .string (B kn), .string (B kt), .string (B kh)] 30)) := (Below.refl _ _).alloc (Nat.le_refl _) _
  have W1 : Hid (Wk (w.alloc (.cells #[.int .i64 kk, .string (B kn), .string (B kt), .string (B kh)] 30)) b s v) := hW.under hb1
  have Z1 : Hid (Zt (w.alloc (.cells #[.int .i64 kk, .string (B kn), .string (B kt), .string (B kh)] 30)) b) := hZ.under hb1 (Nat.le_of_lt hW.big)
  have HB1 : Hid (Below w.heap.size w (w.alloc (.cells #[.int .i64 kk, .string (B kn), .string (B kt), .string (B kh)] 30))) := hb1
  have hbl := hW.big
  have B1 : Hid (Blk (w.alloc (.cells #[.int .i64 kk, .string (B kn), .string (B kt), .string (B kh)] 30)) w.heap.size [.int .i64 kk, .string (B kn), .string (B kt), .string (B kh)] 30) := Blk.new w [.int .i64 kk, .string (B kn), .string (B kt), .string (B kh)] 30
  have CK : Hid (∀ w', Bn w' → Calls Tryz.prog 91 #[.string (B kn)] w' fun e w2 => e = .returned (.tuple #[.int .i64 0, .bool false]) ∧ Below w'.heap.size w' w2) := fun w' h => by have := kindOf_any kn w' h; rw [hbk] at this; exact this
  have CD : Hid (∀ w', Calls Tryz.prog 92 #[.pointer (some ⟨b, 0, none⟩), .string (B kn)] w' fun e w2 => e = .returned (.pointer (none)) ∧ w2 = w') := fun w' => by have := deep_any b kn w'; rw [hdp] at this; exact this
  clear hW hZ hb1 hbk hdp
  go_enter Tryz.func61, Tryz.ntmps61
  go_wp2_with fail
  refine (CK.out _ Z1.out.bn).mono ?_
  rintro e w2 ⟨rfl, hb2⟩
  have W2 : Hid (Wk w2 b s v) := W1.out.under hb2
  have Z2 : Hid (Zt w2 b) := Z1.out.under hb2 (Nat.le_of_lt W1.out.big)
  have HB2 : Hid (Below w.heap.size w w2) := HB1.out.trans (hb2.mono HB1.out.size)
  have B2 : Hid (Blk w2 w.heap.size [.int .i64 kk, .string (B kn), .string (B kt), .string (B kh)] 30) := (hb2.block _ B1.out.lt).trans B1.out
  have tn : w2.cell? ⟨w.heap.size, 1, none⟩ = some (.string (B kn)) := B2.out.cell 1
  have th : w2.cell? ⟨w.heap.size, 3, none⟩ = some (.string (B kh)) := B2.out.cell 3
  clear hb2 W1 Z1 HB1 B1 CK
  go_wp2_with fail
  refine (CD.out _).mono ?_
  rintro e w3 ⟨rfl, rfl⟩
  have CH : Hid (∀ w', Hn w' → Calls Tryz.prog 95 #[.string (B kn)] w' fun e w2 => e = .returned (.bool true) ∧ w2 = w') := fun w' h => by have := hides_any kn w' h; rw [hh] at this; exact this
  clear hh
  go_wp2_with fail
  refine (CH.out _ Z2.out.hn).mono ?_
  rintro e w4 ⟨rfl, rfl⟩
  have g6 := W2.out.blk.frozen 6
  have d6 : w4.cell? ⟨b, 6, none⟩ = some (.string (B s.hides)) := W2.out.blk.cell 6
  go_wp2
  go_end0
  exact ⟨rfl, PutTo.pre HB2.out (PutTo.over (.inl rfl) (Kept.refl _ _) W2.out (W2.out.blk.set 6 _) (kept_set1 ..) rfl)⟩

set_option maxRecDepth 100000 in
set_option maxHeartbeats 3200000 in
theorem open_none (b : Nat) (s : Sn.S) (v : Value) (kk : Int) (kn kt kh : List UInt8) (w : World) (hW : Wk w b s v) (hZ : Zt w b) (_hn : s.d.length ≤ 900000) (hbk : Sn.blockOf kn = none) (hdp : dp b kn = none) (ha : ((B kn).toList == [97]) = false) (hbr : ((B kn).toList == [98, 114]) = false) (hh : Sn.hiddenL.contains kn = false) : Calls Tryz.prog 61 #[.pointer (some ⟨b, 0, none⟩), .agg #[.int .i64 kk, .string (B kn), .string (B kt), .string (B kh)]] w fun e w' => e = .returned (.tuple #[]) ∧ PutTo w b v w' s := by
  have hb1 : Below w.heap.size w (w.alloc (.cells #[.int .i64 kk, .string (B kn), .string (B kt), .string (B kh)] 30)) := (Below.refl _ _).alloc (Nat.le_refl _) _
  have W1 : Hid (Wk (w.alloc (.cells #[.int .i64 kk, .string (B kn), .string (B kt), .string (B kh)] 30)) b s v) := hW.under hb1
  have Z1 : Hid (Zt (w.alloc (.cells #[.int .i64 kk, .string (B kn), .string (B kt), .string (B kh)] 30)) b) := hZ.under hb1 (Nat.le_of_lt hW.big)
  have HB1 : Hid (Below w.heap.size w (w.alloc (.cells #[.int .i64 kk, .string (B kn), .string (B kt), .string (B kh)] 30))) := hb1
  have hbl := hW.big
  have B1 : Hid (Blk (w.alloc (.cells #[.int .i64 kk, .string (B kn), .string (B kt), .string (B kh)] 30)) w.heap.size [.int .i64 kk, .string (B kn), .string (B kt), .string (B kh)] 30) := Blk.new w [.int .i64 kk, .string (B kn), .string (B kt), .string (B kh)] 30
  have CK : Hid (∀ w', Bn w' → Calls Tryz.prog 91 #[.string (B kn)] w' fun e w2 => e = .returned (.tuple #[.int .i64 0, .bool false]) ∧ Below w'.heap.size w' w2) := fun w' h => by have := kindOf_any kn w' h; rw [hbk] at this; exact this
  have CD : Hid (∀ w', Calls Tryz.prog 92 #[.pointer (some ⟨b, 0, none⟩), .string (B kn)] w' fun e w2 => e = .returned (.pointer (none)) ∧ w2 = w') := fun w' => by have := deep_any b kn w'; rw [hdp] at this; exact this
  clear hW hZ hb1 hbk hdp
  go_enter Tryz.func61, Tryz.ntmps61
  go_wp2_with fail
  refine (CK.out _ Z1.out.bn).mono ?_
  rintro e w2 ⟨rfl, hb2⟩
  have W2 : Hid (Wk w2 b s v) := W1.out.under hb2
  have Z2 : Hid (Zt w2 b) := Z1.out.under hb2 (Nat.le_of_lt W1.out.big)
  have HB2 : Hid (Below w.heap.size w w2) := HB1.out.trans (hb2.mono HB1.out.size)
  have B2 : Hid (Blk w2 w.heap.size [.int .i64 kk, .string (B kn), .string (B kt), .string (B kh)] 30) := (hb2.block _ B1.out.lt).trans B1.out
  have tn : w2.cell? ⟨w.heap.size, 1, none⟩ = some (.string (B kn)) := B2.out.cell 1
  have th : w2.cell? ⟨w.heap.size, 3, none⟩ = some (.string (B kh)) := B2.out.cell 3
  clear hb2 W1 Z1 HB1 B1 CK
  go_wp2_with fail
  refine (CD.out _).mono ?_
  rintro e w3 ⟨rfl, rfl⟩
  have CH : Hid (∀ w', Hn w' → Calls Tryz.prog 95 #[.string (B kn)] w' fun e w2 => e = .returned (.bool false) ∧ w2 = w') := fun w' h => by have := hides_any kn w' h; rw [hh] at this; exact this
  clear hh
  go_wp2_with fail
  refine (CH.out _ Z2.out.hn).mono ?_
  rintro e w4 ⟨rfl, rfl⟩
  go_wp2
  go_end0
  exact ⟨rfl, PutTo.pre HB2.out (PutTo.refl W2.out)⟩

theorem dp_bold {b : Nat} {x : List UInt8} (h : Sn.boldL.contains x = true) : dp b x = some ⟨b, 1, none⟩ := by unfold dp; rw [if_pos h]
theorem dp_slant {b : Nat} {x : List UInt8} (h : Sn.boldL.contains x = false) (h2 : Sn.slantL.contains x = true) : dp b x = some ⟨b, 2, none⟩ := by unfold dp; rw [h, if_neg Bool.false_ne_true, if_pos h2]
theorem dp_none {b : Nat} {x : List UInt8} (h : Sn.boldL.contains x = false) (h2 : Sn.slantL.contains x = false) : dp b x = none := by unfold dp; rw [h, h2, if_neg Bool.false_ne_true, if_neg Bool.false_ne_true]
theorem eq_beq (x k : List UInt8) : ((B x).toList == k) = (x == k) := by rw [Lib.toList_data, B_data]

theorem takeOpen_any (b : Nat) (s : Sn.S) (v : Value) (kn kt kh : List UInt8) (w : World) (hW : Wk w b s v) (hZ : Zt w b) (hn : s.d.length ≤ 900000) (hL : Lim 1000000 s) (hh : kh.length ≤ 20000) (h0 : s.hides = []) : Calls Tryz.prog 61 #[.pointer (some ⟨b, 0, none⟩), .agg #[.int .i64 2, .string (B kn), .string (B kt), .string (B kh)]] w fun e w' => e = .returned (.tuple #[]) ∧ PutTo w b v w' (Sn.step s ⟨2, kn, kt, kh⟩) := by
  have hs := Sn.step_seen s ⟨2, kn, kt, kh⟩ h0
  cases hb : Sn.blockOf kn with
  | some k =>
    have e : Sn.step s ⟨2, kn, kt, kh⟩ = { Sn.shut s with opened := true, kind := k } := by rw [hs]; simp [hb]
    rw [e]
    exact open_block b s v 2 kn kt kh w hW hZ hn k hb
  | none =>
    have e : Sn.step s ⟨2, kn, kt, kh⟩ = Sn.other s ⟨2, kn, kt, kh⟩ := by rw [hs]; simp [hb]
    rw [e]
    clear hs e
    unfold Sn.other
    cases h1 : Sn.boldL.contains kn
    · cases h2 : Sn.slantL.contains kn
      · have hd := dp_none (b := b) h1 h2
        rw [if_neg Bool.false_ne_true, if_neg Bool.false_ne_true]
        cases h3 : (kn == [97])
        · have ha := (eq_beq kn [97]).trans h3
          rw [if_neg Bool.false_ne_true, if_neg (show ¬ ((2 : Int) == 3) = true by decide)]
          cases h4 : (kn == Sn.brL)
          · have hr := (eq_beq kn [98, 114]).trans h4
            rw [if_neg Bool.false_ne_true]
            cases h5 : Sn.hiddenL.contains kn
            · rw [if_neg Bool.false_ne_true]
              exact open_none b s v 2 kn kt kh w hW hZ hn hb hd ha hr h5
            · rw [if_pos rfl]
              exact open_hides b s v 2 kn kt kh w hW hZ hn hb hd ha hr h5
          · have hr := (eq_beq kn [98, 114]).trans h4
            rw [if_pos rfl]
            exact open_br b s v 2 kn kt kh w hW hZ hn hb hd ha hr
        · have ha := (eq_beq kn [97]).trans h3
          rw [if_pos rfl, if_pos (show ((2 : Int) == 2) = true by decide)]
          exact open_a b s v 2 kn kt kh w hW hZ hn hh hb hd ha
      · rw [if_neg Bool.false_ne_true, if_pos rfl]
        have e : Sn.up (s.slant + Sn.one 2) = s.slant + 1 := up_pos (by have := hL.s0; show (0 : Int) ≤ s.slant + 1; omega)
        show Calls _ _ _ _ fun e w' => _ ∧ PutTo w b v w' { s with slant := Sn.up (s.slant + Sn.one 2) }
        rw [e]
        exact open_slant b s v 2 kn kt kh w hW hZ hn hL.s0 hL.s1 hb (dp_slant h1 h2)
    · rw [if_pos rfl]
      have e : Sn.up (s.bold + Sn.one 2) = s.bold + 1 := up_pos (by have := hL.b0; show (0 : Int) ≤ s.bold + 1; omega)
      show Calls _ _ _ _ fun e w' => _ ∧ PutTo w b v w' { s with bold := Sn.up (s.bold + Sn.one 2) }
      rw [e]
      exact open_bold b s v 2 kn kt kh w hW hZ hn hL.b0 hL.b1 hb (dp_bold h1)
end Go.Proofs.YtpcaiechaakhnabGreatDoor
