/-
  Texts of this proof, one behind the other.
-/
import Derived.Test.YtbhcklkbckacpaaGreatDoorG9
import Derived.Test.YtbhcklkbckacpaaGreatDoorG6
import Derived.Test.YtbhcklkbckacpaaGreatDoorG3

/-
  Package sanitize, a page at work: a text is taken, byte by byte.
-/
namespace Go.Proofs.YtbhcklkbckacpaaGreatDoor
open Go.RowKit

set_option maxRecDepth 100000 in
set_option maxHeartbeats 6400000 in
theorem takeText_any (b : Nat) (s : Sn.S) (v : Value) (u : List UInt8) (w : World) (hW : Wk w b s v) (hn : s.d.length + u.length ≤ 900000) : Calls Tryz.prog 134 #[.pointer (some ⟨b, 0, none⟩), .string (B u)] w fun e w' => e = .returned (.tuple #[]) ∧ PutTo w b v w' (s.chars u) := by
  have z1 := B_size u
  have hcv := Lib.run_convert_string_bytes (P := Tryz.prog) w 9 22 5 (B u) Tryz.underlying9 Tryz.underlying22 Tryz.underlying5
  have hsb : SBuf w.heap.size w (Lib.bytesWorld w 5 (B u)) u := by have := SBuf.start w (B u); rw [B_data] at this; exact this
  generalize Lib.bytesWorld w 5 (B u) = w0 at *
  rw [z1] at hcv
  generalize grownCap w u.length 0 5 = cap at *
  have hlt : w.heap.size < w0.heap.size := by obtain ⟨cs, f, hg, _⟩ := hsb.blk; exact (Array.getElem?_eq_some_iff.1 hg).1
  have hnb : w.heap.size ∉ b :: ob v := fun hm => by
    rcases List.mem_cons.1 hm with h | h
    · have := hW.big; omega
    · have := own_lt hW.own _ (ob_mem h); omega
  have HC : Hid (∀ wr, Kept w0 wr (b :: ob v) → ∀ j (hj : j < u.length), wr.cell? ⟨w.heap.size, j, none⟩ = some (.int .u8 u[j].toNat)) := fun wr hk j hj => (World.cell?_of_block (w := w0) (hk.block w.heap.size hlt hnb)).trans (hsb.cell j hj)
  have HP0 : Hid (PutTo w0 b v w0 (s.chars (u.take 0))) := by
    have : s.chars (u.take 0) = s := chars_nil s
    rw [this]
    exact PutTo.refl (hW.under hsb.below)
  have HB0 : Hid (Below w.heap.size w w0) := hsb.below
  have HN : Hid (s.d.length + u.length ≤ 900000) := hn
  have hul : u.length ≤ 900000 := by omega
  clear hsb hnb hW hn
  obtain ⟨R, hR⟩ : ∃ R, s.chars u = R := ⟨_, rfl⟩
  have HR : Hid (s.chars u = R) := hR
  rw [hR]
  clear hR hlt
  go_enter Tryz.func134, Tryz.ntmps134
  go_wp2
  go_loopw [9] (fun i wr => ∃ k : Nat, k ≤ u.length ∧ i = .int .i64 k ∧ PutTo w0 b v wr (s.chars (u.take k))) (fun i _ => u.length - (intOf i).toNat)
  case atStart => exact ⟨0, Nat.zero_le _, rfl, HP0.out⟩
  case round =>
    obtain ⟨k, hk, rfl, ⟨v1, hW1, hv1⟩, hK1⟩ := hrel
    have H1 : Hid (Wk wr b (s.chars (u.take k)) v1) := hW1
    have HV : Hid (v1.ownBlock = v.ownBlock ∨ ∀ k, v1.ownBlock = some k → w0.heap.size ≤ k) := hv1
    have HK : Hid (Kept w0 wr (b :: ob v)) := hK1
    have c3 : wr.cell? ⟨b, 3, none⟩ = some (.string (B s.link)) := hW1.blk.cell 3
    clear hW1 hv1 hcv
    by_cases hkl : k < u.length
    · have hcell := HC.out wr hK1 k hkl
      have CP : Hid (∀ w', Wk w' b (s.chars (u.take k)) v1 → Calls Tryz.prog 65 #[.pointer (some ⟨b, 0, none⟩), .int .u8 (Sn.chr u[k]).toNat, .int .i64 (zmarks s), .string (B s.link)] w' fun e w2 => e = .returned (.tuple #[]) ∧ PutTo w' b v1 w2 (s.chars (u.take (k + 1)))) := fun w' h => by
        have := put_any b (s.chars (u.take k)) v1 (Sn.item s u[k]) w' h (by
          have := HN.out
          unfold Sn.S.chars
          simp only [List.length_append, List.length_map, List.length_take]
          omega)
        rw [chars_snoc s u k hkl] at this
        exact this
      have CC : Hid (∀ w, Calls Tryz.prog 202 #[.int .u8 u[k].toNat] w fun e w' => e = .returned (.int .u8 (Sn.chr u[k]).toNat) ∧ w' = w) := fun w => character_any u[k] w
      have CM : Hid (∀ w', Wk w' b (s.chars (u.take k)) v1 → Calls Tryz.prog 203 #[.pointer (some ⟨b, 0, none⟩)] w' fun e w2 => e = .returned (.int .i64 (zmarks s)) ∧ w2 = w') := fun w' h => marks_any b v1 (s.chars (u.take k)) w' h.blk
      clear hK1
      generalize Sn.chr u[k] = c' at *
      generalize u[k] = c at *
      generalize zmarks s = m at *
      generalize B s.link = lk at *
      go_wp2
      go_region_with (first | (go_at_call 202; refine (CC.out _).mono ?_; rintro e w3 ⟨rfl, rfl⟩) | (go_at_call 203; refine (CM.out _ (by first | exact H1.out | exact H1.out.under (Below.refl _ _).drew)).mono ?_; rintro e w3 ⟨rfl, rfl⟩) | (go_at_call 65; refine (CP.out _ (by first | exact H1.out | exact H1.out.under (Below.refl _ _).drew)).mono ?_; rintro e w3 ⟨rfl, hP⟩))
      all_goals
        have H2 : Hid (PutTo w0 b v w3 (s.chars (u.take (k + 1)))) := PutTo.next HV.out HK.out.drew hP
        clear hP
        go_wp2
        go_roundw
        case rel => exact ⟨k + 1, by omega, by go_num, H2.out⟩
        case measure => simp [intOf]; omega
    · obtain rfl : k = u.length := by omega
      have hend : s.chars (u.take u.length) = R := by rw [List.take_length]; exact HR.out
      rw [hend] at H1
      clear hend hK1
      go_wp2
      go_end0
      exact ⟨rfl, PutTo.pre HB0.out ⟨⟨v1, H1.out, HV.out⟩, HK.out⟩⟩
end Go.Proofs.YtbhcklkbckacpaaGreatDoor

/-
  Package sanitize, a page at work: a tag is taken, a token is taken.
-/
namespace Go.Proofs.YtbhcklkbckacpaaGreatDoor
open Go.RowKit

structure Zt (w : World) (b : Nat) : Prop where
  bn : Bn w
  hn : Hn w
  sch : Sch w
  b1 : 5 < b
  b2 : 6 < b
  b3 : 8 < b
theorem Zt.below {w w' : World} {b : Nat} (h : Zt w b) (hb : Below b w w') : Zt w' b :=
  ⟨h.bn.below hb h.b1, h.hn.below hb h.b2, (by obtain ⟨t, fr, hg⟩ := h.sch; exact ⟨t, fr, (hb.block 8 h.b3).trans hg⟩), h.b1, h.b2, h.b3⟩
theorem Zt.under {w w' : World} {b : Nat} (h : Zt w b) (hb : Below w.heap.size w w') (hl : b ≤ w.heap.size) : Zt w' b := h.below (hb.mono hl)
structure Lim (n : Nat) (s : Sn.S) : Prop where
  b0 : 0 ≤ s.bold
  b1 : s.bold ≤ n
  s0 : 0 ≤ s.slant
  s1 : s.slant ≤ n
theorem up_pos {x : Int} (h : 0 ≤ x) : Sn.up x = x := by unfold Sn.up; rw [if_neg (by omega)]

set_option maxRecDepth 100000 in
set_option maxHeartbeats 3200000 in
theorem open_block (b : Nat) (s : Sn.S) (v : Value) (kk : Int) (kn kt kh : List UInt8) (w : World) (hW : Wk w b s v) (hZ : Zt w b) (hn : s.d.length ≤ 900000) (k : Int) (hbk : Sn.blockOf kn = some k) : Calls Tryz.prog 135 #[.pointer (some ⟨b, 0, none⟩), .agg #[.int .i64 kk, .string (B kn), .string (B kt), .string (B kh)]] w fun e w' => e = .returned (.tuple #[]) ∧ PutTo w b v w' { Sn.shut s with opened := true, kind := k } := by
  have hb1 : Below w.heap.size w (w.alloc (.cells #[.int .i64 kk, .string (B kn), .string (B kt), .string (B kh)] 30)) := (Below.refl _ _).alloc (Nat.le_refl _) _
  have W1 : Hid (Wk (w.alloc (.cells #[.int .i64 kk, .string (B kn), .string (B kt), .string (B kh)] 30)) b s v) := hW.under hb1
  have Z1 : Hid (Zt (w.alloc (.cells #[.int .i64 kk, .string (B kn), .string (B kt), .string (B kh)] 30)) b) := hZ.under hb1 (Nat.le_of_lt hW.big)
  have HB1 : Hid (Below w.heap.size w (w.alloc (.cells #[.int .i64 kk, .string (B kn), .string (B kt), .string (B kh)] 30))) := hb1
  have hbl := hW.big
  have B1 : Hid (Blk (w.alloc (.cells #[.int .i64 kk, .string (B kn), .string (B kt), .string (B kh)] 30)) w.heap.size [.int .i64 kk, .string (B kn), .string (B kt), .string (B kh)] 30) := Blk.new w [.int .i64 kk, .string (B kn), .string (B kt), .string (B kh)] 30
  have CK : Hid (∀ w', Bn w' → Calls Tryz.prog 204 #[.string (B kn)] w' fun e w2 => e = .returned (.tuple #[.int .i64 k, .bool true]) ∧ Below w'.heap.size w' w2) := fun w' h => by have := kindOf_any kn w' h; rw [hbk] at this; exact this
  have CD : Hid (∀ w', Calls Tryz.prog 205 #[.pointer (some ⟨b, 0, none⟩), .string (B kn)] w' fun e w2 => e = .returned (.pointer (dp b kn)) ∧ w2 = w') := fun w' => by have := deep_any b kn w'; exact this
  clear hW hZ hb1 hbk
  go_enter Tryz.func135, Tryz.ntmps135
  go_wp2_with fail
  refine (CK.out _ Z1.out.bn).mono ?_
  rintro e w2 ⟨rfl, hb2⟩
  have W2 : Hid (Wk w2 b s v) := W1.out.under hb2
  have Z2 : Hid (Zt w2 b) := Z1.out.under hb2 (Nat.le_of_lt W1.out.big)
  have HB2 : Hid (Below w.heap.size w w2) := HB1.out.trans (hb2.mono HB1.out.size)
  have B2 : Hid (Blk w2 w.heap.size [.int .i64 kk, .string (B kn), .string (B kt), .string (B kh)] 30) := (hb2.block _ B1.out.lt).trans B1.out
  have tn : w2.cell? ⟨w.heap.size, 1, none⟩ = some (.string (B kn)) := B2.out.cell 1
  have th : w2.cell? ⟨w.heap.size, 3, none⟩ = some (.string (B kh)) := B2.out.cell 3
  clear hb2 W1 Z1 HB1 B1 CK
  go_wp2_with fail
  refine (CD.out _).mono ?_
  rintro e w3 ⟨rfl, rfl⟩
  clear tn th
  generalize dp b kn = dd at *
  go_wp2_with fail
  refine (endBlock_any b s v _ W2.out (by omega)).mono ?_
  rintro e w4 ⟨rfl, ⟨v1, hW1, hv1⟩, hK1⟩
  have H1 : Hid (Wk w4 b (Sn.shut s) v1) := hW1
  have HV : Hid (v1.ownBlock = v.ownBlock ∨ ∀ k, v1.ownBlock = some k → w3.heap.size ≤ k) := hv1
  have HK : Hid (Kept w3 w4 (b :: ob v)) := hK1
  have d5 : w4.cell? ⟨b, 5, none⟩ = some (.bool (Sn.shut s).opened) := hW1.blk.cell 5
  have d4 : w4.cell? ⟨b, 4, none⟩ = some (.int .i64 (Sn.shut s).kind) := hW1.blk.cell 4
  have g5 := hW1.blk.frozen 5
  have g4 := hW1.blk.frozen 4
  clear hW1 hv1 hK1
  go_wp2
  go_end0
  exact ⟨rfl, PutTo.pre HB2.out (PutTo.over HV.out HK.out H1.out ((H1.out.blk.set 5 _).set 4 _) (kept_set2 ..) rfl)⟩

set_option maxRecDepth 100000 in
set_option maxHeartbeats 3200000 in
theorem open_bold (b : Nat) (s : Sn.S) (v : Value) (kk : Int) (kn kt kh : List UInt8) (w : World) (hW : Wk w b s v) (hZ : Zt w b) (_hn : s.d.length ≤ 900000) (h0 : 0 ≤ s.bold) (h1 : s.bold ≤ 1000000) (hbk : Sn.blockOf kn = none) (hdp : dp b kn = some ⟨b, 1, none⟩) : Calls Tryz.prog 135 #[.pointer (some ⟨b, 0, none⟩), .agg #[.int .i64 kk, .string (B kn), .string (B kt), .string (B kh)]] w fun e w' => e = .returned (.tuple #[]) ∧ PutTo w b v w' { s with bold := s.bold + 1 } := by
  have hb1 : Below w.heap.size w (w.alloc (.cells #[.int .i64 kk, .string (B kn), .string (B kt), .string (B kh)] 30)) := (Below.refl _ _).alloc (Nat.le_refl _) _
  have W1 : Hid (Wk (w.alloc (.cells #[.int .i64 kk, .string (B kn), .string (B kt), .string (B kh)] 30)) b s v) := hW.under hb1
  have Z1 : Hid (Zt (w.alloc (.cells #[.int .i64 kk, .string (B kn), .string (B kt), .string (B kh)] 30)) b) := hZ.under hb1 (Nat.le_of_lt hW.big)
  have HB1 : Hid (Below w.heap.size w (w.alloc (.cells #[.int .i64 kk, .string (B kn), .string (B kt), .string (B kh)] 30))) := hb1
  have hbl := hW.big
  have B1 : Hid (Blk (w.alloc (.cells #[.int .i64 kk, .string (B kn), .string (B kt), .string (B kh)] 30)) w.heap.size [.int .i64 kk, .string (B kn), .string (B kt), .string (B kh)] 30) := Blk.new w [.int .i64 kk, .string (B kn), .string (B kt), .string (B kh)] 30
  have CK : Hid (∀ w', Bn w' → Calls Tryz.prog 204 #[.string (B kn)] w' fun e w2 => e = .returned (.tuple #[.int .i64 0, .bool false]) ∧ Below w'.heap.size w' w2) := fun w' h => by have := kindOf_any kn w' h; rw [hbk] at this; exact this
  have CD : Hid (∀ w', Calls Tryz.prog 205 #[.pointer (some ⟨b, 0, none⟩), .string (B kn)] w' fun e w2 => e = .returned (.pointer (some ⟨b, 1, none⟩)) ∧ w2 = w') := fun w' => by have := deep_any b kn w'; rw [hdp] at this; exact this
  clear hW hZ hb1 hbk hdp
  go_enter Tryz.func135, Tryz.ntmps135
  go_wp2_with fail
  refine (CK.out _ Z1.out.bn).mono ?_
  rintro e w2 ⟨rfl, hb2⟩
  have W2 : Hid (Wk w2 b s v) := W1.out.under hb2
  have Z2 : Hid (Zt w2 b) := Z1.out.under hb2 (Nat.le_of_lt W1.out.big)
  have HB2 : Hid (Below w.heap.size w w2) := HB1.out.trans (hb2.mono HB1.out.size)
  have B2 : Hid (Blk w2 w.heap.size [.int .i64 kk, .string (B kn), .string (B kt), .string (B kh)] 30) := (hb2.block _ B1.out.lt).trans B1.out
  have tn : w2.cell? ⟨w.heap.size, 1, none⟩ = some (.string (B kn)) := B2.out.cell 1
  have th : w2.cell? ⟨w.heap.size, 3, none⟩ = some (.string (B kh)) := B2.out.cell 3
  clear hb2 W1 Z1 HB1 B1 CK
  go_wp2_with fail
  refine (CD.out _).mono ?_
  rintro e w3 ⟨rfl, rfl⟩
  clear tn th
  have c1 : w3.cell? ⟨b, 1, none⟩ = some (.int .i64 s.bold) := W2.out.blk.cell 1
  have f1 := W2.out.blk.frozen 1
  obtain ⟨x, hx⟩ : ∃ x, s.bold = x := ⟨_, rfl⟩
  have HX : Hid (s.bold = x) := hx
  rw [hx] at c1 h0 h1
  clear hx
  go_wp2
  go_end0
  refine ⟨rfl, PutTo.pre HB2.out (PutTo.over (.inl rfl) (Kept.refl _ _) W2.out ?_ (kept_set1 ..) rfl)⟩
  rw [← HX.out]
  exact W2.out.blk.set 1 _

set_option maxRecDepth 100000 in
set_option maxHeartbeats 3200000 in
theorem open_slant (b : Nat) (s : Sn.S) (v : Value) (kk : Int) (kn kt kh : List UInt8) (w : World) (hW : Wk w b s v) (hZ : Zt w b) (_hn : s.d.length ≤ 900000) (h0 : 0 ≤ s.slant) (h1 : s.slant ≤ 1000000) (hbk : Sn.blockOf kn = none) (hdp : dp b kn = some ⟨b, 2, none⟩) : Calls Tryz.prog 135 #[.pointer (some ⟨b, 0, none⟩), .agg #[.int .i64 kk, .string (B kn), .string (B kt), .string (B kh)]] w fun e w' => e = .returned (.tuple #[]) ∧ PutTo w b v w' { s with slant := s.slant + 1 } := by
  have hb1 : Below w.heap.size w (w.alloc (.cells #[.int .i64 kk, .string (B kn), .string (B kt), .string (B kh)] 30)) := (Below.refl _ _).alloc (Nat.le_refl _) _
  have W1 : Hid (Wk (w.alloc (.cells #[.int .i64 kk, .string (B kn), .string (B kt), .string (B kh)] 30)) b s v) := hW.under hb1
  have Z1 : Hid (Zt (w.alloc (.cells #[.int .i64 kk, .string (B kn), .string (B kt), .string (B kh)] 30)) b) := hZ.under hb1 (Nat.le_of_lt hW.big)
  have HB1 : Hid (Below w.heap.size w (w.alloc (.cells #[.int .i64 kk, .string (B kn), .string (B kt), .string (B kh)] 30))) := hb1
  have hbl := hW.big
  have B1 : Hid (Blk (w.alloc (.cells #[.int .i64 kk, .string (B kn), .string (B kt), .string (B kh)] 30)) w.heap.size [.int .i64 kk, .string (B kn), .string (B kt), .string (B kh)] 30) := Blk.new w [.int .i64 kk, .string (B kn), .string (B kt), .string (B kh)] 30
  have CK : Hid (∀ w', Bn w' → Calls Tryz.prog 204 #[.string (B kn)] w' fun e w2 => e = .returned (.tuple #[.int .i64 0, .bool false]) ∧ Below w'.heap.size w' w2) := fun w' h => by have := kindOf_any kn w' h; rw [hbk] at this; exact this
  have CD : Hid (∀ w', Calls Tryz.prog 205 #[.pointer (some ⟨b, 0, none⟩), .string (B kn)] w' fun e w2 => e = .returned (.pointer (some ⟨b, 2, none⟩)) ∧ w2 = w') := fun w' => by have := deep_any b kn w'; rw [hdp] at this; exact this
  clear hW hZ hb1 hbk hdp
  go_enter Tryz.func135, Tryz.ntmps135
  go_wp2_with fail
  refine (CK.out _ Z1.out.bn).mono ?_
  rintro e w2 ⟨rfl, hb2⟩
  have W2 : Hid (Wk w2 b s v) := W1.out.under hb2
  have Z2 : Hid (Zt w2 b) := Z1.out.under hb2 (Nat.le_of_lt W1.out.big)
  have HB2 : Hid (Below w.heap.size w w2) := HB1.out.trans (hb2.mono HB1.out.size)
  have B2 : Hid (Blk w2 w.heap.size [.int .i64 kk, .string (B kn), .string (B kt), .string (B kh)] 30) := (hb2.block _ B1.out.lt).trans B1.out
  have tn : w2.cell? ⟨w.heap.size, 1, none⟩ = some (.string (B kn)) := B2.out.cell 1
  have th : w2.cell? ⟨w.heap.size, 3, none⟩ = some (.string (B kh)) := B2.out.cell 3
  clear hb2 W1 Z1 HB1 B1 CK
  go_wp2_with fail
  refine (CD.out _).mono ?_
  rintro e w3 ⟨rfl, rfl⟩
  clear tn th
  have c1 : w3.cell? ⟨b, 2, none⟩ = some (.int .i64 s.slant) := W2.out.blk.cell 2
  have f1 := W2.out.blk.frozen 2
  obtain ⟨x, hx⟩ : ∃ x, s.slant = x := ⟨_, rfl⟩
  have HX : Hid (s.slant = x) := hx
  rw [hx] at c1 h0 h1
  clear hx
  go_wp2
  go_end0
  refine ⟨rfl, PutTo.pre HB2.out (PutTo.over (.inl rfl) (Kept.refl _ _) W2.out ?_ (kept_set1 ..) rfl)⟩
  rw [← HX.out]
  exact W2.out.blk.set 2 _

set_option maxRecDepth 100000 in
set_option maxHeartbeats 3200000 in
theorem open_a (b : Nat) (s : Sn.S) (v : Value) (kk : Int) (kn kt kh : List UInt8) (w : World) (hW : Wk w b s v) (hZ : Zt w b) (_hn : s.d.length ≤ 900000) (hh : kh.length ≤ 20000) (hbk : Sn.blockOf kn = none) (hdp : dp b kn = none) (ha : ((B kn).toList == [97]) = true) : Calls Tryz.prog 135 #[.pointer (some ⟨b, 0, none⟩), .agg #[.int .i64 kk, .string (B kn), .string (B kt), .string (B kh)]] w fun e w' => e = .returned (.tuple #[]) ∧ PutTo w b v w' { s with link := Lk.clean kh } := by
  have hb1 : Below w.heap.size w (w.alloc (.cells #[.int .i64 kk, .string (B kn), .string (B kt), .string (B kh)] 30)) := (Below.refl _ _).alloc (Nat.le_refl _) _
  have W1 : Hid (Wk (w.alloc (.cells #[.int .i64 kk, .string (B kn), .string (B kt), .string (B kh)] 30)) b s v) := hW.under hb1
  have Z1 : Hid (Zt (w.alloc (.cells #[.int .i64 kk, .string (B kn), .string (B kt), .string (B kh)] 30)) b) := hZ.under hb1 (Nat.le_of_lt hW.big)
  have HB1 : Hid (Below w.heap.size w (w.alloc (.cells #[.int .i64 kk, .string (B kn), .string (B kt), .string (B kh)] 30))) := hb1
  have hbl := hW.big
  have B1 : Hid (Blk (w.alloc (.cells #[.int .i64 kk, .string (B kn), .string (B kt), .string (B kh)] 30)) w.heap.size [.int .i64 kk, .string (B kn), .string (B kt), .string (B kh)] 30) := Blk.new w [.int .i64 kk, .string (B kn), .string (B kt), .string (B kh)] 30
  have CK : Hid (∀ w', Bn w' → Calls Tryz.prog 204 #[.string (B kn)] w' fun e w2 => e = .returned (.tuple #[.int .i64 0, .bool false]) ∧ Below w'.heap.size w' w2) := fun w' h => by have := kindOf_any kn w' h; rw [hbk] at this; exact this
  have CD : Hid (∀ w', Calls Tryz.prog 205 #[.pointer (some ⟨b, 0, none⟩), .string (B kn)] w' fun e w2 => e = .returned (.pointer (none)) ∧ w2 = w') := fun w' => by have := deep_any b kn w'; rw [hdp] at this; exact this
  clear hW hZ hb1 hbk hdp
  go_enter Tryz.func135, Tryz.ntmps135
  go_wp2_with fail
  refine (CK.out _ Z1.out.bn).mono ?_
  rintro e w2 ⟨rfl, hb2⟩
  have W2 : Hid (Wk w2 b s v) := W1.out.under hb2
  have Z2 : Hid (Zt w2 b) := Z1.out.under hb2 (Nat.le_of_lt W1.out.big)
  have HB2 : Hid (Below w.heap.size w w2) := HB1.out.trans (hb2.mono HB1.out.size)
  have B2 : Hid (Blk w2 w.heap.size [.int .i64 kk, .string (B kn), .string (B kt), .string (B kh)] 30) := (hb2.block _ B1.out.lt).trans B1.out
  have tn : w2.cell? ⟨w.heap.size, 1, none⟩ = some (.string (B kn)) := B2.out.cell 1
  have th : w2.cell? ⟨w.heap.size, 3, none⟩ = some (.string (B kh)) := B2.out.cell 3
  clear hb2 W1 Z1 HB1 B1 CK
  go_wp2_with fail
  refine (CD.out _).mono ?_
  rintro e w3 ⟨rfl, rfl⟩
  have f3 := W2.out.blk.frozen 3
  have c3 : w3.cell? ⟨b, 3, none⟩ = some (.string (B s.link)) := W2.out.blk.cell 3
  go_wp2_with fail
  refine (zclean_any kh _ hh Z2.out.sch).mono ?_
  rintro e w4 ⟨rfl, hb4⟩
  have W4 : Hid (Wk w4 b s v) := W2.out.under hb4
  have HB4 : Hid (Below w.heap.size w w4) := HB2.out.trans (hb4.mono HB2.out.size)
  have g3 := W4.out.blk.frozen 3
  have d3 : w4.cell? ⟨b, 3, none⟩ = some (.string (B s.link)) := W4.out.blk.cell 3
  clear hb4 f3 c3
  go_wp2
  go_end0
  exact ⟨rfl, PutTo.pre HB4.out (PutTo.over (.inl rfl) (Kept.refl _ _) W4.out (W4.out.blk.set 3 _) (kept_set1 ..) rfl)⟩

set_option maxRecDepth 100000 in
set_option maxHeartbeats 3200000 in
theorem open_br (b : Nat) (s : Sn.S) (v : Value) (kk : Int) (kn kt kh : List UInt8) (w : World) (hW : Wk w b s v) (hZ : Zt w b) (hn : s.d.length ≤ 900000) (hbk : Sn.blockOf kn = none) (hdp : dp b kn = none) (ha : ((B kn).toList == [97]) = false) (hbr : ((B kn).toList == [98, 114]) = true) : Calls Tryz.prog 135 #[.pointer (some ⟨b, 0, none⟩), .agg #[.int .i64 kk, .string (B kn), .string (B kt), .string (B kh)]] w fun e w' => e = .returned (.tuple #[]) ∧ PutTo w b v w' { Sn.shut { s with opened := true } with kind := s.kind } := by
  have hb1 : Below w.heap.size w (w.alloc (.cells #[.int .i64 kk, .string (B kn), .string (B kt), .string (B kh)] 30)) := (Below.refl _ _).alloc (Nat.le_refl _) _
  have W1 : Hid (Wk (w.alloc (.cells #[.int .i64 kk, .string (B kn), .string (B kt), .string (B kh)] 30)) b s v) := hW.under hb1
  have Z1 : Hid (Zt (w.alloc (.cells #[.int .i64 kk, .string (B kn), .string (B kt), .string (B kh)] 30)) b) := hZ.under hb1 (Nat.le_of_lt hW.big)
  have HB1 : Hid (Below w.heap.size w (w.alloc (.cells #[.int .i64 kk, .string (B kn), .string (B kt), .string (B kh)] 30))) := hb1
  have hbl := hW.big
  have B1 : Hid (Blk (w.alloc (.cells #[.int .i64 kk, .string (B kn), .string (B kt), .string (B kh)] 30)) w.heap.size [.int .i64 kk, .string (B kn), .string (B kt), .string (B kh)] 30) := Blk.new w [.int .i64 kk, .string (B kn), .string (B kt), .string (B kh)] 30
  have CK : Hid (∀ w', Bn w' → Calls Tryz.prog 204 #[.string (B kn)] w' fun e w2 => e = .returned (.tuple #[.int .i64 0, .bool false]) ∧ Below w'.heap.size w' w2) := fun w' h => by have := kindOf_any kn w' h; rw [hbk] at this; exact this
  have CD : Hid (∀ w', Calls Tryz.prog 205 #[.pointer (some ⟨b, 0, none⟩), .string (B kn)] w' fun e w2 => e = .returned (.pointer (none)) ∧ w2 = w') := fun w' => by have := deep_any b kn w'; rw [hdp] at this; exact this
  clear hW hZ hb1 hbk hdp
  go_enter Tryz.func135, Tryz.ntmps135
  go_wp2_with fail
  refine (CK.out _ Z1.out.bn).mono ?_
  rintro e w2 ⟨rfl, hb2⟩
  have W2 : Hid (Wk w2 b s v) := W1.out.under hb2
  have Z2 : Hid (Zt w2 b) := Z1.out.under hb2 (Nat.le_of_lt W1.out.big)
  have HB2 : Hid (Below w.heap.size w w2) := HB1.out.trans (hb2.mono HB1.out.size)
  have B2 : Hid (Blk w2 w.heap.size [.int .i64 kk, .string (B kn), .string (B kt), .string (B kh)] 30) := (hb2.block _ B1.out.lt).trans B1.out
  have tn : w2.cell? ⟨w.heap.size, 1, none⟩ = some (.string (B kn)) := B2.out.cell 1
  have th : w2.cell? ⟨w.heap.size, 3, none⟩ = some (.string (B kh)) := B2.out.cell 3
  clear hb2 W1 Z1 HB1 B1 CK
  go_wp2_with fail
  refine (CD.out _).mono ?_
  rintro e w3 ⟨rfl, rfl⟩
  go_wp2_with fail
  refine (break_any b s v _ W2.out (by omega)).mono ?_
  rintro e w4 ⟨rfl, hP⟩
  have HP : Hid (PutTo w3 b v w4 { Sn.shut { s with opened := true } with kind := s.kind }) := hP
  clear hP
  go_wp2
  go_end0
  exact ⟨rfl, PutTo.pre HB2.out HP.out⟩

set_option maxRecDepth 100000 in
set_option maxHeartbeats 3200000 in
theorem open_hides (b : Nat) (s : Sn.S) (v : Value) (kk : Int) (kn kt kh : List UInt8) (w : World) (hW : Wk w b s v) (hZ : Zt w b) (_hn : s.d.length ≤ 900000) (hbk : Sn.blockOf kn = none) (hdp : dp b kn = none) (ha : ((B kn).toList == [97]) = false) (hbr : ((B kn).toList == [98, 114]) = false) (hh : Sn.hiddenL.contains kn = true) : Calls Tryz.prog 135 #[.pointer (some ⟨b, 0, none⟩), .agg #[.int .i64 kk, .string (B kn), .string (B kt), .string (B kh)]] w fun e w' => e = .returned (.tuple #[]) ∧ PutTo w b v w' { s with hides := kn } := by
  have hb1 : Below w.heap.size w (w.alloc (.cells #[.int .i64 kk, .string (B kn), .string (B kt), .string (B kh)] 30)) := (Below.refl _ _).alloc (Nat.le_refl _) _
  have W1 : Hid (Wk (w.alloc (.cells #[.int .i64 kk, .string (B kn), .string (B kt), .string (B kh)] 30)) b s v) := hW.under hb1
  have Z1 : Hid (Zt (w.alloc (.cells #[.int .i64 kk, .string (B kn), .string (B kt), .string (B kh)] 30)) b) := hZ.under hb1 (Nat.le_of_lt hW.big)
  have HB1 : Hid (Below w.heap.size w (w.alloc (.cells #[.int .i64 kk, .string (B kn), .string (B kt), .string (B kh)] 30))) := hb1
  have hbl := hW.big
  have B1 : Hid (Blk (w.alloc (.cells #[.int .i64 kk, .string (B kn), .string (B kt), .string (B kh)] 30)) w.heap.size [.int .i64 kk, .string (B kn), .string (B kt), .string (B kh)] 30) := Blk.new w [.int .i64 kk, .string (B kn), .string (B kt), .string (B kh)] 30
  have CK : Hid (∀ w', Bn w' → Calls Tryz.prog 204 #[.string (B kn)] w' fun e w2 => e = .returned (.tuple #[.int .i64 0, .bool false]) ∧ Below w'.heap.size w' w2) := fun w' h => by have := kindOf_any kn w' h; rw [hbk] at this; exact this
  have CD : Hid (∀ w', Calls Tryz.prog 205 #[.pointer (some ⟨b, 0, none⟩), .string (B kn)] w' fun e w2 => e = .returned (.pointer (none)) ∧ w2 = w') := fun w' => by have := deep_any b kn w'; rw [hdp] at this; exact this
  clear hW hZ hb1 hbk hdp
  go_enter Tryz.func135, Tryz.ntmps135
  go_wp2_with fail
  refine (CK.out _ Z1.out.bn).mono ?_
  rintro e w2 ⟨rfl, hb2⟩
  have W2 : Hid (Wk w2 b s v) := W1.out.under hb2
  have Z2 : Hid (Zt w2 b) := Z1.out.under hb2 (Nat.le_of_lt W1.out.big)
  have HB2 : Hid (Below w.heap.size w w2) := HB1.out.trans (hb2.mono HB1.out.size)
  have B2 : Hid (Blk w2 w.heap.size [.int .i64 kk, .string (B kn), .string (B kt), .string (B kh)] 30) := (hb2.block _ B1.out.lt).trans B1.out
  have tn : w2.cell? ⟨w.heap.size, 1, none⟩ = some (.string (B kn)) := B2.out.cell 1
  have th : w2.cell? ⟨w.heap.size, 3, none⟩ = some (.string (B kh)) := B2.out.cell 3
  clear hb2 W1 Z1 HB1 B1 CK
  go_wp2_with fail
  refine (CD.out _).mono ?_
  rintro e w3 ⟨rfl, rfl⟩
  have CH : Hid (∀ w', Hn w' → Calls Tryz.prog 208 #[.string (B kn)] w' fun e w2 => e = .returned (.bool true) ∧ w2 = w') := fun w' h => by have := hides_any kn w' h; rw [hh] at this; exact this
  clear hh
  go_wp2_with fail
  refine (CH.out _ Z2.out.hn).mono ?_
  rintro e w4 ⟨rfl, rfl⟩
  have g6 := W2.out.blk.frozen 6
  have d6 : w4.cell? ⟨b, 6, none⟩ = some (.string (B s.hides)) := W2.out.blk.cell 6
  go_wp2
  go_end0
  exact ⟨rfl, PutTo.pre HB2.out (PutTo.over (.inl rfl) (Kept.refl _ _) W2.out (W2.out.blk.set 6 _) (kept_set1 ..) rfl)⟩

set_option maxRecDepth 100000 in
set_option maxHeartbeats 3200000 in
theorem open_none (b : Nat) (s : Sn.S) (v : Value) (kk : Int) (kn kt kh : List UInt8) (w : World) (hW : Wk w b s v) (hZ : Zt w b) (_hn : s.d.length ≤ 900000) (hbk : Sn.blockOf kn = none) (hdp : dp b kn = none) (ha : ((B kn).toList == [97]) = false) (hbr : ((B kn).toList == [98, 114]) = false) (hh : Sn.hiddenL.contains kn = false) : Calls Tryz.prog 135 #[.pointer (some ⟨b, 0, none⟩), .agg #[.int .i64 kk, .string (B kn), .string (B kt), .string (B kh)]] w fun e w' => e = .returned (.tuple #[]) ∧ PutTo w b v w' s := by
  have hb1 : Below w.heap.size w (w.alloc (.cells #[.int .i64 kk, .string (B kn), .string (B kt), .string (B kh)] 30)) := (Below.refl _ _).alloc (Nat.le_refl _) _
  have W1 : Hid (Wk (w.alloc (.cells #[.int .i64 kk, .string (B kn), .string (B kt), .string (B kh)] 30)) b s v) := hW.under hb1
  have Z1 : Hid (Zt (w.alloc (.cells #[.int .i64 kk, .string (B kn), .string (B kt), .string (B kh)] 30)) b) := hZ.under hb1 (Nat.le_of_lt hW.big)
  have HB1 : Hid (Below w.heap.size w (w.alloc (.cells #[.int .i64 kk, .string (B kn), .string (B kt), .string (B kh)] 30))) := hb1
  have hbl := hW.big
  have B1 : Hid (Blk (w.alloc (.cells #[.int .i64 kk, .string (B kn), .string (B kt), .string (B kh)] 30)) w.heap.size [.int .i64 kk, .string (B kn), .string (B kt), .string (B kh)] 30) := Blk.new w [.int .i64 kk, .string (B kn), .string (B kt), .string (B kh)] 30
  have CK : Hid (∀ w', Bn w' → Calls Tryz.prog 204 #[.string (B kn)] w' fun e w2 => e = .returned (.tuple #[.int .i64 0, .bool false]) ∧ Below w'.heap.size w' w2) := fun w' h => by have := kindOf_any kn w' h; rw [hbk] at this; exact this
  have CD : Hid (∀ w', Calls Tryz.prog 205 #[.pointer (some ⟨b, 0, none⟩), .string (B kn)] w' fun e w2 => e = .returned (.pointer (none)) ∧ w2 = w') := fun w' => by have := deep_any b kn w'; rw [hdp] at this; exact this
  clear hW hZ hb1 hbk hdp
  go_enter Tryz.func135, Tryz.ntmps135
  go_wp2_with fail
  refine (CK.out _ Z1.out.bn).mono ?_
  rintro e w2 ⟨rfl, hb2⟩
  have W2 : Hid (Wk w2 b s v) := W1.out.under hb2
  have Z2 : Hid (Zt w2 b) := Z1.out.under hb2 (Nat.le_of_lt W1.out.big)
  have HB2 : Hid (Below w.heap.size w w2) := HB1.out.trans (hb2.mono HB1.out.size)
  have B2 : Hid (Blk w2 w.heap.size [.int .i64 kk, .string (B kn), .string (B kt), .string (B kh)] 30) := (hb2.block _ B1.out.lt).trans B1.out
  have tn : w2.cell? ⟨w.heap.size, 1, none⟩ = some (.string (B kn)) := B2.out.cell 1
  have th : w2.cell? ⟨w.heap.size, 3, none⟩ = some (.string (B kh)) := B2.out.cell 3
  clear hb2 W1 Z1 HB1 B1 CK
  go_wp2_with fail
  refine (CD.out _).mono ?_
  rintro e w3 ⟨rfl, rfl⟩
  have CH : Hid (∀ w', Hn w' → Calls Tryz.prog 208 #[.string (B kn)] w' fun e w2 => e = .returned (.bool false) ∧ w2 = w') := fun w' h => by have := hides_any kn w' h; rw [hh] at this; exact this
  clear hh
  go_wp2_with fail
  refine (CH.out _ Z2.out.hn).mono ?_
  rintro e w4 ⟨rfl, rfl⟩
  go_wp2
  go_end0
  exact ⟨rfl, PutTo.pre HB2.out (PutTo.refl W2.out)⟩

theorem dp_bold {b : Nat} {x : List UInt8} (h : Sn.boldL.contains x = true) : dp b x = some ⟨b, 1, none⟩ := by unfold dp; rw [if_pos h]
theorem dp_slant {b : Nat} {x : List UInt8} (h : Sn.boldL.contains x = false) (h2 : Sn.slantL.contains x = true) : dp b x = some ⟨b, 2, none⟩ := by unfold dp; rw [h, if_neg Bool.false_ne_true, if_pos h2]
theorem dp_none {b : Nat} {x : List UInt8} (h : Sn.boldL.contains x = false) (h2 : Sn.slantL.contains x = false) : dp b x = none := by unfold dp; rw [h, h2, if_neg Bool.false_ne_true, if_neg Bool.false_ne_true]
theorem eq_beq (x k : List UInt8) : ((B x).toList == k) = (x == k) := by rw [Lib.toList_data, B_data]

theorem takeOpen_any (b : Nat) (s : Sn.S) (v : Value) (kn kt kh : List UInt8) (w : World) (hW : Wk w b s v) (hZ : Zt w b) (hn : s.d.length ≤ 900000) (hL : Lim 1000000 s) (hh : kh.length ≤ 20000) (h0 : s.hides = []) : Calls Tryz.prog 135 #[.pointer (some ⟨b, 0, none⟩), .agg #[.int .i64 2, .string (B kn), .string (B kt), .string (B kh)]] w fun e w' => e = .returned (.tuple #[]) ∧ PutTo w b v w' (Sn.step s ⟨2, kn, kt, kh⟩) := by
  have hs := Sn.step_seen s ⟨2, kn, kt, kh⟩ h0
  cases hb : Sn.blockOf kn with
  | some k =>
    have e : Sn.step s ⟨2, kn, kt, kh⟩ = { Sn.shut s with opened := true, kind := k } := by rw [hs]; simp [hb]
    rw [e]
    exact open_block b s v 2 kn kt kh w hW hZ hn k hb
  | none =>
    have e : Sn.step s ⟨2, kn, kt, kh⟩ = Sn.other s ⟨2, kn, kt, kh⟩ := by rw [hs]; simp [hb]
    rw [e]
    clear hs e
    unfold Sn.other
    cases h1 : Sn.boldL.contains kn
    · cases h2 : Sn.slantL.contains kn
      · have hd := dp_none (b := b) h1 h2
        rw [if_neg Bool.false_ne_true, if_neg Bool.false_ne_true]
        cases h3 : (kn == [97])
        · have ha := (eq_beq kn [97]).trans h3
          rw [if_neg Bool.false_ne_true, if_neg (show ¬ ((2 : Int) == 3) = true by decide)]
          cases h4 : (kn == Sn.brL)
          · have hr := (eq_beq kn [98, 114]).trans h4
            rw [if_neg Bool.false_ne_true]
            cases h5 : Sn.hiddenL.contains kn
            · rw [if_neg Bool.false_ne_true]
              exact open_none b s v 2 kn kt kh w hW hZ hn hb hd ha hr h5
            · rw [if_pos rfl]
              exact open_hides b s v 2 kn kt kh w hW hZ hn hb hd ha hr h5
          · have hr := (eq_beq kn [98, 114]).trans h4
            rw [if_pos rfl]
            exact open_br b s v 2 kn kt kh w hW hZ hn hb hd ha hr
        · have ha := (eq_beq kn [97]).trans h3
          rw [if_pos rfl, if_pos (show ((2 : Int) == 2) = true by decide)]
          exact open_a b s v 2 kn kt kh w hW hZ hn hh hb hd ha
      · rw [if_neg Bool.false_ne_true, if_pos rfl]
        have e : Sn.up (s.slant + Sn.one 2) = s.slant + 1 := up_pos (by have := hL.s0; show (0 : Int) ≤ s.slant + 1; omega)
        show Calls _ _ _ _ fun e w' => _ ∧ PutTo w b v w' { s with slant := Sn.up (s.slant + Sn.one 2) }
        rw [e]
        exact open_slant b s v 2 kn kt kh w hW hZ hn hL.s0 hL.s1 hb (dp_slant h1 h2)
    · rw [if_pos rfl]
      have e : Sn.up (s.bold + Sn.one 2) = s.bold + 1 := up_pos (by have := hL.b0; show (0 : Int) ≤ s.bold + 1; omega)
      show Calls _ _ _ _ fun e w' => _ ∧ PutTo w b v w' { s with bold := Sn.up (s.bold + Sn.one 2) }
      rw [e]
      exact open_bold b s v 2 kn kt kh w hW hZ hn hL.b0 hL.b1 hb (dp_bold h1)
end Go.Proofs.YtbhcklkbckacpaaGreatDoor

/-
  Package sanitize, a page at work: the end of a tag is taken, whatever token is taken.
-/
namespace Go.Proofs.YtbhcklkbckacpaaGreatDoor
open Go.RowKit

set_option maxRecDepth 100000 in
set_option maxHeartbeats 3200000 in
theorem close_block (b : Nat) (s : Sn.S) (v : Value) (kn : List UInt8) (w : World) (hW : Wk w b s v) (hZ : Zt w b) (hn : s.d.length ≤ 900000) (k : Int) (hbk : Sn.blockOf kn = some k) : Calls Tryz.prog 136 #[.pointer (some ⟨b, 0, none⟩), .string (B kn)] w fun e w' => e = .returned (.tuple #[]) ∧ PutTo w b v w' (Sn.shut s) := by
  have W1 : Hid (Wk w b s v) := hW
  have Z1 : Hid (Zt w b) := hZ
  have hbl := hW.big
  have CK : Hid (∀ w', Bn w' → Calls Tryz.prog 204 #[.string (B kn)] w' fun e w2 => e = .returned (.tuple #[.int .i64 k, .bool true]) ∧ Below w'.heap.size w' w2) := fun w' h => by have := kindOf_any kn w' h; rw [hbk] at this; exact this
  have CD : Hid (∀ w', Calls Tryz.prog 205 #[.pointer (some ⟨b, 0, none⟩), .string (B kn)] w' fun e w2 => e = .returned (.pointer (dp b kn)) ∧ w2 = w') := fun w' => by have := deep_any b kn w'; exact this
  clear hW hZ hbk
  go_enter Tryz.func136, Tryz.ntmps136
  go_wp2_with fail
  refine (CK.out _ Z1.out.bn).mono ?_
  rintro e w2 ⟨rfl, hb2⟩
  have W2 : Hid (Wk w2 b s v) := W1.out.under hb2
  have HB2 : Hid (Below w.heap.size w w2) := hb2
  clear hb2 W1 Z1 CK
  go_wp2_with fail
  refine (CD.out _).mono ?_
  rintro e w3 ⟨rfl, rfl⟩
  generalize dp b kn = dd at *
  go_wp2_with fail
  refine (endBlock_any b s v _ W2.out (by omega)).mono ?_
  rintro e w4 ⟨rfl, hP⟩
  have HP : Hid (PutTo w3 b v w4 (Sn.shut s)) := hP
  clear hP
  go_wp2
  go_end0
  exact ⟨rfl, PutTo.pre HB2.out HP.out⟩

set_option maxRecDepth 100000 in
set_option maxHeartbeats 3200000 in
theorem close_bold0 (b : Nat) (s : Sn.S) (v : Value) (kn : List UInt8) (w : World) (hW : Wk w b s v) (hZ : Zt w b) (_hn : s.d.length ≤ 900000) (hz : s.bold = 0) (_h1 : s.bold ≤ 1000000) (hbk : Sn.blockOf kn = none) (hdp : dp b kn = some ⟨b, 1, none⟩) : Calls Tryz.prog 136 #[.pointer (some ⟨b, 0, none⟩), .string (B kn)] w fun e w' => e = .returned (.tuple #[]) ∧ PutTo w b v w' { s with bold := 0 } := by
  have W1 : Hid (Wk w b s v) := hW
  have Z1 : Hid (Zt w b) := hZ
  have hbl := hW.big
  have CK : Hid (∀ w', Bn w' → Calls Tryz.prog 204 #[.string (B kn)] w' fun e w2 => e = .returned (.tuple #[.int .i64 0, .bool false]) ∧ Below w'.heap.size w' w2) := fun w' h => by have := kindOf_any kn w' h; rw [hbk] at this; exact this
  have CD : Hid (∀ w', Calls Tryz.prog 205 #[.pointer (some ⟨b, 0, none⟩), .string (B kn)] w' fun e w2 => e = .returned (.pointer (some ⟨b, 1, none⟩)) ∧ w2 = w') := fun w' => by have := deep_any b kn w'; rw [hdp] at this; exact this
  clear hW hZ hbk hdp
  go_enter Tryz.func136, Tryz.ntmps136
  go_wp2_with fail
  refine (CK.out _ Z1.out.bn).mono ?_
  rintro e w2 ⟨rfl, hb2⟩
  have W2 : Hid (Wk w2 b s v) := W1.out.under hb2
  have HB2 : Hid (Below w.heap.size w w2) := hb2
  clear hb2 W1 Z1 CK
  go_wp2_with fail
  refine (CD.out _).mono ?_
  rintro e w3 ⟨rfl, rfl⟩
  have c1 : w3.cell? ⟨b, 1, none⟩ = some (.int .i64 s.bold) := W2.out.blk.cell 1
  have f1 := W2.out.blk.frozen 1
  rw [hz] at c1
  clear hz
  go_wp2
  go_end0
  exact ⟨rfl, PutTo.pre HB2.out (PutTo.over (.inl rfl) (Kept.refl _ _) W2.out (W2.out.blk.set 1 _) (kept_set1 ..) rfl)⟩

set_option maxRecDepth 100000 in
set_option maxHeartbeats 3200000 in
theorem close_bold1 (b : Nat) (s : Sn.S) (v : Value) (kn : List UInt8) (w : World) (hW : Wk w b s v) (hZ : Zt w b) (_hn : s.d.length ≤ 900000) (hz : 0 < s.bold) (h1 : s.bold ≤ 1000000) (hbk : Sn.blockOf kn = none) (hdp : dp b kn = some ⟨b, 1, none⟩) : Calls Tryz.prog 136 #[.pointer (some ⟨b, 0, none⟩), .string (B kn)] w fun e w' => e = .returned (.tuple #[]) ∧ PutTo w b v w' { s with bold := s.bold - 1 } := by
  have W1 : Hid (Wk w b s v) := hW
  have Z1 : Hid (Zt w b) := hZ
  have hbl := hW.big
  have CK : Hid (∀ w', Bn w' → Calls Tryz.prog 204 #[.string (B kn)] w' fun e w2 => e = .returned (.tuple #[.int .i64 0, .bool false]) ∧ Below w'.heap.size w' w2) := fun w' h => by have := kindOf_any kn w' h; rw [hbk] at this; exact this
  have CD : Hid (∀ w', Calls Tryz.prog 205 #[.pointer (some ⟨b, 0, none⟩), .string (B kn)] w' fun e w2 => e = .returned (.pointer (some ⟨b, 1, none⟩)) ∧ w2 = w') := fun w' => by have := deep_any b kn w'; rw [hdp] at this; exact this
  clear hW hZ hbk hdp
  go_enter Tryz.func136, Tryz.ntmps136
  go_wp2_with fail
  refine (CK.out _ Z1.out.bn).mono ?_
  rintro e w2 ⟨rfl, hb2⟩
  have W2 : Hid (Wk w2 b s v) := W1.out.under hb2
  have HB2 : Hid (Below w.heap.size w w2) := hb2
  clear hb2 W1 Z1 CK
  go_wp2_with fail
  refine (CD.out _).mono ?_
  rintro e w3 ⟨rfl, rfl⟩
  have c1 : w3.cell? ⟨b, 1, none⟩ = some (.int .i64 s.bold) := W2.out.blk.cell 1
  have f1 := W2.out.blk.frozen 1
  obtain ⟨x, hx⟩ : ∃ x : Nat, s.bold = x + 1 := ⟨(s.bold - 1).toNat, by omega⟩
  have HX : Hid (s.bold - 1 = x) := by show s.bold - 1 = x; omega
  rw [hx] at c1 h1
  clear hx hz
  go_wp2
  go_end0
  refine ⟨rfl, PutTo.pre HB2.out (PutTo.over (.inl rfl) (Kept.refl _ _) W2.out ?_ (kept_set1 ..) rfl)⟩
  rw [HX.out]
  exact W2.out.blk.set 1 _

set_option maxRecDepth 100000 in
set_option maxHeartbeats 3200000 in
theorem close_slant0 (b : Nat) (s : Sn.S) (v : Value) (kn : List UInt8) (w : World) (hW : Wk w b s v) (hZ : Zt w b) (_hn : s.d.length ≤ 900000) (hz : s.slant = 0) (_h1 : s.slant ≤ 1000000) (hbk : Sn.blockOf kn = none) (hdp : dp b kn = some ⟨b, 2, none⟩) : Calls Tryz.prog 136 #[.pointer (some ⟨b, 0, none⟩), .string (B kn)] w fun e w' => e = .returned (.tuple #[]) ∧ PutTo w b v w' { s with slant := 0 } := by
  have W1 : Hid (Wk w b s v) := hW
  have Z1 : Hid (Zt w b) := hZ
  have hbl := hW.big
  have CK : Hid (∀ w', Bn w' → Calls Tryz.prog 204 #[.string (B kn)] w' fun e w2 => e = .returned (.tuple #[.int .i64 0, .bool false]) ∧ Below w'.heap.size w' w2) := fun w' h => by have := kindOf_any kn w' h; rw [hbk] at this; exact this
  have CD : Hid (∀ w', Calls Tryz.prog 205 #[.pointer (some ⟨b, 0, none⟩), .string (B kn)] w' fun e w2 => e = .returned (.pointer (some ⟨b, 2, none⟩)) ∧ w2 = w') := fun w' => by have := deep_any b kn w'; rw [hdp] at this; exact this
  clear hW hZ hbk hdp
  go_enter Tryz.func136, Tryz.ntmps136
  go_wp2_with fail
  refine (CK.out _ Z1.out.bn).mono ?_
  rintro e w2 ⟨rfl, hb2⟩
  have W2 : Hid (Wk w2 b s v) := W1.out.under hb2
  have HB2 : Hid (Below w.heap.size w w2) := hb2
  clear hb2 W1 Z1 CK
  go_wp2_with fail
  refine (CD.out _).mono ?_
  rintro e w3 ⟨rfl, rfl⟩
  have c1 : w3.cell? ⟨b, 2, none⟩ = some (.int .i64 s.slant) := W2.out.blk.cell 2
  have f1 := W2.out.blk.frozen 2
  rw [hz] at c1
  clear hz
  go_wp2
  go_end0
  exact ⟨rfl, PutTo.pre HB2.out (PutTo.over (.inl rfl) (Kept.refl _ _) W2.out (W2.out.blk.set 2 _) (kept_set1 ..) rfl)⟩

set_option maxRecDepth 100000 in
set_option maxHeartbeats 3200000 in
theorem close_slant1 (b : Nat) (s : Sn.S) (v : Value) (kn : List UInt8) (w : World) (hW : Wk w b s v) (hZ : Zt w b) (_hn : s.d.length ≤ 900000) (hz : 0 < s.slant) (h1 : s.slant ≤ 1000000) (hbk : Sn.blockOf kn = none) (hdp : dp b kn = some ⟨b, 2, none⟩) : Calls Tryz.prog 136 #[.pointer (some ⟨b, 0, none⟩), .string (B kn)] w fun e w' => e = .returned (.tuple #[]) ∧ PutTo w b v w' { s with slant := s.slant - 1 } := by
  have W1 : Hid (Wk w b s v) := hW
  have Z1 : Hid (Zt w b) := hZ
  have hbl := hW.big
  have CK : Hid (∀ w', Bn w' → Calls Tryz.prog 204 #[.string (B kn)] w' fun e w2 => e = .returned (.tuple #[.int .i64 0, .bool false]) ∧ Below w'.heap.size w' w2) := fun w' h => by have := kindOf_any kn w' h; rw [hbk] at this; exact this
  have CD : Hid (∀ w', Calls Tryz.prog 205 #[.pointer (some ⟨b, 0, none⟩), .string (B kn)] w' fun e w2 => e = .returned (.pointer (some ⟨b, 2, none⟩)) ∧ w2 = w') := fun w' => by have := deep_any b kn w'; rw [hdp] at this; exact this
  clear hW hZ hbk hdp
  go_enter Tryz.func136, Tryz.ntmps136
  go_wp2_with fail
  refine (CK.out _ Z1.out.bn).mono ?_
  rintro e w2 ⟨rfl, hb2⟩
  have W2 : Hid (Wk w2 b s v) := W1.out.under hb2
  have HB2 : Hid (Below w.heap.size w w2) := hb2
  clear hb2 W1 Z1 CK
  go_wp2_with fail
  refine (CD.out _).mono ?_
  rintro e w3 ⟨rfl, rfl⟩
  have c1 : w3.cell? ⟨b, 2, none⟩ = some (.int .i64 s.slant) := W2.out.blk.cell 2
  have f1 := W2.out.blk.frozen 2
  obtain ⟨x, hx⟩ : ∃ x : Nat, s.slant = x + 1 := ⟨(s.slant - 1).toNat, by omega⟩
  have HX : Hid (s.slant - 1 = x) := by show s.slant - 1 = x; omega
  rw [hx] at c1 h1
  clear hx hz
  go_wp2
  go_end0
  refine ⟨rfl, PutTo.pre HB2.out (PutTo.over (.inl rfl) (Kept.refl _ _) W2.out ?_ (kept_set1 ..) rfl)⟩
  rw [HX.out]
  exact W2.out.blk.set 2 _

set_option maxRecDepth 100000 in
set_option maxHeartbeats 3200000 in
theorem close_a (b : Nat) (s : Sn.S) (v : Value) (kn : List UInt8) (w : World) (hW : Wk w b s v) (hZ : Zt w b) (_hn : s.d.length ≤ 900000) (hbk : Sn.blockOf kn = none) (hdp : dp b kn = none) (ha : ((B kn).toList == [97]) = true) : Calls Tryz.prog 136 #[.pointer (some ⟨b, 0, none⟩), .string (B kn)] w fun e w' => e = .returned (.tuple #[]) ∧ PutTo w b v w' { s with link := [] } := by
  have W1 : Hid (Wk w b s v) := hW
  have Z1 : Hid (Zt w b) := hZ
  have hbl := hW.big
  have CK : Hid (∀ w', Bn w' → Calls Tryz.prog 204 #[.string (B kn)] w' fun e w2 => e = .returned (.tuple #[.int .i64 0, .bool false]) ∧ Below w'.heap.size w' w2) := fun w' h => by have := kindOf_any kn w' h; rw [hbk] at this; exact this
  have CD : Hid (∀ w', Calls Tryz.prog 205 #[.pointer (some ⟨b, 0, none⟩), .string (B kn)] w' fun e w2 => e = .returned (.pointer (none)) ∧ w2 = w') := fun w' => by have := deep_any b kn w'; rw [hdp] at this; exact this
  clear hW hZ hbk hdp
  go_enter Tryz.func136, Tryz.ntmps136
  go_wp2_with fail
  refine (CK.out _ Z1.out.bn).mono ?_
  rintro e w2 ⟨rfl, hb2⟩
  have W2 : Hid (Wk w2 b s v) := W1.out.under hb2
  have HB2 : Hid (Below w.heap.size w w2) := hb2
  clear hb2 W1 Z1 CK
  go_wp2_with fail
  refine (CD.out _).mono ?_
  rintro e w3 ⟨rfl, rfl⟩
  have f3 := W2.out.blk.frozen 3
  have c3 : w3.cell? ⟨b, 3, none⟩ = some (.string (B s.link)) := W2.out.blk.cell 3
  go_wp2
  go_end0
  exact ⟨rfl, PutTo.pre HB2.out (PutTo.over (.inl rfl) (Kept.refl _ _) W2.out (W2.out.blk.set 3 _) (kept_set1 ..) rfl)⟩

set_option maxRecDepth 100000 in
set_option maxHeartbeats 3200000 in
theorem close_none (b : Nat) (s : Sn.S) (v : Value) (kn : List UInt8) (w : World) (hW : Wk w b s v) (hZ : Zt w b) (_hn : s.d.length ≤ 900000) (hbk : Sn.blockOf kn = none) (hdp : dp b kn = none) (ha : ((B kn).toList == [97]) = false) : Calls Tryz.prog 136 #[.pointer (some ⟨b, 0, none⟩), .string (B kn)] w fun e w' => e = .returned (.tuple #[]) ∧ PutTo w b v w' s := by
  have W1 : Hid (Wk w b s v) := hW
  have Z1 : Hid (Zt w b) := hZ
  have hbl := hW.big
  have CK : Hid (∀ w', Bn w' → Calls Tryz.prog 204 #[.string (B kn)] w' fun e w2 => e = .returned (.tuple #[.int .i64 0, .bool false]) ∧ Below w'.heap.size w' w2) := fun w' h => by have := kindOf_any kn w' h; rw [hbk] at this; exact this
  have CD : Hid (∀ w', Calls Tryz.prog 205 #[.pointer (some ⟨b, 0, none⟩), .string (B kn)] w' fun e w2 => e = .returned (.pointer (none)) ∧ w2 = w') := fun w' => by have := deep_any b kn w'; rw [hdp] at this; exact this
  clear hW hZ hbk hdp
  go_enter Tryz.func136, Tryz.ntmps136
  go_wp2_with fail
  refine (CK.out _ Z1.out.bn).mono ?_
  rintro e w2 ⟨rfl, hb2⟩
  have W2 : Hid (Wk w2 b s v) := W1.out.under hb2
  have HB2 : Hid (Below w.heap.size w w2) := hb2
  clear hb2 W1 Z1 CK
  go_wp2_with fail
  refine (CD.out _).mono ?_
  rintro e w3 ⟨rfl, rfl⟩
  go_wp2
  go_end0
  exact ⟨rfl, PutTo.pre HB2.out (PutTo.refl W2.out)⟩

theorem up_less {x : Int} (h : 0 < x) : Sn.up (x + -1) = x - 1 := by unfold Sn.up; rw [if_neg (by omega)]; omega
theorem takeClose_any (b : Nat) (s : Sn.S) (v : Value) (kn kt kh : List UInt8) (w : World) (hW : Wk w b s v) (hZ : Zt w b) (hn : s.d.length ≤ 900000) (hL : Lim 1000000 s) (h0 : s.hides = []) : Calls Tryz.prog 136 #[.pointer (some ⟨b, 0, none⟩), .string (B kn)] w fun e w' => e = .returned (.tuple #[]) ∧ PutTo w b v w' (Sn.step s ⟨3, kn, kt, kh⟩) := by
  have hs := Sn.step_seen s ⟨3, kn, kt, kh⟩ h0
  cases hb : Sn.blockOf kn with
  | some k =>
    have e : Sn.step s ⟨3, kn, kt, kh⟩ = Sn.shut s := by rw [hs]; simp [hb]
    rw [e]
    exact close_block b s v kn w hW hZ hn k hb
  | none =>
    have e : Sn.step s ⟨3, kn, kt, kh⟩ = Sn.other s ⟨3, kn, kt, kh⟩ := by rw [hs]; simp [hb]
    rw [e]
    clear hs e
    unfold Sn.other
    cases h1 : Sn.boldL.contains kn
    · cases h2 : Sn.slantL.contains kn
      · have hd := dp_none (b := b) h1 h2
        rw [if_neg Bool.false_ne_true, if_neg Bool.false_ne_true]
        cases h3 : (kn == [97])
        · rw [if_neg Bool.false_ne_true, if_pos (show ((3 : Int) == 3) = true by decide)]
          exact close_none b s v kn w hW hZ hn hb hd ((eq_beq kn [97]).trans h3)
        · rw [if_pos rfl, if_neg (show ¬ ((3 : Int) == 2) = true by decide)]
          exact close_a b s v kn w hW hZ hn hb hd ((eq_beq kn [97]).trans h3)
      · rw [if_neg Bool.false_ne_true, if_pos rfl]
        have hd := dp_slant (b := b) h1 h2
        show Calls _ _ _ _ fun e w' => _ ∧ PutTo w b v w' { s with slant := Sn.up (s.slant + -1) }
        by_cases hz : s.slant = 0
        · have e : Sn.up (s.slant + -1) = 0 := by rw [hz]; rfl
          rw [e]
          exact close_slant0 b s v kn w hW hZ hn hz hL.s1 hb hd
        · have hp : 0 < s.slant := by have := hL.s0; omega
          rw [up_less hp]
          exact close_slant1 b s v kn w hW hZ hn hp hL.s1 hb hd
    · rw [if_pos rfl]
      have hd := dp_bold (b := b) h1
      show Calls _ _ _ _ fun e w' => _ ∧ PutTo w b v w' { s with bold := Sn.up (s.bold + -1) }
      by_cases hz : s.bold = 0
      · have e : Sn.up (s.bold + -1) = 0 := by rw [hz]; rfl
        rw [e]
        exact close_bold0 b s v kn w hW hZ hn hz hL.b1 hb hd
      · have hp : 0 < s.bold := by have := hL.b0; omega
        rw [up_less hp]
        exact close_bold1 b s v kn w hW hZ hn hp hL.b1 hb hd

set_option maxRecDepth 100000 in
set_option maxHeartbeats 3200000 in
theorem take_h3 (b : Nat) (s : Sn.S) (v : Value) (kn kt kh : List UInt8) (w : World) (hW : Wk w b s v) (e0 : (B s.hides).toList.isEmpty = false) (hq : ((B kn).toList == (B s.hides).toList) = true) : Calls Tryz.prog 62 #[.pointer (some ⟨b, 0, none⟩), .agg #[.int .i64 3, .string (B kn), .string (B kt), .string (B kh)]] w fun e w' => e = .returned (.tuple #[]) ∧ PutTo w b v w' { s with hides := [] } := by
  have hb1 : Below w.heap.size w (w.alloc (.cells #[.int .i64 3, .string (B kn), .string (B kt), .string (B kh)] 30)) := (Below.refl _ _).alloc (Nat.le_refl _) _
  have W1 : Hid (Wk (w.alloc (.cells #[.int .i64 3, .string (B kn), .string (B kt), .string (B kh)] 30)) b s v) := hW.under hb1
  have HB1 : Hid (Below w.heap.size w (w.alloc (.cells #[.int .i64 3, .string (B kn), .string (B kt), .string (B kh)] 30))) := hb1
  have hbl := hW.big
  have c6 : w.cell? ⟨b, 6, none⟩ = some (.string (B s.hides)) := hW.blk.cell 6
  have f6 := hW.blk.frozen 6
  clear hW hb1
  go_enter Tryz.func62, Tryz.ntmps62
  go_wp2
  go_quiet (fail)
  go_wp2
  go_end0
  refine ⟨rfl, ?_⟩
  have hB := W1.out.blk.set 6 (.string (B []))
  exact PutTo.pre (Below.trans HB1.out (Below.mono (B := _) (Go.below_drewN (Below.refl _ _) _) (Nat.le_refl _))) (PutTo.over (.inl rfl) (Kept.refl _ _) (W1.out.under (Go.below_drewN (Below.refl _ _) _)) hB (kept_set1 ..) rfl)

set_option maxRecDepth 100000 in
set_option maxHeartbeats 3200000 in
theorem take_h3n (b : Nat) (s : Sn.S) (v : Value) (kn kt kh : List UInt8) (w : World) (hW : Wk w b s v) (e0 : (B s.hides).toList.isEmpty = false) (hq : ((B kn).toList == (B s.hides).toList) = false) : Calls Tryz.prog 62 #[.pointer (some ⟨b, 0, none⟩), .agg #[.int .i64 3, .string (B kn), .string (B kt), .string (B kh)]] w fun e w' => e = .returned (.tuple #[]) ∧ PutTo w b v w' s := by
  have hb1 : Below w.heap.size w (w.alloc (.cells #[.int .i64 3, .string (B kn), .string (B kt), .string (B kh)] 30)) := (Below.refl _ _).alloc (Nat.le_refl _) _
  have W1 : Hid (Wk (w.alloc (.cells #[.int .i64 3, .string (B kn), .string (B kt), .string (B kh)] 30)) b s v) := hW.under hb1
  have HB1 : Hid (Below w.heap.size w (w.alloc (.cells #[.int .i64 3, .string (B kn), .string (B kt), .string (B kh)] 30))) := hb1
  have hbl := hW.big
  have c6 : w.cell? ⟨b, 6, none⟩ = some (.string (B s.hides)) := hW.blk.cell 6
  have f6 := hW.blk.frozen 6
  clear hW hb1
  go_enter Tryz.func62, Tryz.ntmps62
  go_wp2
  go_quiet (fail)
  go_wp2
  go_end0
  exact ⟨rfl, PutTo.pre HB1.out (PutTo.pre (Go.below_drewN (Below.refl _ _) _) (PutTo.refl (W1.out.under (Go.below_drewN (Below.refl _ _) _))))⟩

set_option maxRecDepth 100000 in
set_option maxHeartbeats 3200000 in
theorem take_hn (b : Nat) (s : Sn.S) (v : Value) (kk : Int) (kn kt kh : List UInt8) (w : World) (hW : Wk w b s v) (e0 : (B s.hides).toList.isEmpty = false) (hk : (kk == 3) = false) : Calls Tryz.prog 62 #[.pointer (some ⟨b, 0, none⟩), .agg #[.int .i64 kk, .string (B kn), .string (B kt), .string (B kh)]] w fun e w' => e = .returned (.tuple #[]) ∧ PutTo w b v w' s := by
  have hb1 : Below w.heap.size w (w.alloc (.cells #[.int .i64 kk, .string (B kn), .string (B kt), .string (B kh)] 30)) := (Below.refl _ _).alloc (Nat.le_refl _) _
  have W1 : Hid (Wk (w.alloc (.cells #[.int .i64 kk, .string (B kn), .string (B kt), .string (B kh)] 30)) b s v) := hW.under hb1
  have HB1 : Hid (Below w.heap.size w (w.alloc (.cells #[.int .i64 kk, .string (B kn), .string (B kt), .string (B kh)] 30))) := hb1
  have hbl := hW.big
  have c6 : w.cell? ⟨b, 6, none⟩ = some (.string (B s.hides)) := hW.blk.cell 6
  have f6 := hW.blk.frozen 6
  clear hW hb1
  go_enter Tryz.func62, Tryz.ntmps62
  go_wp2
  go_quiet (fail)
  go_wp2
  go_end0
  exact ⟨rfl, PutTo.pre HB1.out (PutTo.pre (Go.below_drewN (Below.refl _ _) _) (PutTo.refl (W1.out.under (Go.below_drewN (Below.refl _ _) _))))⟩

set_option maxRecDepth 100000 in
set_option maxHeartbeats 3200000 in
theorem take_text (b : Nat) (s : Sn.S) (v : Value) (kn kt kh : List UInt8) (w : World) (hW : Wk w b s v) (hn : s.d.length + kt.length ≤ 900000) (e0 : (B s.hides).toList.isEmpty = true) : Calls Tryz.prog 62 #[.pointer (some ⟨b, 0, none⟩), .agg #[.int .i64 1, .string (B kn), .string (B kt), .string (B kh)]] w fun e w' => e = .returned (.tuple #[]) ∧ PutTo w b v w' (s.chars kt) := by
  have hb1 : Below w.heap.size w (w.alloc (.cells #[.int .i64 1, .string (B kn), .string (B kt), .string (B kh)] 30)) := (Below.refl _ _).alloc (Nat.le_refl _) _
  have W1 : Hid (Wk (w.alloc (.cells #[.int .i64 1, .string (B kn), .string (B kt), .string (B kh)] 30)) b s v) := hW.under hb1
  have HB1 : Hid (Below w.heap.size w (w.alloc (.cells #[.int .i64 1, .string (B kn), .string (B kt), .string (B kh)] 30))) := hb1
  have hbl := hW.big
  have c6 : w.cell? ⟨b, 6, none⟩ = some (.string (B s.hides)) := hW.blk.cell 6
  have f6 := hW.blk.frozen 6
  clear hW hb1
  go_enter Tryz.func62, Tryz.ntmps62
  go_wp2_with fail
  refine (takeText_any b s v kt _ W1.out hn).mono ?_
  rintro e w2 ⟨rfl, hP⟩
  have HP : Hid (PutTo (w.alloc (.cells #[.int .i64 1, .string (B kn), .string (B kt), .string (B kh)] 30)) b v w2 (s.chars kt)) := hP
  clear hP
  go_wp2
  go_end0
  exact ⟨rfl, PutTo.pre HB1.out HP.out⟩

set_option maxRecDepth 100000 in
set_option maxHeartbeats 3200000 in
theorem take_open (b : Nat) (s : Sn.S) (v : Value) (kn kt kh : List UInt8) (w : World) (hW : Wk w b s v) (hZ : Zt w b) (hn : s.d.length ≤ 900000) (hL : Lim 1000000 s) (hh : kh.length ≤ 20000) (h0 : s.hides = []) (e0 : (B s.hides).toList.isEmpty = true) : Calls Tryz.prog 62 #[.pointer (some ⟨b, 0, none⟩), .agg #[.int .i64 2, .string (B kn), .string (B kt), .string (B kh)]] w fun e w' => e = .returned (.tuple #[]) ∧ PutTo w b v w' (Sn.step s ⟨2, kn, kt, kh⟩) := by
  have hb1 : Below w.heap.size w (w.alloc (.cells #[.int .i64 2, .string (B kn), .string (B kt), .string (B kh)] 30)) := (Below.refl _ _).alloc (Nat.le_refl _) _
  have W1 : Hid (Wk (w.alloc (.cells #[.int .i64 2, .string (B kn), .string (B kt), .string (B kh)] 30)) b s v) := hW.under hb1
  have HB1 : Hid (Below w.heap.size w (w.alloc (.cells #[.int .i64 2, .string (B kn), .string (B kt), .string (B kh)] 30))) := hb1
  have hbl := hW.big
  have c6 : w.cell? ⟨b, 6, none⟩ = some (.string (B s.hides)) := hW.blk.cell 6
  have f6 := hW.blk.frozen 6
  have Z1 : Hid (Zt (w.alloc (.cells #[.int .i64 2, .string (B kn), .string (B kt), .string (B kh)] 30)) b) := hZ.under hb1 (Nat.le_of_lt hbl)
  have HL : Hid (Lim 1000000 s) := hL
  have H0 : Hid (s.hides = []) := h0
  clear hL h0 hZ
  clear hW hb1
  go_enter Tryz.func62, Tryz.ntmps62
  go_wp2_with fail
  refine (takeOpen_any b s v kn kt kh _ W1.out Z1.out hn HL.out hh H0.out).mono ?_
  rintro e w2 ⟨rfl, hP⟩
  have HP : Hid (PutTo (w.alloc (.cells #[.int .i64 2, .string (B kn), .string (B kt), .string (B kh)] 30)) b v w2 (Sn.step s ⟨2, kn, kt, kh⟩)) := hP
  clear hP
  go_wp2
  go_end0
  exact ⟨rfl, PutTo.pre HB1.out HP.out⟩

set_option maxRecDepth 100000 in
set_option maxHeartbeats 3200000 in
theorem take_close (b : Nat) (s : Sn.S) (v : Value) (kn kt kh : List UInt8) (w : World) (hW : Wk w b s v) (hZ : Zt w b) (hn : s.d.length ≤ 900000) (hL : Lim 1000000 s) (h0 : s.hides = []) (e0 : (B s.hides).toList.isEmpty = true) : Calls Tryz.prog 62 #[.pointer (some ⟨b, 0, none⟩), .agg #[.int .i64 3, .string (B kn), .string (B kt), .string (B kh)]] w fun e w' => e = .returned (.tuple #[]) ∧ PutTo w b v w' (Sn.step s ⟨3, kn, kt, kh⟩) := by
  have hb1 : Below w.heap.size w (w.alloc (.cells #[.int .i64 3, .string (B kn), .string (B kt), .string (B kh)] 30)) := (Below.refl _ _).alloc (Nat.le_refl _) _
  have W1 : Hid (Wk (w.alloc (.cells #[.int .i64 3, .string (B kn), .string (B kt), .string (B kh)] 30)) b s v) := hW.under hb1
  have HB1 : Hid (Below w.heap.size w (w.alloc (.cells #[.int .i64 3, .string (B kn), .string (B kt), .string (B kh)] 30))) := hb1
  have hbl := hW.big
  have c6 : w.cell? ⟨b, 6, none⟩ = some (.string (B s.hides)) := hW.blk.cell 6
  have f6 := hW.blk.frozen 6
  have Z1 : Hid (Zt (w.alloc (.cells #[.int .i64 3, .string (B kn), .string (B kt), .string (B kh)] 30)) b) := hZ.under hb1 (Nat.le_of_lt hbl)
  have HL : Hid (Lim 1000000 s) := hL
  have H0 : Hid (s.hides = []) := h0
  clear hL h0 hZ
  clear hW hb1
  go_enter Tryz.func62, Tryz.ntmps62
  go_wp2_with fail
  refine (takeClose_any b s v kn kt kh _ W1.out Z1.out hn HL.out H0.out).mono ?_
  rintro e w2 ⟨rfl, hP⟩
  have HP : Hid (PutTo (w.alloc (.cells #[.int .i64 3, .string (B kn), .string (B kt), .string (B kh)] 30)) b v w2 (Sn.step s ⟨3, kn, kt, kh⟩)) := hP
  clear hP
  go_wp2
  go_end0
  exact ⟨rfl, PutTo.pre HB1.out HP.out⟩

set_option maxRecDepth 100000 in
set_option maxHeartbeats 3200000 in
theorem take_other (b : Nat) (s : Sn.S) (v : Value) (kn kt kh : List UInt8) (w : World) (hW : Wk w b s v) (e0 : (B s.hides).toList.isEmpty = true) : Calls Tryz.prog 62 #[.pointer (some ⟨b, 0, none⟩), .agg #[.int .i64 4, .string (B kn), .string (B kt), .string (B kh)]] w fun e w' => e = .returned (.tuple #[]) ∧ PutTo w b v w' s := by
  have hb1 : Below w.heap.size w (w.alloc (.cells #[.int .i64 4, .string (B kn), .string (B kt), .string (B kh)] 30)) := (Below.refl _ _).alloc (Nat.le_refl _) _
  have W1 : Hid (Wk (w.alloc (.cells #[.int .i64 4, .string (B kn), .string (B kt), .string (B kh)] 30)) b s v) := hW.under hb1
  have HB1 : Hid (Below w.heap.size w (w.alloc (.cells #[.int .i64 4, .string (B kn), .string (B kt), .string (B kh)] 30))) := hb1
  have hbl := hW.big
  have c6 : w.cell? ⟨b, 6, none⟩ = some (.string (B s.hides)) := hW.blk.cell 6
  have f6 := hW.blk.frozen 6
  clear hW hb1
  go_enter Tryz.func62, Tryz.ntmps62
  go_wp2
  go_end0
  exact ⟨rfl, PutTo.pre HB1.out (PutTo.refl W1.out)⟩

theorem empty_of (l : List UInt8) : (B l).toList.isEmpty = l.isEmpty := by rw [Lib.toList_data, B_data]
theorem BB_beq (x y : List UInt8) : ((B x).toList == (B y).toList) = (x == y) := by rw [Lib.toList_data, B_data, Lib.toList_data, B_data]
theorem ztake_any (b : Nat) (s : Sn.S) (v : Value) (t : Tk) (w : World) (hW : Wk w b s v) (hZ : Zt w b) (hn : s.d.length ≤ 80) (hL : Lim 1000000 s) (hf : Tk.Fits 20000 t) : Calls Tryz.prog 62 #[.pointer (some ⟨b, 0, none⟩), .agg #[.int .i64 t.kind, .string (B t.name), .string (B t.text), .string (B t.href)]] w fun e w' => e = .returned (.tuple #[]) ∧ PutTo w b v w' (Sn.step s t) := by
  obtain ⟨kk, kn, kt, kh⟩ := t
  have ft := hf.text
  have fh := hf.href
  have fk := hf.kind
  simp only at ft fh fk ⊢
  cases h0 : s.hides.isEmpty
  · have e0 := (empty_of s.hides).trans h0
    have hs : Sn.step s ⟨kk, kn, kt, kh⟩ = if kk == 3 && kn == s.hides then { s with hides := [] } else s := by unfold Sn.step; rw [h0]; rfl
    rw [hs]
    cases hk : (kk == 3)
    · exact take_hn b s v kk kn kt kh w hW e0 hk
    · have : kk = 3 := by simpa using hk
      subst this
      cases hq : (kn == s.hides)
      · exact take_h3n b s v kn kt kh w hW e0 ((BB_beq _ _).trans hq)
      · exact take_h3 b s v kn kt kh w hW e0 ((BB_beq _ _).trans hq)
  · have e0 := (empty_of s.hides).trans h0
    have h0' : s.hides = [] := by simpa using h0
    rcases fk with rfl | rfl | rfl | rfl
    · have hs : Sn.step s ⟨1, kn, kt, kh⟩ = s.chars kt := by rw [Sn.step_seen s _ h0']; rfl
      rw [hs]
      exact take_text b s v kn kt kh w hW (by omega) e0
    · exact take_open b s v kn kt kh w hW hZ (by omega) hL fh h0' e0
    · exact take_close b s v kn kt kh w hW hZ (by omega) hL h0' e0
    · have hs : Sn.step s ⟨4, kn, kt, kh⟩ = s := by rw [Sn.step_seen s _ h0']; rfl
      rw [hs]
      exact take_other b s v kn kt kh w hW e0

theorem Lim.mono {n m : Nat} {s : Sn.S} (h : Lim n s) (hm : n ≤ m) : Lim m s := ⟨h.b0, by have := h.b1; omega, h.s0, by have := h.s1; omega⟩
theorem one_le (k : Int) : Sn.one k ≤ 1 := by
  unfold Sn.one
  split
  · omega
  · split <;> omega
theorem up_ge (x : Int) : 0 ≤ Sn.up x := by unfold Sn.up; split <;> omega
theorem up_le {x : Int} {n : Nat} (h : x ≤ n) : Sn.up x ≤ n := by unfold Sn.up; split <;> omega
theorem lim_shut {n : Nat} {s : Sn.S} (h : Lim n s) : Lim n (Sn.shut s) := ⟨h.b0, h.b1, h.s0, h.s1⟩
theorem lim_other {n : Nat} {s : Sn.S} (h : Lim n s) (t : Tk) : Lim (n + 1) (Sn.other s t) := by
  have g := h.mono (Nat.le_succ n)
  have ho := one_le t.kind
  have b1 := h.b1
  have s1 := h.s1
  unfold Sn.other
  split
  · exact ⟨up_ge _, up_le (by push_cast; omega), g.s0, g.s1⟩
  split
  · exact ⟨g.b0, g.b1, up_ge _, up_le (by push_cast; omega)⟩
  split
  · exact ⟨g.b0, g.b1, g.s0, g.s1⟩
  split
  · exact g
  split
  · exact ⟨g.b0, g.b1, g.s0, g.s1⟩
  split
  · exact ⟨g.b0, g.b1, g.s0, g.s1⟩
  · exact g
theorem lim_step {n : Nat} {s : Sn.S} (h : Lim n s) (t : Tk) : Lim (n + 1) (Sn.step s t) := by
  have g := h.mono (Nat.le_succ n)
  unfold Sn.step
  split
  · split
    · exact ⟨g.b0, g.b1, g.s0, g.s1⟩
    · exact g
  split
  · exact ⟨g.b0, g.b1, g.s0, g.s1⟩
  split
  · exact g
  split
  · split
    · exact ⟨g.b0, g.b1, g.s0, g.s1⟩
    · exact lim_shut g
  · exact lim_other h t
end Go.Proofs.YtbhcklkbckacpaaGreatDoor

/-
  sanitize.Page: whatever a page is, what is made of it is what chapter 6 says.
-/
namespace Go.Proofs.YtbhcklkbckacpaaGreatDoor
open Go.RowKit

def Made1 (r : Option (List It)) (e : Ending) (w' : World) : Prop :=
  match r with
  | some d => ∃ ao cap, e = .returned (.tuple #[.slice ao d.length cap, .int .i64 0]) ∧ Doc w' ao d.length cap d
  | none => e = .returned (.tuple #[.slice none 0 0, .int .i64 2])

set_option maxRecDepth 100000 in
set_option maxHeartbeats 800000 in
theorem zpage_many (ao : Option Addr) (n cap : Nat) (w : World) (hn : 20000 < n) :
    Calls Tryz.prog 13 #[.slice ao n cap] w fun e w' => e = .returned (.tuple #[.slice none 0 0, .int .i64 2]) ∧ w' = w := by
  have CT : Hid (Calls Tryz.prog 9 #[.slice ao n cap] w fun e w' => e = .returned (.tuple #[.slice none 0 0, .int .i64 2]) ∧ w' = w) := tpage_many ao n cap w hn
  go_enter Tryz.func13, Tryz.ntmps13
  go_wp2_with fail
  refine CT.out.mono ?_
  rintro e w1 ⟨rfl, rfl⟩
  go_wp2
  go_ret2
  exact ⟨rfl, rfl⟩

theorem drop_cons {ts : List Tk} {k : Nat} (h : k < ts.length) : ts.drop k = ts[k] :: ts.drop (k + 1) := List.drop_eq_getElem_cons h
structure Zat (w1 : World) (b : Nat) (ts : List Tk) (k : Nat) (s : Sn.S) (v : Value) (wr : World) : Prop where
  go : Sn.run s (ts.drop k) = Sn.run Sn.s0 ts
  wk : Wk wr b s v
  below : Below b w1 wr
  few : s.d.length ≤ 80
  lim : Lim k s

theorem fit_nice {x : It} (h : Sn.Nice x) : x.l.size ≤ 9223372036854775807 := by
  have h1 := h.1
  have hl := len_list x.l
  rcases h1.2.2 with h2 | h2
  · rw [Lib.toList_data] at h2
    have : x.l.data.toList = [] := by simpa using h2
    rw [this] at hl
    simp at hl
    omega
  · by_cases h3 : 24 < x.l.data.toList.length
    · rw [may_len _ (.inr h3)] at h2
      cases h2
    · omega
theorem made_doc {ts : List Tk} {d : List It} {w : World} {b : Nat} {v : Value} (hr : Sn.read ts = some d) (ho : w.ownsRow (b + 1) 39 3 v d.length (itCells d)) : ∃ ao cap, v = .slice ao d.length cap ∧ Doc w ao d.length cap d := by
  obtain ⟨hN, h80, k, x, hk, _⟩ := Sn.read_doc hr
  have hne : d.length ≠ 0 := by rw [hk]; simp
  rcases ho.2 with ⟨hv, h0⟩ | ⟨g, cap, cur, rfl, hg, hh, h1, h2, h3, h4⟩
  · exact absurd h0 hne
  · unfold maxLen at h2
    exact ⟨_, cap, rfl, fun y hy => fit_nice (hN y hy), rfl, h1, by omega, fun _ => ⟨g, 0, rfl, own_at ho⟩⟩

theorem run_end {ts : List Tk} {k : Nat} {s : Sn.S} (h : Sn.run s (ts.drop k) = Sn.run Sn.s0 ts) (hk : ts.length ≤ k) : Sn.read ts = Sn.fin s := by
  rw [List.drop_eq_nil_of_le hk] at h
  unfold Sn.read
  rw [← h]
  rfl
theorem run_more {ts : List Tk} {k : Nat} {s : Sn.S} (h : Sn.run s (ts.drop k) = Sn.run Sn.s0 ts) (hk : k < ts.length) (h80 : 80 < (Sn.step s ts[k]).d.length) : Sn.read ts = none := by
  rw [drop_cons hk, Sn.run, if_pos h80] at h
  unfold Sn.read
  rw [← h]
  rfl
theorem run_on {ts : List Tk} {k : Nat} {s : Sn.S} (h : Sn.run s (ts.drop k) = Sn.run Sn.s0 ts) (hk : k < ts.length) (h80 : ¬ 80 < (Sn.step s ts[k]).d.length) : Sn.run (Sn.step s ts[k]) (ts.drop (k + 1)) = Sn.run Sn.s0 ts := by
  rw [drop_cons hk, Sn.run, if_neg h80] at h
  exact h
theorem fin_many {s : Sn.S} (h : 80 < (Sn.shut s).d.length) : Sn.fin s = none := by
  unfold Sn.fin Sn.all
  have : (Sn.shut s).d.isEmpty = false := by
    cases hd : (Sn.shut s).d with
    | nil => rw [hd] at h; simp at h
    | cons _ _ => rfl
  rw [this, if_neg Bool.false_ne_true, if_pos h]
theorem fin_some {s : Sn.S} (h0 : (Sn.shut s).d.length ≠ 0) (h : ¬ 80 < (Sn.shut s).d.length) : Sn.fin s = some (Sn.shut s).d := by
  unfold Sn.fin Sn.all
  have : (Sn.shut s).d.isEmpty = false := by
    cases hd : (Sn.shut s).d with
    | nil => rw [hd] at h0; simp at h0
    | cons _ _ => rfl
  rw [this, if_neg Bool.false_ne_true, if_neg h]
theorem fin_none {s : Sn.S} (h0 : (Sn.shut s).d.length = 0) : Sn.fin s = some ((Sn.shut s).plus (Sn.endOf 0)).d := by
  have hd : (Sn.shut s).d = [] := List.length_eq_zero_iff.1 h0
  unfold Sn.fin Sn.all Sn.S.plus
  rw [hd]
  rfl

set_option maxRecDepth 100000 in
set_option maxHeartbeats 6400000 in
theorem zpage_ok (ao : Option Addr) (n cap : Nat) (l : List UInt8) (w : World) (hB : Byt w ao n cap l) (hE : Env w w.heap.size) (hZ : Zt w w.heap.size) (hn : n ≤ 20000) :
    Calls Tryz.prog 13 #[.slice ao n cap] w fun e w' => Made1 (Sn.read (Tk.toks l)) e w' ∧ Below w.heap.size w w' := by
  have hll := hB.bytes
  have CT : Hid (Calls Tryz.prog 9 #[.slice ao n cap] w fun e w' => (∃ ao' cap', e = .returned (.tuple #[.slice ao' (Tk.toks l).length cap', .int .i64 0]) ∧ Tks w' ao' (Tk.toks l).length cap' (Tk.toks l)) ∧ Below w.heap.size w w') := tpage_ok ao n cap l w hB hE hn
  have HF : Hid (∀ t ∈ Tk.toks l, Tk.Fits 20000 t) := fun t ht => Tk.toks_fits Esc.rd_len 20000 l (by omega) t ht
  have hct : (Tk.toks l).length ≤ 20000 := Nat.le_trans (Tk.toks_count _ l (Nat.le_refl _)) (by omega)
  have HZ : Hid (Zt w w.heap.size) := hZ
  clear hB hE hZ hll
  generalize Tk.toks l = ts at *
  obtain ⟨m, hm⟩ : ∃ m, ts.length = m := ⟨_, rfl⟩
  have HM : Hid (ts.length = m) := hm
  rw [hm] at hct CT
  clear hm
  go_enter Tryz.func13, Tryz.ntmps13
  go_wp2_with fail
  refine CT.out.mono ?_
  rintro e w1 ⟨⟨ao', cap', rfl, hT⟩, hb⟩
  have HT : Hid (Tks w1 ao' m cap' ts) := hT
  have HB1 : Hid (Below w.heap.size w w1) := hb
  have hcap := hT.room
  have hbig := hT.big
  have hb2 : Below w1.heap.size w1 (w1.alloc (.cells (zcells (.slice none 0 0) Sn.s0).toArray 96)) := (Below.refl _ _).alloc (Nat.le_refl _) _
  have HZ1 : Hid (Zt w1 w1.heap.size) := ⟨(HZ.out.below hb).bn, (HZ.out.below hb).hn, (HZ.out.below hb).sch, Nat.lt_of_lt_of_le HZ.out.b1 hb.size, Nat.lt_of_lt_of_le HZ.out.b2 hb.size, Nat.lt_of_lt_of_le HZ.out.b3 hb.size⟩
  have H0 : Hid (Zat w1 w1.heap.size ts 0 Sn.s0 (.slice none 0 0) (w1.alloc (.cells (zcells (.slice none 0 0) Sn.s0).toArray 96))) :=
    ⟨rfl, ⟨Blk.new w1 (zcells (.slice none 0 0) Sn.s0) _, World.ownsRow_nil _ _ _ _⟩, hb2, Nat.zero_le _, ⟨Int.le_refl _, Int.le_refl _, Int.le_refl _, Int.le_refl _⟩⟩
  clear hT hb hb2 CT HZ
  go_wp2
  go_loopw [19] (fun i wr => ∃ k s v, i = .int .i64 (k : Nat) ∧ k ≤ m ∧ Zat w1 w1.heap.size ts k s v wr) (fun i _ => m - (intOf i).toNat)
  case atStart => exact ⟨0, _, _, rfl, Nat.zero_le _, H0.out⟩
  case round =>
    obtain ⟨k, s, v, rfl, hk, hz⟩ := hrel
    have HZA : Hid (Zat w1 w1.heap.size ts k s v wr) := hz
    have HZW : Hid (Zt wr w1.heap.size) := HZ1.out.below hz.below
    clear hz H0
    by_cases hkl : k < m
    · have hkt : k < ts.length := by rw [HM.out]; exact hkl
      obtain ⟨tb, off, rfl, hc⟩ := HT.out.tok (by omega)
      obtain ⟨q0, q1, q2, q3⟩ := hc k hkt
      have hlt : tb < w1.heap.size := World.block_lt_of_cell? _ _ q0
      have up : ∀ j u, w1.cell? ⟨tb, j, none⟩ = some u → wr.cell? ⟨tb, j, none⟩ = some u := fun j u h => (World.cell?_of_block (w := w1) (HZA.out.below.block tb hlt)).trans h
      have r0 := up _ _ q0
      have r1 := up _ _ q1
      have r2 := up _ _ q2
      have r3 := up _ _ q3
      obtain ⟨t, ht⟩ : ∃ t, ts[k] = t := ⟨_, rfl⟩
      rw [ht] at r0 r1 r2 r3
      have HTE : Hid (ts[k] = t) := ht
      have HFT : Hid (Tk.Fits 20000 t) := by rw [← ht]; exact HF.out _ (List.getElem_mem hkt)
      clear hc q0 q1 q2 q3 up ht
      have hb3 : Below wr.heap.size wr (wr.alloc (.cells #[.int .i64 t.kind, .string (B t.name), .string (B t.text), .string (B t.href)] 30)) := (Below.refl _ _).alloc (Nat.le_refl _) _
      have CTK : Hid (Calls Tryz.prog 62 #[.pointer (some ⟨w1.heap.size, 0, none⟩), .agg #[.int .i64 t.kind, .string (B t.name), .string (B t.text), .string (B t.href)]] (wr.alloc (.cells #[.int .i64 t.kind, .string (B t.name), .string (B t.text), .string (B t.href)] 30)) fun e w' => e = .returned (.tuple #[]) ∧ PutTo wr w1.heap.size v w' (Sn.step s t)) :=
        (ztake_any w1.heap.size s v t _ (HZA.out.wk.under hb3) (HZW.out.under hb3 (Nat.le_of_lt HZA.out.wk.big)) HZA.out.few (HZA.out.lim.mono (by omega)) HFT.out).mono fun e w2 h => ⟨h.1, PutTo.pre hb3 h.2⟩
      clear hb3 HFT
      go_wp2_with fail
      refine CTK.out.mono ?_
      rintro e w2 ⟨rfl, hP⟩
      obtain ⟨⟨v1, hW1, hv1⟩, hK1⟩ := hP
      obtain ⟨ao2, cap2, rfl, -⟩ := own_row hW1.own
      have d0 : w2.cell? ⟨w1.heap.size, 0, none⟩ = some (.slice ao2 (Sn.step s t).d.length cap2) := hW1.blk.cell 0
      have HW1 : Hid (Wk w2 w1.heap.size (Sn.step s t) (.slice ao2 (Sn.step s t).d.length cap2)) := hW1
      have HB2 : Hid (Below w1.heap.size w1 w2) := HZA.out.below.trans (HZA.out.wk.blw hK1)
      have HBW : Hid (Below w.heap.size w w2) := HB1.out.trans (HB2.out.mono HB1.out.size)
      clear hW1 hv1 hK1 r0 r1 r2 r3 CTK
      obtain ⟨N, hN⟩ : ∃ N, (Sn.step s t).d.length = N := ⟨_, rfl⟩
      have HN : Hid ((Sn.step s t).d.length = N) := hN
      rw [hN] at d0
      clear hN
      by_cases h80 : 80 < N
      · have CM : Hid (Calls Tryz.prog 63 #[.pointer (some ⟨w1.heap.size, 0, none⟩)] w2 fun e w' => e = .returned (.bool true) ∧ w' = w2) := by have := tooMany_any w1.heap.size N cap2 ao2 w2 d0; rw [decide_eq_true h80] at this; exact this
        clear d0
        go_wp2_with fail
        refine CM.out.mono ?_
        rintro e w3 ⟨rfl, rfl⟩
        go_wp2
        go_ret2
        refine ⟨?_, HBW.out⟩
        rw [run_more HZA.out.go hkt (by rw [HTE.out, HN.out]; exact h80)]
        exact rfl
      · have CM : Hid (Calls Tryz.prog 63 #[.pointer (some ⟨w1.heap.size, 0, none⟩)] w2 fun e w' => e = .returned (.bool false) ∧ w' = w2) := by have := tooMany_any w1.heap.size N cap2 ao2 w2 d0; rw [decide_eq_false h80] at this; exact this
        have HZN : Hid (Zat w1 w1.heap.size ts (k + 1) (Sn.step s t) (.slice ao2 (Sn.step s t).d.length cap2) w2) :=
          ⟨by have := run_on HZA.out.go hkt (by rw [HTE.out, HN.out]; exact h80); rw [HTE.out] at this; exact this, HW1.out, HB2.out, by rw [HN.out]; omega, lim_step HZA.out.lim t⟩
        clear d0
        go_wp2_with fail
        refine CM.out.mono ?_
        rintro e w3 ⟨rfl, rfl⟩
        go_wp2
        go_roundw
        case rel => exact ⟨k + 1, _, _, by go_num, by omega, HZN.out⟩
        case measure => simp [intOf]; omega
    · obtain rfl : k = m := by omega
      have HR : Hid (Sn.read ts = Sn.fin s) := run_end HZA.out.go (by rw [HM.out]; exact Nat.le_refl _)
      go_wp2_with fail
      refine (endBlock_any w1.heap.size s v wr HZA.out.wk (by have := HZA.out.few; omega)).mono ?_
      rintro e w2 ⟨rfl, ⟨v1, hW1, hv1⟩, hK1⟩
      obtain ⟨ao2, cap2, rfl, -⟩ := own_row hW1.own
      have d0 : w2.cell? ⟨w1.heap.size, 0, none⟩ = some (.slice ao2 (Sn.shut s).d.length cap2) := hW1.blk.cell 0
      have HW1 : Hid (Wk w2 w1.heap.size (Sn.shut s) (.slice ao2 (Sn.shut s).d.length cap2)) := hW1
      have HB2 : Hid (Below w1.heap.size w1 w2) := HZA.out.below.trans (HZA.out.wk.blw hK1)
      have HBW : Hid (Below w.heap.size w w2) := HB1.out.trans (HB2.out.mono HB1.out.size)
      clear hW1 hv1 hK1
      obtain ⟨N, hN⟩ : ∃ N, (Sn.shut s).d.length = N := ⟨_, rfl⟩
      have HN : Hid ((Sn.shut s).d.length = N) := hN
      rw [hN] at d0 HW1
      clear hN
      by_cases h0 : N = 0
      · have hl0 : (Sn.shut s).d.length = 0 := HN.out.trans h0
        have HRS : Hid (Sn.read ts = some ((Sn.shut s).plus (Sn.endOf 0)).d) := HR.out.trans (fin_none hl0)
        have CP : Hid (Calls Tryz.prog 65 #[.pointer (some ⟨w1.heap.size, 0, none⟩), .int .u8 10, .int .i64 0, .string ⟨#[]⟩] w2 fun e w3 => e = .returned (.tuple #[]) ∧ PutTo w2 w1.heap.size (.slice ao2 N cap2) w3 ((Sn.shut s).plus (Sn.endOf 0))) := put_any w1.heap.size (Sn.shut s) _ (Sn.endOf 0) w2 HW1.out (by rw [hl0]; decide)
        have hlen : ((Sn.shut s).plus (Sn.endOf 0)).d.length = 1 := by unfold Sn.S.plus; simp [hl0]
        have HLen : Hid (((Sn.shut s).plus (Sn.endOf 0)).d.length = 1) := hlen
        subst h0
        clear hl0 hlen
        go_wp2_with fail
        refine CP.out.mono ?_
        rintro e w3 ⟨rfl, ⟨v2, hW2, hv2⟩, hK2⟩
        have ho := hW2.own
        obtain ⟨ao3, cap3, rfl, hDD⟩ := made_doc HRS.out ho
        have d3 : w3.cell? ⟨w1.heap.size, 0, none⟩ = some (.slice ao3 ((Sn.shut s).plus (Sn.endOf 0)).d.length cap3) := hW2.blk.cell 0
        rw [HLen.out] at d3
        have HD : Hid (Doc w3 ao3 ((Sn.shut s).plus (Sn.endOf 0)).d.length cap3 ((Sn.shut s).plus (Sn.endOf 0)).d) := hDD
        have HB3 : Hid (Below w.heap.size w w3) := HBW.out.trans ((HW1.out.blw hK2).mono HB1.out.size)
        have CM : Hid (Calls Tryz.prog 63 #[.pointer (some ⟨w1.heap.size, 0, none⟩)] w3 fun e w' => e = .returned (.bool false) ∧ w' = w3) := tooMany_any w1.heap.size 1 cap3 ao3 w3 d3
        clear ho hW2 hv2 hK2 hDD d0
        go_wp2_with fail
        refine CM.out.mono ?_
        rintro e w4 ⟨rfl, rfl⟩
        go_wp2
        go_ret2
        refine ⟨?_, HB3.out⟩
        rw [HRS.out]
        exact ⟨ao3, cap3, by rw [HLen.out]; rfl, HD.out⟩
      · by_cases h80 : 80 < N
        · have CM : Hid (Calls Tryz.prog 63 #[.pointer (some ⟨w1.heap.size, 0, none⟩)] w2 fun e w' => e = .returned (.bool true) ∧ w' = w2) := by have := tooMany_any w1.heap.size N cap2 ao2 w2 d0; rw [decide_eq_true h80] at this; exact this
          go_wp2_with fail
          refine CM.out.mono ?_
          rintro e w3 ⟨rfl, rfl⟩
          go_wp2
          go_ret2
          refine ⟨?_, HBW.out⟩
          rw [HR.out, fin_many (by rw [HN.out]; exact h80)]
          exact rfl
        · have CM : Hid (Calls Tryz.prog 63 #[.pointer (some ⟨w1.heap.size, 0, none⟩)] w2 fun e w' => e = .returned (.bool false) ∧ w' = w2) := by have := tooMany_any w1.heap.size N cap2 ao2 w2 d0; rw [decide_eq_false h80] at this; exact this
          have HRS : Hid (Sn.read ts = some (Sn.shut s).d) := HR.out.trans (fin_some (by rw [HN.out]; exact h0) (by rw [HN.out]; exact h80))
          go_wp2_with fail
          refine CM.out.mono ?_
          rintro e w3 ⟨rfl, rfl⟩
          go_wp2
          go_ret2
          refine ⟨?_, HBW.out⟩
          rw [HRS.out]
          have ho := HW1.out.own
          obtain ⟨ao3, cap3, he, hDD⟩ := made_doc HRS.out ho
          rw [HN.out] at he
          simp only [Value.slice.injEq, true_and] at he
          obtain ⟨rfl, rfl⟩ := he
          exact ⟨ao2, cap2, by rw [HN.out]; rfl, hDD⟩
end Go.Proofs.YtbhcklkbckacpaaGreatDoor
