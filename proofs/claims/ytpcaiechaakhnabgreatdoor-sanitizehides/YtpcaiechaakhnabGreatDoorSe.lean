/-
  Package sanitize, a page at work: a text is taken, byte by byte.
-/
import Derived.Test.YtpcaiechaakhnabGreatDoorSd
namespace Go.Proofs.YtpcaiechaakhnabGreatDoor
open Go.RowKit

set_option maxRecDepth 100000 in
set_option maxHeartbeats 6400000 in
theorem takeText_any (b : Nat) (s : Sn.S) (v : Value) (u : List UInt8) (w : World) (hW : Wk w b s v) (hn : s.d.length + u.length ≤ 900000) : Calls Tryz.prog 60 #[.pointer (some ⟨b, 0, none⟩), .string (B u)] w fun e w' => e = .returned (.tuple #[]) ∧ PutTo w b v w' (s.chars u) := by
  have z1 := B_size u
  have hcv := Lib.run_convert_string_bytes (P := Tryz.prog) w 9 22 5 (B u) Tryz.underlying9 Tryz.underlying22 Tryz.underlying5
  have hsb : SBuf w.heap.size w (Lib.bytesWorld w 5 (B u)) u := by have := SBuf.start w (B u); rw [B_data] at this; exact this
  generalize Lib.bytesWorld w 5 (B u) = w0 at *
  rw [z1] at hcv
  generalize grownCap w u.length 0 5 = cap at *
  have hlt : w.heap.size < w0.heap.size := by obtain ⟨cs, f, hg, _⟩ := hsb.blk; exact (Array.getElem?_eq_some_iff.1 hg).1
  have hnb : w.heap.size ∉ b :: ob v := fun hm => by
    rcases List.mem_cons.1 hm with h | h
    · have := hW.big; omega
    · have := own_lt hW.own _ (ob_mem h); omega
  have HC : Hid (∀ wr, Kept w0 wr (b :: ob v) → ∀ j (hj : j < u.length), wr.cell? ⟨w.heap.size, j, none⟩ = some (.int .u8 u[j].toNat)) := fun wr hk j hj => (World.cell?_of_block (w := w0) (hk.block w.heap.size hlt hnb)).trans (hsb.cell j hj)
  have HP0 : Hid (PutTo w0 b v w0 (s.chars (u.take 0))) := by
    have : s.chars (u.take 0) = s := chars_nil s
    rw [this]
    exact PutTo.refl (hW.under hsb.below)
  have HB0 : Hid (Below w.heap.size w w0) := hsb.below
  have HN : Hid (s.d.length + u.length ≤ 900000) := hn
  have hul : u.length ≤ 900000 := by omega
  clear hsb hnb hW hn
  obtain ⟨R, hR⟩ : ∃ R, s.chars u = R := ⟨_, rfl⟩
  have HR : Hid (s.chars u = R) := hR
  rw [hR]
  clear hR hlt
  go_enter Tryz.func60, Tryz.ntmps60
  go_wp2
  go_loopw [9] (fun i wr => ∃ k : Nat, k ≤ u.length ∧ i = .int .i64 k ∧ PutTo w0 b v wr (s.chars (u.take k))) (fun i _ => u.length - (intOf i).toNat)
  case atStart => exact ⟨0, Nat.zero_le _, rfl, HP0.out⟩
  case round =>
    obtain ⟨k, hk, rfl, ⟨v1, hW1, hv1⟩, hK1⟩ := hrel
    have H1 : Hid (Wk wr b (s.chars (u.take k)) v1) := hW1
    have HV : Hid (v1.ownBlock = v.ownBlock ∨ ∀ k, v1.ownBlock = some k → w0.heap.size ≤ k) := hv1
    have HK : Hid (Kept w0 wr (b :: ob v)) := hK1
    have c3 : wr.cell? ⟨b, 3, none⟩ = some (.string (B s.link)) := hW1.blk.cell 3
    clear hW1 hv1 hcv
    by_cases hkl : k < u.length
    · have hcell := HC.out wr hK1 k hkl
      have CP : Hid (∀ w', Wk w' b (s.chars (u.take k)) v1 → Calls Tryz.prog 34 #[.pointer (some ⟨b, 0, none⟩), .int .u8 (Sn.chr u[k]).toNat, .int .i64 (zmarks s), .string (B s.link)] w' fun e w2 => e = .returned (.tuple #[]) ∧ PutTo w' b v1 w2 (s.chars (u.take (k + 1)))) := fun w' h => by
        have := put_any b (s.chars (u.take k)) v1 (Sn.item s u[k]) w' h (by
          have := HN.out
          unfold Sn.S.chars
          simp only [List.length_append, List.length_map, List.length_take]
          omega)
        rw [chars_snoc s u k hkl] at this
        exact this
      have CC : Hid (∀ w, Calls Tryz.prog 89 #[.int .u8 u[k].toNat] w fun e w' => e = .returned (.int .u8 (Sn.chr u[k]).toNat) ∧ w' = w) := fun w => character_any u[k] w
      have CM : Hid (∀ w', Wk w' b (s.chars (u.take k)) v1 → Calls Tryz.prog 90 #[.pointer (some ⟨b, 0, none⟩)] w' fun e w2 => e = .returned (.int .i64 (zmarks s)) ∧ w2 = w') := fun w' h => marks_any b v1 (s.chars (u.take k)) w' h.blk
      clear hK1
      generalize Sn.chr u[k] = c' at *
      generalize u[k] = c at *
      generalize zmarks s = m at *
      generalize B s.link = lk at *
      go_wp2
      go_region_with (first | (go_at_call 89; refine (CC.out _).mono ?_; rintro e w3 ⟨rfl, rfl⟩) | (go_at_call 90; refine (CM.out _ (by first | exact H1.out | exact H1.out.under (Below.refl _ _).drew)).mono ?_; rintro e w3 ⟨rfl, rfl⟩) | (go_at_call 34; refine (CP.out _ (by first | exact H1.out | exact H1.out.under (Below.refl _ _).drew)).mono ?_; rintro e w3 ⟨rfl, hP⟩))
      all_goals
        have H2 : Hid (PutTo w0 b v w3 (s.chars (u.take (k + 1)))) := PutTo.next HV.out HK.out.drew hP
        clear hP
        go_wp2
        go_roundw
        case rel => exact ⟨k + 1, by omega, by go_num, H2.out⟩
        case measure => simp [intOf]; omega
    · obtain rfl : k = u.length := by omega
      have hend : s.chars (u.take u.length) = R := by rw [List.take_length]; exact HR.out
      rw [hend] at H1
      clear hend hK1
      go_wp2
      go_end0
      exact ⟨rfl, PutTo.pre HB0.out ⟨⟨v1, H1.out, HV.out⟩, HK.out⟩⟩
end Go.Proofs.YtpcaiechaakhnabGreatDoor
