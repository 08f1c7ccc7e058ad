/-
  Texts of this proof, one behind the other.
-/
import Derived.Test.YtpcaiechaakhnabGreatDoorM7
import Derived.Test.YtpcaiechaakhnabGreatDoorM5

/-
  Package sanitize, a page at work: a block is ended, broken; a text is taken.
-/
namespace Go.Proofs.YtpcaiechaakhnabGreatDoor
open Go.RowKit

theorem PutTo.next {w wr w2 : World} {b : Nat} {v v' : Value} {s : Sn.S} (hv : v'.ownBlock = v.ownBlock ∨ ∀ k, v'.ownBlock = some k → w.heap.size ≤ k) (hk : Kept w wr (b :: ob v)) (h2 : PutTo wr b v' w2 s) : PutTo w b v w2 s := by
  obtain ⟨⟨v2, hW, h3⟩, h4⟩ := h2
  refine ⟨⟨v2, hW, ?_⟩, hk.trans_new h4 (fun x hx => ?_)⟩
  · rcases h3 with h | h
    · rw [h]; exact hv
    · exact .inr fun k hk2 => Nat.le_trans hk.size (h k hk2)
  · rcases List.mem_cons.1 hx with rfl | hx
    · exact .inl (List.mem_cons_self ..)
    · rcases hv with h | h
      · exact .inl (List.mem_cons_of_mem _ (by unfold ob at hx ⊢; rw [← h]; exact hx))
      · exact .inr (h x (ob_mem hx))
theorem PutTo.pre {w w1 w2 : World} {b : Nat} {v : Value} {s : Sn.S} (hb : Below w.heap.size w w1) (h : PutTo w1 b v w2 s) : PutTo w b v w2 s :=
  PutTo.next (.inl rfl) (Kept.of hb _) h
theorem PutTo.refl {w : World} {b : Nat} {v : Value} {s : Sn.S} (h : Wk w b s v) : PutTo w b v w s := ⟨⟨v, h, .inl rfl⟩, Kept.refl _ _⟩
/-- Behind stores into its own block. -/
theorem PutTo.over {w w1 w2 : World} {b : Nat} {v v1 : Value} {s1 s2 : Sn.S} (hv : v1.ownBlock = v.ownBlock ∨ ∀ k, v1.ownBlock = some k → w.heap.size ≤ k) (hk : Kept w w1 (b :: ob v)) (hW : Wk w1 b s1 v1)
    (hB : Blk w2 b (zcells v1 s2) 58) (hk2 : Kept w1 w2 [b]) (hd : s2.d = s1.d) : PutTo w b v w2 s2 :=
  ⟨⟨v1, hW.over hB hk2 hd, hv⟩, hk.trans (hk2.mono fun x hx => by rw [List.mem_singleton.1 hx]; exact List.mem_cons_self ..)⟩
theorem kept_set2 (w : World) (b i j : Nat) (u v : Value) : Kept w ((w.setCell ⟨b, i, none⟩ u).setCell ⟨b, j, none⟩ v) [b] :=
  (kept_set w b i u [b] (List.mem_singleton.2 rfl)).trans (kept_set _ b j v [b] (List.mem_singleton.2 rfl))
theorem kept_set1 (w : World) (b i : Nat) (u : Value) : Kept w (w.setCell ⟨b, i, none⟩ u) [b] := kept_set w b i u [b] (List.mem_singleton.2 rfl)

theorem shut_put (s : Sn.S) (h : (s.opened || !Sn.whole s.d) = true) : Sn.shut s = { s with d := s.d ++ [Sn.endOf s.kind], opened := false, kind := 0 } := by
  unfold Sn.shut; rw [if_pos h]
theorem shut_no (s : Sn.S) (h : (s.opened || !Sn.whole s.d) = false) : Sn.shut s = { s with opened := false, kind := 0 } := by
  unfold Sn.shut; rw [h, if_neg Bool.false_ne_true]

theorem B_nil : B [] = ⟨#[]⟩ := rfl

set_option maxRecDepth 100000 in
set_option maxHeartbeats 1600000 in
theorem endBlock_any (b : Nat) (s : Sn.S) (v : Value) (w : World) (hW : Wk w b s v) (hn : s.d.length ≤ 1000000) : Calls Tryz.prog 33 #[.pointer (some ⟨b, 0, none⟩)] w fun e w' => e = .returned (.tuple #[]) ∧ PutTo w b v w' (Sn.shut s) := by
  have HW : Hid (Wk w b s v) := hW
  have c5 : w.cell? ⟨b, 5, none⟩ = some (.bool s.opened) := hW.blk.cell 5
  have c4 : w.cell? ⟨b, 4, none⟩ = some (.int .i64 s.kind) := hW.blk.cell 4
  have f5 := hW.blk.frozen 5
  have f4 := hW.blk.frozen 4
  have CB : Hid (∀ w', Wk w' b s v → Calls Tryz.prog 63 #[.pointer (some ⟨b, 0, none⟩)] w' fun e w2 => e = .returned (.bool (!Sn.whole s.d)) ∧ w2 = w') := fun w' h => behind_any b s v w' h
  have CP : Hid (∀ w', Wk w' b s v → Calls Tryz.prog 34 #[.pointer (some ⟨b, 0, none⟩), .int .u8 10, .int .i64 s.kind, .string ⟨#[]⟩] w' fun e w2 => e = .returned (.tuple #[]) ∧ PutTo w' b v w2 (s.plus (Sn.endOf s.kind))) := fun w' h => put_any b s v (Sn.endOf s.kind) w' h hn
  clear hW hn
  cases ho : s.opened
  · cases hz : Sn.whole s.d
    · have hs := shut_put s (by rw [ho, hz]; rfl)
      have HS : Hid (Sn.shut s = { s with d := s.d ++ [Sn.endOf s.kind], opened := false, kind := 0 }) := hs
      rw [ho] at c5
      rw [hz] at CB
      clear ho hz hs
      go_enter Tryz.func33, Tryz.ntmps33
      go_wp2_with fail
      refine (CB.out _ HW.out).mono ?_
      rintro e w1 ⟨rfl, rfl⟩
      go_wp2_with fail
      refine (CP.out _ HW.out).mono ?_
      rintro e w2 ⟨rfl, ⟨v1, hW1, hv1⟩, hK1⟩
      have H1 : Hid (Wk w2 b (s.plus (Sn.endOf s.kind)) v1) := hW1
      have HV : Hid (v1.ownBlock = v.ownBlock ∨ ∀ k, v1.ownBlock = some k → w1.heap.size ≤ k) := hv1
      have HK : Hid (Kept w1 w2 (b :: ob v)) := hK1
      have d5 : w2.cell? ⟨b, 5, none⟩ = some (.bool s.opened) := hW1.blk.cell 5
      have d4 : w2.cell? ⟨b, 4, none⟩ = some (.int .i64 s.kind) := hW1.blk.cell 4
      have g5 := hW1.blk.frozen 5
      have g4 := hW1.blk.frozen 4
      clear hW1 hv1 hK1 c5 c4 f5 f4
      go_wp2
      go_end0
      refine ⟨rfl, ?_⟩
      rw [HS.out]
      exact PutTo.over HV.out HK.out H1.out ((H1.out.blk.set 5 _).set 4 _) (kept_set2 ..) rfl
    · have hs := shut_no s (by rw [ho, hz]; rfl)
      have HS : Hid (Sn.shut s = { s with opened := false, kind := 0 }) := hs
      rw [ho] at c5
      rw [hz] at CB
      clear ho hz hs
      go_enter Tryz.func33, Tryz.ntmps33
      go_wp2_with fail
      refine (CB.out _ HW.out).mono ?_
      rintro e w1 ⟨rfl, rfl⟩
      go_wp2
      go_end0
      refine ⟨rfl, ?_⟩
      rw [HS.out]
      exact PutTo.over (.inl rfl) (Kept.refl _ _) HW.out ((HW.out.blk.set 5 _).set 4 _) (kept_set2 ..) rfl
  · have hs := shut_put s (by rw [ho]; rfl)
    have HS : Hid (Sn.shut s = { s with d := s.d ++ [Sn.endOf s.kind], opened := false, kind := 0 }) := hs
    rw [ho] at c5
    clear ho hs
    go_enter Tryz.func33, Tryz.ntmps33
    go_wp2_with fail
    refine (CP.out _ HW.out).mono ?_
    rintro e w2 ⟨rfl, ⟨v1, hW1, hv1⟩, hK1⟩
    have H1 : Hid (Wk w2 b (s.plus (Sn.endOf s.kind)) v1) := hW1
    have HV : Hid (v1.ownBlock = v.ownBlock ∨ ∀ k, v1.ownBlock = some k → w.heap.size ≤ k) := hv1
    have HK : Hid (Kept w w2 (b :: ob v)) := hK1
    have d5 : w2.cell? ⟨b, 5, none⟩ = some (.bool s.opened) := hW1.blk.cell 5
    have d4 : w2.cell? ⟨b, 4, none⟩ = some (.int .i64 s.kind) := hW1.blk.cell 4
    have g5 := hW1.blk.frozen 5
    have g4 := hW1.blk.frozen 4
    clear hW1 hv1 hK1 c5 c4 f5 f4
    go_wp2
    go_end0
    refine ⟨rfl, ?_⟩
    rw [HS.out]
    exact PutTo.over HV.out HK.out H1.out ((H1.out.blk.set 5 _).set 4 _) (kept_set2 ..) rfl

set_option maxRecDepth 100000 in
set_option maxHeartbeats 1600000 in
theorem break_any (b : Nat) (s : Sn.S) (v : Value) (w : World) (hW : Wk w b s v) (hn : s.d.length ≤ 1000000) : Calls Tryz.prog 94 #[.pointer (some ⟨b, 0, none⟩)] w fun e w' => e = .returned (.tuple #[]) ∧ PutTo w b v w' { Sn.shut { s with opened := true } with kind := s.kind } := by
  have HW : Hid (Wk w b s v) := hW
  have c5 : w.cell? ⟨b, 5, none⟩ = some (.bool s.opened) := hW.blk.cell 5
  have c4 : w.cell? ⟨b, 4, none⟩ = some (.int .i64 s.kind) := hW.blk.cell 4
  have f5 := hW.blk.frozen 5
  have f4 := hW.blk.frozen 4
  have HN : Hid (s.d.length ≤ 1000000) := hn
  have W1 : Hid (Wk (w.setCell ⟨b, 5, none⟩ (.bool true)) b { s with opened := true } v) := hW.over (hW.blk.set 5 _) (kept_set1 ..) rfl
  clear hW hn
  go_enter Tryz.func94, Tryz.ntmps94
  go_wp2_with fail
  refine (endBlock_any b { s with opened := true } v _ W1.out HN.out).mono ?_
  rintro e w2 ⟨rfl, ⟨v1, hW1, hv1⟩, hK1⟩
  have H1 : Hid (Wk w2 b (Sn.shut { s with opened := true }) v1) := hW1
  have HV : Hid (v1.ownBlock = v.ownBlock ∨ ∀ k, v1.ownBlock = some k → (w.setCell ⟨b, 5, none⟩ (.bool true)).heap.size ≤ k) := hv1
  have HK : Hid (Kept (w.setCell ⟨b, 5, none⟩ (.bool true)) w2 (b :: ob v)) := hK1
  have d4 : w2.cell? ⟨b, 4, none⟩ = some (.int .i64 (Sn.shut { s with opened := true }).kind) := hW1.blk.cell 4
  have g4 := hW1.blk.frozen 4
  clear hW1 hv1 hK1 c5 c4 f5 f4
  go_wp2
  go_end0
  refine ⟨rfl, ?_⟩
  have k1 : Kept w (w.setCell ⟨b, 5, none⟩ (.bool true)) (b :: ob v) := kept_set _ _ _ _ _ (List.mem_cons_self ..)
  refine PutTo.over ?_ (k1.trans HK.out) H1.out (H1.out.blk.set 4 _) (kept_set1 ..) rfl
  rcases HV.out with h | h
  · exact .inl h
  · exact .inr fun k hk => Nat.le_trans k1.size (h k hk)

/-- A page with the items of a text more. -/
def Sn.S.chars (s : Sn.S) (u : List UInt8) : Sn.S := { s with d := s.d ++ u.map (Sn.item s) }
theorem chars_nil (s : Sn.S) : s.chars [] = s := by unfold Sn.S.chars; simp
theorem chars_snoc (s : Sn.S) (u : List UInt8) (k : Nat) (h : k < u.length) : (s.chars (u.take k)).plus (Sn.item s u[k]) = s.chars (u.take (k + 1)) := by
  unfold Sn.S.chars Sn.S.plus
  simp only
  rw [List.take_succ_eq_append_getElem h, List.map_append, List.append_assoc]
  rfl
theorem item_eq (s : Sn.S) (u : List UInt8) (c : UInt8) : Sn.item s c = ⟨Sn.chr c, zmarks (s.chars u), B s.link⟩ := rfl
theorem own_lt {w : World} {base : Nat} {e : TypeId} {size : Nat} {v : Value} {n : Nat} {xs : List Value} (h : w.ownsRow base e size v n xs) : ∀ k, v.ownBlock = some k → k < w.heap.size := by
  intro k hk
  rcases h.2 with ⟨rfl, _⟩ | ⟨g, cap, cur, rfl, hg, hh, _⟩
  · cases hk
  · simp [Value.ownBlock] at hk
    subst hk
    exact (Array.getElem?_eq_some_iff.1 hh).1
end Go.Proofs.YtpcaiechaakhnabGreatDoor

/-
  Package sanitize, a page at work: a text is taken, byte by byte.
-/
namespace Go.Proofs.YtpcaiechaakhnabGreatDoor
open Go.RowKit

set_option maxRecDepth 100000 in
set_option maxHeartbeats 6400000 in
theorem takeText_any (b : Nat) (s : Sn.S) (v : Value) (u : List UInt8) (w : World) (hW : Wk w b s v) (hn : s.d.length + u.length ≤ 900000) : Calls Tryz.prog 60 #[.pointer (some ⟨b, 0, none⟩), .string (B u)] w fun e w' => e = .returned (.tuple #[]) ∧ PutTo w b v w' (s.chars u) := by
  have z1 := B_size u
  have hcv := Lib.run_convert_string_bytes (P := Tryz.prog) w 9 22 5 (B u) Tryz.underlying9 Tryz.underlying22 Tryz.underlying5
  have hsb : SBuf w.heap.size w (Lib.bytesWorld w 5 (B u)) u := by have := SBuf.start w (B u); rw [B_data] at this; exact this
  generalize Lib.bytesWorld w 5 (B u) = w0 at *
  rw [z1] at hcv
  generalize grownCap w u.length 0 5 = cap at *
  have hlt : w.heap.size < w0.heap.size := by obtain ⟨cs, f, hg, _⟩ := hsb.blk; exact (Array.getElem?_eq_some_iff.1 hg).1
  have hnb : w.heap.size ∉ b :: ob v := fun hm => by
    rcases List.mem_cons.1 hm with h | h
    · have := hW.big; omega
    · have := own_lt hW.own _ (ob_mem h); omega
  have HC : Hid (∀ wr, Kept w0 wr (b :: ob v) → ∀ j (hj : j < u.length), wr.cell? ⟨w.heap.size, j, none⟩ = some (.int .u8 u[j].toNat)) := fun wr hk j hj => (World.cell?_of_block (w := w0) (hk.block w.heap.size hlt hnb)).trans (hsb.cell j hj)
  have HP0 : Hid (PutTo w0 b v w0 (s.chars (u.take 0))) := by
    have : s.chars (u.take 0) = s := chars_nil s
    rw [this]
    exact PutTo.refl (hW.under hsb.below)
  have HB0 : Hid (Below w.heap.size w w0) := hsb.below
  have HN : Hid (s.d.length + u.length ≤ 900000) := hn
  have hul : u.length ≤ 900000 := by omega
  clear hsb hnb hW hn
  obtain ⟨R, hR⟩ : ∃ R, s.chars u = R := ⟨_, rfl⟩
  have HR : Hid (s.chars u = R) := hR
  rw [hR]
  clear hR hlt
  go_enter Tryz.func60, Tryz.ntmps60
  go_wp2
  go_loopw [9] (fun i wr => ∃ k : Nat, k ≤ u.length ∧ i = .int .i64 k ∧ PutTo w0 b v wr (s.chars (u.take k))) (fun i _ => u.length - (intOf i).toNat)
  case atStart => exact ⟨0, Nat.zero_le _, rfl, HP0.out⟩
  case round =>
    obtain ⟨k, hk, rfl, ⟨v1, hW1, hv1⟩, hK1⟩ := hrel
    have H1 : Hid (Wk wr b (s.chars (u.take k)) v1) := hW1
    have HV : Hid (v1.ownBlock = v.ownBlock ∨ ∀ k, v1.ownBlock = some k → w0.heap.size ≤ k) := hv1
    have HK : Hid (Kept w0 wr (b :: ob v)) := hK1
    have c3 : wr.cell? ⟨b, 3, none⟩ = some (.string (B s.link)) := hW1.blk.cell 3
    clear hW1 hv1 hcv
    by_cases hkl : k < u.length
    · have hcell := HC.out wr hK1 k hkl
      have CP : Hid (∀ w', Wk w' b (s.chars (u.take k)) v1 → Calls Tryz.prog 34 #[.pointer (some ⟨b, 0, none⟩), .int .u8 (Sn.chr u[k]).toNat, .int .i64 (zmarks s), .string (B s.link)] w' fun e w2 => e = .returned (.tuple #[]) ∧ PutTo w' b v1 w2 (s.chars (u.take (k + 1)))) := fun w' h => by
        have := put_any b (s.chars (u.take k)) v1 (Sn.item s u[k]) w' h (by
          have := HN.out
          unfold Sn.S.chars
          simp only [List.length_append, List.length_map, List.length_take]
          omega)
        rw [chars_snoc s u k hkl] at this
        exact this
      have CC : Hid (∀ w, Calls Tryz.prog 89 #[.int .u8 u[k].toNat] w fun e w' => e = .returned (.int .u8 (Sn.chr u[k]).toNat) ∧ w' = w) := fun w => character_any u[k] w
      have CM : Hid (∀ w', Wk w' b (s.chars (u.take k)) v1 → Calls Tryz.prog 90 #[.pointer (some ⟨b, 0, none⟩)] w' fun e w2 => e = .returned (.int .i64 (zmarks s)) ∧ w2 = w') := fun w' h => marks_any b v1 (s.chars (u.take k)) w' h.blk
      clear hK1
      generalize Sn.chr u[k] = c' at *
      generalize u[k] = c at *
      generalize zmarks s = m at *
      generalize B s.link = lk at *
      go_wp2
      go_region_with (first | (go_at_call 89; refine (CC.out _).mono ?_; rintro e w3 ⟨rfl, rfl⟩) | (go_at_call 90; refine (CM.out _ (by first | exact H1.out | exact H1.out.under (Below.refl _ _).drew)).mono ?_; rintro e w3 ⟨rfl, rfl⟩) | (go_at_call 34; refine (CP.out _ (by first | exact H1.out | exact H1.out.under (Below.refl _ _).drew)).mono ?_; rintro e w3 ⟨rfl, hP⟩))
      all_goals
        have H2 : Hid (PutTo w0 b v w3 (s.chars (u.take (k + 1)))) := PutTo.next HV.out HK.out.drew hP
        clear hP
        go_wp2
        go_roundw
        case rel => exact ⟨k + 1, by omega, by go_num, H2.out⟩
        case measure => simp [intOf]; omega
    · obtain rfl : k = u.length := by omega
      have hend : s.chars (u.take u.length) = R := by rw [List.take_length]; exact HR.out
      rw [hend] at H1
      clear hend hK1
      go_wp2
      go_end0
      exact ⟨rfl, PutTo.pre HB0.out ⟨⟨v1, H1.out, HV.out⟩, HK.out⟩⟩
end Go.Proofs.YtpcaiechaakhnabGreatDoor

/-
  What holds of each token that a page is taken apart into: its kind is one of four, what it bears is no longer than the page.
-/
namespace Go.Proofs.YtpcaiechaakhnabGreatDoor
open Go.RowKit
namespace Tk
/-- A token that a page of n bytes may hold. -/
structure Fits (n : Nat) (t : Tk) : Prop where
  kind : t.kind = 1 ∨ t.kind = 2 ∨ t.kind = 3 ∨ t.kind = 4
  text : t.text.length ≤ n
  href : t.href.length ≤ n
theorem Fits.mono {n m : Nat} {t : Tk} (h : Fits n t) (hm : n ≤ m) : Fits m t := ⟨h.kind, Nat.le_trans h.text hm, Nat.le_trans h.href hm⟩
theorem tw_le (p : UInt8 → Bool) (l : List UInt8) : (l.takeWhile p).length ≤ l.length := (List.takeWhile_sublist p).length_le
theorem val_fst (l : List UInt8) : (val l).1.length ≤ l.length := by
  cases l with
  | nil => exact Nat.le_refl _
  | cons q r =>
    rw [val]
    split
    · have := tw_le (not q) r
      simp only [List.length_cons]
      omega
    · exact tw_le avl (q :: r)
theorem value_fst (l : List UInt8) : (value l).1.length ≤ l.length := by
  unfold value
  have h0 := dw_len sp l
  cases h : l.dropWhile sp with
  | nil => exact Nat.zero_le _
  | cons c r2 =>
    rw [h] at h0
    simp only
    split
    · have h1 := val_fst (r2.dropWhile sp)
      have h2 := dw_len sp r2
      simp at h0
      omega
    · exact Nat.zero_le _
theorem attr_fst : ∀ (n : Nat) (l : List UInt8) (h : Option (List UInt8)) (x : Option (List UInt8) × List UInt8) (m : Nat), l.length ≤ n → attr l h = some x → l.length ≤ m → (h.getD []).length ≤ m → (x.1.getD []).length ≤ m
  | _, [], _, _, _, _, e, _, _ => by rw [attr_nil] at e; cases e
  | 0, _ :: _, _, _, _, hn, _, _, _ => by simp at hn
  | n + 1, c :: t, h, x, m, hn, e, hm, hh => by
    have h3 := value_len (t.dropWhile anm)
    have h4 := dw_len anm t
    have h5 := value_fst (t.dropWhile anm)
    simp only [List.length_cons] at hn hm
    rw [attr_cons] at e
    split at e
    · cases e; exact hh
    split at e
    · exact attr_fst n t h x m (by omega) e (by omega) hh
    · refine attr_fst n _ _ x m (by omega) e (by omega) ?_
      split
      · show (value (t.dropWhile anm)).1.length ≤ m
        omega
      · exact hh
theorem tag_fits (s : Bool) (u : List UInt8) (hr : ∀ l : List UInt8, (Esc.rd l).length ≤ l.length) : ∀ t ∈ (tag s u).1, Fits u.length t := by
  unfold tag
  have h0 := dw_len nam u
  cases h : attr (u.dropWhile nam) none with
  | none => intro t ht; cases ht
  | some x =>
    have h1 := attr_fst _ _ _ x u.length (Nat.le_refl _) h h0 (Nat.zero_le _)
    obtain ⟨a, r⟩ := x
    intro t ht
    simp only [List.mem_singleton] at ht
    subst ht
    refine ⟨?_, Nat.zero_le _, ?_⟩
    · cases s
      · exact .inr (.inl rfl)
      · exact .inr (.inr (.inl rfl))
    · cases s
      · exact Nat.le_trans (hr _) h1
      · exact Nat.zero_le _
theorem fits_lt {n : Nat} (h : 1 ≤ n) : Fits n (txt [60]) := ⟨.inl rfl, h, Nat.zero_le _⟩
theorem fits_oth (n : Nat) : Fits n oth := ⟨.inr (.inr (.inr rfl)), Nat.zero_le _, Nat.zero_le _⟩
theorem mem_one {x y : Tk} {r : List UInt8} (h : x ∈ (([y], r) : List Tk × List UInt8).1) : x = y := List.mem_singleton.1 h
theorem first_fits (c : UInt8) (t : List UInt8) (hr : ∀ l : List UInt8, (Esc.rd l).length ≤ l.length) : ∀ k ∈ (first c t).1, Fits (t.length + 1) k := by
  unfold first
  split
  · cases t with
    | nil => intro k hk; rw [angle_nil] at hk; rw [mem_one hk]; exact fits_lt (Nat.le_refl _)
    | cons d u =>
      rw [angle_cons]
      split
      · intro k hk; rw [mem_one hk]; exact fits_oth _
      split
      · intro k hk; rw [mem_one hk]; exact fits_oth _
      split
      · cases u with
        | nil => intro k hk; rw [mem_one hk]; exact fits_lt (by simp)
        | cons e v =>
          rw [shutAt]
          split
          · intro k hk; exact (tag_fits true (e :: v) hr k hk).mono (by simp)
          · intro k hk; rw [mem_one hk]; exact fits_lt (by simp)
      split
      · intro k hk; exact (tag_fits false (d :: u) hr k hk).mono (by simp)
      · intro k hk; rw [mem_one hk]; exact fits_lt (by simp)
  · intro k hk
    rw [mem_one hk]
    refine ⟨.inl rfl, ?_, Nat.zero_le _⟩
    have h1 := hr (c :: t.takeWhile (not 60))
    have h2 := tw_le (not 60) t
    simp only [List.length_cons] at h1
    show (Esc.rd (c :: t.takeWhile (not 60))).length ≤ _
    omega
theorem toks_fits (hr : ∀ l : List UInt8, (Esc.rd l).length ≤ l.length) : ∀ (n : Nat) (l : List UInt8), l.length ≤ n → ∀ t ∈ toks l, Fits n t
  | _, [], _, t, ht => by rw [toks_nil] at ht; cases ht
  | 0, _ :: _, h, _, _ => by simp at h
  | n + 1, c :: u, h, t, ht => by
    have hl := first_len c u
    simp only [List.length_cons] at h
    rw [toks_cons] at ht
    rcases List.mem_append.1 ht with h1 | h1
    · exact (first_fits c u hr t h1).mono (by omega)
    · exact (toks_fits hr n _ (by omega) t h1).mono (by omega)
theorem first_le1 (c : UInt8) (t : List UInt8) : (first c t).1.length ≤ 1 := by
  unfold first
  split
  · cases t with
    | nil => exact Nat.le_refl _
    | cons d u =>
      have ht : ∀ s v, (tag s v).1.length ≤ 1 := fun s v => by
        unfold tag
        split <;> simp
      rw [angle_cons]
      split
      · exact Nat.le_refl _
      split
      · exact Nat.le_refl _
      split
      · cases u with
        | nil => exact Nat.le_refl _
        | cons e v =>
          rw [shutAt]
          split
          · exact ht _ _
          · exact Nat.le_refl _
      split
      · exact ht _ _
      · exact Nat.le_refl _
  · exact Nat.le_refl _
theorem toks_count : ∀ (n : Nat) (l : List UInt8), l.length ≤ n → (toks l).length ≤ l.length
  | _, [], _ => Nat.le_refl _
  | 0, _ :: _, h => by simp at h
  | n + 1, c :: u, h => by
    have hl := first_len c u
    have h1 := first_le1 c u
    simp only [List.length_cons] at h ⊢
    rw [toks_cons, List.length_append]
    have := toks_count n (first c u).2 (by omega)
    omega
end Tk
end Go.Proofs.YtpcaiechaakhnabGreatDoor

/-
  Package sanitize, a page at work: a tag is taken, a token is taken.
-/
namespace Go.Proofs.YtpcaiechaakhnabGreatDoor
open Go.RowKit

/-- What is laid, as sanitize reads it. -/
structure Zt (w : World) (b : Nat) : Prop where
  bn : Bn w
  hn : Hn w
  sch : Sch w
  b1 : 5 < b
  b2 : 6 < b
  b3 : 8 < b
theorem Zt.below {w w' : World} {b : Nat} (h : Zt w b) (hb : Below b w w') : Zt w' b :=
  ⟨h.bn.below hb h.b1, h.hn.below hb h.b2, (by obtain ⟨t, fr, hg⟩ := h.sch; exact ⟨t, fr, (hb.block 8 h.b3).trans hg⟩), h.b1, h.b2, h.b3⟩
theorem Zt.under {w w' : World} {b : Nat} (h : Zt w b) (hb : Below w.heap.size w w') (hl : b ≤ w.heap.size) : Zt w' b := h.below (hb.mono hl)
/-- How deep marks are, and how much is made, within bounds. -/
structure Lim (n : Nat) (s : Sn.S) : Prop where
  b0 : 0 ≤ s.bold
  b1 : s.bold ≤ n
  s0 : 0 ≤ s.slant
  s1 : s.slant ≤ n
theorem up_pos {x : Int} (h : 0 ≤ x) : Sn.up x = x := by unfold Sn.up; rw [if_neg (by omega)]

set_option maxRecDepth 100000 in
set_option maxHeartbeats 3200000 in
theorem open_block (b : Nat) (s : Sn.S) (v : Value) (kk : Int) (kn kt kh : List UInt8) (w : World) (hW : Wk w b s v) (hZ : Zt w b) (hn : s.d.length ≤ 900000) (k : Int) (hbk : Sn.blockOf kn = some k) : Calls Tryz.prog 61 #[.pointer (some ⟨b, 0, none⟩), .agg #[.int .i64 kk, .string (B kn), .string (B kt), .string (B kh)]] w fun e w' => e = .returned (.tuple #[]) ∧ PutTo w b v w' { Sn.shut s with opened := true, kind := k } := by
  have hb1 : Below w.heap.size w (w.alloc (.cells #[.int .i64 kk, .string (B kn), .string (B kt), .string (B kh)] 30)) := (Below.refl _ _).alloc (Nat.le_refl _) _
  have W1 : Hid (Wk (w.alloc (.cells #[.int .i64 kk, .string (B kn), .string (B kt), .string (B kh)] 30)) b s v) := hW.under hb1
  have Z1 : Hid (Zt (w.alloc (.cells #[.int .i64 kk, .string (B kn), .string (B kt), .string (B kh)] 30)) b) := hZ.under hb1 (Nat.le_of_lt hW.big)
  have HB1 : Hid (Below w.heap.size w (w.alloc (.cells #[.int .i64 kk, .string (B kn), .string (B kt), .string (B kh)] 30))) := hb1
  have hbl := hW.big
  have B1 : Hid (Blk (w.alloc (.cells #[.int .i64 kk, .string (B kn), .string (B kt), .string (B kh)] 30)) w.heap.size [.int .i64 kk, .string (B kn), .string (B kt), .string (B kh)] 30) := Blk.new w [.int .i64 kk, .string (B kn), .string (B kt), .string (B kh)] 30
  have CK : Hid (∀ w', Bn w' → Calls Tryz.prog 91 #[.string (B kn)] w' fun e w2 => e = .returned (.tuple #[.int .i64 k, .bool true]) ∧ Below w'.heap.size w' w2) := fun w' h => by have := kindOf_any kn w' h; rw [hbk] at this; exact this
  have CD : Hid (∀ w', Calls Tryz.prog 92 #[.pointer (some ⟨b, 0, none⟩), .string (B kn)] w' fun e w2 => e = .returned (.pointer (dp b kn)) ∧ w2 = w') := fun w' => by have := deep_any b kn w'; exact this
  clear hW hZ hb1 hbk
  go_enter Tryz.func61, Tryz.ntmps61
  go_wp2_with fail
  refine (CK.out _ Z1.out.bn).mono ?_
  rintro e w2 ⟨rfl, hb2⟩
  have W2 : Hid (Wk w2 b s v) := W1.out.under hb2
  have Z2 : Hid (Zt w2 b) := Z1.out.under hb2 (Nat.le_of_lt W1.out.big)
  have HB2 : Hid (Below w.heap.size w w2) := HB1.out.trans (hb2.mono HB1.out.size)
  have B2 : Hid (Blk w2 w.heap.size [.int .i64 kk, .string (B kn), .string (B kt), .string (B kh)] 30) := (hb2.block _ B1.out.lt).trans B1.out
  have tn : w2.cell? ⟨w.heap.size, 1, none⟩ = some (.string (B kn)) := B2.out.cell 1
  have th : w2.cell? ⟨w.heap.size, 3, none⟩ = some (.string (B kh)) := B2.out.cell 3
  clear hb2 W1 Z1 HB1 B1 CK
  go_wp2_with fail
  refine (CD.out _).mono ?_
  rintro e w3 ⟨rfl, rfl⟩
  clear tn th
  generalize dp b kn = dd at *
  go_wp2_with fail
  refine (endBlock_any b s v _ W2.out (by omega)).mono ?_
  rintro e w4 ⟨rfl, ⟨v1, hW1, hv1⟩, hK1⟩
  have H1 : Hid (Wk w4 b (Sn.shut s) v1) := hW1
  have HV : Hid (v1.ownBlock = v.ownBlock ∨ ∀ k, v1.ownBlock = some k → w3.heap.size ≤ k) := hv1
  have HK : Hid (Kept w3 w4 (b :: ob v)) := hK1
  have d5 : w4.cell? ⟨b, 5, none⟩ = some (.bool (Sn.shut s).opened) := hW1.blk.cell 5
  have d4 : w4.cell? ⟨b, 4, none⟩ = some (.int .i64 (Sn.shut s).kind) := hW1.blk.cell 4
  have g5 := hW1.blk.frozen 5
  have g4 := hW1.blk.frozen 4
  clear hW1 hv1 hK1
  go_wp2
  go_end0
  exact ⟨rfl, PutTo.pre HB2.out (PutTo.over HV.out HK.out H1.out ((H1.out.blk.set 5 _).set 4 _) (kept_set2 ..) rfl)⟩

set_option maxRecDepth 100000 in
set_option maxHeartbeats 3200000 in
theorem open_bold (b : Nat) (s : Sn.S) (v : Value) (kk : Int) (kn kt kh : List UInt8) (w : World) (hW : Wk w b s v) (hZ : Zt w b) (_hn : s.d.length ≤ 900000) (h0 : 0 ≤ s.bold) (h1 : s.bold ≤ 1000000) (hbk : Sn.blockOf kn = none) (hdp : dp b kn = some ⟨b, 1, none⟩) : Calls Tryz.prog 61 #[.pointer (some ⟨b, 0, none⟩), .agg #[.int .i64 kk, .string (B kn), .string (B kt), .string (B kh)]] w fun e w' => e = .returned (.tuple #[]) ∧ PutTo w b v w' { s with bold := s.bold + 1 } := by
  have hb1 : Below w.heap.size w (w.alloc (.cells #[.int .i64 kk, .string (B kn), .string (B kt), .string (B kh)] 30)) := (Below.refl _ _).alloc (Nat.le_refl _) _
  have W1 : Hid (Wk (w.alloc (.cells #[.int .i64 kk, .string (B kn), .string (B kt), .string (B kh)] 30)) b s v) := hW.under hb1
  have Z1 : Hid (Zt (w.alloc (.cells #[.int .i64 kk, .string (B kn), .string (B kt), .string (B kh)] 30)) b) := hZ.under hb1 (Nat.le_of_lt hW.big)
  have HB1 : Hid (Below w.heap.size w (w.alloc (.cells #[.int .i64 kk, .string (B kn), .string (B kt), .string (B kh)] 30))) := hb1
  have hbl := hW.big
  have B1 : Hid (Blk (w.alloc (.cells #[.int .i64 kk, .string (B kn), .string (B kt), .string (B kh)] 30)) w.heap.size [.int .i64 kk, .string (B kn), .string (B kt), .string (B kh)] 30) := Blk.new w [.int .i64 kk, .string (B kn), .string (B kt), .string (B kh)] 30
  have CK : Hid (∀ w', Bn w' → Calls Tryz.prog 91 #[.string (B kn)] w' fun e w2 => e = .returned (.tuple #[.int .i64 0, .bool false]) ∧ Below w'.heap.size w' w2) := fun w' h => by have := kindOf_any kn w' h; rw [hbk] at this; exact this
  have CD : Hid (∀ w', Calls Tryz.prog 92 #[.pointer (some ⟨b, 0, none⟩), .string (B kn)] w' fun e w2 => e = .returned (.pointer (some ⟨b, 1, none⟩)) ∧ w2 = w') := fun w' => by have := deep_any b kn w'; rw [hdp] at this; exact this
  clear hW hZ hb1 hbk hdp
  go_enter Tryz.func61, Tryz.ntmps61
  go_wp2_with fail
  refine (CK.out _ Z1.out.bn).mono ?_
  rintro e w2 ⟨rfl, hb2⟩
  have W2 : Hid (Wk w2 b s v) := W1.out.under hb2
  have Z2 : Hid (Zt w2 b) := Z1.out.under hb2 (Nat.le_of_lt W1.out.big)
  have HB2 : Hid (Below w.heap.size w w2) := HB1.out.trans (hb2.mono HB1.out.size)
  have B2 : Hid (Blk w2 w.heap.size [.int .i64 kk, .string (B kn), .string (B kt), .string (B kh)] 30) := (hb2.block _ B1.out.lt).trans B1.out
  have tn : w2.cell? ⟨w.heap.size, 1, none⟩ = some (.string (B kn)) := B2.out.cell 1
  have th : w2.cell? ⟨w.heap.size, 3, none⟩ = some (.string (B kh)) := B2.out.cell 3
  clear hb2 W1 Z1 HB1 B1 CK
  go_wp2_with fail
  refine (CD.out _).mono ?_
  rintro e w3 ⟨rfl, rfl⟩
  clear tn th
  have c1 : w3.cell? ⟨b, 1, none⟩ = some (.int .i64 s.bold) := W2.out.blk.cell 1
  have f1 := W2.out.blk.frozen 1
  obtain ⟨x, hx⟩ : ∃ x, s.bold = x := ⟨_, rfl⟩
  have HX : Hid (s.bold = x) := hx
  rw [hx] at c1 h0 h1
  clear hx
  go_wp2
  go_end0
  refine ⟨rfl, PutTo.pre HB2.out (PutTo.over (.inl rfl) (Kept.refl _ _) W2.out ?_ (kept_set1 ..) rfl)⟩
  rw [← HX.out]
  exact W2.out.blk.set 1 _

set_option maxRecDepth 100000 in
set_option maxHeartbeats 3200000 in
theorem open_slant (b : Nat) (s : Sn.S) (v : Value) (kk : Int) (kn kt kh : List UInt8) (w : World) (hW : Wk w b s v) (hZ : Zt w b) (_hn : s.d.length ≤ 900000) (h0 : 0 ≤ s.slant) (h1 : s.slant ≤ 1000000) (hbk : Sn.blockOf kn = none) (hdp : dp b kn = some ⟨b, 2, none⟩) : Calls Tryz.prog 61 #[.pointer (some ⟨b, 0, none⟩), .agg #[.int .i64 kk, .string (B kn), .string (B kt), .string (B kh)]] w fun e w' => e = .returned (.tuple #[]) ∧ PutTo w b v w' { s with slant := s.slant + 1 } := by
  have hb1 : Below w.heap.size w (w.alloc (.cells #[.int .i64 kk, .string (B kn), .string (B kt), .string (B kh)] 30)) := (Below.refl _ _).alloc (Nat.le_refl _) _
  have W1 : Hid (Wk (w.alloc (.cells #[.int .i64 kk, .string (B kn), .string (B kt), .string (B kh)] 30)) b s v) := hW.under hb1
  have Z1 : Hid (Zt (w.alloc (.cells #[.int .i64 kk, .string (B kn), .string (B kt), .string (B kh)] 30)) b) := hZ.under hb1 (Nat.le_of_lt hW.big)
  have HB1 : Hid (Below w.heap.size w (w.alloc (.cells #[.int .i64 kk, .string (B kn), .string (B kt), .string (B kh)] 30))) := hb1
  have hbl := hW.big
  have B1 : Hid (Blk (w.alloc (.cells #[.int .i64 kk, .string (B kn), .string (B kt), .string (B kh)] 30)) w.heap.size [.int .i64 kk, .string (B kn), .string (B kt), .string (B kh)] 30) := Blk.new w [.int .i64 kk, .string (B kn), .string (B kt), .string (B kh)] 30
  have CK : Hid (∀ w', Bn w' → Calls Tryz.prog 91 #[.string (B kn)] w' fun e w2 => e = .returned (.tuple #[.int .i64 0, .bool false]) ∧ Below w'.heap.size w' w2) := fun w' h => by have := kindOf_any kn w' h; rw [hbk] at this; exact this
  have CD : Hid (∀ w', Calls Tryz.prog 92 #[.pointer (some ⟨b, 0, none⟩), .string (B kn)] w' fun e w2 => e = .returned (.pointer (some ⟨b, 2, none⟩)) ∧ w2 = w') := fun w' => by have := deep_any b kn w'; rw [hdp] at this; exact this
  clear hW hZ hb1 hbk hdp
  go_enter Tryz.func61, Tryz.ntmps61
  go_wp2_with fail
  refine (CK.out _ Z1.out.bn).mono ?_
  rintro e w2 ⟨rfl, hb2⟩
  have W2 : Hid (Wk w2 b s v) := W1.out.under hb2
  have Z2 : Hid (Zt w2 b) := Z1.out.under hb2 (Nat.le_of_lt W1.out.big)
  have HB2 : Hid (Below w.heap.size w w2) := HB1.out.trans (hb2.mono HB1.out.size)
  have B2 : Hid (Blk w2 w.heap.size [.int .i64 kk, .string (B kn), .string (B kt), .string (B kh)] 30) := (hb2.block _ B1.out.lt).trans B1.out
  have tn : w2.cell? ⟨w.heap.size, 1, none⟩ = some (.string (B kn)) := B2.out.cell 1
  have th : w2.cell? ⟨w.heap.size, 3, none⟩ = some (.string (B kh)) := B2.out.cell 3
  clear hb2 W1 Z1 HB1 B1 CK
  go_wp2_with fail
  refine (CD.out _).mono ?_
  rintro e w3 ⟨rfl, rfl⟩
  clear tn th
  have c1 : w3.cell? ⟨b, 2, none⟩ = some (.int .i64 s.slant) := W2.out.blk.cell 2
  have f1 := W2.out.blk.frozen 2
  obtain ⟨x, hx⟩ : ∃ x, s.slant = x := ⟨_, rfl⟩
  have HX : Hid (s.slant = x) := hx
  rw [hx] at c1 h0 h1
  clear hx
  go_wp2
  go_end0
  refine ⟨rfl, PutTo.pre HB2.out (PutTo.over (.inl rfl) (Kept.refl _ _) W2.out ?_ (kept_set1 ..) rfl)⟩
  rw [← HX.out]
  exact W2.out.blk.set 2 _

set_option maxRecDepth 100000 in
set_option maxHeartbeats 3200000 in
theorem open_a (b : Nat) (s : Sn.S) (v : Value) (kk : Int) (kn kt kh : List UInt8) (w : World) (hW : Wk w b s v) (hZ : Zt w b) (_hn : s.d.length ≤ 900000) (hh : kh.length ≤ 20000) (hbk : Sn.blockOf kn = none) (hdp : dp b kn = none) (ha : ((B kn).toList == [97]) = true) : Calls Tryz.prog 61 #[.pointer (some ⟨b, 0, none⟩), .agg #[.int .i64 kk, .string (B kn), .string (B kt), .string (B kh)]] w fun e w' => e = .returned (.tuple #[]) ∧ PutTo w b v w' { s with link := Lk.clean kh } := by
  have hb1 : Below w.heap.size w (w.alloc (.cells #[.int .i64 kk, .string (B kn), .string (B kt), .string (B kh)] 30)) := (Below.refl _ _).alloc (Nat.le_refl _) _
  have W1 : Hid (Wk (w.alloc (.cells #[.int .i64 kk, .string (B kn), .string (B kt), .string (B kh)] 30)) b s v) := hW.under hb1
  have Z1 : Hid (Zt (w.alloc (.cells #[.int .i64 kk, .string (B kn), .string (B kt), .string (B kh)] 30)) b) := hZ.under hb1 (Nat.le_of_lt hW.big)
  have HB1 : Hid (Below w.heap.size w (w.alloc (.cells #[.int .i64 kk, .string (B kn), .string (B kt), .string (B kh)] 30))) := hb1
  have hbl := hW.big
  have B1 : Hid (Blk (w.alloc (.cells #[.int .i64 kk, .string (B kn), .string (B kt), .string (B kh)] 30)) w.heap.size [.int .i64 kk, .string (B kn), .string (B kt), .string (B kh)] 30) := Blk.new w [.int .i64 kk, .string (B kn), .string (B kt), .string (B kh)] 30
  have CK : Hid (∀ w', Bn w' → Calls Tryz.prog 91 #[.string (B kn)] w' fun e w2 => e = .returned (.tuple #[.int .i64 0, .bool false]) ∧ Below w'.heap.size w' w2) := fun w' h => by have := kindOf_any kn w' h; rw [hbk] at this; exact this
  have CD : Hid (∀ w', Calls Tryz.prog 92 #[.pointer (some ⟨b, 0, none⟩), .string (B kn)] w' fun e w2 => e = .returned (.pointer (none)) ∧ w2 = w') := fun w' => by have := deep_any b kn w'; rw [hdp] at this; exact this
  clear hW hZ hb1 hbk hdp
  go_enter Tryz.func61, Tryz.ntmps61
  go_wp2_with fail
  refine (CK.out _ Z1.out.bn).mono ?_
  rintro e w2 ⟨rfl, hb2⟩
  have W2 : Hid (Wk w2 b s v) := W1.out.under hb2
  have Z2 : Hid (Zt w2 b) := Z1.out.under hb2 (Nat.le_of_lt W1.out.big)
  have HB2 : Hid (Below w.heap.size w w2) := HB1.out.trans (hb2.mono HB1.out.size)
  have B2 : Hid (Blk w2 w.heap.size [.int .i64 kk, .string (B kn), .string (B kt), .string (B kh)] 30) := (hb2.block _ B1.out.lt).trans B1.out
  have tn : w2.cell? ⟨w.heap.size, 1, none⟩ = some (.string (B kn)) := B2.out.cell 1
  have th : w2.cell? ⟨w.heap.size, 3, none⟩ = some (.string (B kh)) := B2.out.cell 3
  clear hb2 W1 Z1 HB1 B1 CK
  go_wp2_with fail
  refine (CD.out _).mono ?_
  rintro e w3 ⟨rfl, rfl⟩
  have f3 := W2.out.blk.frozen 3
  have c3 : w3.cell? ⟨b, 3, none⟩ = some (.string (B s.link)) := W2.out.blk.cell 3
  go_wp2_with fail
  refine (zclean_any kh _ hh Z2.out.sch).mono ?_
  rintro e w4 ⟨rfl, hb4⟩
  have W4 : Hid (Wk w4 b s v) := W2.out.under hb4
  have HB4 : Hid (Below w.heap.size w w4) := HB2.out.trans (hb4.mono HB2.out.size)
  have g3 := W4.out.blk.frozen 3
  have d3 : w4.cell? ⟨b, 3, none⟩ = some (.string (B s.link)) := W4.out.blk.cell 3
  clear hb4 f3 c3
  go_wp2
  go_end0
  exact ⟨rfl, PutTo.pre HB4.out (PutTo.over (.inl rfl) (Kept.refl _ _) W4.out (W4.out.blk.set 3 _) (kept_set1 ..) rfl)⟩

set_option maxRecDepth 100000 in
set_option maxHeartbeats 3200000 in
theorem open_br (b : Nat) (s : Sn.S) (v : Value) (kk : Int) (kn kt kh : List UInt8) (w : World) (hW : Wk w b s v) (hZ : Zt w b) (hn : s.d.length ≤ 900000) (hbk : Sn.blockOf kn = none) (hdp : dp b kn = none) (ha : ((B kn).toList == [97]) = false) (hbr : ((B kn).toList == [98, 114]) = true) : Calls Tryz.prog 61 #[.pointer (some ⟨b, 0, none⟩), .agg #[.int .i64 kk, .string (B kn), .string (B kt), .string (B kh)]] w fun e w' => e = .returned (.tuple #[]) ∧ PutTo w b v w' { Sn.shut { s with opened := true } with kind := s.kind } := by
  have hb1 : Below w.heap.size w (w.alloc (.cells #[.int .i64 kk, .string (B kn), .string (B kt), .string (B kh)] 30)) := (Below.refl _ _).alloc (Nat.le_refl _) _
  have W1 : Hid (Wk (w.alloc (.cells #[.int .i64 kk, .string (B kn), .string (B kt), .string (B kh)] 30)) b s v) := hW.under hb1
  have Z1 : Hid (Zt (w.alloc (.cells #[.int .i64 kk, .string (B kn), .string (B kt), .string (B kh)] 30)) b) := hZ.under hb1 (Nat.le_of_lt hW.big)
  have HB1 : Hid (Below w.heap.size w (w.alloc (.cells #[.int .i64 kk, .string (B kn), .string (B kt), .string (B kh)] 30))) := hb1
  have hbl := hW.big
  have B1 : Hid (Blk (w.alloc (.cells #[.int .i64 kk, .string (B kn), .string (B kt), .string (B kh)] 30)) w.heap.size [.int .i64 kk, .string (B kn), .string (B kt), .string (B kh)] 30) := Blk.new w [.int .i64 kk, .string (B kn), .string (B kt), .string (B kh)] 30
  have CK : Hid (∀ w', Bn w' → Calls Tryz.prog 91 #[.string (B kn)] w' fun e w2 => e = .returned (.tuple #[.int .i64 0, .bool false]) ∧ Below w'.heap.size w' w2) := fun w' h => by have := kindOf_any kn w' h; rw [hbk] at this; exact this
  have CD : Hid (∀ w', Calls Tryz.prog 92 #[.pointer (some ⟨b, 0, none⟩), .string (B kn)] w' fun e w2 => e = .returned (.pointer (none)) ∧ w2 = w') := fun w' => by have := deep_any b kn w'; rw [hdp] at this; exact this
  clear hW hZ hb1 hbk hdp
  go_enter Tryz.func61, Tryz.ntmps61
  go_wp2_with fail
  refine (CK.out _ Z1.out.bn).mono ?_
  rintro e w2 ⟨rfl, hb2⟩
  have W2 : Hid (Wk w2 b s v) := W1.out.under hb2
  have Z2 : Hid (Zt w2 b) := Z1.out.under hb2 (Nat.le_of_lt W1.out.big)
  have HB2 : Hid (Below w.heap.size w w2) := HB1.out.trans (hb2.mono HB1.out.size)
  have B2 : Hid (Blk w2 w.heap.size [.int .i64 kk, .string (B kn), .string (B kt), .string (B kh)] 30) := (hb2.block _ B1.out.lt).trans B1.out
  have tn : w2.cell? ⟨w.heap.size, 1, none⟩ = some (.string (B kn)) := B2.out.cell 1
  have th : w2.cell? ⟨w.heap.size, 3, none⟩ = some (.string (B kh)) := B2.out.cell 3
  clear hb2 W1 Z1 HB1 B1 CK
  go_wp2_with fail
  refine (CD.out _).mono ?_
  rintro e w3 ⟨rfl, rfl⟩
  go_wp2_with fail
  refine (break_any b s v _ W2.out (by omega)).mono ?_
  rintro e w4 ⟨rfl, hP⟩
  have HP : Hid (PutTo w3 b v w4 { Sn.shut { s with opened := true } with kind := s.kind }) := hP
  clear hP
  go_wp2
  go_end0
  exact ⟨rfl, PutTo.pre HB2.out HP.out⟩

set_option maxRecDepth 100000 in
set_option maxHeartbeats 3200000 in
theorem open_hides (b : Nat) (s : Sn.S) (v : Value) (kk : Int) (kn kt kh : List UInt8) (w : World) (hW : Wk w b s v) (hZ : Zt w b) (_hn : s.d.length ≤ 900000) (hbk : Sn.blockOf kn = none) (hdp : dp b kn = none) (ha : ((B kn).toList == [97]) = false) (hbr : ((B kn).toList == [98, 114]) = false) (hh : Sn.hiddenL.contains kn = true) : Calls Tryz.prog 61 #[.pointer (some ⟨b, 0, none⟩), .agg #[.int .i64 kk, .string (B kn), .string (B kt), .string (B kh)]] w fun e w' => e = .returned (.tuple #[]) ∧ PutTo w b v w' { s with hides := kn } := by
  have hb1 : Below w.heap.size w (w.alloc (.cells #[.int .i64 kk, .string (B kn), .string (B kt), .string (B kh)] 30)) := (Below.refl _ _).alloc (Nat.le_refl _) _
  have W1 : Hid (Wk (w.alloc (.cells #[.int .i64 kk, .string (B kn), .string (B kt), .string (B kh)] 30)) b s v) := hW.under hb1
  have Z1 : Hid (Zt (w.alloc (.cells #[.int .i64 kk, .string (B kn), .string (B kt), .string (B kh)] 30)) b) := hZ.under hb1 (Nat.le_of_lt hW.big)
  have HB1 : Hid (Below w.heap.size w (w.alloc (.cells #[.int .i64 kk, .string (B kn), .string (B kt), .string (B kh)] 30))) := hb1
  have hbl := hW.big
  have B1 : Hid (Blk (w.alloc (.cells #[.int .i64 kk, .string (B kn), .string (B kt), .string (B kh)] 30)) w.heap.size [.int .i64 kk, .string (B kn), .string (B kt), .string (B kh)] 30) := Blk.new w [.int .i64 kk, .string (B kn), .string (B kt), .string (B kh)] 30
  have CK : Hid (∀ w', Bn w' → Calls Tryz.prog 91 #[.string (B kn)] w' fun e w2 => e = .returned (.tuple #[.int .i64 0, .bool false]) ∧ Below w'.heap.size w' w2) := fun w' h => by have := kindOf_any kn w' h; rw [hbk] at this; exact this
  have CD : Hid (∀ w', Calls Tryz.prog 92 #[.pointer (some ⟨b, 0, none⟩), .string (B kn)] w' fun e w2 => e = .returned (.pointer (none)) ∧ w2 = w') := fun w' => by have := deep_any b kn w'; rw [hdp] at this; exact this
  clear hW hZ hb1 hbk hdp
  go_enter Tryz.func61, Tryz.ntmps61
  go_wp2_with fail
  refine (CK.out _ Z1.out.bn).mono ?_
  rintro e w2 ⟨rfl, hb2⟩
  have W2 : Hid (Wk w2 b s v) := W1.out.under hb2
  have Z2 : Hid (Zt w2 b) := Z1.out.under hb2 (Nat.le_of_lt W1.out.big)
  have HB2 : Hid (Below w.heap.size w w2) := HB1.out.trans (hb2.mono HB1.out.size)
  have B2 : Hid (Blk w2 w.heap.size [.int .i64 kk, .string (B kn), .string (B kt), .string (B kh)] 30) := (hb2.block _ B1.out.lt).trans B1.out
  have tn : w2.cell? ⟨w.heap.size, 1, none⟩ = some (.string (B kn)) := B2.out.cell 1
  have th : w2.cell? ⟨w.heap.size, 3, none⟩ = some (.string (B kh)) := B2.out.cell 3
  clear hb2 W1 Z1 HB1 B1 CK
  go_wp2_with fail
  refine (CD.out _).mono ?_
  rintro e w3 ⟨rfl, rfl⟩
  have CH : Hid (∀ w', Hn w' → Calls Tryz.prog 95 #[.string (B kn)] w' fun e w2 => e = .returned (.bool true) ∧ w2 = w') := fun w' h => by have := hides_any kn w' h; rw [hh] at this; exact this
  clear hh
  go_wp2_with fail
  refine (CH.out _ Z2.out.hn).mono ?_
  rintro e w4 ⟨rfl, rfl⟩
  have g6 := W2.out.blk.frozen 6
  have d6 : w4.cell? ⟨b, 6, none⟩ = some (.string (B s.hides)) := W2.out.blk.cell 6
  go_wp2
  go_end0
  exact ⟨rfl, PutTo.pre HB2.out (PutTo.over (.inl rfl) (Kept.refl _ _) W2.out (W2.out.blk.set 6 _) (kept_set1 ..) rfl)⟩

set_option maxRecDepth 100000 in
set_option maxHeartbeats 3200000 in
theorem open_none (b : Nat) (s : Sn.S) (v : Value) (kk : Int) (kn kt kh : List UInt8) (w : World) (hW : Wk w b s v) (hZ : Zt w b) (_hn : s.d.length ≤ 900000) (hbk : Sn.blockOf kn = none) (hdp : dp b kn = none) (ha : ((B kn).toList == [97]) = false) (hbr : ((B kn).toList == [98, 114]) = false) (hh : Sn.hiddenL.contains kn = false) : Calls Tryz.prog 61 #[.pointer (some ⟨b, 0, none⟩), .agg #[.int .i64 kk, .string (B kn), .string (B kt), .string (B kh)]] w fun e w' => e = .returned (.tuple #[]) ∧ PutTo w b v w' s := by
  have hb1 : Below w.heap.size w (w.alloc (.cells #[.int .i64 kk, .string (B kn), .string (B kt), .string (B kh)] 30)) := (Below.refl _ _).alloc (Nat.le_refl _) _
  have W1 : Hid (Wk (w.alloc (.cells #[.int .i64 kk, .string (B kn), .string (B kt), .string (B kh)] 30)) b s v) := hW.under hb1
  have Z1 : Hid (Zt (w.alloc (.cells #[.int .i64 kk, .string (B kn), .string (B kt), .string (B kh)] 30)) b) := hZ.under hb1 (Nat.le_of_lt hW.big)
  have HB1 : Hid (Below w.heap.size w (w.alloc (.cells #[.int .i64 kk, .string (B kn), .string (B kt), .string (B kh)] 30))) := hb1
  have hbl := hW.big
  have B1 : Hid (Blk (w.alloc (.cells #[.int .i64 kk, .string (B kn), .string (B kt), .string (B kh)] 30)) w.heap.size [.int .i64 kk, .string (B kn), .string (B kt), .string (B kh)] 30) := Blk.new w [.int .i64 kk, .string (B kn), .string (B kt), .string (B kh)] 30
  have CK : Hid (∀ w', Bn w' → Calls Tryz.prog 91 #[.string (B kn)] w' fun e w2 => e = .returned (.tuple #[.int .i64 0, .bool false]) ∧ Below w'.heap.size w' w2) := fun w' h => by have := kindOf_any kn w' h; rw [hbk] at this; exact this
  have CD : Hid (∀ w', Calls Tryz.prog 92 #[.pointer (some ⟨b, 0, none⟩), .string (B kn)] w' fun e w2 => e = .returned (.pointer (none)) ∧ w2 = w') := fun w' => by have := deep_any b kn w'; rw [hdp] at this; exact this
  clear hW hZ hb1 hbk hdp
  go_enter Tryz.func61, Tryz.ntmps61
  go_wp2_with fail
  refine (CK.out _ Z1.out.bn).mono ?_
  rintro e w2 ⟨rfl, hb2⟩
  have W2 : Hid (Wk w2 b s v) := W1.out.under hb2
  have Z2 : Hid (Zt w2 b) := Z1.out.under hb2 (Nat.le_of_lt W1.out.big)
  have HB2 : Hid (Below w.heap.size w w2) := HB1.out.trans (hb2.mono HB1.out.size)
  have B2 : Hid (Blk w2 w.heap.size [.int .i64 kk, .string (B kn), .string (B kt), .string (B kh)] 30) := (hb2.block _ B1.out.lt).trans B1.out
  have tn : w2.cell? ⟨w.heap.size, 1, none⟩ = some (.string (B kn)) := B2.out.cell 1
  have th : w2.cell? ⟨w.heap.size, 3, none⟩ = some (.string (B kh)) := B2.out.cell 3
  clear hb2 W1 Z1 HB1 B1 CK
  go_wp2_with fail
  refine (CD.out _).mono ?_
  rintro e w3 ⟨rfl, rfl⟩
  have CH : Hid (∀ w', Hn w' → Calls Tryz.prog 95 #[.string (B kn)] w' fun e w2 => e = .returned (.bool false) ∧ w2 = w') := fun w' h => by have := hides_any kn w' h; rw [hh] at this; exact this
  clear hh
  go_wp2_with fail
  refine (CH.out _ Z2.out.hn).mono ?_
  rintro e w4 ⟨rfl, rfl⟩
  go_wp2
  go_end0
  exact ⟨rfl, PutTo.pre HB2.out (PutTo.refl W2.out)⟩

theorem dp_bold {b : Nat} {x : List UInt8} (h : Sn.boldL.contains x = true) : dp b x = some ⟨b, 1, none⟩ := by unfold dp; rw [if_pos h]
theorem dp_slant {b : Nat} {x : List UInt8} (h : Sn.boldL.contains x = false) (h2 : Sn.slantL.contains x = true) : dp b x = some ⟨b, 2, none⟩ := by unfold dp; rw [h, if_neg Bool.false_ne_true, if_pos h2]
theorem dp_none {b : Nat} {x : List UInt8} (h : Sn.boldL.contains x = false) (h2 : Sn.slantL.contains x = false) : dp b x = none := by unfold dp; rw [h, h2, if_neg Bool.false_ne_true, if_neg Bool.false_ne_true]
theorem eq_beq (x k : List UInt8) : ((B x).toList == k) = (x == k) := by rw [Lib.toList_data, B_data]

theorem takeOpen_any (b : Nat) (s : Sn.S) (v : Value) (kn kt kh : List UInt8) (w : World) (hW : Wk w b s v) (hZ : Zt w b) (hn : s.d.length ≤ 900000) (hL : Lim 1000000 s) (hh : kh.length ≤ 20000) (h0 : s.hides = []) : Calls Tryz.prog 61 #[.pointer (some ⟨b, 0, none⟩), .agg #[.int .i64 2, .string (B kn), .string (B kt), .string (B kh)]] w fun e w' => e = .returned (.tuple #[]) ∧ PutTo w b v w' (Sn.step s ⟨2, kn, kt, kh⟩) := by
  have hs := Sn.step_seen s ⟨2, kn, kt, kh⟩ h0
  cases hb : Sn.blockOf kn with
  | some k =>
    have e : Sn.step s ⟨2, kn, kt, kh⟩ = { Sn.shut s with opened := true, kind := k } := by rw [hs]; simp [hb]
    rw [e]
    exact open_block b s v 2 kn kt kh w hW hZ hn k hb
  | none =>
    have e : Sn.step s ⟨2, kn, kt, kh⟩ = Sn.other s ⟨2, kn, kt, kh⟩ := by rw [hs]; simp [hb]
    rw [e]
    clear hs e
    unfold Sn.other
    cases h1 : Sn.boldL.contains kn
    · cases h2 : Sn.slantL.contains kn
      · have hd := dp_none (b := b) h1 h2
        rw [if_neg Bool.false_ne_true, if_neg Bool.false_ne_true]
        cases h3 : (kn == [97])
        · have ha := (eq_beq kn [97]).trans h3
          rw [if_neg Bool.false_ne_true, if_neg (show ¬ ((2 : Int) == 3) = true by decide)]
          cases h4 : (kn == Sn.brL)
          · have hr := (eq_beq kn [98, 114]).trans h4
            rw [if_neg Bool.false_ne_true]
            cases h5 : Sn.hiddenL.contains kn
            · rw [if_neg Bool.false_ne_true]
              exact open_none b s v 2 kn kt kh w hW hZ hn hb hd ha hr h5
            · rw [if_pos rfl]
              exact open_hides b s v 2 kn kt kh w hW hZ hn hb hd ha hr h5
          · have hr := (eq_beq kn [98, 114]).trans h4
            rw [if_pos rfl]
            exact open_br b s v 2 kn kt kh w hW hZ hn hb hd ha hr
        · have ha := (eq_beq kn [97]).trans h3
          rw [if_pos rfl, if_pos (show ((2 : Int) == 2) = true by decide)]
          exact open_a b s v 2 kn kt kh w hW hZ hn hh hb hd ha
      · rw [if_neg Bool.false_ne_true, if_pos rfl]
        have e : Sn.up (s.slant + Sn.one 2) = s.slant + 1 := up_pos (by have := hL.s0; show (0 : Int) ≤ s.slant + 1; omega)
        show Calls _ _ _ _ fun e w' => _ ∧ PutTo w b v w' { s with slant := Sn.up (s.slant + Sn.one 2) }
        rw [e]
        exact open_slant b s v 2 kn kt kh w hW hZ hn hL.s0 hL.s1 hb (dp_slant h1 h2)
    · rw [if_pos rfl]
      have e : Sn.up (s.bold + Sn.one 2) = s.bold + 1 := up_pos (by have := hL.b0; show (0 : Int) ≤ s.bold + 1; omega)
      show Calls _ _ _ _ fun e w' => _ ∧ PutTo w b v w' { s with bold := Sn.up (s.bold + Sn.one 2) }
      rw [e]
      exact open_bold b s v 2 kn kt kh w hW hZ hn hL.b0 hL.b1 hb (dp_bold h1)
end Go.Proofs.YtpcaiechaakhnabGreatDoor

/-
  Package sanitize, a page at work: the end of a tag is taken, whatever token is taken.
-/
namespace Go.Proofs.YtpcaiechaakhnabGreatDoor
open Go.RowKit

set_option maxRecDepth 100000 in
set_option maxHeartbeats 3200000 in
theorem close_block (b : Nat) (s : Sn.S) (v : Value) (kn : List UInt8) (w : World) (hW : Wk w b s v) (hZ : Zt w b) (hn : s.d.length ≤ 900000) (k : Int) (hbk : Sn.blockOf kn = some k) : Calls Tryz.prog 62 #[.pointer (some ⟨b, 0, none⟩), .string (B kn)] w fun e w' => e = .returned (.tuple #[]) ∧ PutTo w b v w' (Sn.shut s) := by
  have W1 : Hid (Wk w b s v) := hW
  have Z1 : Hid (Zt w b) := hZ
  have hbl := hW.big
  have CK : Hid (∀ w', Bn w' → Calls Tryz.prog 91 #[.string (B kn)] w' fun e w2 => e = .returned (.tuple #[.int .i64 k, .bool true]) ∧ Below w'.heap.size w' w2) := fun w' h => by have := kindOf_any kn w' h; rw [hbk] at this; exact this
  have CD : Hid (∀ w', Calls Tryz.prog 92 #[.pointer (some ⟨b, 0, none⟩), .string (B kn)] w' fun e w2 => e = .returned (.pointer (dp b kn)) ∧ w2 = w') := fun w' => by have := deep_any b kn w'; exact this
  clear hW hZ hbk
  go_enter Tryz.func62, Tryz.ntmps62
  go_wp2_with fail
  refine (CK.out _ Z1.out.bn).mono ?_
  rintro e w2 ⟨rfl, hb2⟩
  have W2 : Hid (Wk w2 b s v) := W1.out.under hb2
  have HB2 : Hid (Below w.heap.size w w2) := hb2
  clear hb2 W1 Z1 CK
  go_wp2_with fail
  refine (CD.out _).mono ?_
  rintro e w3 ⟨rfl, rfl⟩
  generalize dp b kn = dd at *
  go_wp2_with fail
  refine (endBlock_any b s v _ W2.out (by omega)).mono ?_
  rintro e w4 ⟨rfl, hP⟩
  have HP : Hid (PutTo w3 b v w4 (Sn.shut s)) := hP
  clear hP
  go_wp2
  go_end0
  exact ⟨rfl, PutTo.pre HB2.out HP.out⟩

set_option maxRecDepth 100000 in
set_option maxHeartbeats 3200000 in
theorem close_bold0 (b : Nat) (s : Sn.S) (v : Value) (kn : List UInt8) (w : World) (hW : Wk w b s v) (hZ : Zt w b) (_hn : s.d.length ≤ 900000) (hz : s.bold = 0) (_h1 : s.bold ≤ 1000000) (hbk : Sn.blockOf kn = none) (hdp : dp b kn = some ⟨b, 1, none⟩) : Calls Tryz.prog 62 #[.pointer (some ⟨b, 0, none⟩), .string (B kn)] w fun e w' => e = .returned (.tuple #[]) ∧ PutTo w b v w' { s with bold := 0 } := by
  have W1 : Hid (Wk w b s v) := hW
  have Z1 : Hid (Zt w b) := hZ
  have hbl := hW.big
  have CK : Hid (∀ w', Bn w' → Calls Tryz.prog 91 #[.string (B kn)] w' fun e w2 => e = .returned (.tuple #[.int .i64 0, .bool false]) ∧ Below w'.heap.size w' w2) := fun w' h => by have := kindOf_any kn w' h; rw [hbk] at this; exact this
  have CD : Hid (∀ w', Calls Tryz.prog 92 #[.pointer (some ⟨b, 0, none⟩), .string (B kn)] w' fun e w2 => e = .returned (.pointer (some ⟨b, 1, none⟩)) ∧ w2 = w') := fun w' => by have := deep_any b kn w'; rw [hdp] at this; exact this
  clear hW hZ hbk hdp
  go_enter Tryz.func62, Tryz.ntmps62
  go_wp2_with fail
  refine (CK.out _ Z1.out.bn).mono ?_
  rintro e w2 ⟨rfl, hb2⟩
  have W2 : Hid (Wk w2 b s v) := W1.out.under hb2
  have HB2 : Hid (Below w.heap.size w w2) := hb2
  clear hb2 W1 Z1 CK
  go_wp2_with fail
  refine (CD.out _).mono ?_
  rintro e w3 ⟨rfl, rfl⟩
  have c1 : w3.cell? ⟨b, 1, none⟩ = some (.int .i64 s.bold) := W2.out.blk.cell 1
  have f1 := W2.out.blk.frozen 1
  rw [hz] at c1
  clear hz
  go_wp2
  go_end0
  exact ⟨rfl, PutTo.pre HB2.out (PutTo.over (.inl rfl) (Kept.refl _ _) W2.out (W2.out.blk.set 1 _) (kept_set1 ..) rfl)⟩

set_option maxRecDepth 100000 in
set_option maxHeartbeats 3200000 in
theorem close_bold1 (b : Nat) (s : Sn.S) (v : Value) (kn : List UInt8) (w : World) (hW : Wk w b s v) (hZ : Zt w b) (_hn : s.d.length ≤ 900000) (hz : 0 < s.bold) (h1 : s.bold ≤ 1000000) (hbk : Sn.blockOf kn = none) (hdp : dp b kn = some ⟨b, 1, none⟩) : Calls Tryz.prog 62 #[.pointer (some ⟨b, 0, none⟩), .string (B kn)] w fun e w' => e = .returned (.tuple #[]) ∧ PutTo w b v w' { s with bold := s.bold - 1 } := by
  have W1 : Hid (Wk w b s v) := hW
  have Z1 : Hid (Zt w b) := hZ
  have hbl := hW.big
  have CK : Hid (∀ w', Bn w' → Calls Tryz.prog 91 #[.string (B kn)] w' fun e w2 => e = .returned (.tuple #[.int .i64 0, .bool false]) ∧ Below w'.heap.size w' w2) := fun w' h => by have := kindOf_any kn w' h; rw [hbk] at this; exact this
  have CD : Hid (∀ w', Calls Tryz.prog 92 #[.pointer (some ⟨b, 0, none⟩), .string (B kn)] w' fun e w2 => e = .returned (.pointer (some ⟨b, 1, none⟩)) ∧ w2 = w') := fun w' => by have := deep_any b kn w'; rw [hdp] at this; exact this
  clear hW hZ hbk hdp
  go_enter Tryz.func62, Tryz.ntmps62
  go_wp2_with fail
  refine (CK.out _ Z1.out.bn).mono ?_
  rintro e w2 ⟨rfl, hb2⟩
  have W2 : Hid (Wk w2 b s v) := W1.out.under hb2
  have HB2 : Hid (Below w.heap.size w w2) := hb2
  clear hb2 W1 Z1 CK
  go_wp2_with fail
  refine (CD.out _).mono ?_
  rintro e w3 ⟨rfl, rfl⟩
  have c1 : w3.cell? ⟨b, 1, none⟩ = some (.int .i64 s.bold) := W2.out.blk.cell 1
  have f1 := W2.out.blk.frozen 1
  obtain ⟨x, hx⟩ : ∃ x : Nat, s.bold = x + 1 := ⟨(s.bold - 1).toNat, by omega⟩
  have HX : Hid (s.bold - 1 = x) := by show s.bold - 1 = x; omega
  rw [hx] at c1 h1
  clear hx hz
  go_wp2
  go_end0
  refine ⟨rfl, PutTo.pre HB2.out (PutTo.over (.inl rfl) (Kept.refl _ _) W2.out ?_ (kept_set1 ..) rfl)⟩
  rw [HX.out]
  exact W2.out.blk.set 1 _

set_option maxRecDepth 100000 in
set_option maxHeartbeats 3200000 in
theorem close_slant0 (b : Nat) (s : Sn.S) (v : Value) (kn : List UInt8) (w : World) (hW : Wk w b s v) (hZ : Zt w b) (_hn : s.d.length ≤ 900000) (hz : s.slant = 0) (_h1 : s.slant ≤ 1000000) (hbk : Sn.blockOf kn = none) (hdp : dp b kn = some ⟨b, 2, none⟩) : Calls Tryz.prog 62 #[.pointer (some ⟨b, 0, none⟩), .string (B kn)] w fun e w' => e = .returned (.tuple #[]) ∧ PutTo w b v w' { s with slant := 0 } := by
  have W1 : Hid (Wk w b s v) := hW
  have Z1 : Hid (Zt w b) := hZ
  have hbl := hW.big
  have CK : Hid (∀ w', Bn w' → Calls Tryz.prog 91 #[.string (B kn)] w' fun e w2 => e = .returned (.tuple #[.int .i64 0, .bool false]) ∧ Below w'.heap.size w' w2) := fun w' h => by have := kindOf_any kn w' h; rw [hbk] at this; exact this
  have CD : Hid (∀ w', Calls Tryz.prog 92 #[.pointer (some ⟨b, 0, none⟩), .string (B kn)] w' fun e w2 => e = .returned (.pointer (some ⟨b, 2, none⟩)) ∧ w2 = w') := fun w' => by have := deep_any b kn w'; rw [hdp] at this; exact this
  clear hW hZ hbk hdp
  go_enter Tryz.func62, Tryz.ntmps62
  go_wp2_with fail
  refine (CK.out _ Z1.out.bn).mono ?_
  rintro e w2 ⟨rfl, hb2⟩
  have W2 : Hid (Wk w2 b s v) := W1.out.under hb2
  have HB2 : Hid (Below w.heap.size w w2) := hb2
  clear hb2 W1 Z1 CK
  go_wp2_with fail
  refine (CD.out _).mono ?_
  rintro e w3 ⟨rfl, rfl⟩
  have c1 : w3.cell? ⟨b, 2, none⟩ = some (.int .i64 s.slant) := W2.out.blk.cell 2
  have f1 := W2.out.blk.frozen 2
  rw [hz] at c1
  clear hz
  go_wp2
  go_end0
  exact ⟨rfl, PutTo.pre HB2.out (PutTo.over (.inl rfl) (Kept.refl _ _) W2.out (W2.out.blk.set 2 _) (kept_set1 ..) rfl)⟩

set_option maxRecDepth 100000 in
set_option maxHeartbeats 3200000 in
theorem close_slant1 (b : Nat) (s : Sn.S) (v : Value) (kn : List UInt8) (w : World) (hW : Wk w b s v) (hZ : Zt w b) (_hn : s.d.length ≤ 900000) (hz : 0 < s.slant) (h1 : s.slant ≤ 1000000) (hbk : Sn.blockOf kn = none) (hdp : dp b kn = some ⟨b, 2, none⟩) : Calls Tryz.prog 62 #[.pointer (some ⟨b, 0, none⟩), .string (B kn)] w fun e w' => e = .returned (.tuple #[]) ∧ PutTo w b v w' { s with slant := s.slant - 1 } := by
  have W1 : Hid (Wk w b s v) := hW
  have Z1 : Hid (Zt w b) := hZ
  have hbl := hW.big
  have CK : Hid (∀ w', Bn w' → Calls Tryz.prog 91 #[.string (B kn)] w' fun e w2 => e = .returned (.tuple #[.int .i64 0, .bool false]) ∧ Below w'.heap.size w' w2) := fun w' h => by have := kindOf_any kn w' h; rw [hbk] at this; exact this
  have CD : Hid (∀ w', Calls Tryz.prog 92 #[.pointer (some ⟨b, 0, none⟩), .string (B kn)] w' fun e w2 => e = .returned (.pointer (some ⟨b, 2, none⟩)) ∧ w2 = w') := fun w' => by have := deep_any b kn w'; rw [hdp] at this; exact this
  clear hW hZ hbk hdp
  go_enter Tryz.func62, Tryz.ntmps62
  go_wp2_with fail
  refine (CK.out _ Z1.out.bn).mono ?_
  rintro e w2 ⟨rfl, hb2⟩
  have W2 : Hid (Wk w2 b s v) := W1.out.under hb2
  have HB2 : Hid (Below w.heap.size w w2) := hb2
  clear hb2 W1 Z1 CK
  go_wp2_with fail
  refine (CD.out _).mono ?_
  rintro e w3 ⟨rfl, rfl⟩
  have c1 : w3.cell? ⟨b, 2, none⟩ = some (.int .i64 s.slant) := W2.out.blk.cell 2
  have f1 := W2.out.blk.frozen 2
  obtain ⟨x, hx⟩ : ∃ x : Nat, s.slant = x + 1 := ⟨(s.slant - 1).toNat, by omega⟩
  have HX : Hid (s.slant - 1 = x) := by show s.slant - 1 = x; omega
  rw [hx] at c1 h1
  clear hx hz
  go_wp2
  go_end0
  refine ⟨rfl, PutTo.pre HB2.out (PutTo.over (.inl rfl) (Kept.refl _ _) W2.out ?_ (kept_set1 ..) rfl)⟩
  rw [HX.out]
  exact W2.out.blk.set 2 _

set_option maxRecDepth 100000 in
set_option maxHeartbeats 3200000 in
theorem close_a (b : Nat) (s : Sn.S) (v : Value) (kn : List UInt8) (w : World) (hW : Wk w b s v) (hZ : Zt w b) (_hn : s.d.length ≤ 900000) (hbk : Sn.blockOf kn = none) (hdp : dp b kn = none) (ha : ((B kn).toList == [97]) = true) : Calls Tryz.prog 62 #[.pointer (some ⟨b, 0, none⟩), .string (B kn)] w fun e w' => e = .returned (.tuple #[]) ∧ PutTo w b v w' { s with link := [] } := by
  have W1 : Hid (Wk w b s v) := hW
  have Z1 : Hid (Zt w b) := hZ
  have hbl := hW.big
  have CK : Hid (∀ w', Bn w' → Calls Tryz.prog 91 #[.string (B kn)] w' fun e w2 => e = .returned (.tuple #[.int .i64 0, .bool false]) ∧ Below w'.heap.size w' w2) := fun w' h => by have := kindOf_any kn w' h; rw [hbk] at this; exact this
  have CD : Hid (∀ w', Calls Tryz.prog 92 #[.pointer (some ⟨b, 0, none⟩), .string (B kn)] w' fun e w2 => e = .returned (.pointer (none)) ∧ w2 = w') := fun w' => by have := deep_any b kn w'; rw [hdp] at this; exact this
  clear hW hZ hbk hdp
  go_enter Tryz.func62, Tryz.ntmps62
  go_wp2_with fail
  refine (CK.out _ Z1.out.bn).mono ?_
  rintro e w2 ⟨rfl, hb2⟩
  have W2 : Hid (Wk w2 b s v) := W1.out.under hb2
  have HB2 : Hid (Below w.heap.size w w2) := hb2
  clear hb2 W1 Z1 CK
  go_wp2_with fail
  refine (CD.out _).mono ?_
  rintro e w3 ⟨rfl, rfl⟩
  have f3 := W2.out.blk.frozen 3
  have c3 : w3.cell? ⟨b, 3, none⟩ = some (.string (B s.link)) := W2.out.blk.cell 3
  go_wp2
  go_end0
  exact ⟨rfl, PutTo.pre HB2.out (PutTo.over (.inl rfl) (Kept.refl _ _) W2.out (W2.out.blk.set 3 _) (kept_set1 ..) rfl)⟩

set_option maxRecDepth 100000 in
set_option maxHeartbeats 3200000 in
theorem close_none (b : Nat) (s : Sn.S) (v : Value) (kn : List UInt8) (w : World) (hW : Wk w b s v) (hZ : Zt w b) (_hn : s.d.length ≤ 900000) (hbk : Sn.blockOf kn = none) (hdp : dp b kn = none) (ha : ((B kn).toList == [97]) = false) : Calls Tryz.prog 62 #[.pointer (some ⟨b, 0, none⟩), .string (B kn)] w fun e w' => e = .returned (.tuple #[]) ∧ PutTo w b v w' s := by
  have W1 : Hid (Wk w b s v) := hW
  have Z1 : Hid (Zt w b) := hZ
  have hbl := hW.big
  have CK : Hid (∀ w', Bn w' → Calls Tryz.prog 91 #[.string (B kn)] w' fun e w2 => e = .returned (.tuple #[.int .i64 0, .bool false]) ∧ Below w'.heap.size w' w2) := fun w' h => by have := kindOf_any kn w' h; rw [hbk] at this; exact this
  have CD : Hid (∀ w', Calls Tryz.prog 92 #[.pointer (some ⟨b, 0, none⟩), .string (B kn)] w' fun e w2 => e = .returned (.pointer (none)) ∧ w2 = w') := fun w' => by have := deep_any b kn w'; rw [hdp] at this; exact this
  clear hW hZ hbk hdp
  go_enter Tryz.func62, Tryz.ntmps62
  go_wp2_with fail
  refine (CK.out _ Z1.out.bn).mono ?_
  rintro e w2 ⟨rfl, hb2⟩
  have W2 : Hid (Wk w2 b s v) := W1.out.under hb2
  have HB2 : Hid (Below w.heap.size w w2) := hb2
  clear hb2 W1 Z1 CK
  go_wp2_with fail
  refine (CD.out _).mono ?_
  rintro e w3 ⟨rfl, rfl⟩
  go_wp2
  go_end0
  exact ⟨rfl, PutTo.pre HB2.out (PutTo.refl W2.out)⟩

theorem up_zero : Sn.up (0 + -1) = 0 := rfl
theorem up_less {x : Int} (h : 0 < x) : Sn.up (x + -1) = x - 1 := by unfold Sn.up; rw [if_neg (by omega)]; omega
theorem takeClose_any (b : Nat) (s : Sn.S) (v : Value) (kn kt kh : List UInt8) (w : World) (hW : Wk w b s v) (hZ : Zt w b) (hn : s.d.length ≤ 900000) (hL : Lim 1000000 s) (h0 : s.hides = []) : Calls Tryz.prog 62 #[.pointer (some ⟨b, 0, none⟩), .string (B kn)] w fun e w' => e = .returned (.tuple #[]) ∧ PutTo w b v w' (Sn.step s ⟨3, kn, kt, kh⟩) := by
  have hs := Sn.step_seen s ⟨3, kn, kt, kh⟩ h0
  cases hb : Sn.blockOf kn with
  | some k =>
    have e : Sn.step s ⟨3, kn, kt, kh⟩ = Sn.shut s := by rw [hs]; simp [hb]
    rw [e]
    exact close_block b s v kn w hW hZ hn k hb
  | none =>
    have e : Sn.step s ⟨3, kn, kt, kh⟩ = Sn.other s ⟨3, kn, kt, kh⟩ := by rw [hs]; simp [hb]
    rw [e]
    clear hs e
    unfold Sn.other
    cases h1 : Sn.boldL.contains kn
    · cases h2 : Sn.slantL.contains kn
      · have hd := dp_none (b := b) h1 h2
        rw [if_neg Bool.false_ne_true, if_neg Bool.false_ne_true]
        cases h3 : (kn == [97])
        · rw [if_neg Bool.false_ne_true, if_pos (show ((3 : Int) == 3) = true by decide)]
          exact close_none b s v kn w hW hZ hn hb hd ((eq_beq kn [97]).trans h3)
        · rw [if_pos rfl, if_neg (show ¬ ((3 : Int) == 2) = true by decide)]
          exact close_a b s v kn w hW hZ hn hb hd ((eq_beq kn [97]).trans h3)
      · rw [if_neg Bool.false_ne_true, if_pos rfl]
        have hd := dp_slant (b := b) h1 h2
        show Calls _ _ _ _ fun e w' => _ ∧ PutTo w b v w' { s with slant := Sn.up (s.slant + -1) }
        by_cases hz : s.slant = 0
        · have e : Sn.up (s.slant + -1) = 0 := by rw [hz]; rfl
          rw [e]
          exact close_slant0 b s v kn w hW hZ hn hz hL.s1 hb hd
        · have hp : 0 < s.slant := by have := hL.s0; omega
          rw [up_less hp]
          exact close_slant1 b s v kn w hW hZ hn hp hL.s1 hb hd
    · rw [if_pos rfl]
      have hd := dp_bold (b := b) h1
      show Calls _ _ _ _ fun e w' => _ ∧ PutTo w b v w' { s with bold := Sn.up (s.bold + -1) }
      by_cases hz : s.bold = 0
      · have e : Sn.up (s.bold + -1) = 0 := by rw [hz]; rfl
        rw [e]
        exact close_bold0 b s v kn w hW hZ hn hz hL.b1 hb hd
      · have hp : 0 < s.bold := by have := hL.b0; omega
        rw [up_less hp]
        exact close_bold1 b s v kn w hW hZ hn hp hL.b1 hb hd

set_option maxRecDepth 100000 in
set_option maxHeartbeats 3200000 in
theorem take_h3 (b : Nat) (s : Sn.S) (v : Value) (kn kt kh : List UInt8) (w : World) (hW : Wk w b s v) (e0 : (B s.hides).toList.isEmpty = false) (hq : ((B kn).toList == (B s.hides).toList) = true) : Calls Tryz.prog 31 #[.pointer (some ⟨b, 0, none⟩), .agg #[.int .i64 3, .string (B kn), .string (B kt), .string (B kh)]] w fun e w' => e = .returned (.tuple #[]) ∧ PutTo w b v w' { s with hides := [] } := by
  have hb1 : Below w.heap.size w (w.alloc (.cells #[.int .i64 3, .string (B kn), .string (B kt), .string (B kh)] 30)) := (Below.refl _ _).alloc (Nat.le_refl _) _
  have W1 : Hid (Wk (w.alloc (.cells #[.int .i64 3, .string (B kn), .string (B kt), .string (B kh)] 30)) b s v) := hW.under hb1
  have HB1 : Hid (Below w.heap.size w (w.alloc (.cells #[.int .i64 3, .string (B kn), .string (B kt), .string (B kh)] 30))) := hb1
  have hbl := hW.big
  have c6 : w.cell? ⟨b, 6, none⟩ = some (.string (B s.hides)) := hW.blk.cell 6
  have f6 := hW.blk.frozen 6
  clear hW hb1
  go_enter Tryz.func31, Tryz.ntmps31
  go_wp2
  go_quiet (fail)
  go_wp2
  go_end0
  refine ⟨rfl, ?_⟩
  have hB := W1.out.blk.set 6 (.string (B []))
  exact PutTo.pre (Below.trans HB1.out (Below.mono (B := _) (Go.below_drewN (Below.refl _ _) _) (Nat.le_refl _))) (PutTo.over (.inl rfl) (Kept.refl _ _) (W1.out.under (Go.below_drewN (Below.refl _ _) _)) hB (kept_set1 ..) rfl)

set_option maxRecDepth 100000 in
set_option maxHeartbeats 3200000 in
theorem take_h3n (b : Nat) (s : Sn.S) (v : Value) (kn kt kh : List UInt8) (w : World) (hW : Wk w b s v) (e0 : (B s.hides).toList.isEmpty = false) (hq : ((B kn).toList == (B s.hides).toList) = false) : Calls Tryz.prog 31 #[.pointer (some ⟨b, 0, none⟩), .agg #[.int .i64 3, .string (B kn), .string (B kt), .string (B kh)]] w fun e w' => e = .returned (.tuple #[]) ∧ PutTo w b v w' s := by
  have hb1 : Below w.heap.size w (w.alloc (.cells #[.int .i64 3, .string (B kn), .string (B kt), .string (B kh)] 30)) := (Below.refl _ _).alloc (Nat.le_refl _) _
  have W1 : Hid (Wk (w.alloc (.cells #[.int .i64 3, .string (B kn), .string (B kt), .string (B kh)] 30)) b s v) := hW.under hb1
  have HB1 : Hid (Below w.heap.size w (w.alloc (.cells #[.int .i64 3, .string (B kn), .string (B kt), .string (B kh)] 30))) := hb1
  have hbl := hW.big
  have c6 : w.cell? ⟨b, 6, none⟩ = some (.string (B s.hides)) := hW.blk.cell 6
  have f6 := hW.blk.frozen 6
  clear hW hb1
  go_enter Tryz.func31, Tryz.ntmps31
  go_wp2
  go_quiet (fail)
  go_wp2
  go_end0
  exact ⟨rfl, PutTo.pre HB1.out (PutTo.pre (Go.below_drewN (Below.refl _ _) _) (PutTo.refl (W1.out.under (Go.below_drewN (Below.refl _ _) _))))⟩

set_option maxRecDepth 100000 in
set_option maxHeartbeats 3200000 in
theorem take_hn (b : Nat) (s : Sn.S) (v : Value) (kk : Int) (kn kt kh : List UInt8) (w : World) (hW : Wk w b s v) (e0 : (B s.hides).toList.isEmpty = false) (hk : (kk == 3) = false) : Calls Tryz.prog 31 #[.pointer (some ⟨b, 0, none⟩), .agg #[.int .i64 kk, .string (B kn), .string (B kt), .string (B kh)]] w fun e w' => e = .returned (.tuple #[]) ∧ PutTo w b v w' s := by
  have hb1 : Below w.heap.size w (w.alloc (.cells #[.int .i64 kk, .string (B kn), .string (B kt), .string (B kh)] 30)) := (Below.refl _ _).alloc (Nat.le_refl _) _
  have W1 : Hid (Wk (w.alloc (.cells #[.int .i64 kk, .string (B kn), .string (B kt), .string (B kh)] 30)) b s v) := hW.under hb1
  have HB1 : Hid (Below w.heap.size w (w.alloc (.cells #[.int .i64 kk, .string (B kn), .string (B kt), .string (B kh)] 30))) := hb1
  have hbl := hW.big
  have c6 : w.cell? ⟨b, 6, none⟩ = some (.string (B s.hides)) := hW.blk.cell 6
  have f6 := hW.blk.frozen 6
  clear hW hb1
  go_enter Tryz.func31, Tryz.ntmps31
  go_wp2
  go_quiet (fail)
  go_wp2
  go_end0
  exact ⟨rfl, PutTo.pre HB1.out (PutTo.pre (Go.below_drewN (Below.refl _ _) _) (PutTo.refl (W1.out.under (Go.below_drewN (Below.refl _ _) _))))⟩

set_option maxRecDepth 100000 in
set_option maxHeartbeats 3200000 in
theorem take_text (b : Nat) (s : Sn.S) (v : Value) (kn kt kh : List UInt8) (w : World) (hW : Wk w b s v) (hn : s.d.length + kt.length ≤ 900000) (e0 : (B s.hides).toList.isEmpty = true) : Calls Tryz.prog 31 #[.pointer (some ⟨b, 0, none⟩), .agg #[.int .i64 1, .string (B kn), .string (B kt), .string (B kh)]] w fun e w' => e = .returned (.tuple #[]) ∧ PutTo w b v w' (s.chars kt) := by
  have hb1 : Below w.heap.size w (w.alloc (.cells #[.int .i64 1, .string (B kn), .string (B kt), .string (B kh)] 30)) := (Below.refl _ _).alloc (Nat.le_refl _) _
  have W1 : Hid (Wk (w.alloc (.cells #[.int .i64 1, .string (B kn), .string (B kt), .string (B kh)] 30)) b s v) := hW.under hb1
  have HB1 : Hid (Below w.heap.size w (w.alloc (.cells #[.int .i64 1, .string (B kn), .string (B kt), .string (B kh)] 30))) := hb1
  have hbl := hW.big
  have c6 : w.cell? ⟨b, 6, none⟩ = some (.string (B s.hides)) := hW.blk.cell 6
  have f6 := hW.blk.frozen 6
  clear hW hb1
  go_enter Tryz.func31, Tryz.ntmps31
  go_wp2_with fail
  refine (takeText_any b s v kt _ W1.out hn).mono ?_
  rintro e w2 ⟨rfl, hP⟩
  have HP : Hid (PutTo (w.alloc (.cells #[.int .i64 1, .string (B kn), .string (B kt), .string (B kh)] 30)) b v w2 (s.chars kt)) := hP
  clear hP
  go_wp2
  go_end0
  exact ⟨rfl, PutTo.pre HB1.out HP.out⟩

set_option maxRecDepth 100000 in
set_option maxHeartbeats 3200000 in
theorem take_open (b : Nat) (s : Sn.S) (v : Value) (kn kt kh : List UInt8) (w : World) (hW : Wk w b s v) (hZ : Zt w b) (hn : s.d.length ≤ 900000) (hL : Lim 1000000 s) (hh : kh.length ≤ 20000) (h0 : s.hides = []) (e0 : (B s.hides).toList.isEmpty = true) : Calls Tryz.prog 31 #[.pointer (some ⟨b, 0, none⟩), .agg #[.int .i64 2, .string (B kn), .string (B kt), .string (B kh)]] w fun e w' => e = .returned (.tuple #[]) ∧ PutTo w b v w' (Sn.step s ⟨2, kn, kt, kh⟩) := by
  have hb1 : Below w.heap.size w (w.alloc (.cells #[.int .i64 2, .string (B kn), .string (B kt), .string (B kh)] 30)) := (Below.refl _ _).alloc (Nat.le_refl _) _
  have W1 : Hid (Wk (w.alloc (.cells #[.int .i64 2, .string (B kn), .string (B kt), .string (B kh)] 30)) b s v) := hW.under hb1
  have HB1 : Hid (Below w.heap.size w (w.alloc (.cells #[.int .i64 2, .string (B kn), .string (B kt), .string (B kh)] 30))) := hb1
  have hbl := hW.big
  have c6 : w.cell? ⟨b, 6, none⟩ = some (.string (B s.hides)) := hW.blk.cell 6
  have f6 := hW.blk.frozen 6
  have Z1 : Hid (Zt (w.alloc (.cells #[.int .i64 2, .string (B kn), .string (B kt), .string (B kh)] 30)) b) := hZ.under hb1 (Nat.le_of_lt hbl)
  have HL : Hid (Lim 1000000 s) := hL
  have H0 : Hid (s.hides = []) := h0
  clear hL h0 hZ
  clear hW hb1
  go_enter Tryz.func31, Tryz.ntmps31
  go_wp2_with fail
  refine (takeOpen_any b s v kn kt kh _ W1.out Z1.out hn HL.out hh H0.out).mono ?_
  rintro e w2 ⟨rfl, hP⟩
  have HP : Hid (PutTo (w.alloc (.cells #[.int .i64 2, .string (B kn), .string (B kt), .string (B kh)] 30)) b v w2 (Sn.step s ⟨2, kn, kt, kh⟩)) := hP
  clear hP
  go_wp2
  go_end0
  exact ⟨rfl, PutTo.pre HB1.out HP.out⟩

set_option maxRecDepth 100000 in
set_option maxHeartbeats 3200000 in
theorem take_close (b : Nat) (s : Sn.S) (v : Value) (kn kt kh : List UInt8) (w : World) (hW : Wk w b s v) (hZ : Zt w b) (hn : s.d.length ≤ 900000) (hL : Lim 1000000 s) (h0 : s.hides = []) (e0 : (B s.hides).toList.isEmpty = true) : Calls Tryz.prog 31 #[.pointer (some ⟨b, 0, none⟩), .agg #[.int .i64 3, .string (B kn), .string (B kt), .string (B kh)]] w fun e w' => e = .returned (.tuple #[]) ∧ PutTo w b v w' (Sn.step s ⟨3, kn, kt, kh⟩) := by
  have hb1 : Below w.heap.size w (w.alloc (.cells #[.int .i64 3, .string (B kn), .string (B kt), .string (B kh)] 30)) := (Below.refl _ _).alloc (Nat.le_refl _) _
  have W1 : Hid (Wk (w.alloc (.cells #[.int .i64 3, .string (B kn), .string (B kt), .string (B kh)] 30)) b s v) := hW.under hb1
  have HB1 : Hid (Below w.heap.size w (w.alloc (.cells #[.int .i64 3, .string (B kn), .string (B kt), .string (B kh)] 30))) := hb1
  have hbl := hW.big
  have c6 : w.cell? ⟨b, 6, none⟩ = some (.string (B s.hides)) := hW.blk.cell 6
  have f6 := hW.blk.frozen 6
  have Z1 : Hid (Zt (w.alloc (.cells #[.int .i64 3, .string (B kn), .string (B kt), .string (B kh)] 30)) b) := hZ.under hb1 (Nat.le_of_lt hbl)
  have HL : Hid (Lim 1000000 s) := hL
  have H0 : Hid (s.hides = []) := h0
  clear hL h0 hZ
  clear hW hb1
  go_enter Tryz.func31, Tryz.ntmps31
  go_wp2_with fail
  refine (takeClose_any b s v kn kt kh _ W1.out Z1.out hn HL.out H0.out).mono ?_
  rintro e w2 ⟨rfl, hP⟩
  have HP : Hid (PutTo (w.alloc (.cells #[.int .i64 3, .string (B kn), .string (B kt), .string (B kh)] 30)) b v w2 (Sn.step s ⟨3, kn, kt, kh⟩)) := hP
  clear hP
  go_wp2
  go_end0
  exact ⟨rfl, PutTo.pre HB1.out HP.out⟩

set_option maxRecDepth 100000 in
set_option maxHeartbeats 3200000 in
theorem take_other (b : Nat) (s : Sn.S) (v : Value) (kn kt kh : List UInt8) (w : World) (hW : Wk w b s v) (e0 : (B s.hides).toList.isEmpty = true) : Calls Tryz.prog 31 #[.pointer (some ⟨b, 0, none⟩), .agg #[.int .i64 4, .string (B kn), .string (B kt), .string (B kh)]] w fun e w' => e = .returned (.tuple #[]) ∧ PutTo w b v w' s := by
  have hb1 : Below w.heap.size w (w.alloc (.cells #[.int .i64 4, .string (B kn), .string (B kt), .string (B kh)] 30)) := (Below.refl _ _).alloc (Nat.le_refl _) _
  have W1 : Hid (Wk (w.alloc (.cells #[.int .i64 4, .string (B kn), .string (B kt), .string (B kh)] 30)) b s v) := hW.under hb1
  have HB1 : Hid (Below w.heap.size w (w.alloc (.cells #[.int .i64 4, .string (B kn), .string (B kt), .string (B kh)] 30))) := hb1
  have hbl := hW.big
  have c6 : w.cell? ⟨b, 6, none⟩ = some (.string (B s.hides)) := hW.blk.cell 6
  have f6 := hW.blk.frozen 6
  clear hW hb1
  go_enter Tryz.func31, Tryz.ntmps31
  go_wp2
  go_end0
  exact ⟨rfl, PutTo.pre HB1.out (PutTo.refl W1.out)⟩

theorem empty_of (l : List UInt8) : (B l).toList.isEmpty = l.isEmpty := by rw [Lib.toList_data, B_data]
theorem BB_beq (x y : List UInt8) : ((B x).toList == (B y).toList) = (x == y) := by rw [Lib.toList_data, B_data, Lib.toList_data, B_data]
theorem ztake_any (b : Nat) (s : Sn.S) (v : Value) (t : Tk) (w : World) (hW : Wk w b s v) (hZ : Zt w b) (hn : s.d.length ≤ 80) (hL : Lim 1000000 s) (hf : Tk.Fits 20000 t) : Calls Tryz.prog 31 #[.pointer (some ⟨b, 0, none⟩), .agg #[.int .i64 t.kind, .string (B t.name), .string (B t.text), .string (B t.href)]] w fun e w' => e = .returned (.tuple #[]) ∧ PutTo w b v w' (Sn.step s t) := by
  obtain ⟨kk, kn, kt, kh⟩ := t
  have ft := hf.text
  have fh := hf.href
  have fk := hf.kind
  simp only at ft fh fk ⊢
  cases h0 : s.hides.isEmpty
  · have e0 := (empty_of s.hides).trans h0
    have hs : Sn.step s ⟨kk, kn, kt, kh⟩ = if kk == 3 && kn == s.hides then { s with hides := [] } else s := by unfold Sn.step; rw [h0]; rfl
    rw [hs]
    cases hk : (kk == 3)
    · exact take_hn b s v kk kn kt kh w hW e0 hk
    · have : kk = 3 := by simpa using hk
      subst this
      cases hq : (kn == s.hides)
      · exact take_h3n b s v kn kt kh w hW e0 ((BB_beq _ _).trans hq)
      · exact take_h3 b s v kn kt kh w hW e0 ((BB_beq _ _).trans hq)
  · have e0 := (empty_of s.hides).trans h0
    have h0' : s.hides = [] := by simpa using h0
    rcases fk with rfl | rfl | rfl | rfl
    · have hs : Sn.step s ⟨1, kn, kt, kh⟩ = s.chars kt := by rw [Sn.step_seen s _ h0']; rfl
      rw [hs]
      exact take_text b s v kn kt kh w hW (by omega) e0
    · exact take_open b s v kn kt kh w hW hZ (by omega) hL fh h0' e0
    · exact take_close b s v kn kt kh w hW hZ (by omega) hL h0' e0
    · have hs : Sn.step s ⟨4, kn, kt, kh⟩ = s := by rw [Sn.step_seen s _ h0']; rfl
      rw [hs]
      exact take_other b s v kn kt kh w hW e0

theorem Lim.mono {n m : Nat} {s : Sn.S} (h : Lim n s) (hm : n ≤ m) : Lim m s := ⟨h.b0, by have := h.b1; omega, h.s0, by have := h.s1; omega⟩
theorem one_le (k : Int) : Sn.one k ≤ 1 := by
  unfold Sn.one
  split
  · omega
  · split <;> omega
theorem up_ge (x : Int) : 0 ≤ Sn.up x := by unfold Sn.up; split <;> omega
theorem up_le {x : Int} {n : Nat} (h : x ≤ n) : Sn.up x ≤ n := by unfold Sn.up; split <;> omega
theorem lim_shut {n : Nat} {s : Sn.S} (h : Lim n s) : Lim n (Sn.shut s) := ⟨h.b0, h.b1, h.s0, h.s1⟩
theorem lim_other {n : Nat} {s : Sn.S} (h : Lim n s) (t : Tk) : Lim (n + 1) (Sn.other s t) := by
  have g := h.mono (Nat.le_succ n)
  have ho := one_le t.kind
  have b1 := h.b1
  have s1 := h.s1
  unfold Sn.other
  split
  · exact ⟨up_ge _, up_le (by push_cast; omega), g.s0, g.s1⟩
  split
  · exact ⟨g.b0, g.b1, up_ge _, up_le (by push_cast; omega)⟩
  split
  · exact ⟨g.b0, g.b1, g.s0, g.s1⟩
  split
  · exact g
  split
  · exact ⟨g.b0, g.b1, g.s0, g.s1⟩
  split
  · exact ⟨g.b0, g.b1, g.s0, g.s1⟩
  · exact g
theorem lim_step {n : Nat} {s : Sn.S} (h : Lim n s) (t : Tk) : Lim (n + 1) (Sn.step s t) := by
  have g := h.mono (Nat.le_succ n)
  unfold Sn.step
  split
  · split
    · exact ⟨g.b0, g.b1, g.s0, g.s1⟩
    · exact g
  split
  · exact ⟨g.b0, g.b1, g.s0, g.s1⟩
  split
  · exact g
  split
  · split
    · exact ⟨g.b0, g.b1, g.s0, g.s1⟩
    · exact lim_shut g
  · exact lim_other h t
end Go.Proofs.YtpcaiechaakhnabGreatDoor
