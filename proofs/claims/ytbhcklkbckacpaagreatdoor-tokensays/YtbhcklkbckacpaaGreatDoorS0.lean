/-
  Texts as bytes: parts of a text, a text turned into bytes and written.
-/
import Derived.Test.YtbhcklkbckacpaaGreatDoorLp
import Derived.Test.YtbhcklkbckacpaaGreatDoorAny0
import Derived.Lib.ConvBytes
import Derived.Laws.IdiomStrings
import Derived.Deep.Draws
import Derived.Handy
namespace Go.Proofs.YtbhcklkbckacpaaGreatDoor
open Go.RowKit

theorem slice_to (s : ByteArray) (k : Nat) (h : k ≤ s.size) (w : World) : (Instr.slice 9 (.string s) none (some (.int .i64 k)) none).run Tryz.prog w = .ok (.string (B (s.data.toList.take k))) w := by
  have := run_slice_string_h (P := Tryz.prog) w 9 s Tryz.underlying9 .i64 (k : Int) (by omega) (by omega)
  rw [this, extract_B]
  simp
theorem slice_from (s : ByteArray) (k : Nat) (h : k ≤ s.size) (w : World) : (Instr.slice 9 (.string s) (some (.int .i64 k)) none none).run Tryz.prog w = .ok (.string (B (s.data.toList.drop k))) w := by
  have := run_slice_string_l (P := Tryz.prog) w 9 s Tryz.underlying9 .i64 (k : Int) (by omega) (by omega)
  rw [this, extract_B, List.take_of_length_le (by simp)]
  simp

/-- In block b lie the bytes l, and may be written; below it all is as it was. -/
structure SBuf (b : Nat) (w wr : World) (l : List UInt8) : Prop where
  blk : ∃ cs f, wr.heap[b]? = some (.cells cs 5 (f, f + 1)) ∧ l.length ≤ f ∧ ∀ j (hj : j < l.length), cs[j]? = some (.int .u8 l[j].toNat)
  below : Below b w wr
theorem SBuf.start (w : World) (s : ByteArray) : SBuf w.heap.size w (Lib.bytesWorld w 5 s) s.data.toList := by
  refine ⟨⟨_, _, Lib.bytesWorld_at_new w 5 s, ?_, ?_⟩, ⟨rfl, rfl, rfl, by rw [Lib.bytesWorld_size]; omega, fun k hk => Lib.bytesWorld_at_old w 5 s k hk⟩⟩
  · simp [Lib.bytesCells]
  · intro j hj
    simp [Lib.bytesCells, Array.getElem?_append] at hj ⊢
    rw [if_pos (by simpa using hj), Array.getElem?_eq_getElem (by simpa using hj)]
    simp
theorem SBuf.cell {b : Nat} {w wr : World} {l : List UInt8} (h : SBuf b w wr l) (j : Nat) (hj : j < l.length) : wr.cell? ⟨b, j, none⟩ = some (.int .u8 l[j].toNat) := by
  obtain ⟨cs, f, hg, _, hc⟩ := h.blk
  simp [World.cell?, hg, hc j hj]
theorem SBuf.frozen {b : Nat} {w wr : World} {l : List UInt8} (h : SBuf b w wr l) (j : Nat) (hj : j < l.length) : wr.frozen? ⟨b, j, none⟩ = false := by
  obtain ⟨cs, f, hg, hf, hc⟩ := h.blk
  simp [World.frozen?, hg]
  omega
theorem SBuf.set {b : Nat} {w wr : World} {l : List UInt8} (h : SBuf b w wr l) (j : Nat) (c : UInt8) : SBuf b w (wr.setCell ⟨b, j, none⟩ (.int .u8 c.toNat)) (l.set j c) := by
  obtain ⟨cs, f, hg, hf, hc⟩ := h.blk
  obtain ⟨hlt, he⟩ := Array.getElem?_eq_some_iff.1 hg
  refine ⟨⟨cs.set! j (.int .u8 c.toNat), f, ?_, by simpa using hf, ?_⟩, h.below.setCell (Nat.le_refl _) _⟩
  · simp [World.setCell, hlt, Array.getElem_modify, he]
  · intro i hi
    have hi' : i < l.length := by simpa using hi
    by_cases hji : j = i
    · subst hji
      have := hc j hi'
      have hsz : j < cs.size := (Array.getElem?_eq_some_iff.1 this).1
      simp [hsz]
    · rw [List.getElem_set_ne hji]
      have := hc i hi'
      simp [Array.getElem?_setIfInBounds_ne hji, this]

/-- The first k letters small. -/
def smP (l : List UInt8) (k : Nat) : List UInt8 := Lk.small (l.take k) ++ l.drop k
theorem smP_zero (l : List UInt8) : smP l 0 = l := by simp [smP, Lk.small]
theorem smP_all (l : List UInt8) (k : Nat) (h : l.length ≤ k) : smP l k = Lk.small l := by
  unfold smP
  rw [List.take_of_length_le h, List.drop_of_length_le h]
  simp
theorem smP_len (l : List UInt8) (k : Nat) : (smP l k).length = l.length := by
  simp [smP, Lk.small]
  omega
theorem smP_at (l : List UInt8) (k : Nat) (h : k < l.length) : (smP l k)[k]'(by rw [smP_len]; exact h) = l[k] := by
  unfold smP
  rw [List.getElem_append_right (by simp [Lk.small]; omega)]
  simp [Lk.small, Nat.min_eq_left (Nat.le_of_lt h)]
theorem smP_succ (l : List UInt8) (k : Nat) (h : k < l.length) : smP l (k + 1) = (smP l k).set k (Lk.small1 l[k]) := by
  unfold smP
  rw [List.take_succ_eq_append_getElem h, Lk.small, List.map_append, List.set_append_right _ _ (by simp [Lk.small]; omega)]
  have hd : l.drop k = l[k] :: l.drop (k + 1) := List.drop_eq_getElem_cons h
  simp [Lk.small, Nat.min_eq_left (Nat.le_of_lt h)]
  rw [hd]
  rfl
theorem smP_same (l : List UInt8) (k : Nat) (h : k < l.length) (hc : Lk.small1 l[k] = l[k]) : smP l (k + 1) = smP l k := by
  rw [smP_succ l k h, hc, ← smP_at l k h, List.set_getElem_self]

theorem small_toNat (c : UInt8) (hA : 65 ≤ c.toNat) (hZ : c.toNat ≤ 90) : (Lk.small1 c).toNat = c.toNat + 32 := by
  unfold Lk.small1
  rw [if_pos ⟨by rw [UInt8.le_iff_toNat_le]; exact hA, by rw [UInt8.le_iff_toNat_le]; exact hZ⟩]
  rw [UInt8.toNat_add]
  show (c.toNat + 32) % 256 = _
  omega
theorem small_not (c : UInt8) (h : ¬ (65 ≤ c.toNat ∧ c.toNat ≤ 90)) : Lk.small1 c = c := by
  unfold Lk.small1
  rw [if_neg (fun hh => h ⟨by have := hh.1; rw [UInt8.le_iff_toNat_le] at this; exact this, by have := hh.2; rw [UInt8.le_iff_toNat_le] at this; exact this⟩)]
end Go.Proofs.YtbhcklkbckacpaaGreatDoor
