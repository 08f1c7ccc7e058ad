/-
  The reference's isSpace, isLetter, and the inner functions of its Tokens: the byte at a place, and what stands behind the next of a text.
-/
import Derived.Test.YtbhcklkbckacpaaGreatDoorTr
import Derived.Test.YtbhcklkbckacpaaGreatDoorS1
import Derived.Deep.RegionWith
namespace Go.Proofs.YtbhcklkbckacpaaGreatDoor
open Go.RowKit

theorem space_any (c : UInt8) (w : World) : Calls Tryz.prog 59 #[.int .u8 c.toNat] w fun e w' => e = .returned (.bool (Tk.sp c)) ∧ w' = w := by
  have hI := Tryz.strings_IndexByte (B [32, 9, 10, 13, 12]) (c.toNat : Int) w
  rw [show ((c.toNat : Int)).toNat.toUInt8 = c by simp, B_data] at hI
  rw [← Tk.in_sp]
  unfold Tk.inS
  generalize Lib.indexByte [32, 9, 10, 13, 12] c = x at *
  have HI : Hid (Calls Tryz.prog 70 #[.string (B [32, 9, 10, 13, 12]), .int .u8 c.toNat] w fun e w' => e = .returned (.int .i64 x) ∧ w' = w) := hI
  clear hI
  by_cases hx : 0 ≤ x
  all_goals
    go_enter Tryz.func59, Tryz.ntmps59
    go_wp2_with fail
    refine HI.out.mono ?_
    rintro e w1 ⟨rfl, rfl⟩
    go_wp2
    go_ret
    exact ⟨by simp [hx], rfl⟩

theorem at_in (h bb off n cap i : Nat) (l : List UInt8) (w : World) (hX : Blk w h [.slice (some ⟨bb, off, none⟩) n cap] 22) (hB : Byt w (some ⟨bb, off, none⟩) n cap l) (hi : i < l.length) :
    Calls Tryz.prog 53 #[.int .i64 i, .pointer (some ⟨h, 0, none⟩)] w fun e w' => e = .returned (.int .u8 l[i].toNat) ∧ w' = w := by
  have c0 : w.cell? ⟨h, 0, none⟩ = some (.slice (some ⟨bb, off, none⟩) n cap) := hX.cell 0
  have hll := hB.bytes
  have hcap := hB.room
  have hbig := hB.big
  obtain ⟨b', off', he, hc⟩ := hB.byte (by omega)
  cases he
  have c1 := hc i hi
  rw [hll] at hi
  clear hX hB hc
  generalize l[i] = c at *
  clear hll
  go_enter Tryz.func53, Tryz.ntmps53
  go_wp2
  go_ret
  exact ⟨rfl, rfl⟩
theorem at_out (h bb off n cap i : Nat) (w : World) (hX : Blk w h [.slice (some ⟨bb, off, none⟩) n cap] 22) (hi : n ≤ i) :
    Calls Tryz.prog 53 #[.int .i64 i, .pointer (some ⟨h, 0, none⟩)] w fun e w' => e = .returned (.int .u8 0) ∧ w' = w := by
  have c0 : w.cell? ⟨h, 0, none⟩ = some (.slice (some ⟨bb, off, none⟩) n cap) := hX.cell 0
  clear hX
  go_enter Tryz.func53, Tryz.ntmps53
  go_wp2
  go_ret
  exact ⟨rfl, rfl⟩
/-- Behind the next s, from place i on; or the end. -/
def Fd (l : List UInt8) (i : Nat) (s : List UInt8) (k : Nat) : Prop := (Lib.index (l.drop i) s = -1 ∧ k = l.length) ∨ ∃ j : Nat, Lib.index (l.drop i) s = j ∧ k = i + j + s.length ∧ i + j + s.length ≤ l.length
set_option maxRecDepth 100000 in
set_option maxHeartbeats 400000 in
theorem find_any (h bb off n cap i : Nat) (l s : List UInt8) (w : World) (hX : Blk w h [.slice (some ⟨bb, off, none⟩) n cap] 22) (hB : Byt w (some ⟨bb, off, none⟩) n cap l) (hM : Mxl w) (hn : n ≤ 20000) (hi : i ≤ 30000) (hs : s ≠ []) (hs3 : s.length ≤ 3) :
    Calls Tryz.prog 54 #[.int .i64 i, .string (B s), .pointer (some ⟨h, 0, none⟩)] w fun e w' => (∃ k : Nat, e = .returned (.int .i64 k) ∧ Fd l i s k) ∧ w' = w := by
  have c0 : w.cell? ⟨h, 0, none⟩ = some (.slice (some ⟨bb, off, none⟩) n cap) := hX.cell 0
  have hll := hB.bytes
  have hcap := hB.room
  have hbig := hB.big
  have zs := B_size s
  have hs1 : 1 ≤ s.length := by cases s with | nil => exact absurd rfl hs | cons => simp
  obtain ⟨m, hm⟩ := hM
  have hF := Tk.after_index s hs (l.drop i)
  rw [List.length_drop, hll] at hF
  obtain ⟨M, hMM⟩ : ∃ M, M = min i n := ⟨_, rfl⟩
  have hMn : M ≤ n := by omega
  have hdrop : l.drop M = l.drop i := by
    by_cases hin : i ≤ n
    · rw [hMM, Nat.min_eq_left hin]
    · rw [hMM, Nat.min_eq_right (by omega), List.drop_eq_nil_of_le (by omega), List.drop_eq_nil_of_le (by omega)]
  have hsl := slice_l bb off n cap M hMn
  have hP := hB.part M n hMn (Nat.le_refl _)
  rw [List.take_of_length_le (by rw [List.length_drop]; omega), hdrop] at hP
  have hcv := conv_byt hP
  have hI := Tryz.strings_Index (B (l.drop i)) (B s) m w (by rw [B_size, List.length_drop]; omega) hm
  rw [B_data, B_data] at hI
  have HFd : Hid (∀ k, Fd l i s k → Fd l i s k) := fun _ h => h
  have HL : Hid (l.length = n) := hll
  have HI : Hid (Calls Tryz.prog 55 #[.string (B (l.drop i)), .string (B s)] w fun e w' => e = .returned (.int .i64 (Lib.index (l.drop i) s)) ∧ w' = w) := hI
  clear hX hB hP hI hm hdrop hll hs
  generalize subA bb off cap M = sa at *
  have hmin : min (i : Int) (n : Int) = (M : Int) := by omega
  clear hMM
  rcases hF with ⟨hx, _⟩ | ⟨j, hx, hj, _⟩
  · have HE : Hid (Fd l i s n) := .inl ⟨hx, HL.out.symm⟩
    rw [hx] at HI
    clear hx
    go_enter Tryz.func54, Tryz.ntmps54
    go_wp2_with fail
    refine HI.out.mono ?_
    rintro e w1 ⟨rfl, rfl⟩
    go_wp2
    go_ret
    exact ⟨⟨n, rfl, HE.out⟩, rfl⟩
  · have HE : Hid (Fd l i s (i + j + s.length)) := .inr ⟨j, hx, rfl, by have := HL.out; omega⟩
    rw [hx] at HI
    clear hx
    generalize s.length = sn at *
    have hw1 : IntKind.i64.wrap ((i : Int) + (j : Int)) = (i : Int) + (j : Int) := IntWalk.i64_in _ ⟨by omega, by omega⟩
    go_enter Tryz.func54, Tryz.ntmps54
    go_wp2_with fail
    refine HI.out.mono ?_
    rintro e w1 ⟨rfl, rfl⟩
    go_wp2
    go_ret
    exact ⟨⟨i + j + sn, by go_num, HE.out⟩, rfl⟩

theorem conv_one (d : UInt8) (g : Nat) (W : World) (h : W.cell? ⟨g, 0, none⟩ = some (.int .u8 d.toNat)) : (convert 22 9 (.slice (some ⟨g, 0, none⟩) 1 1)).run Tryz.prog W = .ok (.string ⟨#[d]⟩) W := by
  have := run_convert_bytes_back (P := Tryz.prog) W 22 9 5 ⟨g, 0, none⟩ 1 [d] Tryz.underlying22 Tryz.underlying5 Tryz.underlying9 (fun j hj => by
    simp at hj
    subst hj
    exact h)
  exact this

end Go.Proofs.YtbhcklkbckacpaaGreatDoor
