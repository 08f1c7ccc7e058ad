/-
  escape.firstRead: the character that a text which is not empty begins with when it is read, and how many bytes it takes; the variable 'pairs' holding what its initialiser lays.
-/
import Derived.Test.YtbhcklkbckacpaaGreatDoorAw0
import Derived.Test.YtbhcklkbckacpaaGreatDoorShelf
namespace Go.Proofs.YtbhcklkbckacpaaGreatDoor
open Go.RowKit

theorem hp_is (s p : ByteArray) (w : World) (b : Bool) (h : Lib.hasPrefix s.data.toList p.data.toList = b) :
    Calls Tryz.prog 57 #[.string s, .string p] w fun e w' => e = .returned (.bool b) ∧ w' = w := by
  have := Tryz.strings_HasPrefix s p w
  rw [h] at this
  exact this

/-- What firstRead comes to. -/
def FrPost (l : List UInt8) (w : World) (e : Ending) (w' : World) : Prop :=
  e = .returned (.tuple #[.int .u8 (Esc.fst1 l).1.toNat, .int .i64 (Esc.fst1 l).2]) ∧ Below w.heap.size w w'

theorem below1 {w : World} (o1 : Obj) : Below w.heap.size w (w.alloc o1) := (Below.refl w.heap.size w).alloc (Nat.le_refl _) o1
theorem below2 {w : World} (o1 o2 : Obj) : Below w.heap.size w ((w.alloc o1).alloc o2) := (below1 o1).alloc (below1 o1).size o2
theorem below3 {w : World} (o1 o2 o3 : Obj) : Below w.heap.size w (((w.alloc o1).alloc o2).alloc o3) := (below2 o1 o2).alloc (below2 o1 o2).size o3
theorem below4 {w : World} (o1 o2 o3 o4 : Obj) : Below w.heap.size w ((((w.alloc o1).alloc o2).alloc o3).alloc o4) := (below3 o1 o2 o3).alloc (below3 o1 o2 o3).size o4

set_option maxRecDepth 100000 in
set_option maxHeartbeats 800000 in
theorem fr_0 (s : ByteArray) (w : World) (hp : Pairs w) (h0 : Lib.hasPrefix s.data.toList [38, 97, 109, 112, 59] = true) : Calls Tryz.prog 271 #[.string s] w (FrPost s.data.toList w) := by
  have hf : Esc.fst1 s.data.toList = (38, 5) := by unfold Lib.hasPrefix at h0; simp [Esc.fst1, h0]
  have HF : Hid (Esc.fst1 s.data.toList = (38, 5)) := hf
  clear hf
  have H0 : Hid (Lib.hasPrefix s.data.toList [38, 97, 109, 112, 59] = true) := h0
  clear h0
  obtain ⟨t, fr, hg⟩ := hp
  have Hg : Hid (w.heap[7]? = some (.cells pcells t fr)) := hg
  clear hg
  have i0 := idx0
  have i1 := idx1
  have i2 := idx2
  have i3 := idx3
  go_enter Tryz.func271, Tryz.ntmps271
  go_wp2_with (refine wpList_load_row rfl 343 _ rfl 7 rfl t _ fr _ Hg.out Tryz.underlying343 rfl sz40 ?_)
  refine wp_loop_rounds 5 ?_
  rw [rounds_succ]
  go_wp2_with fail
  refine (hp_is s ⟨#[38, 97, 109, 112, 59]⟩ _ true H0.out).mono ?_
  rintro e w' ⟨rfl, rfl⟩
  go_wp2_with fail
  go_quiet (fail)
  go_wp2
  go_ret2
  exact ⟨by rw [HF.out]; rfl, Go.below_drewN (below1 _) _⟩

set_option maxRecDepth 100000 in
set_option maxHeartbeats 800000 in
theorem fr_1 (s : ByteArray) (w : World) (hp : Pairs w) (h0 : Lib.hasPrefix s.data.toList [38, 97, 109, 112, 59] = false) (h1 : Lib.hasPrefix s.data.toList [38, 108, 116, 59] = true) : Calls Tryz.prog 271 #[.string s] w (FrPost s.data.toList w) := by
  have hf : Esc.fst1 s.data.toList = (60, 4) := by unfold Lib.hasPrefix at h0 h1; simp [Esc.fst1, h0, h1]
  have HF : Hid (Esc.fst1 s.data.toList = (60, 4)) := hf
  clear hf
  have H0 : Hid (Lib.hasPrefix s.data.toList [38, 97, 109, 112, 59] = false) := h0
  clear h0
  have H1 : Hid (Lib.hasPrefix s.data.toList [38, 108, 116, 59] = true) := h1
  clear h1
  obtain ⟨t, fr, hg⟩ := hp
  have Hg : Hid (w.heap[7]? = some (.cells pcells t fr)) := hg
  clear hg
  have i0 := idx0
  have i1 := idx1
  have i2 := idx2
  have i3 := idx3
  go_enter Tryz.func271, Tryz.ntmps271
  go_wp2_with (refine wpList_load_row rfl 343 _ rfl 7 rfl t _ fr _ Hg.out Tryz.underlying343 rfl sz40 ?_)
  refine wp_loop_rounds 5 ?_
  rw [rounds_succ]
  go_wp2_with fail
  refine (hp_is s ⟨#[38, 97, 109, 112, 59]⟩ _ false H0.out).mono ?_
  rintro e w' ⟨rfl, rfl⟩
  go_wp2_with fail
  rw [rounds_succ]
  go_wp2_with fail
  refine (hp_is s ⟨#[38, 108, 116, 59]⟩ _ true H1.out).mono ?_
  rintro e w' ⟨rfl, rfl⟩
  go_wp2_with fail
  go_quiet (fail)
  go_wp2
  go_ret2
  exact ⟨by rw [HF.out]; rfl, Go.below_drewN (below2 _ _) _⟩

set_option maxRecDepth 100000 in
set_option maxHeartbeats 800000 in
theorem fr_2 (s : ByteArray) (w : World) (hp : Pairs w) (h0 : Lib.hasPrefix s.data.toList [38, 97, 109, 112, 59] = false) (h1 : Lib.hasPrefix s.data.toList [38, 108, 116, 59] = false) (h2 : Lib.hasPrefix s.data.toList [38, 103, 116, 59] = true) : Calls Tryz.prog 271 #[.string s] w (FrPost s.data.toList w) := by
  have hf : Esc.fst1 s.data.toList = (62, 4) := by unfold Lib.hasPrefix at h0 h1 h2; simp [Esc.fst1, h0, h1, h2]
  have HF : Hid (Esc.fst1 s.data.toList = (62, 4)) := hf
  clear hf
  have H0 : Hid (Lib.hasPrefix s.data.toList [38, 97, 109, 112, 59] = false) := h0
  clear h0
  have H1 : Hid (Lib.hasPrefix s.data.toList [38, 108, 116, 59] = false) := h1
  clear h1
  have H2 : Hid (Lib.hasPrefix s.data.toList [38, 103, 116, 59] = true) := h2
  clear h2
  obtain ⟨t, fr, hg⟩ := hp
  have Hg : Hid (w.heap[7]? = some (.cells pcells t fr)) := hg
  clear hg
  have i0 := idx0
  have i1 := idx1
  have i2 := idx2
  have i3 := idx3
  go_enter Tryz.func271, Tryz.ntmps271
  go_wp2_with (refine wpList_load_row rfl 343 _ rfl 7 rfl t _ fr _ Hg.out Tryz.underlying343 rfl sz40 ?_)
  refine wp_loop_rounds 5 ?_
  rw [rounds_succ]
  go_wp2_with fail
  refine (hp_is s ⟨#[38, 97, 109, 112, 59]⟩ _ false H0.out).mono ?_
  rintro e w' ⟨rfl, rfl⟩
  go_wp2_with fail
  rw [rounds_succ]
  go_wp2_with fail
  refine (hp_is s ⟨#[38, 108, 116, 59]⟩ _ false H1.out).mono ?_
  rintro e w' ⟨rfl, rfl⟩
  go_wp2_with fail
  rw [rounds_succ]
  go_wp2_with fail
  refine (hp_is s ⟨#[38, 103, 116, 59]⟩ _ true H2.out).mono ?_
  rintro e w' ⟨rfl, rfl⟩
  go_wp2_with fail
  go_quiet (fail)
  go_wp2
  go_ret2
  exact ⟨by rw [HF.out]; rfl, Go.below_drewN (below3 _ _ _) _⟩

set_option maxRecDepth 100000 in
set_option maxHeartbeats 800000 in
theorem fr_3 (s : ByteArray) (w : World) (hp : Pairs w) (h0 : Lib.hasPrefix s.data.toList [38, 97, 109, 112, 59] = false) (h1 : Lib.hasPrefix s.data.toList [38, 108, 116, 59] = false) (h2 : Lib.hasPrefix s.data.toList [38, 103, 116, 59] = false) (h3 : Lib.hasPrefix s.data.toList [38, 113, 117, 111, 116, 59] = true) : Calls Tryz.prog 271 #[.string s] w (FrPost s.data.toList w) := by
  have hf : Esc.fst1 s.data.toList = (34, 6) := by unfold Lib.hasPrefix at h0 h1 h2 h3; simp [Esc.fst1, h0, h1, h2, h3]
  have HF : Hid (Esc.fst1 s.data.toList = (34, 6)) := hf
  clear hf
  have H0 : Hid (Lib.hasPrefix s.data.toList [38, 97, 109, 112, 59] = false) := h0
  clear h0
  have H1 : Hid (Lib.hasPrefix s.data.toList [38, 108, 116, 59] = false) := h1
  clear h1
  have H2 : Hid (Lib.hasPrefix s.data.toList [38, 103, 116, 59] = false) := h2
  clear h2
  have H3 : Hid (Lib.hasPrefix s.data.toList [38, 113, 117, 111, 116, 59] = true) := h3
  clear h3
  obtain ⟨t, fr, hg⟩ := hp
  have Hg : Hid (w.heap[7]? = some (.cells pcells t fr)) := hg
  clear hg
  have i0 := idx0
  have i1 := idx1
  have i2 := idx2
  have i3 := idx3
  go_enter Tryz.func271, Tryz.ntmps271
  go_wp2_with (refine wpList_load_row rfl 343 _ rfl 7 rfl t _ fr _ Hg.out Tryz.underlying343 rfl sz40 ?_)
  refine wp_loop_rounds 5 ?_
  rw [rounds_succ]
  go_wp2_with fail
  refine (hp_is s ⟨#[38, 97, 109, 112, 59]⟩ _ false H0.out).mono ?_
  rintro e w' ⟨rfl, rfl⟩
  go_wp2_with fail
  rw [rounds_succ]
  go_wp2_with fail
  refine (hp_is s ⟨#[38, 108, 116, 59]⟩ _ false H1.out).mono ?_
  rintro e w' ⟨rfl, rfl⟩
  go_wp2_with fail
  rw [rounds_succ]
  go_wp2_with fail
  refine (hp_is s ⟨#[38, 103, 116, 59]⟩ _ false H2.out).mono ?_
  rintro e w' ⟨rfl, rfl⟩
  go_wp2_with fail
  rw [rounds_succ]
  go_wp2_with fail
  refine (hp_is s ⟨#[38, 113, 117, 111, 116, 59]⟩ _ true H3.out).mono ?_
  rintro e w' ⟨rfl, rfl⟩
  go_wp2_with fail
  go_quiet (fail)
  go_wp2
  go_ret2
  exact ⟨by rw [HF.out]; rfl, Go.below_drewN (below4 _ _ _ _) _⟩

set_option maxRecDepth 100000 in
set_option maxHeartbeats 800000 in
theorem fr_4 (s : ByteArray) (w : World) (hp : Pairs w) (h0 : Lib.hasPrefix s.data.toList [38, 97, 109, 112, 59] = false) (h1 : Lib.hasPrefix s.data.toList [38, 108, 116, 59] = false) (h2 : Lib.hasPrefix s.data.toList [38, 103, 116, 59] = false) (h3 : Lib.hasPrefix s.data.toList [38, 113, 117, 111, 116, 59] = false) (hs : 0 < s.size) : Calls Tryz.prog 271 #[.string s] w (FrPost s.data.toList w) := by
  have hf : Esc.fst1 s.data.toList = (s[0], 1) := by
    unfold Lib.hasPrefix at h0 h1 h2 h3
    simp [Esc.fst1, h0, h1, h2, h3, List.headD_eq_head?_getD, List.head?_eq_getElem?, List.getElem?_eq_getElem (show 0 < s.data.toList.length by simpa using hs)]
    rfl
  have HF : Hid (Esc.fst1 s.data.toList = (s[0], 1)) := hf
  clear hf
  have H0 : Hid (Lib.hasPrefix s.data.toList [38, 97, 109, 112, 59] = false) := h0
  clear h0
  have H1 : Hid (Lib.hasPrefix s.data.toList [38, 108, 116, 59] = false) := h1
  clear h1
  have H2 : Hid (Lib.hasPrefix s.data.toList [38, 103, 116, 59] = false) := h2
  clear h2
  have H3 : Hid (Lib.hasPrefix s.data.toList [38, 113, 117, 111, 116, 59] = false) := h3
  clear h3
  obtain ⟨t, fr, hg⟩ := hp
  have Hg : Hid (w.heap[7]? = some (.cells pcells t fr)) := hg
  clear hg
  have i0 := idx0
  have i1 := idx1
  have i2 := idx2
  have i3 := idx3
  go_enter Tryz.func271, Tryz.ntmps271
  go_wp2_with (refine wpList_load_row rfl 343 _ rfl 7 rfl t _ fr _ Hg.out Tryz.underlying343 rfl sz40 ?_)
  refine wp_loop_rounds 5 ?_
  rw [rounds_succ]
  go_wp2_with fail
  refine (hp_is s ⟨#[38, 97, 109, 112, 59]⟩ _ false H0.out).mono ?_
  rintro e w' ⟨rfl, rfl⟩
  go_wp2_with fail
  rw [rounds_succ]
  go_wp2_with fail
  refine (hp_is s ⟨#[38, 108, 116, 59]⟩ _ false H1.out).mono ?_
  rintro e w' ⟨rfl, rfl⟩
  go_wp2_with fail
  rw [rounds_succ]
  go_wp2_with fail
  refine (hp_is s ⟨#[38, 103, 116, 59]⟩ _ false H2.out).mono ?_
  rintro e w' ⟨rfl, rfl⟩
  go_wp2_with fail
  rw [rounds_succ]
  go_wp2_with fail
  refine (hp_is s ⟨#[38, 113, 117, 111, 116, 59]⟩ _ false H3.out).mono ?_
  rintro e w' ⟨rfl, rfl⟩
  go_wp2_with fail
  rw [rounds_succ]
  go_wp2
  go_ret2
  exact ⟨by rw [HF.out]; rfl, below4 _ _ _ _⟩

theorem fr_any (s : ByteArray) (w : World) (hp : Pairs w) (hs : 0 < s.size) : Calls Tryz.prog 271 #[.string s] w (FrPost s.data.toList w) := by
  cases h0 : Lib.hasPrefix s.data.toList [38, 97, 109, 112, 59]
  · cases h1 : Lib.hasPrefix s.data.toList [38, 108, 116, 59]
    · cases h2 : Lib.hasPrefix s.data.toList [38, 103, 116, 59]
      · cases h3 : Lib.hasPrefix s.data.toList [38, 113, 117, 111, 116, 59]
        · exact fr_4 s w hp h0 h1 h2 h3 hs
        · exact fr_3 s w hp h0 h1 h2 h3
      · exact fr_2 s w hp h0 h1 h2
    · exact fr_1 s w hp h0 h1
  · exact fr_0 s w hp h0
end Go.Proofs.YtbhcklkbckacpaaGreatDoor
