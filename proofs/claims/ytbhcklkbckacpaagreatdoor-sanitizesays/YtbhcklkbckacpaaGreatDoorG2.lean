/-
  Texts of this proof, one behind the other.
-/
import Derived.Test.YtbhcklkbckacpaaGreatDoorG0
import Derived.Deep.AppendLies
import Derived.Laws.AppendOwnNone
import Derived.Lib.AppendZeros
import Derived.Laws.StructEq
import Derived.Deep.RegionWith

/-
  escape.firstRead: the character that a text which is not empty begins with when it is read, and how many bytes it takes; the variable 'pairs' holding what its initialiser lays.
-/
namespace Go.Proofs.YtbhcklkbckacpaaGreatDoor
open Go.RowKit

theorem hp_is (s p : ByteArray) (w : World) (b : Bool) (h : Lib.hasPrefix s.data.toList p.data.toList = b) :
    Calls Tryz.prog 57 #[.string s, .string p] w fun e w' => e = .returned (.bool b) ∧ w' = w := by
  have := Tryz.strings_HasPrefix s p w
  rw [h] at this
  exact this

def FrPost (l : List UInt8) (w : World) (e : Ending) (w' : World) : Prop :=
  e = .returned (.tuple #[.int .u8 (Esc.fst1 l).1.toNat, .int .i64 (Esc.fst1 l).2]) ∧ Below w.heap.size w w'

theorem below1 {w : World} (o1 : Obj) : Below w.heap.size w (w.alloc o1) := (Below.refl w.heap.size w).alloc (Nat.le_refl _) o1
theorem below2 {w : World} (o1 o2 : Obj) : Below w.heap.size w ((w.alloc o1).alloc o2) := (below1 o1).alloc (below1 o1).size o2
theorem below3 {w : World} (o1 o2 o3 : Obj) : Below w.heap.size w (((w.alloc o1).alloc o2).alloc o3) := (below2 o1 o2).alloc (below2 o1 o2).size o3
theorem below4 {w : World} (o1 o2 o3 o4 : Obj) : Below w.heap.size w ((((w.alloc o1).alloc o2).alloc o3).alloc o4) := (below3 o1 o2 o3).alloc (below3 o1 o2 o3).size o4

set_option maxRecDepth 100000 in
set_option maxHeartbeats 800000 in
theorem fr_0 (s : ByteArray) (w : World) (hp : Pairs w) (h0 : Lib.hasPrefix s.data.toList [38, 97, 109, 112, 59] = true) : Calls Tryz.prog 271 #[.string s] w (FrPost s.data.toList w) := by
  have hf : Esc.fst1 s.data.toList = (38, 5) := by unfold Lib.hasPrefix at h0; simp [Esc.fst1, h0]
  have HF : Hid (Esc.fst1 s.data.toList = (38, 5)) := hf
  clear hf
  have H0 : Hid (Lib.hasPrefix s.data.toList [38, 97, 109, 112, 59] = true) := h0
  clear h0
  obtain ⟨t, fr, hg⟩ := hp
  have Hg : Hid (w.heap[7]? = some (.cells pcells t fr)) := hg
  clear hg
  have i0 := idx0
  have i1 := idx1
  have i2 := idx2
  have i3 := idx3
  go_enter Tryz.func271, Tryz.ntmps271
  go_wp2_with (refine wpList_load_row rfl 343 _ rfl 7 rfl t _ fr _ Hg.out Tryz.underlying343 rfl sz40 ?_)
  refine wp_loop_rounds 5 ?_
  rw [rounds_succ]
  go_wp2_with fail
  refine (hp_is s ⟨#[38, 97, 109, 112, 59]⟩ _ true H0.out).mono ?_
  rintro e w' ⟨rfl, rfl⟩
  go_wp2_with fail
  go_quiet (fail)
  go_wp2
  go_ret2
  exact ⟨by rw [HF.out]; rfl, Go.below_drewN (below1 _) _⟩

set_option maxRecDepth 100000 in
set_option maxHeartbeats 800000 in
theorem fr_1 (s : ByteArray) (w : World) (hp : Pairs w) (h0 : Lib.hasPrefix s.data.toList [38, 97, 109, 112, 59] = false) (h1 : Lib.hasPrefix s.data.toList [38, 108, 116, 59] = true) : Calls Tryz.prog 271 #[.string s] w (FrPost s.data.toList w) := by
  have hf : Esc.fst1 s.data.toList = (60, 4) := by unfold Lib.hasPrefix at h0 h1; simp [Esc.fst1, h0, h1]
  have HF : Hid (Esc.fst1 s.data.toList = (60, 4)) := hf
  clear hf
  have H0 : Hid (Lib.hasPrefix s.data.toList [38, 97, 109, 112, 59] = false) := h0
  clear h0
  have H1 : Hid (Lib.hasPrefix s.data.toList [38, 108, 116, 59] = true) := h1
  clear h1
  obtain ⟨t, fr, hg⟩ := hp
  have Hg : Hid (w.heap[7]? = some (.cells pcells t fr)) := hg
  clear hg
  have i0 := idx0
  have i1 := idx1
  have i2 := idx2
  have i3 := idx3
  go_enter Tryz.func271, Tryz.ntmps271
  go_wp2_with (refine wpList_load_row rfl 343 _ rfl 7 rfl t _ fr _ Hg.out Tryz.underlying343 rfl sz40 ?_)
  refine wp_loop_rounds 5 ?_
  rw [rounds_succ]
  go_wp2_with fail
  refine (hp_is s ⟨#[38, 97, 109, 112, 59]⟩ _ false H0.out).mono ?_
  rintro e w' ⟨rfl, rfl⟩
  go_wp2_with fail
  rw [rounds_succ]
  go_wp2_with fail
  refine (hp_is s ⟨#[38, 108, 116, 59]⟩ _ true H1.out).mono ?_
  rintro e w' ⟨rfl, rfl⟩
  go_wp2_with fail
  go_quiet (fail)
  go_wp2
  go_ret2
  exact ⟨by rw [HF.out]; rfl, Go.below_drewN (below2 _ _) _⟩

set_option maxRecDepth 100000 in
set_option maxHeartbeats 800000 in
theorem fr_2 (s : ByteArray) (w : World) (hp : Pairs w) (h0 : Lib.hasPrefix s.data.toList [38, 97, 109, 112, 59] = false) (h1 : Lib.hasPrefix s.data.toList [38, 108, 116, 59] = false) (h2 : Lib.hasPrefix s.data.toList [38, 103, 116, 59] = true) : Calls Tryz.prog 271 #[.string s] w (FrPost s.data.toList w) := by
  have hf : Esc.fst1 s.data.toList = (62, 4) := by unfold Lib.hasPrefix at h0 h1 h2; simp [Esc.fst1, h0, h1, h2]
  have HF : Hid (Esc.fst1 s.data.toList = (62, 4)) := hf
  clear hf
  have H0 : Hid (Lib.hasPrefix s.data.toList [38, 97, 109, 112, 59] = false) := h0
  clear h0
  have H1 : Hid (Lib.hasPrefix s.data.toList [38, 108, 116, 59] = false) := h1
  clear h1
  have H2 : Hid (Lib.hasPrefix s.data.toList [38, 103, 116, 59] = true) := h2
  clear h2
  obtain ⟨t, fr, hg⟩ := hp
  have Hg : Hid (w.heap[7]? = some (.cells pcells t fr)) := hg
  clear hg
  have i0 := idx0
  have i1 := idx1
  have i2 := idx2
  have i3 := idx3
  go_enter Tryz.func271, Tryz.ntmps271
  go_wp2_with (refine wpList_load_row rfl 343 _ rfl 7 rfl t _ fr _ Hg.out Tryz.underlying343 rfl sz40 ?_)
  refine wp_loop_rounds 5 ?_
  rw [rounds_succ]
  go_wp2_with fail
  refine (hp_is s ⟨#[38, 97, 109, 112, 59]⟩ _ false H0.out).mono ?_
  rintro e w' ⟨rfl, rfl⟩
  go_wp2_with fail
  rw [rounds_succ]
  go_wp2_with fail
  refine (hp_is s ⟨#[38, 108, 116, 59]⟩ _ false H1.out).mono ?_
  rintro e w' ⟨rfl, rfl⟩
  go_wp2_with fail
  rw [rounds_succ]
  go_wp2_with fail
  refine (hp_is s ⟨#[38, 103, 116, 59]⟩ _ true H2.out).mono ?_
  rintro e w' ⟨rfl, rfl⟩
  go_wp2_with fail
  go_quiet (fail)
  go_wp2
  go_ret2
  exact ⟨by rw [HF.out]; rfl, Go.below_drewN (below3 _ _ _) _⟩

set_option maxRecDepth 100000 in
set_option maxHeartbeats 800000 in
theorem fr_3 (s : ByteArray) (w : World) (hp : Pairs w) (h0 : Lib.hasPrefix s.data.toList [38, 97, 109, 112, 59] = false) (h1 : Lib.hasPrefix s.data.toList [38, 108, 116, 59] = false) (h2 : Lib.hasPrefix s.data.toList [38, 103, 116, 59] = false) (h3 : Lib.hasPrefix s.data.toList [38, 113, 117, 111, 116, 59] = true) : Calls Tryz.prog 271 #[.string s] w (FrPost s.data.toList w) := by
  have hf : Esc.fst1 s.data.toList = (34, 6) := by unfold Lib.hasPrefix at h0 h1 h2 h3; simp [Esc.fst1, h0, h1, h2, h3]
  have HF : Hid (Esc.fst1 s.data.toList = (34, 6)) := hf
  clear hf
  have H0 : Hid (Lib.hasPrefix s.data.toList [38, 97, 109, 112, 59] = false) := h0
  clear h0
  have H1 : Hid (Lib.hasPrefix s.data.toList [38, 108, 116, 59] = false) := h1
  clear h1
  have H2 : Hid (Lib.hasPrefix s.data.toList [38, 103, 116, 59] = false) := h2
  clear h2
  have H3 : Hid (Lib.hasPrefix s.data.toList [38, 113, 117, 111, 116, 59] = true) := h3
  clear h3
  obtain ⟨t, fr, hg⟩ := hp
  have Hg : Hid (w.heap[7]? = some (.cells pcells t fr)) := hg
  clear hg
  have i0 := idx0
  have i1 := idx1
  have i2 := idx2
  have i3 := idx3
  go_enter Tryz.func271, Tryz.ntmps271
  go_wp2_with (refine wpList_load_row rfl 343 _ rfl 7 rfl t _ fr _ Hg.out Tryz.underlying343 rfl sz40 ?_)
  refine wp_loop_rounds 5 ?_
  rw [rounds_succ]
  go_wp2_with fail
  refine (hp_is s ⟨#[38, 97, 109, 112, 59]⟩ _ false H0.out).mono ?_
  rintro e w' ⟨rfl, rfl⟩
  go_wp2_with fail
  rw [rounds_succ]
  go_wp2_with fail
  refine (hp_is s ⟨#[38, 108, 116, 59]⟩ _ false H1.out).mono ?_
  rintro e w' ⟨rfl, rfl⟩
  go_wp2_with fail
  rw [rounds_succ]
  go_wp2_with fail
  refine (hp_is s ⟨#[38, 103, 116, 59]⟩ _ false H2.out).mono ?_
  rintro e w' ⟨rfl, rfl⟩
  go_wp2_with fail
  rw [rounds_succ]
  go_wp2_with fail
  refine (hp_is s ⟨#[38, 113, 117, 111, 116, 59]⟩ _ true H3.out).mono ?_
  rintro e w' ⟨rfl, rfl⟩
  go_wp2_with fail
  go_quiet (fail)
  go_wp2
  go_ret2
  exact ⟨by rw [HF.out]; rfl, Go.below_drewN (below4 _ _ _ _) _⟩

set_option maxRecDepth 100000 in
set_option maxHeartbeats 800000 in
theorem fr_4 (s : ByteArray) (w : World) (hp : Pairs w) (h0 : Lib.hasPrefix s.data.toList [38, 97, 109, 112, 59] = false) (h1 : Lib.hasPrefix s.data.toList [38, 108, 116, 59] = false) (h2 : Lib.hasPrefix s.data.toList [38, 103, 116, 59] = false) (h3 : Lib.hasPrefix s.data.toList [38, 113, 117, 111, 116, 59] = false) (hs : 0 < s.size) : Calls Tryz.prog 271 #[.string s] w (FrPost s.data.toList w) := by
  have hf : Esc.fst1 s.data.toList = (s[0], 1) := by
    unfold Lib.hasPrefix at h0 h1 h2 h3
    simp [Esc.fst1, h0, h1, h2, h3, List.headD_eq_head?_getD, List.head?_eq_getElem?, List.getElem?_eq_getElem (show 0 < s.data.toList.length by simpa using hs)]
    rfl
  have HF : Hid (Esc.fst1 s.data.toList = (s[0], 1)) := hf
  clear hf
  have H0 : Hid (Lib.hasPrefix s.data.toList [38, 97, 109, 112, 59] = false) := h0
  clear h0
  have H1 : Hid (Lib.hasPrefix s.data.toList [38, 108, 116, 59] = false) := h1
  clear h1
  have H2 : Hid (Lib.hasPrefix s.data.toList [38, 103, 116, 59] = false) := h2
  clear h2
  have H3 : Hid (Lib.hasPrefix s.data.toList [38, 113, 117, 111, 116, 59] = false) := h3
  clear h3
  obtain ⟨t, fr, hg⟩ := hp
  have Hg : Hid (w.heap[7]? = some (.cells pcells t fr)) := hg
  clear hg
  have i0 := idx0
  have i1 := idx1
  have i2 := idx2
  have i3 := idx3
  go_enter Tryz.func271, Tryz.ntmps271
  go_wp2_with (refine wpList_load_row rfl 343 _ rfl 7 rfl t _ fr _ Hg.out Tryz.underlying343 rfl sz40 ?_)
  refine wp_loop_rounds 5 ?_
  rw [rounds_succ]
  go_wp2_with fail
  refine (hp_is s ⟨#[38, 97, 109, 112, 59]⟩ _ false H0.out).mono ?_
  rintro e w' ⟨rfl, rfl⟩
  go_wp2_with fail
  rw [rounds_succ]
  go_wp2_with fail
  refine (hp_is s ⟨#[38, 108, 116, 59]⟩ _ false H1.out).mono ?_
  rintro e w' ⟨rfl, rfl⟩
  go_wp2_with fail
  rw [rounds_succ]
  go_wp2_with fail
  refine (hp_is s ⟨#[38, 103, 116, 59]⟩ _ false H2.out).mono ?_
  rintro e w' ⟨rfl, rfl⟩
  go_wp2_with fail
  rw [rounds_succ]
  go_wp2_with fail
  refine (hp_is s ⟨#[38, 113, 117, 111, 116, 59]⟩ _ false H3.out).mono ?_
  rintro e w' ⟨rfl, rfl⟩
  go_wp2_with fail
  rw [rounds_succ]
  go_wp2
  go_ret2
  exact ⟨by rw [HF.out]; rfl, below4 _ _ _ _⟩

theorem fr_any (s : ByteArray) (w : World) (hp : Pairs w) (hs : 0 < s.size) : Calls Tryz.prog 271 #[.string s] w (FrPost s.data.toList w) := by
  cases h0 : Lib.hasPrefix s.data.toList [38, 97, 109, 112, 59]
  · cases h1 : Lib.hasPrefix s.data.toList [38, 108, 116, 59]
    · cases h2 : Lib.hasPrefix s.data.toList [38, 103, 116, 59]
      · cases h3 : Lib.hasPrefix s.data.toList [38, 113, 117, 111, 116, 59]
        · exact fr_4 s w hp h0 h1 h2 h3 hs
        · exact fr_3 s w hp h0 h1 h2 h3
      · exact fr_2 s w hp h0 h1 h2
    · exact fr_1 s w hp h0 h1
  · exact fr_0 s w hp h0
end Go.Proofs.YtbhcklkbckacpaaGreatDoor

/-
  escape.Read: what it comes to at every text, the variable 'pairs' holding what its initialiser lays.
-/
namespace Go.Proofs.YtbhcklkbckacpaaGreatDoor
open Go.RowKit

theorem ownBuf_below {B n : Nat} {v : Value} {xs : List Value} {W0 w w' : World} (h : Lib.OwnBuf B 5 v n xs W0 w) (hb : Below w.heap.size w w') : Lib.OwnBuf B 5 v n xs W0 w' := by
  obtain ⟨⟨hl, hv⟩, hW, hB⟩ := h
  refine ⟨⟨hl, ?_⟩, hW.trans (hb.mono hB), Nat.le_trans hB hb.size⟩
  rcases hv with hv | ⟨g, cap, cur, fz, hv, hg0, hg, hrest⟩
  · exact .inl hv
  · exact .inr ⟨g, cap, cur, fz, hv, hg0, (hb.block g (Array.getElem?_eq_some_iff.1 hg).1).trans hg, hrest⟩

theorem rd_drop (l : List UInt8) (k : Nat) (pre : List UInt8) (hk : k < l.length) (h : pre ++ Esc.rd (l.drop k) = Esc.rd l) :
    (pre ++ [(Esc.fst1 (l.drop k)).1]) ++ Esc.rd (l.drop (k + (Esc.fst1 (l.drop k)).2)) = Esc.rd l := by
  rw [← h, Esc.rd_step (l.drop k) (by intro e; have := congrArg List.length e; simp at this; omega), List.drop_drop]
  simp

set_option maxRecDepth 100000 in
set_option maxHeartbeats 1600000 in
theorem read_ok (s : ByteArray) (w : World) (hp : Pairs w) (hs : s.size ≤ 120000) :
    Calls Tryz.prog 241 #[.string s] w fun e w' => e = .returned (.tuple #[.string ⟨(Esc.rd s.data.toList).toArray⟩, .int .i64 0]) ∧ Below w.heap.size w w' := by
  have HP : Hid (Pairs w) := hp
  have hpos := hp.pos
  clear hp
  obtain ⟨i5, hi, hz0, hz1, hz2⟩ := info_parts Tryz.info5w
  go_enter Tryz.func241, Tryz.ntmps241
  go_wp2_with (at_make; refine wpList_make_own _ rfl _ _ 22 rfl w.heap.size 5 i5 (.int .u8 0) 1 Tryz.underlying22 hi hz0 hz1 _ _ _ s.size rfl rfl (by omega) ?_ ?_ ?_ ?_)
  · rw [hz2]; omega
  · unfold maxLen; omega
  · exact Nat.le_refl _
  intro w1 hown hgrow
  have hob := own_make hown hgrow
  have HO : Hid (Lib.OwnBuf w.heap.size 5 (.slice (some ⟨w.heap.size, 0, none⟩) 0 s.size) 0 [] w w1) := hob
  clear hown hgrow hob
  go_wp2
  go_loopw [4, 5] (fun v i wr => ∃ (k : Nat) (pre : List UInt8), k ≤ s.size ∧ i = .int .i64 k ∧ pre.length ≤ k ∧ pre ++ Esc.rd (s.data.toList.drop k) = Esc.rd s.data.toList ∧ Lib.OwnBuf w.heap.size 5 v pre.length (pre.map b8) w wr) (fun _ i _ => s.size - (intOf i).toNat)
  case atStart => exact ⟨0, [], Nat.zero_le _, rfl, Nat.le_refl _, by simp, HO.out⟩
  case round =>
    obtain ⟨k, pre, hk, rfl, hpk, hpre, hob⟩ := hrel
    have HR : Hid (Lib.OwnBuf w.heap.size 5 u4 pre.length (pre.map b8) w wr) := hob
    have HE : Hid (pre ++ Esc.rd (s.data.toList.drop k) = Esc.rd s.data.toList) := hpre
    clear hob hpre
    by_cases hlt : k < s.size
    · obtain ⟨c, n, hcn⟩ : ∃ c n, Esc.fst1 (s.data.toList.drop k) = (c, n) := ⟨_, _, rfl⟩
      have hll : s.data.toList.length = s.size := by simp
      have hne : s.data.toList.drop k ≠ [] := by intro e; have := congrArg List.length e; simp at this; omega
      have hn1 : 1 ≤ n ∧ n ≤ 6 := by have := Esc.fst1_pos (s.data.toList.drop k); rw [hcn] at this; exact this
      have hn2 : k + n ≤ s.size := by have := Esc.fst1_le _ hne; rw [hcn, List.length_drop, hll] at this; simp at this; omega
      have hnext := rd_drop s.data.toList k pre (by omega) HE.out
      rw [hcn] at hnext
      have hfr := fr_any (s.extract k s.size) wr (HP.out.below HR.out.2.1 hpos) (by simp; omega)
      unfold FrPost at hfr
      rw [Lib.extract_to_end, hcn] at hfr
      have HF : Hid (Calls Tryz.prog 271 #[.string (s.extract k s.size)] wr fun e w' => e = .returned (.tuple #[.int .u8 c.toNat, .int .i64 n]) ∧ Below wr.heap.size wr w') := hfr
      have HN : Hid ((pre ++ [c]) ++ Esc.rd (s.data.toList.drop (k + n)) = Esc.rd s.data.toList) := hnext
      clear hfr hnext hcn hne hll
      obtain ⟨hn1, hn6⟩ := hn1
      go_wp2_with fail
      refine HF.out.mono ?_
      rintro e w2 ⟨rfl, hb2⟩
      have HB : Hid (Lib.OwnBuf w.heap.size 5 u4 pre.length (pre.map b8) w w2) := ownBuf_below HR.out hb2
      clear hb2
      go_wp2_with (at_builtin; refine Lib.wpList_append_byte rfl (.tmp 25) (.tmp 27) 22 rfl w.heap.size 5 i5 Tryz.underlying22 hi hz0 hz1 hz2 u4 pre.length (pre.map b8) rfl w _ c.toNat HB.out rfl ?_ ?_)
      · omega
      · intro v' w3 hb3
        have H3 : Hid (Lib.OwnBuf w.heap.size 5 v' (pre ++ [c]).length ((pre ++ [c]).map b8) w w3) := by
          rw [List.length_append, List.map_append]; exact hb3
        clear hb3
        go_wp2
        go_roundw
        case rel => exact ⟨k + n, pre ++ [c], hn2, by go_num, by simp; omega, HN.out, H3.out⟩
        case measure => simp [intOf]; omega
    · have hkk : s.data.toList.drop k = [] := List.drop_of_length_le (by simp; omega)
      have hcv := conv_esc HR.out
      have hfin : pre = Esc.rd s.data.toList := by have := HE.out; rw [hkk, Esc.rd_nil] at this; simpa using this
      rw [hfin] at hcv
      clear hkk hfin
      go_wp2
      go_ret2
      exact ⟨rfl, HR.out.2.1⟩
end Go.Proofs.YtbhcklkbckacpaaGreatDoor

/-
  token's reading: what is left of a page, and what is taken from its left end: by number, by a text, up to a byte of a set.
-/
namespace Go.Proofs.YtbhcklkbckacpaaGreatDoor
open Go.RowKit

def Rd (w : World) (b : Nat) (l : List UInt8) : Prop := Blk w b [.string (B l)] 86
theorem Rd.cell {w : World} {b : Nat} {l : List UInt8} (h : Rd w b l) : w.cell? ⟨b, 0, none⟩ = some (.string (B l)) := Blk.cell h 0
theorem Rd.free {w : World} {b : Nat} {l : List UInt8} (h : Rd w b l) : w.frozen? ⟨b, 0, none⟩ = false := Blk.frozen h 0
theorem Rd.put {w : World} {b : Nat} {l : List UInt8} (h : Rd w b l) (r : List UInt8) : Rd (w.setCell ⟨b, 0, none⟩ (.string (B r))) b r := Blk.set h 0 _
theorem Kept.of {w w' : World} (h : Below w.heap.size w w') (S : List Nat) : Kept w w' S := ⟨h.os, h.tape, h.output, h.size, fun k hk _ => h.block k hk⟩
theorem Kept.one (w : World) (b : Nat) (v : Value) : Kept w (w.setCell ⟨b, 0, none⟩ v) [b] := (Kept.refl w [b]).setCell _ _ (.inl (List.mem_singleton.2 rfl))
theorem Rd.far {w w' : World} {b : Nat} {l : List UInt8} (h : Rd w b l) (hb : Below w.heap.size w w') : Rd w' b l := (hb.block b h.lt).trans h
theorem Kept.far {w w1 w2 : World} {S : List Nat} (h : Kept w w1 S) (hb : Below w1.heap.size w1 w2) : Kept w w2 S := h.trans (Kept.of hb S)

theorem B_cat (a b : List UInt8) : B a ++ B b = B (a ++ b) := by
  apply ext_list
  rw [ByteArray.data_append, Array.toList_append]
  rfl

theorem begins_any (b : Nat) (l p : List UInt8) (w : World) (hR : Rd w b l) :
    Calls Tryz.prog 124 #[.pointer (some ⟨b, 0, none⟩), .string (B p)] w fun e w' => e = .returned (.bool (p.isPrefixOf l)) ∧ w' = w := by
  have c0 := hR.cell
  have H : Hid (∀ w, Calls Tryz.prog 57 #[.string (B l), .string (B p)] w fun e w' => e = .returned (.bool (p.isPrefixOf l)) ∧ w' = w) := fun w => Tryz.strings_HasPrefix (B l) (B p) w
  clear hR
  go_enter Tryz.func124, Tryz.ntmps124
  go_wp2_with fail
  refine (H.out _).mono ?_
  rintro e w1 ⟨rfl, rfl⟩
  go_wp2
  go_ret
  exact ⟨rfl, rfl⟩

theorem take_any (b n : Nat) (l : List UInt8) (w : World) (hR : Rd w b l) (hn : n ≤ l.length) :
    Calls Tryz.prog 125 #[.pointer (some ⟨b, 0, none⟩), .int .i64 n] w fun e w' => e = .returned (.string (B (l.take n))) ∧ Rd w' b (l.drop n) ∧ Kept w w' [b] := by
  have c0 := hR.cell
  have z0 := hR.free
  have HR : Hid (Rd w b l) := hR
  have hz := B_size l
  have s1 := slice_to (B l) n (by rw [hz]; exact hn)
  have s2 := slice_from (B l) n (by rw [hz]; exact hn)
  rw [B_data] at s1 s2
  clear hR hz
  go_enter Tryz.func125, Tryz.ntmps125
  go_wp2
  go_ret
  exact ⟨rfl, HR.out.put _, Kept.one _ _ _⟩

theorem takeIf_yes (b : Nat) (l p : List UInt8) (w : World) (hR : Rd w b l) (hp : p.isPrefixOf l = true) :
    Calls Tryz.prog 195 #[.pointer (some ⟨b, 0, none⟩), .string (B p)] w fun e w' => e = .returned (.bool true) ∧ Rd w' b (l.drop p.length) ∧ Kept w w' [b] := by
  have H1 : Hid (Calls Tryz.prog 124 #[.pointer (some ⟨b, 0, none⟩), .string (B p)] w fun e w' => e = .returned (.bool true) ∧ w' = w) := by
    have := begins_any b l p w hR
    rw [hp] at this
    exact this
  have H2 : Hid (Calls Tryz.prog 125 #[.pointer (some ⟨b, 0, none⟩), .int .i64 p.length] w fun e w' => e = .returned (.string (B (l.take p.length))) ∧ Rd w' b (l.drop p.length) ∧ Kept w w' [b]) := take_any b p.length l w hR (List.isPrefixOf_iff_prefix.1 hp).length_le
  have hz := B_size p
  clear hR hp
  generalize l.take p.length = x at *
  generalize l.drop p.length = y at *
  generalize p.length = n at *
  go_enter Tryz.func195, Tryz.ntmps195
  go_wp2_with fail
  refine H1.out.mono ?_
  rintro e w1 ⟨rfl, rfl⟩
  go_wp2_with fail
  refine H2.out.mono ?_
  rintro e w2 ⟨rfl, h3, h4⟩
  have H3 : Hid (Rd w2 b y) := h3
  have H4 : Hid (Kept w1 w2 [b]) := h4
  clear h3 h4
  go_wp2
  go_ret
  exact ⟨rfl, H3.out, H4.out⟩

theorem takeIf_no (b : Nat) (l p : List UInt8) (w : World) (hR : Rd w b l) (hp : p.isPrefixOf l = false) :
    Calls Tryz.prog 195 #[.pointer (some ⟨b, 0, none⟩), .string (B p)] w fun e w' => e = .returned (.bool false) ∧ w' = w := by
  have H1 : Hid (Calls Tryz.prog 124 #[.pointer (some ⟨b, 0, none⟩), .string (B p)] w fun e w' => e = .returned (.bool false) ∧ w' = w) := by
    have := begins_any b l p w hR
    rw [hp] at this
    exact this
  clear hR hp
  go_enter Tryz.func195, Tryz.ntmps195
  go_wp2_with fail
  refine H1.out.mono ?_
  rintro e w1 ⟨rfl, rfl⟩
  go_wp2
  go_ret
  exact ⟨rfl, rfl⟩

theorem smallByte_any (c : UInt8) (w : World) : Calls Tryz.prog 243 #[.int .u8 c.toNat] w fun e w' => e = .returned (.int .u8 (Lk.small1 c).toNat) ∧ w' = w := by
  by_cases hA : 65 ≤ c.toNat
  · by_cases hZ : c.toNat ≤ 90
    · have hcc := small_toNat c hA hZ
      rw [hcc]
      go_enter Tryz.func243, Tryz.ntmps243
      go_wp2
      go_ret
      exact ⟨by rw [show ((c.toNat + 32 : Nat) : Int) = (c.toNat : Int) - 65 + 97 by omega]; rfl, rfl⟩
    · rw [small_not c (by omega)]
      go_enter Tryz.func243, Tryz.ntmps243
      go_wp2
      go_ret
      exact ⟨rfl, rfl⟩
  · rw [small_not c (by omega)]
    go_enter Tryz.func243, Tryz.ntmps243
    go_wp2
    go_ret
    exact ⟨rfl, rfl⟩
theorem letter_small (c : UInt8) : Tk.letter c = (decide (97 ≤ (Lk.small1 c).toNat) && decide ((Lk.small1 c).toNat ≤ 122)) := by
  have := Tk.all256 (fun c => Tk.letter c == (decide (97 ≤ (Lk.small1 c).toNat) && decide ((Lk.small1 c).toNat ≤ 122))) (by decide +kernel) c
  simpa using this
theorem tletter_any (c : UInt8) (w : World) : Calls Tryz.prog 192 #[.int .u8 c.toNat] w fun e w' => e = .returned (.bool (Tk.letter c)) ∧ w' = w := by
  have H1 : Hid (Calls Tryz.prog 243 #[.int .u8 c.toNat] w fun e w' => e = .returned (.int .u8 (Lk.small1 c).toNat) ∧ w' = w) := smallByte_any c w
  rw [letter_small]
  generalize (Lk.small1 c).toNat = k at *
  by_cases hA : 97 ≤ k
  · by_cases hZ : k ≤ 122
    all_goals
      go_enter Tryz.func192, Tryz.ntmps192
      go_wp2_with fail
      refine H1.out.mono ?_
      rintro e w1 ⟨rfl, rfl⟩
      go_wp2
      go_ret
      exact ⟨by simp [hA, hZ]; omega, rfl⟩
  · go_enter Tryz.func192, Tryz.ntmps192
    go_wp2_with fail
    refine H1.out.mono ?_
    rintro e w1 ⟨rfl, rfl⟩
    go_wp2
    go_ret
    exact ⟨by simp, rfl⟩

def Mxl (w : World) : Prop := ∃ m, w.cell? ⟨1, 0, none⟩ = some (.int .i64 m)
structure Env (w : World) (b : Nat) : Prop where
  pairs : Pairs w
  mx : Mxl w
  low : 7 < b ∧ 1 < b
  size : b ≤ w.heap.size
theorem Env.kept {w w' : World} {b c : Nat} (h : Env w b) (hk : Kept w w' [c]) (hc : b ≤ c) : Env w' b := by
  have hb := hk.below (B := b) h.size (fun x hx => by rw [List.mem_singleton.1 hx]; exact hc)
  obtain ⟨m, hm⟩ := h.mx
  exact ⟨h.pairs.below hb h.low.1, ⟨m, (World.cell?_of_block (w := w) (hb.block _ h.low.2)).trans hm⟩, h.low, Nat.le_trans h.size hb.size⟩
theorem Env.below {w w' : World} {b : Nat} (h : Env w b) (hb : Below w.heap.size w w') : Env w' b := h.kept (Kept.of hb [b]) (Nat.le_refl _)

def lbh (p l : List UInt8) : Bool := p.isPrefixOf l && (match l.drop p.length with
  | [] => false
  | c :: _ => Tk.letter c)
theorem lbh_any (b : Nat) (l p : List UInt8) (w : World) (hR : Rd w b l) :
    Calls Tryz.prog 127 #[.pointer (some ⟨b, 0, none⟩), .string (B p)] w fun e w' => e = .returned (.bool (lbh p l)) ∧ w' = w := by
  have c0 := hR.cell
  have H1 := begins_any b l p w hR
  clear hR
  have z1 := B_size l
  have z2 := B_size p
  cases hp : p.isPrefixOf l
  · have hr : lbh p l = false := by unfold lbh; rw [hp]; rfl
    rw [hp] at H1
    have H1' : Hid (Calls Tryz.prog 124 #[.pointer (some ⟨b, 0, none⟩), .string (B p)] w fun e w' => e = .returned (.bool false) ∧ w' = w) := H1
    rw [hr]
    clear H1 hr hp
    go_enter Tryz.func127, Tryz.ntmps127
    go_wp2_with fail
    refine H1'.out.mono ?_
    rintro e w1 ⟨rfl, rfl⟩
    go_wp2
    go_ret
    exact ⟨rfl, rfl⟩
  · have hle := (List.isPrefixOf_iff_prefix.1 hp).length_le
    rw [hp] at H1
    have H1' : Hid (Calls Tryz.prog 124 #[.pointer (some ⟨b, 0, none⟩), .string (B p)] w fun e w' => e = .returned (.bool true) ∧ w' = w) := H1
    clear H1
    by_cases hlt : p.length < l.length
    · have hr : lbh p l = Tk.letter l[p.length] := by
        unfold lbh
        rw [hp, List.drop_eq_getElem_cons hlt]
        rfl
      have H2 : Hid (Calls Tryz.prog 192 #[.int .u8 l[p.length].toNat] w fun e w' => e = .returned (.bool (Tk.letter l[p.length])) ∧ w' = w) := tletter_any _ w
      have hix := run_index_at (B l) p.length (by rw [z1]; exact hlt)
      have hget : (B l)[p.length]'(by rw [z1]; exact hlt) = l[p.length] := by simp [B, ByteArray.getElem_eq_getElem_data]
      rw [hget] at hix
      rw [hr]
      clear hget hr hp
      generalize l[p.length] = c at *
      generalize Tk.letter c = r at *
      generalize p.length = n at *
      go_enter Tryz.func127, Tryz.ntmps127
      go_wp2_with fail
      refine H1'.out.mono ?_
      rintro e w1 ⟨rfl, rfl⟩
      go_wp2_with fail
      refine H2.out.mono ?_
      rintro e w1 ⟨rfl, rfl⟩
      go_wp2
      go_ret
      exact ⟨rfl, rfl⟩
    · have hr : lbh p l = false := by
        unfold lbh
        rw [hp, List.drop_eq_nil_of_le (by omega)]
        rfl
      rw [hr]
      clear hr hp
      generalize p.length = n at *
      go_enter Tryz.func127, Tryz.ntmps127
      go_wp2_with fail
      refine H1'.out.mono ?_
      rintro e w1 ⟨rfl, rfl⟩
      go_wp2
      go_ret
      exact ⟨rfl, rfl⟩

theorem through_any (b : Nat) (l p : List UInt8) (w : World) (hR : Rd w b l) (hE : Env w b) (hl : l.length ≤ 20000) (hp : p ≠ []) :
    Calls Tryz.prog 126 #[.pointer (some ⟨b, 0, none⟩), .string (B p)] w fun e w' => e = .returned (.tuple #[]) ∧ Rd w' b ((Tk.after p l).getD []) ∧ Kept w w' [b] := by
  have c0 := hR.cell
  have z0 := hR.free
  have HR : Hid (Rd w b l) := hR
  obtain ⟨m, hm⟩ := hE.mx
  have H1 := Tryz.strings_Cut (B l) (B p) m w (by rw [B_size]; omega) hm
  rw [B_data, B_data, Tk.cut_after p hp l] at H1
  change Calls Tryz.prog 191 _ w fun e w' => e = .returned (.tuple #[.string (B (Lib.cut l p).1), .string (B ((Tk.after p l).getD [])), .bool (Lib.cut l p).2.2]) ∧ ∃ n, w' = w.drewN n at H1
  generalize (Lib.cut l p).1 = x at *
  generalize (Lib.cut l p).2.2 = y at *
  generalize (Tk.after p l).getD [] = r at *
  have H1' : Hid (Calls Tryz.prog 191 #[.string (B l), .string (B p)] w fun e w' => e = .returned (.tuple #[.string (B x), .string (B r), .bool y]) ∧ ∃ n, w' = w.drewN n) := H1
  clear H1 hR hE hm
  go_enter Tryz.func126, Tryz.ntmps126
  go_wp2_with fail
  refine H1'.out.mono ?_
  rintro e w1 ⟨rfl, n, rfl⟩
  have z1 : (w.drewN n).frozen? ⟨b, 0, none⟩ = false := z0
  go_wp2
  go_end0
  exact ⟨rfl, Rd.put (w := w.drewN n) HR.out _, ((Kept.refl w [b]).drewN n).trans (Kept.one _ _ _)⟩

theorem oneOf_any (s : List UInt8) (w : World) :
    Calls Tryz.prog 123 #[.string (B s)] w fun e w' => e = .returned (.func (.func 190) #[] #[.pointer (some ⟨w.heap.size, 0, none⟩)]) ∧ Blk w' w.heap.size [.string (B s)] 9 ∧ Below w.heap.size w w' := by
  go_enter Tryz.func123, Tryz.ntmps123
  go_wp2
  go_ret
  exact ⟨rfl, Blk.new w [.string (B s)] 9, (Below.refl _ _).alloc (Nat.le_refl _) _⟩
theorem oneIn_any (a : Nat) (s : List UInt8) (c : UInt8) (w : World) (hA : Blk w a [.string (B s)] 9) :
    Calls Tryz.prog 190 #[.int .u8 c.toNat, .pointer (some ⟨a, 0, none⟩)] w fun e w' => e = .returned (.bool (Tk.inS s c)) ∧ w' = w := by
  have c0 : w.cell? ⟨a, 0, none⟩ = some (.string (B s)) := hA.cell 0
  have hI := Tryz.strings_IndexByte (B s) (c.toNat : Int) w
  rw [show ((c.toNat : Int)).toNat.toUInt8 = c by simp, B_data] at hI
  unfold Tk.inS
  generalize Lib.indexByte s c = x at *
  have HI : Hid (Calls Tryz.prog 70 #[.string (B s), .int .u8 c.toNat] w fun e w' => e = .returned (.int .i64 x) ∧ w' = w) := hI
  clear hI hA
  by_cases hx : 0 ≤ x
  all_goals
    go_enter Tryz.func190, Tryz.ntmps190
    go_wp2_with fail
    refine HI.out.mono ?_
    rintro e w1 ⟨rfl, rfl⟩
    go_wp2
    go_ret
    exact ⟨by simp [hx], rfl⟩

set_option maxRecDepth 100000 in
set_option maxHeartbeats 1600000 in
theorem upTo_one (a b : Nat) (p : UInt8 → Bool) (s l : List UInt8) (w : World) (hp : ∀ c, (Tk.inS s c) = !p c) (hR : Rd w b l) (hA : Blk w a [.string (B s)] 9) (hl : l.length ≤ 20000) :
    Calls Tryz.prog 122 #[.pointer (some ⟨b, 0, none⟩), .func (.func 190) #[] #[.pointer (some ⟨a, 0, none⟩)]] w fun e w' => e = .returned (.string (B (l.takeWhile p))) ∧ Rd w' b (l.dropWhile p) ∧ Kept w w' [b] := by
  have c0 := hR.cell
  have z1 := B_size l
  have HR : Hid (Rd w b l) := hR
  have HC : Hid (∀ c : UInt8, Calls Tryz.prog 190 #[.int .u8 c.toNat, .pointer (some ⟨a, 0, none⟩)] w fun e w' => e = .returned (.bool (!p c)) ∧ w' = w) := fun c => by
    have := oneIn_any a s c w hA
    rw [hp c] at this
    exact this
  clear hR hA hp
  obtain ⟨x, hx⟩ : ∃ x, l.takeWhile p = x := ⟨_, rfl⟩
  obtain ⟨y, hy⟩ : ∃ y, l.dropWhile p = y := ⟨_, rfl⟩
  rw [hx, hy]
  have HX : Hid (l.takeWhile p = x) := hx
  have HY : Hid (l.dropWhile p = y) := hy
  clear hx hy
  go_enter Tryz.func122, Tryz.ntmps122
  go_wp2
  go_loopw [5] (fun i wr => ∃ k : Nat, k ≤ l.length ∧ i = .int .i64 k ∧ wr = w ∧ (l.drop k).dropWhile p = y) (fun i _ => l.length - (intOf i).toNat)
  case atStart => exact ⟨0, Nat.zero_le _, rfl, rfl, HY.out⟩
  case round =>
    obtain ⟨k, hk, rfl, rfl, hd⟩ := hrel
    have HD : Hid ((l.drop k).dropWhile p = y) := hd
    clear hd
    have T : Hid (l.drop k = y → Calls Tryz.prog 125 #[.pointer (some ⟨b, 0, none⟩), .int .i64 k] wr fun e w' => e = .returned (.string (B x)) ∧ Rd w' b y ∧ Kept wr w' [b]) := fun h => by
      have t := take_any b k l wr HR.out hk
      have h0 := Tk.tw_of_dw (l := l) (p := p) (i := 0) (k := k) (Nat.zero_le _) hk (by rw [h, List.drop_zero, HY.out])
      rw [List.drop_zero, Nat.sub_zero, HX.out] at h0
      rw [h0, h] at t
      exact t
    by_cases hlt : k < l.length
    · have hix := run_index_at (B l) k (by rw [z1]; exact hlt)
      have hget : (B l)[k]'(by rw [z1]; exact hlt) = l[k] := by simp [B, ByteArray.getElem_eq_getElem_data]
      rw [hget] at hix
      have C1 := HC.out l[k]
      cases hc : p l[k]
      · have hD : l.drop k = y := by rw [← HD.out]; exact (Tk.dw_stop hlt hc).symm
        have T1 := T.out hD
        rw [hc] at C1
        have C1' : Hid (Calls Tryz.prog 190 #[.int .u8 l[k].toNat, .pointer (some ⟨a, 0, none⟩)] wr fun e w' => e = .returned (.bool true) ∧ w' = wr) := C1
        have T1' : Hid (Calls Tryz.prog 125 #[.pointer (some ⟨b, 0, none⟩), .int .i64 k] wr fun e w' => e = .returned (.string (B x)) ∧ Rd w' b y ∧ Kept wr w' [b]) := T1
        clear C1 T1 hD hc hget
        generalize l[k] = c at *
        go_wp2_with fail
        refine C1'.out.mono ?_
        rintro e w1 ⟨rfl, rfl⟩
        go_wp2_with fail
        refine T1'.out.mono ?_
        rintro e w2 ⟨rfl, h3, h4⟩
        have H3 : Hid (Rd w2 b y) := h3
        have H4 : Hid (Kept w1 w2 [b]) := h4
        clear h3 h4
        go_wp2
        go_ret
        exact ⟨rfl, H3.out, H4.out⟩
      · have HD2 : Hid ((l.drop (k + 1)).dropWhile p = y) := (Tk.dw_go hlt hc).trans HD.out
        rw [hc] at C1
        have C1' : Hid (Calls Tryz.prog 190 #[.int .u8 l[k].toNat, .pointer (some ⟨a, 0, none⟩)] wr fun e w' => e = .returned (.bool false) ∧ w' = wr) := C1
        clear C1 hc hget
        generalize l[k] = c at *
        go_wp2_with fail
        refine C1'.out.mono ?_
        rintro e w1 ⟨rfl, rfl⟩
        go_wp2
        go_roundw
        case rel => exact ⟨k + 1, by omega, by go_num, trivial, HD2.out⟩
        case measure => simp [intOf]; omega
    · have hD : l.drop k = y := by rw [← HD.out]; exact (Tk.dw_end (by omega)).symm
      have T1 := T.out hD
      have T1' : Hid (Calls Tryz.prog 125 #[.pointer (some ⟨b, 0, none⟩), .int .i64 k] wr fun e w' => e = .returned (.string (B x)) ∧ Rd w' b y ∧ Kept wr w' [b]) := T1
      clear T1 hD
      go_wp2_with fail
      refine T1'.out.mono ?_
      rintro e w2 ⟨rfl, h3, h4⟩
      have H3 : Hid (Rd w2 b y) := h3
      have H4 : Hid (Kept wr w2 [b]) := h4
      clear h3 h4
      go_wp2
      go_ret
      exact ⟨rfl, H3.out, H4.out⟩

theorem noneOf_any (s : List UInt8) (w : World) :
    Calls Tryz.prog 194 #[.string (B s)] w fun e w' => e = .returned (.func (.func 244) #[] #[.pointer (some ⟨w.heap.size, 0, none⟩)]) ∧ Blk w' w.heap.size [.string (B s)] 9 ∧ Below w.heap.size w w' := by
  go_enter Tryz.func194, Tryz.ntmps194
  go_wp2
  go_ret
  exact ⟨rfl, Blk.new w [.string (B s)] 9, (Below.refl _ _).alloc (Nat.le_refl _) _⟩
theorem noneIn_any (a : Nat) (s : List UInt8) (c : UInt8) (w : World) (hA : Blk w a [.string (B s)] 9) :
    Calls Tryz.prog 244 #[.int .u8 c.toNat, .pointer (some ⟨a, 0, none⟩)] w fun e w' => e = .returned (.bool (!Tk.inS s c)) ∧ w' = w := by
  have c0 : w.cell? ⟨a, 0, none⟩ = some (.string (B s)) := hA.cell 0
  have hI := Tryz.strings_IndexByte (B s) (c.toNat : Int) w
  rw [show ((c.toNat : Int)).toNat.toUInt8 = c by simp, B_data] at hI
  unfold Tk.inS
  generalize Lib.indexByte s c = x at *
  have HI : Hid (Calls Tryz.prog 70 #[.string (B s), .int .u8 c.toNat] w fun e w' => e = .returned (.int .i64 x) ∧ w' = w) := hI
  clear hI hA
  by_cases hx : 0 ≤ x
  all_goals
    go_enter Tryz.func244, Tryz.ntmps244
    go_wp2_with fail
    refine HI.out.mono ?_
    rintro e w1 ⟨rfl, rfl⟩
    go_wp2
    go_ret
    exact ⟨by simp [hx], rfl⟩

set_option maxRecDepth 100000 in
set_option maxHeartbeats 1600000 in
theorem upTo_none (a b : Nat) (p : UInt8 → Bool) (s l : List UInt8) (w : World) (hp : ∀ c, (!Tk.inS s c) = !p c) (hR : Rd w b l) (hA : Blk w a [.string (B s)] 9) (hl : l.length ≤ 20000) :
    Calls Tryz.prog 122 #[.pointer (some ⟨b, 0, none⟩), .func (.func 244) #[] #[.pointer (some ⟨a, 0, none⟩)]] w fun e w' => e = .returned (.string (B (l.takeWhile p))) ∧ Rd w' b (l.dropWhile p) ∧ Kept w w' [b] := by
  have c0 := hR.cell
  have z1 := B_size l
  have HR : Hid (Rd w b l) := hR
  have HC : Hid (∀ c : UInt8, Calls Tryz.prog 244 #[.int .u8 c.toNat, .pointer (some ⟨a, 0, none⟩)] w fun e w' => e = .returned (.bool (!p c)) ∧ w' = w) := fun c => by
    have := noneIn_any a s c w hA
    rw [hp c] at this
    exact this
  clear hR hA hp
  obtain ⟨x, hx⟩ : ∃ x, l.takeWhile p = x := ⟨_, rfl⟩
  obtain ⟨y, hy⟩ : ∃ y, l.dropWhile p = y := ⟨_, rfl⟩
  rw [hx, hy]
  have HX : Hid (l.takeWhile p = x) := hx
  have HY : Hid (l.dropWhile p = y) := hy
  clear hx hy
  go_enter Tryz.func122, Tryz.ntmps122
  go_wp2
  go_loopw [5] (fun i wr => ∃ k : Nat, k ≤ l.length ∧ i = .int .i64 k ∧ wr = w ∧ (l.drop k).dropWhile p = y) (fun i _ => l.length - (intOf i).toNat)
  case atStart => exact ⟨0, Nat.zero_le _, rfl, rfl, HY.out⟩
  case round =>
    obtain ⟨k, hk, rfl, rfl, hd⟩ := hrel
    have HD : Hid ((l.drop k).dropWhile p = y) := hd
    clear hd
    have T : Hid (l.drop k = y → Calls Tryz.prog 125 #[.pointer (some ⟨b, 0, none⟩), .int .i64 k] wr fun e w' => e = .returned (.string (B x)) ∧ Rd w' b y ∧ Kept wr w' [b]) := fun h => by
      have t := take_any b k l wr HR.out hk
      have h0 := Tk.tw_of_dw (l := l) (p := p) (i := 0) (k := k) (Nat.zero_le _) hk (by rw [h, List.drop_zero, HY.out])
      rw [List.drop_zero, Nat.sub_zero, HX.out] at h0
      rw [h0, h] at t
      exact t
    by_cases hlt : k < l.length
    · have hix := run_index_at (B l) k (by rw [z1]; exact hlt)
      have hget : (B l)[k]'(by rw [z1]; exact hlt) = l[k] := by simp [B, ByteArray.getElem_eq_getElem_data]
      rw [hget] at hix
      have C1 := HC.out l[k]
      cases hc : p l[k]
      · have hD : l.drop k = y := by rw [← HD.out]; exact (Tk.dw_stop hlt hc).symm
        have T1 := T.out hD
        rw [hc] at C1
        have C1' : Hid (Calls Tryz.prog 244 #[.int .u8 l[k].toNat, .pointer (some ⟨a, 0, none⟩)] wr fun e w' => e = .returned (.bool true) ∧ w' = wr) := C1
        have T1' : Hid (Calls Tryz.prog 125 #[.pointer (some ⟨b, 0, none⟩), .int .i64 k] wr fun e w' => e = .returned (.string (B x)) ∧ Rd w' b y ∧ Kept wr w' [b]) := T1
        clear C1 T1 hD hc hget
        generalize l[k] = c at *
        go_wp2_with fail
        refine C1'.out.mono ?_
        rintro e w1 ⟨rfl, rfl⟩
        go_wp2_with fail
        refine T1'.out.mono ?_
        rintro e w2 ⟨rfl, h3, h4⟩
        have H3 : Hid (Rd w2 b y) := h3
        have H4 : Hid (Kept w1 w2 [b]) := h4
        clear h3 h4
        go_wp2
        go_ret
        exact ⟨rfl, H3.out, H4.out⟩
      · have HD2 : Hid ((l.drop (k + 1)).dropWhile p = y) := (Tk.dw_go hlt hc).trans HD.out
        rw [hc] at C1
        have C1' : Hid (Calls Tryz.prog 244 #[.int .u8 l[k].toNat, .pointer (some ⟨a, 0, none⟩)] wr fun e w' => e = .returned (.bool false) ∧ w' = wr) := C1
        clear C1 hc hget
        generalize l[k] = c at *
        go_wp2_with fail
        refine C1'.out.mono ?_
        rintro e w1 ⟨rfl, rfl⟩
        go_wp2
        go_roundw
        case rel => exact ⟨k + 1, by omega, by go_num, trivial, HD2.out⟩
        case measure => simp [intOf]; omega
    · have hD : l.drop k = y := by rw [← HD.out]; exact (Tk.dw_end (by omega)).symm
      have T1 := T.out hD
      have T1' : Hid (Calls Tryz.prog 125 #[.pointer (some ⟨b, 0, none⟩), .int .i64 k] wr fun e w' => e = .returned (.string (B x)) ∧ Rd w' b y ∧ Kept wr w' [b]) := T1
      clear T1 hD
      go_wp2_with fail
      refine T1'.out.mono ?_
      rintro e w2 ⟨rfl, h3, h4⟩
      have H3 : Hid (Rd w2 b y) := h3
      have H4 : Hid (Kept wr w2 [b]) := h4
      clear h3 h4
      go_wp2
      go_ret
      exact ⟨rfl, H3.out, H4.out⟩
end Go.Proofs.YtbhcklkbckacpaaGreatDoor

/-
  Slices in memory: rows of cells, of bytes, of tokens; slices.Equal at two lists of tokens.
-/
namespace Go.Proofs.YtbhcklkbckacpaaGreatDoor
open Go.RowKit

def tkC (k : Tk) : List Value := [.int .i64 k.kind, .string (B k.name), .string (B k.text), .string (B k.href)]
def tkA (k : Tk) : Value := .agg #[.int .i64 k.kind, .string (B k.name), .string (B k.text), .string (B k.href)]
def tkCells (l : List Tk) : List Value := l.flatMap tkC
theorem tkCells_cons (k : Tk) (l : List Tk) : tkCells (k :: l) = .int .i64 k.kind :: .string (B k.name) :: .string (B k.text) :: .string (B k.href) :: tkCells l := rfl
theorem tkCells_app (l l' : List Tk) : tkCells (l ++ l') = tkCells l ++ tkCells l' := List.flatMap_append
theorem tkCells_one (k : Tk) : tkCells [k] = tkC k := by simp [tkCells]
theorem tkCells_len : ∀ l : List Tk, (tkCells l).length = l.length * 4
  | [] => rfl
  | k :: l => by rw [tkCells_cons]; simp only [List.length_cons]; rw [tkCells_len l]; omega
theorem tkCells_at : ∀ (l : List Tk) (i : Nat) (h : i < l.length), (tkCells l)[i * 4]? = some (.int .i64 l[i].kind) ∧ (tkCells l)[i * 4 + 1]? = some (.string (B l[i].name)) ∧ (tkCells l)[i * 4 + 2]? = some (.string (B l[i].text)) ∧ (tkCells l)[i * 4 + 3]? = some (.string (B l[i].href))
  | [], _, h => by simp at h
  | k :: l, 0, _ => ⟨rfl, rfl, rfl, rfl⟩
  | k :: l, i + 1, h => by
    have := tkCells_at l i (by simpa using h)
    rw [tkCells_cons, show (i + 1) * 4 = i * 4 + 1 + 1 + 1 + 1 by omega]
    exact this
theorem tkCells_oneCell (l : List Tk) : ∀ u ∈ tkCells l, u.oneCell' = true := by
  intro u hu
  obtain ⟨k, _, h⟩ := List.mem_flatMap.1 hu
  simp only [tkC, List.mem_cons, List.not_mem_nil, or_false] at h
  rcases h with rfl | rfl | rfl | rfl <;> rfl
abbrev Tks (w : World) (ao : Option Addr) (n cap : Nat) (l : List Tk) : Prop := Row w ao n cap 4 (tkCells l)
theorem Row.toks {w : World} {ao : Option Addr} {n cap : Nat} {l : List Tk} (h : Tks w ao n cap l) : l.length = n := by
  have := h.len
  rw [tkCells_len] at this
  omega
theorem Row.tok {w : World} {ao : Option Addr} {n cap : Nat} {l : List Tk} (h : Tks w ao n cap l) (hn : n ≠ 0) : ∃ b off, ao = some ⟨b, off, none⟩ ∧ ∀ i (hi : i < l.length),
    w.cell? ⟨b, off + i * 4, none⟩ = some (.int .i64 l[i].kind) ∧ w.cell? ⟨b, off + i * 4 + 1, none⟩ = some (.string (B l[i].name)) ∧ w.cell? ⟨b, off + i * 4 + 2, none⟩ = some (.string (B l[i].text)) ∧ w.cell? ⟨b, off + i * 4 + 3, none⟩ = some (.string (B l[i].href)) := by
  obtain ⟨b, off, he, hc⟩ := h.lies hn
  refine ⟨b, off, he, fun i hi => ?_⟩
  obtain ⟨h0, h1, h2, h3⟩ := tkCells_at l i hi
  exact ⟨hc _ _ h0, by rw [Nat.add_assoc]; exact hc _ _ h1, by rw [Nat.add_assoc]; exact hc _ _ h2, by rw [Nat.add_assoc]; exact hc _ _ h3⟩
abbrev Byt (w : World) (ao : Option Addr) (n cap : Nat) (l : List UInt8) : Prop := Row w ao n cap 1 (l.map b8)
theorem Row.bytes {w : World} {ao : Option Addr} {n cap : Nat} {l : List UInt8} (h : Byt w ao n cap l) : l.length = n := by
  have := h.len
  rw [List.length_map] at this
  omega
theorem Row.byte {w : World} {ao : Option Addr} {n cap : Nat} {l : List UInt8} (h : Byt w ao n cap l) (hn : n ≠ 0) : ∃ b off, ao = some ⟨b, off, none⟩ ∧ ∀ i (hi : i < l.length), w.cell? ⟨b, off + i, none⟩ = some (.int .u8 l[i].toNat) := by
  obtain ⟨b, off, he, hc⟩ := h.lies hn
  exact ⟨b, off, he, fun i hi => hc i _ (by simp [b8, List.getElem?_eq_getElem hi])⟩

theorem conv_byt {w : World} {ao : Option Addr} {n cap : Nat} {l : List UInt8} (h : Byt w ao n cap l) : (convert 22 9 (.slice ao n cap)).run Tryz.prog w = .ok (.string (B l)) w := by
  have hl := h.bytes
  cases ao with
  | none =>
    have hn : n = 0 := Nat.eq_zero_of_not_pos fun hn => by
      obtain ⟨b, off, he, _⟩ := h.lies (by omega)
      cases he
    subst hn
    obtain rfl : l = [] := List.length_eq_zero_iff.1 hl
    exact run_convert_bytes_nil w 22 5 Tryz.underlying22 Tryz.underlying5 0 cap 9 Tryz.underlying9
  | some a =>
    rw [← hl]
    refine run_convert_bytes_back w 22 9 5 a cap l Tryz.underlying22 Tryz.underlying5 Tryz.underlying9 (fun j hj => ?_)
    obtain ⟨b, off, he, hc⟩ := h.byte (by omega)
    cases he
    have e : (⟨b, off, none⟩ : Addr).add j = ⟨b, off + j, none⟩ := by unfold Addr.add; split <;> simp_all
    rw [e]
    exact hc j hj
def subA (b off cap i : Nat) : Option Addr := if cap = i then some ⟨b, off, none⟩ else some ⟨b, off + i, none⟩
theorem Row.part {w : World} {b off n cap : Nat} {l : List UInt8} (h : Byt w (some ⟨b, off, none⟩) n cap l) (i k : Nat) (hi : i ≤ k) (hk : k ≤ n) : Byt w (subA b off cap i) (k - i) (cap - i) ((l.drop i).take (k - i)) := by
  have hl := h.bytes
  have hr := h.room
  have hb := h.big
  refine ⟨?_, by omega, by omega, fun hn => ⟨b, off + i, ?_, fun j u hu => ?_⟩⟩
  · simp
    omega
  · unfold subA
    rw [if_neg (by omega)]
  · obtain ⟨b', off', he, hc⟩ := h.lies (by omega)
    cases he
    have hj : j < k - i := by
      have := (List.getElem?_eq_some_iff.1 hu).1
      simp at this
      omega
    rw [Nat.add_assoc]
    refine hc (i + j) u ?_
    rw [← hu]
    simp [hj, List.getElem?_drop]
theorem sized1 (w : World) : (sizeOf (Tryz.prog.elem 22)).run Tryz.prog w = .ok 1 w := by
  have h : Tryz.prog.elem 22 = 5 := by kernel_rfl
  rw [h]
  exact Tryz.sizeOf5 w
theorem under_bytes : Tryz.prog.underlying 22 = some (.slice (Tryz.prog.elem 22)) := by kernel_rfl
theorem sliced_sub (b off cap i h : Nat) : sliced (some ⟨b, off, none⟩) i h cap 1 = .slice (subA b off cap i) (h - i) (cap - i) := by
  unfold sliced subA
  have e : (⟨b, off, none⟩ : Addr).add (i * 1) = ⟨b, off + i, none⟩ := by unfold Addr.add; split <;> simp_all
  split
  · rfl
  · simp only [Option.map_some, e]
theorem slice_lh (b off n cap i k : Nat) (hi : i ≤ k) (hk : k ≤ n) (hc : n ≤ cap) (w : World) : (Instr.slice 22 (.slice (some ⟨b, off, none⟩) n cap) (some (.int .i64 i)) (some (.int .i64 k)) none).run Tryz.prog w = .ok (.slice (subA b off cap i) (k - i) (cap - i)) w := by
  rw [run_slice_lh (P := Tryz.prog) (w := w) 22 _ n cap under_bytes .i64 .i64 (i : Int) (k : Int) (by omega) (by omega) (by omega), sized1]
  simp only [Result.andThen, Int.toNat_natCast, sliced_sub]
theorem slice_l (b off n cap i : Nat) (hi : i ≤ n) (w : World) : (Instr.slice 22 (.slice (some ⟨b, off, none⟩) n cap) (some (.int .i64 i)) none none).run Tryz.prog w = .ok (.slice (subA b off cap i) (n - i) (cap - i)) w := by
  rw [run_slice_l (P := Tryz.prog) (w := w) 22 _ n cap under_bytes .i64 (i : Int) (by omega) (by omega), sized1]
  simp only [Result.andThen, Int.toNat_natCast, sliced_sub]

namespace Tk
def alike (x y : Tk) : Bool := (x.kind == y.kind) && ((x.name == y.name) && ((x.text == y.text) && (x.href == y.href)))
def same : List Tk → List Tk → Bool
  | [], [] => true
  | x :: s, y :: t => alike x y && same s t
  | _, _ => false
theorem alike_self (x : Tk) : alike x x = true := by unfold alike; simp
theorem same_self : ∀ l : List Tk, same l l = true
  | [] => rfl
  | x :: t => by rw [same, alike_self, same_self t]; rfl
theorem same_len : ∀ (s t : List Tk), ¬ s.length = t.length → same s t = false
  | [], [], h => absurd rfl h
  | [], _ :: _, _ => rfl
  | _ :: _, [], _ => rfl
  | x :: s, y :: t, h => by
    rw [same, same_len s t (by simpa using h), Bool.and_false]
theorem same_step (s t : List Tk) (k : Nat) (h : k < s.length) (h' : k < t.length) : same (s.drop k) (t.drop k) = (alike s[k] t[k] && same (s.drop (k + 1)) (t.drop (k + 1))) := by
  rw [List.drop_eq_getElem_cons h, List.drop_eq_getElem_cons h', same]
end Tk
theorem guardTk : Tryz.prog.eqGuardType Tryz.prog.depth 30 = false := by kernel_rfl
theorem heldTk : Tryz.prog.stoodInHeld 30 = false := by kernel_rfl
theorem underTk : Tryz.prog.underlying 30 = some (.struct (Tryz.prog.fieldsOf 30)) := by kernel_rfl
theorem toList_B (l : List UInt8) : (B l).toList = l := by
  have h := Lib.extract_toList (B l) 0 (B l).size
  have e : (B l).extract 0 (B l).size = B l := by
    apply ext_list
    rw [Lib.extract_data, B_size]
    simp [B_data]
  rw [e] at h
  rw [h, B_size]
  simp [B_data]
theorem neq_toks (x y : Tk) (w : World) : (binOp .neq 30 (.agg #[.int .i64 x.kind, .string (B x.name), .string (B x.text), .string (B x.href)]) (.agg #[.int .i64 y.kind, .string (B y.name), .string (B y.text), .string (B y.href)])).run Tryz.prog w = .ok (.bool (!Tk.alike x y)) w := by
  rw [run_neq_struct, run_equalIn_agg w 9999 30 _ _ underTk heldTk]
  have hu := Tryz.underlying30
  simp [go_sem, hu, Program.fieldsOf, toList_B]
  unfold Tk.alike
  by_cases h1 : x.kind = y.kind
  · by_cases h2 : x.name = y.name
    · by_cases h3 : x.text = y.text
      · by_cases h4 : x.href = y.href
        · simp [h1, h2, h3, h4]
        · simp [h1, h2, h3, h4]
      · simp [h1, h2, h3]
    · simp [h1, h2]
  · simp [h1]

set_option maxRecDepth 100000 in
set_option maxHeartbeats 1600000 in
theorem equalTk_any (ao ao' : Option Addr) (n cap n' cap' : Nat) (l l' : List Tk) (w : World) (hD : Tks w ao n cap l) (hD' : Tks w ao' n' cap' l') :
    Calls Tryz.prog 11 #[.slice ao n cap, .slice ao' n' cap'] w fun e w' => e = .returned (.bool (Tk.same l l')) ∧ ∃ m, w' = w.drewN m := by
  have HD : Hid (Tks w ao n cap l) := hD
  have HD' : Hid (Tks w ao' n' cap' l') := hD'
  have hcap := hD.room
  have hbig := hD.big
  clear hD hD'
  obtain ⟨r, hr⟩ : ∃ r, Tk.same l l' = r := ⟨_, rfl⟩
  have HR : Hid (Tk.same l l' = r) := hr
  rw [hr]
  clear hr
  by_cases hnn : n = n'
  · subst hnn
    have hg := guardTk
    go_enter Tryz.func11, Tryz.ntmps11
    go_wp2
    go_loopw [13] (fun i wr => ∃ k : Nat, k ≤ n ∧ i = .int .i64 k ∧ (∃ m, wr = w.drewN m) ∧ Tk.same (l.drop k) (l'.drop k) = r) (fun i _ => n - (intOf i).toNat)
    case atStart => exact ⟨0, Nat.zero_le _, rfl, ⟨0, rfl⟩, HR.out⟩
    case round =>
      obtain ⟨k, hk, rfl, ⟨m, rfl⟩, hsm⟩ := hrel
      have HM : Hid (Tk.same (l.drop k) (l'.drop k) = r) := hsm
      clear hsm
      by_cases hlt : k < n
      · obtain ⟨b, off, rfl, A0⟩ := HD.out.tok (by omega)
        obtain ⟨b', off', rfl, A0'⟩ := HD'.out.tok (by omega)
        have h1 : k < l.length := by rw [HD.out.toks]; exact hlt
        have h2 : k < l'.length := by rw [HD'.out.toks]; exact hlt
        obtain ⟨ha0, ha1, ha2, ha3⟩ := A0 k h1
        obtain ⟨hx0, hx1, hx2, hx3⟩ := A0' k h2
        have HX : Hid (Tk.same (l.drop k) (l'.drop k) = (Tk.alike l[k] l'[k] && Tk.same (l.drop (k + 1)) (l'.drop (k + 1)))) := Tk.same_step l l' k h1 h2
        clear A0 A0'
        generalize l[k] = x at *
        generalize l'[k] = y at *
        clear h1 h2
        have hq := neq_toks x y
        cases hal : Tk.alike x y
        · have hrr : r = false := by rw [← HM.out, HX.out, hal]; rfl
          subst hrr
          rw [hal] at hq
          clear hal
          go_wp2
          go_quiet (fail)
          go_wp2
          go_ret
          exact ⟨rfl, _, (World.drewN_drewN _ _ _)⟩
        · have HM2 : Hid (Tk.same (l.drop (k + 1)) (l'.drop (k + 1)) = r) := by show _ = _; rw [← HM.out, HX.out, hal, Bool.true_and]
          rw [hal] at hq
          clear hal
          go_wp2
          go_quiet (fail)
          go_wp2
          go_roundw
          case rel => exact ⟨k + 1, by omega, by go_num, ⟨_, rfl⟩, HM2.out⟩
          case measure => simp [intOf]; omega
      · have hrr : r = true := by
          rw [← HM.out, List.drop_eq_nil_of_le (by rw [HD.out.toks]; omega), List.drop_eq_nil_of_le (by rw [HD'.out.toks]; omega)]
          rfl
        subst hrr
        go_wp2
        go_ret
        exact ⟨rfl, m, rfl⟩
  · have hrr : r = false := HR.out.symm.trans (Tk.same_len _ _ (by rw [HD.out.toks, HD'.out.toks]; exact hnn))
    subst hrr
    go_enter Tryz.func11, Tryz.ntmps11
    go_wp2
    go_ret
    exact ⟨rfl, 0, rfl⟩
end Go.Proofs.YtbhcklkbckacpaaGreatDoor

/-
  The reference's isSpace, isLetter, and the inner functions of its Tokens: the byte at a place, and what stands behind the next of a text.
-/
namespace Go.Proofs.YtbhcklkbckacpaaGreatDoor
open Go.RowKit

theorem space_any (c : UInt8) (w : World) : Calls Tryz.prog 59 #[.int .u8 c.toNat] w fun e w' => e = .returned (.bool (Tk.sp c)) ∧ w' = w := by
  have hI := Tryz.strings_IndexByte (B [32, 9, 10, 13, 12]) (c.toNat : Int) w
  rw [show ((c.toNat : Int)).toNat.toUInt8 = c by simp, B_data] at hI
  rw [← Tk.in_sp]
  unfold Tk.inS
  generalize Lib.indexByte [32, 9, 10, 13, 12] c = x at *
  have HI : Hid (Calls Tryz.prog 70 #[.string (B [32, 9, 10, 13, 12]), .int .u8 c.toNat] w fun e w' => e = .returned (.int .i64 x) ∧ w' = w) := hI
  clear hI
  by_cases hx : 0 ≤ x
  all_goals
    go_enter Tryz.func59, Tryz.ntmps59
    go_wp2_with fail
    refine HI.out.mono ?_
    rintro e w1 ⟨rfl, rfl⟩
    go_wp2
    go_ret
    exact ⟨by simp [hx], rfl⟩

theorem at_in (h bb off n cap i : Nat) (l : List UInt8) (w : World) (hX : Blk w h [.slice (some ⟨bb, off, none⟩) n cap] 22) (hB : Byt w (some ⟨bb, off, none⟩) n cap l) (hi : i < l.length) :
    Calls Tryz.prog 53 #[.int .i64 i, .pointer (some ⟨h, 0, none⟩)] w fun e w' => e = .returned (.int .u8 l[i].toNat) ∧ w' = w := by
  have c0 : w.cell? ⟨h, 0, none⟩ = some (.slice (some ⟨bb, off, none⟩) n cap) := hX.cell 0
  have hll := hB.bytes
  have hcap := hB.room
  have hbig := hB.big
  obtain ⟨b', off', he, hc⟩ := hB.byte (by omega)
  cases he
  have c1 := hc i hi
  rw [hll] at hi
  clear hX hB hc
  generalize l[i] = c at *
  clear hll
  go_enter Tryz.func53, Tryz.ntmps53
  go_wp2
  go_ret
  exact ⟨rfl, rfl⟩
theorem at_out (h bb off n cap i : Nat) (w : World) (hX : Blk w h [.slice (some ⟨bb, off, none⟩) n cap] 22) (hi : n ≤ i) :
    Calls Tryz.prog 53 #[.int .i64 i, .pointer (some ⟨h, 0, none⟩)] w fun e w' => e = .returned (.int .u8 0) ∧ w' = w := by
  have c0 : w.cell? ⟨h, 0, none⟩ = some (.slice (some ⟨bb, off, none⟩) n cap) := hX.cell 0
  clear hX
  go_enter Tryz.func53, Tryz.ntmps53
  go_wp2
  go_ret
  exact ⟨rfl, rfl⟩
def Fd (l : List UInt8) (i : Nat) (s : List UInt8) (k : Nat) : Prop := (Lib.index (l.drop i) s = -1 ∧ k = l.length) ∨ ∃ j : Nat, Lib.index (l.drop i) s = j ∧ k = i + j + s.length ∧ i + j + s.length ≤ l.length
set_option maxRecDepth 100000 in
set_option maxHeartbeats 400000 in
theorem find_any (h bb off n cap i : Nat) (l s : List UInt8) (w : World) (hX : Blk w h [.slice (some ⟨bb, off, none⟩) n cap] 22) (hB : Byt w (some ⟨bb, off, none⟩) n cap l) (hM : Mxl w) (hn : n ≤ 20000) (hi : i ≤ 30000) (hs : s ≠ []) (hs3 : s.length ≤ 3) :
    Calls Tryz.prog 54 #[.int .i64 i, .string (B s), .pointer (some ⟨h, 0, none⟩)] w fun e w' => (∃ k : Nat, e = .returned (.int .i64 k) ∧ Fd l i s k) ∧ w' = w := by
  have c0 : w.cell? ⟨h, 0, none⟩ = some (.slice (some ⟨bb, off, none⟩) n cap) := hX.cell 0
  have hll := hB.bytes
  have hcap := hB.room
  have hbig := hB.big
  have zs := B_size s
  have hs1 : 1 ≤ s.length := by cases s with | nil => exact absurd rfl hs | cons => simp
  obtain ⟨m, hm⟩ := hM
  have hF := Tk.after_index s hs (l.drop i)
  rw [List.length_drop, hll] at hF
  obtain ⟨M, hMM⟩ : ∃ M, M = min i n := ⟨_, rfl⟩
  have hMn : M ≤ n := by omega
  have hdrop : l.drop M = l.drop i := by
    by_cases hin : i ≤ n
    · rw [hMM, Nat.min_eq_left hin]
    · rw [hMM, Nat.min_eq_right (by omega), List.drop_eq_nil_of_le (by omega), List.drop_eq_nil_of_le (by omega)]
  have hsl := slice_l bb off n cap M hMn
  have hP := hB.part M n hMn (Nat.le_refl _)
  rw [List.take_of_length_le (by rw [List.length_drop]; omega), hdrop] at hP
  have hcv := conv_byt hP
  have hI := Tryz.strings_Index (B (l.drop i)) (B s) m w (by rw [B_size, List.length_drop]; omega) hm
  rw [B_data, B_data] at hI
  have HFd : Hid (∀ k, Fd l i s k → Fd l i s k) := fun _ h => h
  have HL : Hid (l.length = n) := hll
  have HI : Hid (Calls Tryz.prog 55 #[.string (B (l.drop i)), .string (B s)] w fun e w' => e = .returned (.int .i64 (Lib.index (l.drop i) s)) ∧ w' = w) := hI
  clear hX hB hP hI hm hdrop hll hs
  generalize subA bb off cap M = sa at *
  have hmin : min (i : Int) (n : Int) = (M : Int) := by omega
  clear hMM
  rcases hF with ⟨hx, _⟩ | ⟨j, hx, hj, _⟩
  · have HE : Hid (Fd l i s n) := .inl ⟨hx, HL.out.symm⟩
    rw [hx] at HI
    clear hx
    go_enter Tryz.func54, Tryz.ntmps54
    go_wp2_with fail
    refine HI.out.mono ?_
    rintro e w1 ⟨rfl, rfl⟩
    go_wp2
    go_ret
    exact ⟨⟨n, rfl, HE.out⟩, rfl⟩
  · have HE : Hid (Fd l i s (i + j + s.length)) := .inr ⟨j, hx, rfl, by have := HL.out; omega⟩
    rw [hx] at HI
    clear hx
    generalize s.length = sn at *
    have hw1 : IntKind.i64.wrap ((i : Int) + (j : Int)) = (i : Int) + (j : Int) := IntWalk.i64_in _ ⟨by omega, by omega⟩
    go_enter Tryz.func54, Tryz.ntmps54
    go_wp2_with fail
    refine HI.out.mono ?_
    rintro e w1 ⟨rfl, rfl⟩
    go_wp2
    go_ret
    exact ⟨⟨i + j + sn, by go_num, HE.out⟩, rfl⟩

theorem conv_one (d : UInt8) (g : Nat) (W : World) (h : W.cell? ⟨g, 0, none⟩ = some (.int .u8 d.toNat)) : (convert 22 9 (.slice (some ⟨g, 0, none⟩) 1 1)).run Tryz.prog W = .ok (.string ⟨#[d]⟩) W := by
  have := run_convert_bytes_back (P := Tryz.prog) W 22 9 5 ⟨g, 0, none⟩ 1 [d] Tryz.underlying22 Tryz.underlying5 Tryz.underlying9 (fun j hj => by
    simp at hj
    subst hj
    exact h)
  exact this

end Go.Proofs.YtbhcklkbckacpaaGreatDoor
