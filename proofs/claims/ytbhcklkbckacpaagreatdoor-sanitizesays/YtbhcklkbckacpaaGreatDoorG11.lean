/-
  Texts of this proof, one behind the other.
-/
import Derived.Test.YtbhcklkbckacpaaGreatDoorG0
import Derived.Test.YtbhcklkbckacpaaGreatDoorG6
import Derived.Test.YtbhcklkbckacpaaGreatDoorG5

/-
  escape.appendWritten: onto a slice of bytes that the call's caller owns, the way in which one byte is written is appended; the variable 'pairs' holding what its initialiser lays.
-/
namespace Go.Proofs.YtbhcklkbckacpaaGreatDoor
open Go.RowKit

def AwPost (B n : Nat) (xs : List Value) (c : UInt8) (W0 : World) (e : Ending) (w' : World) : Prop :=
  ∃ v', e = .returned v' ∧ Lib.OwnBuf B 5 v' (n + (Esc.enc1 c).length) (xs ++ (Esc.enc1 c).map b8) W0 w'

set_option maxRecDepth 100000 in
set_option maxHeartbeats 800000 in
theorem aw_38 (B n : Nat) (v : Value) (xs : List Value) (W0 w : World) (hp : Pairs w) (hb : Lib.OwnBuf B 5 v n xs W0 w) (hn : n + 6 ≤ 140737488355328) :
    Calls Tryz.prog 281 #[v, .int .u8 38] w (AwPost B n xs 38 W0) := by
  obtain ⟨t, fr, hg⟩ := hp
  have Hg : Hid (w.heap[7]? = some (.cells pcells t fr)) := hg
  clear hg
  obtain ⟨i5, hi, hz0, hz1, hz2⟩ := info_parts Tryz.info5w
  have i0 := idx0
  go_enter Tryz.func281, Tryz.ntmps281
  go_wp2_with (refine wpList_load_row rfl 343 _ rfl 7 rfl t _ fr _ Hg.out Tryz.underlying343 rfl sz40 ?_)
  refine wp_loop_rounds 5 ?_
  rw [rounds_succ]
  go_wp2_with (at_builtin; refine Lib.wpList_append_text rfl (.tmp 15) (.tmp 17) 22 9 rfl B 5 i5 Tryz.underlying22 Tryz.underlying9 hi hz0 hz1 hz2 v n xs rfl W0 (hb.alloc _) ⟨#[38, 97, 109, 112, 59]⟩ rfl ?_ ?_)
  · show n + 5 ≤ _; omega
  · intro v' w1 hb1
    go_wp2
    go_ret
    exact ⟨v', rfl, hb1⟩

set_option maxRecDepth 100000 in
set_option maxHeartbeats 800000 in
theorem aw_60 (B n : Nat) (v : Value) (xs : List Value) (W0 w : World) (hp : Pairs w) (hb : Lib.OwnBuf B 5 v n xs W0 w) (hn : n + 6 ≤ 140737488355328) :
    Calls Tryz.prog 281 #[v, .int .u8 60] w (AwPost B n xs 60 W0) := by
  obtain ⟨t, fr, hg⟩ := hp
  have Hg : Hid (w.heap[7]? = some (.cells pcells t fr)) := hg
  clear hg
  obtain ⟨i5, hi, hz0, hz1, hz2⟩ := info_parts Tryz.info5w
  have i0 := idx0
  have i1 := idx1
  have i2 := idx2
  have i3 := idx3
  go_enter Tryz.func281, Tryz.ntmps281
  go_wp2_with (refine wpList_load_row rfl 343 _ rfl 7 rfl t _ fr _ Hg.out Tryz.underlying343 rfl sz40 ?_)
  refine wp_loop_rounds 5 ?_
  rw [rounds_succ]
  go_wp2
  rw [rounds_succ]
  go_wp2_with (at_builtin; refine Lib.wpList_append_text rfl (.tmp 15) (.tmp 17) 22 9 rfl B 5 i5 Tryz.underlying22 Tryz.underlying9 hi hz0 hz1 hz2 v n xs rfl W0 ((hb.alloc _).alloc _) ⟨#[38, 108, 116, 59]⟩ rfl ?_ ?_)
  · show n + 4 ≤ _; omega
  · intro v' w1 hb1
    go_wp2
    go_ret
    exact ⟨v', rfl, hb1⟩

set_option maxRecDepth 100000 in
set_option maxHeartbeats 800000 in
theorem aw_62 (B n : Nat) (v : Value) (xs : List Value) (W0 w : World) (hp : Pairs w) (hb : Lib.OwnBuf B 5 v n xs W0 w) (hn : n + 6 ≤ 140737488355328) :
    Calls Tryz.prog 281 #[v, .int .u8 62] w (AwPost B n xs 62 W0) := by
  obtain ⟨t, fr, hg⟩ := hp
  have Hg : Hid (w.heap[7]? = some (.cells pcells t fr)) := hg
  clear hg
  obtain ⟨i5, hi, hz0, hz1, hz2⟩ := info_parts Tryz.info5w
  have i0 := idx0
  have i1 := idx1
  have i2 := idx2
  have i3 := idx3
  go_enter Tryz.func281, Tryz.ntmps281
  go_wp2_with (refine wpList_load_row rfl 343 _ rfl 7 rfl t _ fr _ Hg.out Tryz.underlying343 rfl sz40 ?_)
  refine wp_loop_rounds 5 ?_
  rw [rounds_succ]
  go_wp2
  rw [rounds_succ]
  go_wp2
  rw [rounds_succ]
  go_wp2_with (at_builtin; refine Lib.wpList_append_text rfl (.tmp 15) (.tmp 17) 22 9 rfl B 5 i5 Tryz.underlying22 Tryz.underlying9 hi hz0 hz1 hz2 v n xs rfl W0 (((hb.alloc _).alloc _).alloc _) ⟨#[38, 103, 116, 59]⟩ rfl ?_ ?_)
  · show n + 4 ≤ _; omega
  · intro v' w1 hb1
    go_wp2
    go_ret
    exact ⟨v', rfl, hb1⟩

set_option maxRecDepth 100000 in
set_option maxHeartbeats 800000 in
theorem aw_34 (B n : Nat) (v : Value) (xs : List Value) (W0 w : World) (hp : Pairs w) (hb : Lib.OwnBuf B 5 v n xs W0 w) (hn : n + 6 ≤ 140737488355328) :
    Calls Tryz.prog 281 #[v, .int .u8 34] w (AwPost B n xs 34 W0) := by
  obtain ⟨t, fr, hg⟩ := hp
  have Hg : Hid (w.heap[7]? = some (.cells pcells t fr)) := hg
  clear hg
  obtain ⟨i5, hi, hz0, hz1, hz2⟩ := info_parts Tryz.info5w
  have i0 := idx0
  have i1 := idx1
  have i2 := idx2
  have i3 := idx3
  go_enter Tryz.func281, Tryz.ntmps281
  go_wp2_with (refine wpList_load_row rfl 343 _ rfl 7 rfl t _ fr _ Hg.out Tryz.underlying343 rfl sz40 ?_)
  refine wp_loop_rounds 5 ?_
  rw [rounds_succ]
  go_wp2
  rw [rounds_succ]
  go_wp2
  rw [rounds_succ]
  go_wp2
  rw [rounds_succ]
  go_wp2_with (at_builtin; refine Lib.wpList_append_text rfl (.tmp 15) (.tmp 17) 22 9 rfl B 5 i5 Tryz.underlying22 Tryz.underlying9 hi hz0 hz1 hz2 v n xs rfl W0 ((((hb.alloc _).alloc _).alloc _).alloc _) ⟨#[38, 113, 117, 111, 116, 59]⟩ rfl ?_ ?_)
  · show n + 6 ≤ _; omega
  · intro v' w1 hb1
    go_wp2
    go_ret
    exact ⟨v', rfl, hb1⟩

set_option maxRecDepth 100000 in
set_option maxHeartbeats 1600000 in
theorem aw_plain (B n : Nat) (v : Value) (xs : List Value) (W0 w : World) (c : UInt8) (h1 : c ≠ 38) (h2 : c ≠ 60) (h3 : c ≠ 62) (h4 : c ≠ 34) (hp : Pairs w) (hb : Lib.OwnBuf B 5 v n xs W0 w) (hn : n + 6 ≤ 140737488355328) :
    Calls Tryz.prog 281 #[v, .int .u8 c.toNat] w (AwPost B n xs c W0) := by
  have he : Esc.enc1 c = [c] := by simp [Esc.enc1, h1, h2, h3, h4]
  have hne : ∀ k : UInt8, c ≠ k → ((k.toNat : Int) == (c.toNat : Int)) = false := fun k hk => beq_eq_false_iff_ne.2 (fun e => hk (UInt8.toNat_inj.1 (by omega)))
  have q1 : ((38 : Int) == (c.toNat : Int)) = false := hne 38 h1
  have q2 : ((60 : Int) == (c.toNat : Int)) = false := hne 60 h2
  have q3 : ((62 : Int) == (c.toNat : Int)) = false := hne 62 h3
  have q4 : ((34 : Int) == (c.toNat : Int)) = false := hne 34 h4
  clear h1 h2 h3 h4 hne
  have HE : Hid (Esc.enc1 c = [c]) := he
  clear he
  obtain ⟨t, fr, hg⟩ := hp
  have Hg : Hid (w.heap[7]? = some (.cells pcells t fr)) := hg
  clear hg
  obtain ⟨i5, hi, hz0, hz1, hz2⟩ := info_parts Tryz.info5w
  have i0 := idx0
  have i1 := idx1
  have i2 := idx2
  have i3 := idx3
  go_enter Tryz.func281, Tryz.ntmps281
  go_wp2_with (refine wpList_load_row rfl 343 _ rfl 7 rfl t _ fr _ Hg.out Tryz.underlying343 rfl sz40 ?_)
  refine wp_loop_rounds 5 ?_
  rw [rounds_succ]
  go_wp2
  rw [rounds_succ]
  go_wp2
  rw [rounds_succ]
  go_wp2
  rw [rounds_succ]
  go_wp2
  rw [rounds_succ]
  go_wp2_with (at_builtin; refine Lib.wpList_append_byte rfl (.tmp 20) (.tmp 22) 22 rfl B 5 i5 Tryz.underlying22 hi hz0 hz1 hz2 v n xs rfl W0 _ c.toNat ((((hb.alloc _).alloc _).alloc _).alloc _) ?_ ?_ ?_)
  · simp [Act.eval, go_sem]
  · omega
  · intro v' w1 hb1
    go_wp2
    go_ret
    exact ⟨v', rfl, by rw [HE.out]; exact hb1⟩

theorem aw_any (B n : Nat) (v : Value) (xs : List Value) (W0 w : World) (c : UInt8) (hp : Pairs w) (hb : Lib.OwnBuf B 5 v n xs W0 w) (hn : n + 6 ≤ 140737488355328) :
    Calls Tryz.prog 281 #[v, .int .u8 c.toNat] w (AwPost B n xs c W0) := by
  by_cases h1 : c = 38
  · subst h1; exact aw_38 B n v xs W0 w hp hb hn
  by_cases h2 : c = 60
  · subst h2; exact aw_60 B n v xs W0 w hp hb hn
  by_cases h3 : c = 62
  · subst h3; exact aw_62 B n v xs W0 w hp hb hn
  by_cases h4 : c = 34
  · subst h4; exact aw_34 B n v xs W0 w hp hb hn
  exact aw_plain B n v xs W0 w c h1 h2 h3 h4 hp hb hn
end Go.Proofs.YtbhcklkbckacpaaGreatDoor

/-
  escape.Write: what it comes to at every text, the variable 'pairs' holding what its initialiser lays.
-/
namespace Go.Proofs.YtbhcklkbckacpaaGreatDoor
open Go.RowKit

set_option maxRecDepth 100000 in
set_option maxHeartbeats 1600000 in
theorem write_ok (s : ByteArray) (w : World) (hp : Pairs w) (hs : s.size ≤ 20000) :
    Calls Tryz.prog 251 #[.string s] w fun e w' => e = .returned (.tuple #[.string ⟨(Esc.wr s.data.toList).toArray⟩, .int .i64 0]) ∧ Below w.heap.size w w' := by
  have HP : Hid (Pairs w) := hp
  have hpos := hp.pos
  clear hp
  obtain ⟨i5, hi, hz0, hz1, hz2⟩ := info_parts Tryz.info5w
  go_enter Tryz.func251, Tryz.ntmps251
  go_wp2_with (at_make; refine wpList_make_own _ rfl _ _ 22 rfl w.heap.size 5 i5 (.int .u8 0) 1 Tryz.underlying22 hi hz0 hz1 _ _ _ s.size rfl rfl (by omega) ?_ ?_ ?_ ?_)
  · rw [hz2]; omega
  · unfold maxLen; omega
  · exact Nat.le_refl _
  intro w1 hown hgrow
  have hob := own_make hown hgrow
  have HO : Hid (Lib.OwnBuf w.heap.size 5 (.slice (some ⟨w.heap.size, 0, none⟩) 0 s.size) 0 [] w w1) := hob
  clear hown hgrow hob
  go_wp2
  go_loopw [4, 5] (fun v i wr => ∃ k : Nat, k ≤ s.size ∧ i = .int .i64 k ∧ Lib.OwnBuf w.heap.size 5 v (Esc.wr (s.data.toList.take k)).length ((Esc.wr (s.data.toList.take k)).map b8) w wr) (fun _ i _ => s.size - (intOf i).toNat)
  case atStart => exact ⟨0, Nat.zero_le _, rfl, by simpa [Esc.wr] using HO.out⟩
  case round =>
    obtain ⟨k, hk, rfl, hob⟩ := hrel
    have HR : Hid (Lib.OwnBuf w.heap.size 5 u4 (Esc.wr (s.data.toList.take k)).length ((Esc.wr (s.data.toList.take k)).map b8) w wr) := hob
    clear hob
    by_cases hlt : k < s.size
    · go_wp2_with fail
      refine (aw_any w.heap.size _ _ _ w _ s[k] (HP.out.below HR.out.2.1 hpos) HR.out ?_).mono ?_
      · have := (Esc.wr_len (s.data.toList.take k)).2
        have h2 : (s.data.toList.take k).length ≤ k := List.length_take_le _ _
        omega
      rintro e w2 ⟨v', rfl, hb2⟩
      have HB : Hid (Lib.OwnBuf w.heap.size 5 v' (Esc.wr (s.data.toList.take (k + 1))).length ((Esc.wr (s.data.toList.take (k + 1))).map b8) w w2) := by
        rw [take_snoc s k hlt, Esc.wr_append, Esc.wr_one, List.length_append, List.map_append]; exact hb2
      clear hb2
      go_wp2
      go_roundw
      case rel => exact ⟨k + 1, by omega, by go_num, HB.out⟩
      case measure => simp [intOf]; omega
    · have hkk : s.data.toList.take k = s.data.toList := List.take_of_length_le (by simp; omega)
      have hcv := conv_esc HR.out
      rw [hkk] at hcv
      go_wp2
      go_ret2
      exact ⟨rfl, HR.out.2.1⟩
end Go.Proofs.YtbhcklkbckacpaaGreatDoor

/-
  Parts of package export: a text in a tag, a text as it is written, the characters of some items.
-/
namespace Go.Proofs.YtbhcklkbckacpaaGreatDoor
open Go.RowKit

theorem B_app (a b : List UInt8) : B a ++ B b = B (a ++ b) := by
  apply ext_list
  rw [B_data]
  show (B a ++ B b).data.toList = _
  rw [ByteArray.data_append, Array.toList_append, B_data, B_data]
theorem B_sz (l : List UInt8) : (B l).size = l.length := B_size l
def tagL (n t : List UInt8) : List UInt8 := [60] ++ n ++ [62] ++ t ++ [60, 47] ++ n ++ [62]

set_option maxHeartbeats 800000 in
theorem tagged_any (n t : List UInt8) (w : World) (hn : n.length ≤ 100) (ht : t.length ≤ 1000000000) : Calls Tryz.prog 212 #[.string (B n), .string (B t)] w fun e w' => e = .returned (.string (B (tagL n t))) ∧ w' = w := by
  have hr : B (tagL n t) = ⟨#[60]⟩ ++ B n ++ ⟨#[62]⟩ ++ B t ++ ⟨#[60, 47]⟩ ++ B n ++ ⟨#[62]⟩ := by
    unfold tagL
    simp only [← B_app]
    rfl
  rw [hr]
  clear hr
  have h1 := B_sz n
  have h2 := B_sz t
  generalize B n = bn at *
  generalize B t = bt at *
  have h3 : bn.size ≤ 100 := by omega
  have h4 : bt.size ≤ 1000000000 := by omega
  clear h1 h2 hn ht
  have s1 : (ByteArray.mk #[60]).size = 1 := rfl
  have s2 : (ByteArray.mk #[62]).size = 1 := rfl
  have s3 : (ByteArray.mk #[60, 47]).size = 2 := rfl
  go_enter Tryz.func212, Tryz.ntmps212
  go_wp2
  go_ret
  exact ⟨rfl, rfl⟩

set_option maxHeartbeats 800000 in
theorem written_any (s : List UInt8) (w : World) (hp : Pairs w) (hs : s.length ≤ 20000) : Calls Tryz.prog 213 #[.string (B s)] w fun e w' => e = .returned (.string (B (Esc.wr s))) ∧ Below w.heap.size w w' := by
  have C : Hid (Calls Tryz.prog 251 #[.string (B s)] w fun e w' => e = .returned (.tuple #[.string (B (Esc.wr s)), .int .i64 0]) ∧ Below w.heap.size w w') := write_ok (B s) w hp (by rw [B_size]; exact hs)
  clear hp hs
  generalize B s = bs at *
  generalize B (Esc.wr s) = br at *
  go_enter Tryz.func213, Tryz.ntmps213
  go_wp2_with fail
  refine C.out.mono ?_
  rintro e w1 ⟨rfl, hb⟩
  have HB : Hid (Below w.heap.size w w1) := hb
  clear hb
  go_wp2
  go_ret
  exact ⟨rfl, HB.out⟩

theorem buf_nil (w : World) : Lib.OwnBuf w.heap.size 5 (.slice none 0 0) 0 [] w w :=
  ⟨World.ownsRowF_of (World.ownsRow_nil _ _ _ _), Below.refl _ _, Nat.le_refl _⟩

set_option maxRecDepth 100000 in
set_option maxHeartbeats 1600000 in
theorem chars_any (ao : Option Addr) (n cap : Nat) (l : List It) (w : World) (hD : Doc w ao n cap l) (h80 : n ≤ 80) :
    Calls Tryz.prog 214 #[.slice ao n cap] w fun e w' => e = .returned (.string (B (l.map It.c))) ∧ Below w.heap.size w w' := by
  have HD : Hid (Doc w ao n cap l) := hD
  have HN : Hid (l.length = n) := hD.len
  have hcap := hD.room
  have hbig := hD.big
  clear hD
  obtain ⟨i5, hi, hz0, hz1, hz2⟩ := info_parts Tryz.info5
  go_enter Tryz.func214, Tryz.ntmps214
  go_wp2
  go_loopw [3, 8] (fun v i wr => ∃ k : Nat, k ≤ n ∧ i = .int .i64 k ∧ Lib.OwnBuf w.heap.size 5 v k (((l.take k).map It.c).map b8) w wr) (fun _ i _ => n - (intOf i).toNat)
  case atStart => exact ⟨0, Nat.zero_le _, rfl, buf_nil w⟩
  case round =>
    obtain ⟨k, hk, rfl, hob⟩ := hrel
    have HO : Hid (Lib.OwnBuf w.heap.size 5 u3 k (((l.take k).map It.c).map b8) w wr) := hob
    clear hob
    by_cases hlt : k < n
    · obtain ⟨b, off, rfl, A0⟩ := HD.out.lies (by omega)
      have hkl : k < l.length := by rw [HN.out]; exact hlt
      obtain ⟨hc0, hc1, hc2⟩ := (A0.below HO.out.2.1).get (List.getElem?_eq_getElem hkl)
      have HT : Hid (l.take (k + 1) = l.take k ++ [l[k]]) := List.take_succ_eq_append_getElem hkl
      generalize l[k] = x at *
      clear A0 hkl
      obtain ⟨xs, hxs⟩ : ∃ xs, ((l.take k).map It.c).map b8 = xs := ⟨_, rfl⟩
      have HX : Hid (((l.take k).map It.c).map b8 = xs) := hxs
      rw [hxs] at HO
      clear hxs
      go_wp2_with (at_builtin; refine Lib.wpList_append_byte rfl (.tmp 12) (.tmp 15) 22 rfl w.heap.size 5 i5 Tryz.underlying22 hi hz0 hz1 hz2 u3 k _ rfl w _ x.c.toNat (HO.out.alloc _) ?_ ?_ ?_)
      · simp [Act.eval, go_sem]
      · omega
      intro v' w1 hb1
      have HB : Hid (Lib.OwnBuf w.heap.size 5 v' (k + 1) (((l.take (k + 1)).map It.c).map b8) w w1) := by show Lib.OwnBuf _ _ _ _ _ _ _; rw [HT.out, List.map_append, List.map_append, HX.out]; exact hb1
      clear hb1
      go_wp2
      go_roundw
      case rel => exact ⟨k + 1, by omega, by go_num, HB.out⟩
      case measure => simp [intOf]; omega
    · have hkk : l.take k = l := List.take_of_length_le (by rw [HN.out]; omega)
      have hcv := conv_esc HO.out
      rw [hkk] at hcv
      have HB : Hid (Below w.heap.size w wr) := HO.out.2.1
      clear HO
      go_wp2
      go_ret
      exact ⟨rfl, HB.out⟩
end Go.Proofs.YtbhcklkbckacpaaGreatDoor

/-
  The reference's WrittenSo: the text as it is written.
-/
namespace Go.Proofs.YtbhcklkbckacpaaGreatDoor
open Go.RowKit

end Go.Proofs.YtbhcklkbckacpaaGreatDoor
