/-
  (*strings.appendSliceWriter).WriteString: a text is laid behind what the buffer holds; strings.getStringWriter of such a writer: itself.
-/
import Derived.Test.YtbhcklkbckacpaaGreatDoorG0
import Derived.Handy
namespace Go.Proofs.YtbhcklkbckacpaaGreatDoor
open Go.RowKit

def Bufr (B vb : Nat) (l : List UInt8) (W0 w : World) : Prop := ∃ v, Blk w vb [v] 410 ∧ Lib.OwnBuf B 5 v l.length (l.map b8) W0 w ∧ B ≤ vb

abbrev pw (vb : Nat) : Value := .pointer (some ⟨vb, 0, none⟩)
abbrev sw (vb : Nat) : Value := .iface 411 (pw vb)

theorem own_slice {B n : Nat} {v : Value} {xs : List Value} {W0 w : World} (h : Lib.OwnBuf B 5 v n xs W0 w) : ∃ ad n' c', v = .slice ad n' c' := by
  rcases h.1.2 with ⟨hv, _⟩ | ⟨g, cap, cur, fz, hv, _⟩
  · exact ⟨_, _, _, hv⟩
  · exact ⟨_, _, _, hv⟩
theorem len_eq (s : ByteArray) : s.data.toList.length = s.size := by simp
theorem buf_set {B n vb : Nat} {v x : Value} {xs : List Value} {W0 w : World} (h : Lib.OwnBuf B 5 v n xs W0 w) (hB : B ≤ vb) (hv : Blk w vb [x] 410) (y : Value) : Lib.OwnBuf B 5 v n xs W0 (w.setCell ⟨vb, 0, none⟩ y) := by
  obtain ⟨⟨hl, hvv⟩, hW, hs⟩ := h
  refine ⟨⟨hl, ?_⟩, hW.setCell hB y, by simpa using hs⟩
  rcases hvv with hn | ⟨g, cap, cur, fz, hv1, hg0, hg, hrest⟩
  · exact .inl hn
  · refine .inr ⟨g, cap, cur, fz, hv1, hg0, (Below.heap_setCell w ⟨vb, 0, none⟩ y g ?_).trans hg, hrest⟩
    intro e
    have e' : g = vb := e
    subst e'
    unfold Blk at hv
    rw [hg] at hv
    simp at hv

set_option maxRecDepth 100000 in
set_option maxHeartbeats 800000 in
theorem gsw_any (vb : Nat) (w : World) : Calls Tryz.prog 359 #[sw vb] w fun e w' => e = .returned (sw vb) ∧ w' = w := by
  have hta : ∀ w, (Instr.typeAssert (sw vb) 413 415 true).run Tryz.prog w = .ok (.tuple #[sw vb, .bool true]) w := fun _ => by kernel_rfl
  go_enter Tryz.func359, Tryz.ntmps359
  go_wp2
  go_ret
  exact ⟨rfl, rfl⟩

set_option maxRecDepth 100000 in
set_option maxHeartbeats 800000 in
theorem asw_any (B vb : Nat) (l : List UInt8) (W0 w : World) (s : ByteArray) (h : Bufr B vb l W0 w) (hlen : l.length + s.size ≤ 140737488355328) :
    Calls Tryz.prog 372 #[pw vb, .string s] w fun e w' => e = .returned (.tuple #[.int .i64 s.size, .nilIface]) ∧ Bufr B vb (l ++ s.data.toList) W0 w' := by
  obtain ⟨v, hv, hb, hB⟩ := h
  have hc : w.cell? ⟨vb, 0, none⟩ = some v := hv.cell 0
  have HV : Hid (Blk w vb [v] 410) := hv
  have HB : Hid (Lib.OwnBuf B 5 v l.length (l.map b8) W0 w) := hb
  clear hv hb
  obtain ⟨i5, hi, hz0, hz1, hz2⟩ := info_parts Tryz.info5w
  go_enter Tryz.func372, Tryz.ntmps372
  go_wp2_with (at_builtin; refine Lib.wpList_append_own_stringF _ rfl (.tmp 9) (.tmp 10) 410 9 rfl B 5 i5 Tryz.underlying410 Tryz.underlying9 hi hz0 hz1 hz2 v l.length (l.map b8) rfl HB.out.1 s rfl ?_ ?_ HB.out.2.2 ?_)
  · unfold maxLen; omega
  · exact hlen
  · intro v' w1 ho hg _
    have HN : Hid (Blk w1 vb [v] 410) := (hg.block vb HV.out.lt (fun e => Lib.ownBlock_neF HB.out.1 HV.out (by decide) e.symm)).trans HV.out
    have HO : Hid (Lib.OwnBuf B 5 v' (l.length + s.size) (l.map b8 ++ Lib.strCells s) W0 w1) := HB.out.grown ho hg
    clear ho hg
    have hc1 : w1.cell? ⟨vb, 0, none⟩ = some v := HN.out.cell 0
    have hf1 : w1.frozen? ⟨vb, 0, none⟩ = false := HN.out.frozen 0
    obtain ⟨ad, n', c', hv'⟩ := own_slice HO.out
    have HO' : Hid (Lib.OwnBuf B 5 (.slice ad n' c') (l.length + s.size) (l.map b8 ++ Lib.strCells s) W0 w1) := by rw [← hv']; exact HO.out
    rw [hv']
    clear hv' HO
    go_wp2
    go_ret2
    refine ⟨rfl, .slice ad n' c', HN.out.set 0 _, ?_, hB⟩
    have := buf_set HO'.out hB HN.out (.slice ad n' c')
    rw [List.length_append, List.map_append, len_eq]
    exact this
end Go.Proofs.YtbhcklkbckacpaaGreatDoor
