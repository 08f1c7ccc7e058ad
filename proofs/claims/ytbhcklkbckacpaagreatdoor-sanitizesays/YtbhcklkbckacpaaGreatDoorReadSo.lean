/-
  The reference's ReadSo: strings.NewReplacer at the four ways of writing, and its Replace: the text as it is read.
-/
import Derived.Test.YtbhcklkbckacpaaGreatDoorOnce1
import Derived.Test.YtbhcklkbckacpaaGreatDoorGws
namespace Go.Proofs.YtbhcklkbckacpaaGreatDoor
open Go.RowKit

set_option maxRecDepth 100000 in
set_option maxHeartbeats 1600000 in
theorem do_any (pb ob cap : Nat) (ex : List Value) (r : Value) (w : World) (hP : Blk w pb (rep 0 0 r (.slice (some ⟨ob, 0, none⟩) 8 cap)) 246) (hO : Blk w ob (onCells ++ ex) 9) :
    Calls Tryz.prog 200 #[ptr pb, .func (.func 201) #[ptr pb] #[]] w fun e w' => e = .returned (.tuple #[]) ∧ Blk w' pb (rep 1 0 (.iface 325 (ptr w.heap.size)) nilS) 246 ∧ Trie w' w.heap.size ∧ Kept w w' [pb] := by
  have hl := run_call_load (P := Tryz.prog) Tryz.func272 (by kernel_rfl) (by kernel_rfl) (by kernel_rfl) .u32 (by kernel_rfl) (w := w) (a := ⟨pb, 0, none⟩) (x := 0) (hP.cell 0)
  have hnot : ∀ (x : Bool) (w : World), (Op.unary .not (.bool x)).run Tryz.prog w = .ok (.bool (!x)) w := fun _ _ => rfl
  have HS := slow_any pb ob cap ex r w hP hO
  have HS1 : Hid (Calls Tryz.prog 248 #[ptr pb, .func (.func 201) #[ptr pb] #[]] w fun e w' => e = .returned (.tuple #[]) ∧ Blk w' pb (rep 1 0 (.iface 325 (ptr w.heap.size)) nilS) 246 ∧ Trie w' w.heap.size ∧ Kept w w' [pb]) := HS
  clear HS hP hO
  go_enter Tryz.func200, Tryz.ntmps200
  go_wp2_with (go_at_call 247; go_in)
  refine HS1.out.mono ?_
  rintro e w2 ⟨rfl, k1, k2, k3⟩
  have K1 : Hid (Blk w2 pb (rep 1 0 (.iface 325 (ptr w.heap.size)) nilS) 246) := k1
  have K2 : Hid (Trie w2 w.heap.size) := k2
  have K3 : Hid (Kept w w2 [pb]) := k3
  clear k1 k2 k3
  go_wp2
  go_end0
  exact ⟨rfl, K1.out, K2.out, K3.out⟩

theorem conv143 {B n : Nat} {v : Value} {l : List UInt8} {W0 w : World} (h : Lib.OwnBuf B 5 v n (l.map b8) W0 w) : (convert 410 9 v).run Tryz.prog w = .ok (.string ⟨l.toArray⟩) w := by
  obtain ⟨⟨hl, hv⟩, _, _⟩ := h
  have hn : n = l.length := by simpa using hl.symm
  subst hn
  have hown : w.ownsRowF B 5 1 v l.length (l.map b8) := ⟨hl, hv⟩
  rcases hv with ⟨rfl, h0⟩ | ⟨g, cap, cur, fz, rfl, hrest⟩
  · obtain rfl : l = [] := List.length_eq_zero_iff.1 h0
    exact run_convert_bytes_nil w 410 5 Tryz.underlying410 Tryz.underlying5 0 0 9 Tryz.underlying9
  · refine run_convert_bytes_back w 410 9 5 ⟨g, 0, none⟩ cap l Tryz.underlying410 Tryz.underlying5 Tryz.underlying9 (fun j hj => ?_)
    exact hown.cells (g := g) rfl j _ (by simp [b8, List.getElem?_eq_getElem hj])

set_option maxRecDepth 100000 in
set_option maxHeartbeats 1600000 in
theorem grep_any (n : Nat) (s : ByteArray) (w : World) (hT : Trie w n) (hs : s.size ≤ 120000) :
    Calls Tryz.prog 357 #[ptr n, .string s] w fun e w' => e = .returned (.string ⟨(Esc.rd s.data.toList).toArray⟩) ∧ Below w.heap.size w w' := by
  have HT : Hid (Trie w n) := hT
  clear hT
  obtain ⟨i5, hi, hz0, hz1, hz2⟩ := info_parts Tryz.info5w
  go_enter Tryz.func357, Tryz.ntmps357
  go_wp2_with (at_make; refine wpList_make_own _ rfl _ _ 410 rfl w.heap.size 5 i5 (.int .u8 0) 1 Tryz.underlying410 hi hz0 hz1 _ _ _ s.size rfl rfl (by omega) ?_ ?_ ?_ ?_)
  · rw [hz2]; omega
  · unfold maxLen; omega
  · exact Nat.le_refl _
  intro w1 hown hgrow
  have hob := own_make hown hgrow
  have HB : Hid (Bufr w.heap.size w1.heap.size [] w (w1.alloc (.cells #[.slice (some ⟨w.heap.size, 0, none⟩) 0 s.size] 410))) :=
    ⟨_, Blk.new w1 [_] 410, hob.alloc _, hgrow.size⟩
  clear hown hgrow hob
  go_wp2_with fail
  refine (gws_any n w1.heap.size s w _ HT.out hs HB.out).mono ?_
  rintro e w2 ⟨⟨v, rfl⟩, v2, k1, k2, k3⟩
  have hc : w2.cell? ⟨w1.heap.size, 0, none⟩ = some v2 := k1.cell 0
  have hcv := conv143 k2
  have K2 : Hid (Below w.heap.size w w2) := k2.2.1
  clear k1 k2 k3
  go_wp2
  go_ret
  exact ⟨rfl, K2.out⟩

theorem meth_rep (n : Nat) (w : World) : (method 523 325 (ptr n) "Replace").run Tryz.prog w = .ok (357, ptr n) w := by kernel_rfl

set_option maxRecDepth 100000 in
set_option maxHeartbeats 1600000 in
theorem rep_any (pb ob cap : Nat) (ex : List Value) (s : ByteArray) (r : Value) (w : World) (hP : Blk w pb (rep 0 0 r (.slice (some ⟨ob, 0, none⟩) 8 cap)) 246) (hO : Blk w ob (onCells ++ ex) 9) (hs : s.size ≤ 120000) (B : Nat) (hB : B ≤ pb) :
    Calls Tryz.prog 131 #[ptr pb, .string s] w fun e w' => e = .returned (.string ⟨(Esc.rd s.data.toList).toArray⟩) ∧ Below B w w' := by
  have hlt := hP.lt
  have HP : Hid (Blk w pb (rep 0 0 r (.slice (some ⟨ob, 0, none⟩) 8 cap)) 246) := hP
  have HO : Hid (Blk w ob (onCells ++ ex) 9) := hO
  clear hP hO
  have hmf : ∀ (fn : Fn) (first cap : Array Value) (w : World), (Instr.makeFunc fn first cap).run Tryz.prog w = .ok (.func fn first cap) w := fun _ _ _ _ => rfl
  have hme := meth_rep
  go_enter Tryz.func131, Tryz.ntmps131
  go_wp2_with fail
  refine (do_any pb ob cap ex r w HP.out HO.out).mono ?_
  rintro e w1 ⟨rfl, k1, k2, k3⟩
  have hc3 : w1.cell? ⟨pb, 3, none⟩ = some (.iface 325 (ptr w.heap.size)) := k1.cell 3
  have K2 : Hid (Trie w1 w.heap.size) := k2
  have K3 : Hid (Below B w w1) := k3.below (by omega) (by simp; omega)
  clear k1 k2 k3
  go_wp2_with fail
  refine (grep_any w.heap.size s w1 K2.out hs).mono ?_
  rintro e w2 ⟨rfl, k4⟩
  have K4 : Hid (Below B w w2) := K3.out.trans (k4.mono (by have := K3.out.size; omega))
  clear k4
  go_wp2
  go_ret
  exact ⟨rfl, K4.out⟩

theorem Tryz.info9 : (Tryz.prog.info? 9).map (fun i => (i.zero, i.size, i.bytes)) = some (some (.string ⟨#[]⟩), 1, 16) := by kernel_rfl

theorem owns_blk {w : World} {base n : Nat} {v : Value} {xs : List Value} (h : w.ownsRow base 9 1 v n xs) (hn : 0 < n) : ∃ g cap ex, v = .slice (some ⟨g, 0, none⟩) n cap ∧ Blk w g (xs ++ ex) 9 := by
  rcases h.2 with ⟨_, h0⟩ | ⟨g, cap, cur, hv, _, hg, _, _, _, htake⟩
  · omega
  · refine ⟨g, cap, cur.toList.drop (n * 1), hv, ?_⟩
    unfold Blk
    rw [hg, ← htake, List.take_append_drop]

set_option maxRecDepth 100000 in
set_option maxHeartbeats 1600000 in
theorem new_any (ob : Nat) (w : World) (hO : Blk w ob onCells 9) :
    Calls Tryz.prog 130 #[.slice (some ⟨ob, 0, none⟩) 8 8] w fun e w' => ∃ pb ob' cap ex, e = .returned (ptr pb) ∧ w.heap.size ≤ pb ∧ Blk w' pb (rep 0 0 .nilIface (.slice (some ⟨ob', 0, none⟩) 8 cap)) 246 ∧ Blk w' ob' (onCells ++ ex) 9 ∧ Below w.heap.size w w' := by
  have HO : Hid (Blk w ob onCells 9) := hO
  clear hO
  obtain ⟨i9, hi, hz0, hz1, hz2⟩ := info_parts Tryz.info9
  go_enter Tryz.func130, Tryz.ntmps130
  go_wp2_with (at_builtin; refine wpList_append_own _ rfl (.const (.slice none 0 0)) (.tmp 8) 107 rfl w.heap.size 9 i9 (.string ⟨#[]⟩) 1 16 Tryz.underlying107 hi hz0 hz1 hz2 rfl (by decide) _ 0 [] rfl (World.ownsRow_nil _ _ _ _) ⟨ob, 0, none⟩ 8 8 onCells rfl rfl ?_ ?_ ?_ ?_ (Nat.le_refl _) ?_)
  · intro j u hj
    have := HO.out.cell j
    rw [hj] at this
    simpa [Addr.add_mid] using this
  · intro u hu
    simp [onCells, onL] at hu
    rcases hu with rfl | rfl | rfl | rfl | rfl | rfl | rfl | rfl <;> rfl
  · unfold maxLen; omega
  · omega
  · intro v' w1 ho hg _
    obtain ⟨g, cap, ex, hv, hb⟩ := owns_blk ho (by omega)
    have HB : Hid (Blk w1 g (onCells ++ ex) 9) := hb
    have HW : Hid (Below w.heap.size w w1) := (Below.refl _ _).grown hg (Nat.le_refl _) (fun k hk => by cases hk)
    rw [hv]
    clear hv ho hg hb
    go_wp2
    go_ret
    refine ⟨w1.heap.size, g, cap, ex, rfl, HW.out.size, Blk.new w1 (rep 0 0 .nilIface (.slice (some ⟨g, 0, none⟩) 8 cap)) 246, HB.out.alloc _, HW.out.alloc HW.out.size _⟩

set_option maxRecDepth 100000 in
set_option maxHeartbeats 1600000 in
theorem readSo_any (s : ByteArray) (w : World) (hs : s.size ≤ 120000) :
    Calls Tryz.prog 56 #[.string s] w fun e w' => e = .returned (.string ⟨(Esc.rd s.data.toList).toArray⟩) ∧ Below w.heap.size w w' := by
  go_enter Tryz.func56, Tryz.ntmps56
  go_wp2_with fail
  have hO : Blk (w.alloc (.cells onCells.toArray 9)) w.heap.size onCells 9 := Blk.new w onCells 9
  have hsz : (w.alloc (.cells onCells.toArray 9)).heap.size = w.heap.size + 1 := by simp
  have h1 : Below w.heap.size w (w.alloc (.cells onCells.toArray 9)) := (Below.refl _ _).alloc (Nat.le_refl _) _
  refine (new_any w.heap.size (w.alloc (.cells onCells.toArray 9)) hO).mono ?_
  rintro e w1 ⟨pb, ob, cap, ex, rfl, k1, k2, k3, k4⟩
  rw [hsz] at k1 k4
  have K2 : Hid (Blk w1 pb (rep 0 0 .nilIface (.slice (some ⟨ob, 0, none⟩) 8 cap)) 246) := k2
  have K3 : Hid (Blk w1 ob (onCells ++ ex) 9) := k3
  have K4 : Hid (Below w.heap.size w w1) := h1.trans (k4.mono (by omega))
  clear k2 k3 k4 hO hsz h1
  go_wp2_with fail
  refine (rep_any pb ob cap ex s .nilIface w1 K2.out K3.out hs w.heap.size (by omega)).mono ?_
  rintro e w2 ⟨rfl, k5⟩
  have K5 : Hid (Below w.heap.size w w2) := K4.out.trans k5
  clear k5
  go_wp2
  go_ret
  exact ⟨rfl, K5.out⟩
end Go.Proofs.YtbhcklkbckacpaaGreatDoor
