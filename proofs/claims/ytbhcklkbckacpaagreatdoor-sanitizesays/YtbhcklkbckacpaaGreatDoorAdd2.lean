/-
  (*strings.trieNode).add at a node that has a table: the key's first byte leads on.
-/
import Derived.Test.YtbhcklkbckacpaaGreatDoorG1
import Derived.Deep.RegionWith
namespace Go.Proofs.YtbhcklkbckacpaaGreatDoor
open Go.RowKit

set_option maxRecDepth 100000 in
set_option maxHeartbeats 1600000 in
theorem add_on (b tb rb nb : Nat) (key key' val : ByteArray) (pri c : Int) (m : Nat) (w : World) (Q : Ending → World → Prop)
    (hk : key.toList.isEmpty = false) (c0 : 0 ≤ c) (c1 : c < 256) (hm : m < 11)
    (hix : ∀ w, (Instr.index 9 (.string key) (.int .i64 0)).run Tryz.prog w = .ok (.int .u8 c) w)
    (hsl : ∀ w, (Instr.slice 9 (.string key) (some (.int .i64 1)) none none).run Tryz.prog w = .ok (.string key') w)
    (h2 : w.cell? ⟨b, 2, none⟩ = some (.string ⟨#[]⟩)) (h4 : w.cell? ⟨b, 4, none⟩ = some (.slice (some ⟨tb, 0, none⟩) 11 11))
    (hmap : w.cell? ⟨rb, 6 + c.toNat, none⟩ = some (.int .u8 m)) (htab : w.cell? ⟨tb, m, none⟩ = some (ptr nb))
    (hin : Hid (∀ n, Calls Tryz.prog 293 #[ptr nb, .string key', .string val, .int .i64 pri, ptr rb] (w.drewN n) fun e w' => e = .returned (.tuple #[]) ∧ Q e w')) :
    Calls Tryz.prog 293 #[ptr b, .string key, .string val, .int .i64 pri, ptr rb] w fun e w' => e = .returned (.tuple #[]) ∧ Q e w' := by
  have hnq := fun w => run_neq_slice_nil (P := Tryz.prog) w 352 351 (some ⟨tb, 0, none⟩) 11 11 Tryz.underlying352
  go_enter Tryz.func293, Tryz.ntmps293
  go_wp2_with fail
  go_quiet (fail)
  go_wp2_with fail
  go_region_with (go_at_call 293; refine (hin.out _).mono ?_; rintro e w1 ⟨rfl, hq⟩)
  go_end0
  exact ⟨rfl, by assumption⟩

set_option maxRecDepth 100000 in
set_option maxHeartbeats 1600000 in
theorem add_new (b tb rb : Nat) (key key' val : ByteArray) (pri c : Int) (m : Nat) (w : World) (Q : Ending → World → Prop)
    (hk : key.toList.isEmpty = false) (c0 : 0 ≤ c) (c1 : c < 256) (hm : m < 11) (hb : b < w.heap.size) (htb : tb < w.heap.size) (hbt : b ≠ tb)
    (hix : ∀ w, (Instr.index 9 (.string key) (.int .i64 0)).run Tryz.prog w = .ok (.int .u8 c) w)
    (hsl : ∀ w, (Instr.slice 9 (.string key) (some (.int .i64 1)) none none).run Tryz.prog w = .ok (.string key') w)
    (h2 : w.cell? ⟨b, 2, none⟩ = some (.string ⟨#[]⟩)) (h4 : w.cell? ⟨b, 4, none⟩ = some (.slice (some ⟨tb, 0, none⟩) 11 11))
    (hmap : w.cell? ⟨rb, 6 + c.toNat, none⟩ = some (.int .u8 m)) (htab : w.cell? ⟨tb, m, none⟩ = some (.pointer none)) (hfz : w.frozen? ⟨tb, m, none⟩ = false)
    (hin : Hid (∀ n, Calls Tryz.prog 293 #[ptr w.heap.size, .string key', .string val, .int .i64 pri, ptr rb] (((w.setCell ⟨tb, m, none⟩ (ptr w.heap.size)).alloc (.cells emptyN.toArray 354)).drewN n) fun e w' => e = .returned (.tuple #[]) ∧ Q e w')) :
    Calls Tryz.prog 293 #[ptr b, .string key, .string val, .int .i64 pri, ptr rb] w fun e w' => e = .returned (.tuple #[]) ∧ Q e w' := by
  have hnq := fun w => run_neq_slice_nil (P := Tryz.prog) w 352 351 (some ⟨tb, 0, none⟩) 11 11 Tryz.underlying352
  go_enter Tryz.func293, Tryz.ntmps293
  go_wp2_with fail
  go_quiet (fail)
  generalize hW : w.drewN nq = W at *
  have hsz : W.heap.size = w.heap.size := by rw [← hW]; rfl
  have g2 : W.cell? ⟨b, 2, none⟩ = some (.string ⟨#[]⟩) := by rw [← hW]; exact h2
  have g4 : W.cell? ⟨b, 4, none⟩ = some (.slice (some ⟨tb, 0, none⟩) 11 11) := by rw [← hW]; exact h4
  have gt : W.cell? ⟨tb, m, none⟩ = some (.pointer none) := by rw [← hW]; exact htab
  have gz : W.frozen? ⟨tb, m, none⟩ = false := by rw [← hW]; exact hfz
  have HW : Hid (w.drewN nq = W) := hW
  clear hW h2 h4 htab hfz hmap g2
  have q4 : (W.setCell ⟨tb, m, none⟩ (ptr w.heap.size)).cell? ⟨b, 4, none⟩ = some (.slice (some ⟨tb, 0, none⟩) 11 11) := by
    rw [World.cell?_setCell_other _ _ _ _ (by intro e; exact hbt (congrArg Addr.block e).symm)]; exact g4
  have qt : (W.setCell ⟨tb, m, none⟩ (ptr w.heap.size)).cell? ⟨tb, m, none⟩ = some (ptr w.heap.size) := World.cell?_setCell_same _ _ _ gt
  have HN : Hid (Calls Tryz.prog 293 #[ptr w.heap.size, .string key', .string val, .int .i64 pri, ptr rb] ((W.setCell ⟨tb, m, none⟩ (ptr w.heap.size)).alloc (.cells emptyN.toArray 354)).drew fun e w' => e = .returned (.tuple #[]) ∧ Q e w') := by
    rw [← HW.out]; exact hin.out (nq + 1)
  go_wp2_with fail
  have l4 : ((W.setCell ⟨tb, m, none⟩ (ptr w.heap.size)).alloc (.cells emptyN.toArray 354)).cell? ⟨b, 4, none⟩ = some (.slice (some ⟨tb, 0, none⟩) 11 11) := by
    rw [World.cell?_alloc_past _ _ _ (by simp [hsz]; exact hb)]; exact q4
  have lt : ((W.setCell ⟨tb, m, none⟩ (ptr w.heap.size)).alloc (.cells emptyN.toArray 354)).cell? ⟨tb, m, none⟩ = some (ptr w.heap.size) := by
    rw [World.cell?_alloc_past _ _ _ (by simp [hsz]; exact htb)]; exact qt
  have hV : ∃ V, (W.setCell ⟨tb, m, none⟩ (ptr w.heap.size)).alloc (.cells emptyN.toArray 354) = V := ⟨_, rfl⟩
  obtain ⟨V, hV⟩ := hV
  have HN2 : Hid (Calls Tryz.prog 293 #[ptr w.heap.size, .string key', .string val, .int .i64 pri, ptr rb] V.drew fun e w' => e = .returned (.tuple #[]) ∧ Q e w') := by rw [← hV]; exact HN.out
  rw [hV] at l4 lt
  clear HN q4 qt g4 gt gz HW hsz hin
  rw [show (W.setCell ⟨tb, m, none⟩ (Value.pointer (some ⟨w.heap.size, 0, none⟩))).alloc (Obj.cells #[Value.string { data := #[] }, Value.int IntKind.i64 0, Value.string { data := #[] }, Value.pointer none, Value.slice none 0 0] 354) = V from hV]
  clear hV
  go_region_with (go_at_call 293; refine HN2.out.mono ?_; rintro e w1 ⟨rfl, hq⟩)
  go_end0
  exact ⟨rfl, by assumption⟩
end Go.Proofs.YtbhcklkbckacpaaGreatDoor
