/-
  The laws' closed fact of two operations that put at one place.
-/
import Derived.Test.YtbhcklkbckacpaaGreatDoorPi
import Derived.Test.YtbhcklkbckacpaaGreatDoorM6
import Derived.Deep.RegionHeld3
namespace Go.Proofs.YtbhcklkbckacpaaGreatDoor
open Go.RowKit
def o3V (g : Nat) (c : UInt8) : List PV := [⟨1, 1, none, 0, 0, [], 0, 0, false, ⟨#[]⟩⟩, ⟨2, 0, some ⟨g, 0, none⟩, 1, 1, [⟨c, 0, ⟨#[]⟩⟩], 0, 0, false, ⟨#[]⟩⟩, ⟨1, 4, none, 0, 0, [], 0, 0, false, ⟨#[]⟩⟩]
def o3P (c : UInt8) : List Ac.Pt := [⟨1, 1, [], 0, 0, false, ⟨#[]⟩⟩, ⟨2, 0, [⟨c, 0, ⟨#[]⟩⟩], 0, 0, false, ⟨#[]⟩⟩, ⟨1, 4, [], 0, 0, false, ⟨#[]⟩⟩]
def o3W (c : UInt8) (w : World) : World := (w.alloc (.cells #[.int .u8 c.toNat, .int .i64 0, .string ⟨#[]⟩] 39)).alloc (.cells #[.int .i64 1, .int .i64 1, .slice none 0 0, .int .i64 0, .int .i64 0, .bool false, .string ⟨#[]⟩, .int .i64 2, .int .i64 0, .slice (some ⟨w.heap.size, 0, none⟩) 1 1, .int .i64 0, .int .i64 0, .bool false, .string ⟨#[]⟩, .int .i64 1, .int .i64 4, .slice none 0 0, .int .i64 0, .int .i64 0, .bool false, .string ⟨#[]⟩] 162)
theorem o3_below (c : UInt8) (w : World) : Below w.heap.size w (o3W c w) := ((Below.refl _ _).alloc (Nat.le_refl _) _).alloc (by simp) _
theorem o3_ops (c : UInt8) (w : World) : Ops (o3W c w) (some ⟨w.heap.size + 1, 0, none⟩) 3 3 (o3V w.heap.size c) := by
  have h1 : Blk (w.alloc (.cells #[.int .u8 c.toNat, .int .i64 0, .string ⟨#[]⟩] 39)) w.heap.size (itCells [⟨c, 0, ⟨#[]⟩⟩]) 39 := Blk.new w _ _
  have hP : Blk (o3W c w) (w.heap.size + 1) (pvCells (o3V w.heap.size c)) 162 := Blk.newAt _ _ _ _ (World.size_alloc ..)
  have hI : Blk (o3W c w) w.heap.size (itCells [⟨c, 0, ⟨#[]⟩⟩]) 39 := h1.alloc _
  have hA : At (o3W c w) w.heap.size 0 [⟨c, 0, ⟨#[]⟩⟩] := at_block hI
  refine ⟨⟨rfl, Nat.le_refl _, by decide, fun _ => ⟨_, 0, rfl, fun j u hu => ?_⟩⟩, fun v hv => ?_⟩
  · rw [Nat.zero_add]
    exact (hP.cell j).trans hu
  · simp only [o3V, List.mem_cons, List.not_mem_nil, or_false] at hv
    rcases hv with rfl | rfl | rfl
    · exact ⟨doc_none _, by decide⟩
    · exact ⟨⟨fun x hx => by rw [List.mem_singleton.1 hx]; exact Nat.zero_le _, rfl, Nat.le_refl _, (by decide : 1 ≤ 9223372036854775807), fun _ => ⟨_, 0, rfl, hA⟩⟩, Nat.zero_le _⟩
    · exact ⟨doc_none _, by decide⟩
end Go.Proofs.YtbhcklkbckacpaaGreatDoor
