/-
  The reference's page at work: a run is written.
-/
import Derived.Test.YtpcaiechaakhnabGreatDoorXn
namespace Go.Proofs.YtpcaiechaakhnabGreatDoor
open Go.RowKit

/-- The reference's three variables that its inner function reads and writes: the text of a run, the run's last item, what stands in the block so far. -/
structure Vars3 (w : World) (bt bl bi : Nat) (t : List UInt8) (y : It) (i : List UInt8) : Prop where
  text : Blk w bt [.string (B t)] 9
  last : Blk w bl [.int .u8 y.c.toNat, .int .i64 y.m, .string y.l] 39
  ins : Blk w bi [.string (B i)] 9
  nti : bt ≠ bi
  ntl : bt ≠ bl
  nli : bl ≠ bi
theorem Vars3.far {w w' : World} {bt bl bi : Nat} {t : List UInt8} {y : It} {i : List UInt8} (h : Vars3 w bt bl bi t y i) (hb : Below w.heap.size w w') : Vars3 w' bt bl bi t y i :=
  ⟨(hb.block _ h.text.lt).trans h.text, (hb.block _ h.last.lt).trans h.last, (hb.block _ h.ins.lt).trans h.ins, h.nti, h.ntl, h.nli⟩

theorem wso_any (s : List UInt8) (w : World) (hs : s.length ≤ 20000) : Calls Tryz.prog 20 #[.string (B s)] w fun e w' => e = .returned (.string (B (Esc.wr s))) ∧ w' = w :=
  writtenSo_any (B s) w (by rw [B_size]; exact hs)

theorem tag_i (T : List UInt8) : B (tagL [105] T) = ⟨#[60, 105, 62]⟩ ++ B T ++ ⟨#[60, 47, 105, 62]⟩ := by
  show B ([60, 105, 62] ++ T ++ [60, 47] ++ [105] ++ [62]) = _
  rw [List.append_assoc, List.append_assoc, ← B_app, ← B_app]
  rfl
theorem tag_b (T : List UInt8) : B (tagL [98] T) = ⟨#[60, 98, 62]⟩ ++ B T ++ ⟨#[60, 47, 98, 62]⟩ := by
  show B ([60, 98, 62] ++ T ++ [60, 47] ++ [98] ++ [62]) = _
  rw [List.append_assoc, List.append_assoc, ← B_app, ← B_app]
  rfl

end Go.Proofs.YtpcaiechaakhnabGreatDoor
