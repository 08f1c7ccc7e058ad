/-
  export's page at work: where a list begins and ends, where a block ends.
-/
import Derived.Test.YtbhcklkbckacpaaGreatDoorXn
import Derived.Deep.RegionWith
namespace Go.Proofs.YtbhcklkbckacpaaGreatDoor
open Go.RowKit

def wcells (p i : ByteArray) (o : Bool) : List Value := [.string p, .string i, .bool o]
theorem Blk.far {w w' : World} {b : Nat} {cs : List Value} {t : TypeId} (h : Blk w b cs t) (hb : Below w.heap.size w w') : Blk w' b cs t := (hb.block b h.lt).trans h
theorem set_below {w : World} (b j : Nat) (v : Value) : Below b w (w.setCell ⟨b, j, none⟩ v) := (Below.refl b w).setCell (Nat.le_refl b) v

theorem lists_ft : Pg.bytes (Pg.lists false true) = [60, 117, 108, 62] := rfl
theorem lists_tf : Pg.bytes (Pg.lists true false) = [60, 47, 117, 108, 62] := rfl
theorem lists_ff : Pg.bytes (Pg.lists false false) = [] := rfl
theorem lists_tt : Pg.bytes (Pg.lists true true) = [] := rfl

set_option maxHeartbeats 800000 in
theorem turn_any (b : Nat) (P : List UInt8) (i : ByteArray) (o n : Bool) (w : World) (hB : Blk w b (wcells (B P) i o) 178) (hP : P.length ≤ 1000000) :
    Calls Tryz.prog 141 #[.pointer (some ⟨b, 0, none⟩), .bool n] w fun e w' => e = .returned (.tuple #[]) ∧ Blk w' b (wcells (B (P ++ Pg.bytes (Pg.lists o n))) i n) 178 ∧ Below b w w' := by
  have c0 : w.cell? ⟨b, 0, none⟩ = some (.string (B P)) := hB.cell 0
  have c1 : w.cell? ⟨b, 1, none⟩ = some (.string i) := hB.cell 1
  have c2 : w.cell? ⟨b, 2, none⟩ = some (.bool o) := hB.cell 2
  have z0 := hB.frozen 0
  have z2 := hB.frozen 2
  have HB : Hid (Blk w b (wcells (B P) i o) 178) := hB
  have hz := B_size P
  clear hB
  have s1 : (ByteArray.mk #[60, 117, 108, 62]).size = 4 := rfl
  have s2 : (ByteArray.mk #[60, 47, 117, 108, 62]).size = 5 := rfl
  cases o
  · cases n
    · rw [lists_ff, List.append_nil]
      go_enter Tryz.func141, Tryz.ntmps141
      go_wp2
      go_end0
      exact ⟨rfl, HB.out.set 2 _, set_below _ _ _⟩
    · rw [lists_ft, ← B_app]
      go_enter Tryz.func141, Tryz.ntmps141
      go_wp2
      go_end0
      exact ⟨rfl, (HB.out.set 0 _).set 2 _, (set_below _ _ _).trans (set_below _ _ _)⟩
  · cases n
    · rw [lists_tf, ← B_app]
      go_enter Tryz.func141, Tryz.ntmps141
      go_wp2
      go_end0
      exact ⟨rfl, (HB.out.set 0 _).set 2 _, (set_below _ _ _).trans (set_below _ _ _)⟩
    · rw [lists_tt, List.append_nil]
      go_enter Tryz.func141, Tryz.ntmps141
      go_wp2
      go_end0
      exact ⟨rfl, HB.out.set 2 _, set_below _ _ _⟩

def bcells : Array Value := #[.string ⟨#[112]⟩, .string ⟨#[104, 49]⟩, .string ⟨#[108, 105]⟩, .string ⟨#[104, 50]⟩]
def Blocks (w : World) : Prop := ∃ t fr, w.heap[2]? = some (.cells bcells t fr)
theorem Blocks.below {w w' : World} {b : Nat} (h : Blocks w) (hb : Below b w w') (h6 : 2 < b) : Blocks w' := by
  obtain ⟨t, fr, hg⟩ := h
  exact ⟨t, fr, (hb.block 2 h6).trans hg⟩
theorem Blocks.at_ {w : World} (h : Blocks w) (k : Nat) (hk : k < 4) : w.cell? ⟨2, k, none⟩ = some (.string (B (Pg.name (Pg.kind k)))) := by
  obtain ⟨t, fr, hg⟩ := h
  have hm : k = 0 ∨ k = 1 ∨ k = 2 ∨ k = 3 := by omega
  unfold World.cell?
  rw [hg]
  rcases hm with rfl | rfl | rfl | rfl <;> rfl
theorem name_len (n : Pg.Nm) : (Pg.name n).length ≤ 2 := by
  obtain ⟨x, y, z⟩ := n
  cases x <;> cases y <;> cases z <;> decide

set_option maxRecDepth 100000 in
set_option maxHeartbeats 1600000 in
theorem endb_any (b k : Nat) (P I : List UInt8) (o : Bool) (w : World) (hB : Blk w b (wcells (B P) (B I) o) 178) (hT : Blocks w) (hb6 : 2 < b) (hk : k < 4) (hP : P.length ≤ 900000) (hI : I.length ≤ 1000000) :
    Calls Tryz.prog 139 #[.pointer (some ⟨b, 0, none⟩), .int .i64 k] w fun e w' => e = .returned (.tuple #[]) ∧ Blk w' b (wcells (B (P ++ Pg.bytes (Pg.lists o ((k : Int) == 2)) ++ tagL (Pg.name (Pg.kind k)) I)) (B []) ((k : Int) == 2)) 178 ∧ Below b w w' := by
  have C1 : Hid (Calls Tryz.prog 141 #[.pointer (some ⟨b, 0, none⟩), .bool ((k : Int) == 2)] w fun e w' => e = .returned (.tuple #[]) ∧ Blk w' b (wcells (B (P ++ Pg.bytes (Pg.lists o ((k : Int) == 2)))) (B I) ((k : Int) == 2)) 178 ∧ Below b w w') := turn_any b P (B I) o _ w hB (by omega)
  have C2 : Hid (∀ w, Calls Tryz.prog 212 #[.string (B (Pg.name (Pg.kind k))), .string (B I)] w fun e w' => e = .returned (.string (B (tagL (Pg.name (Pg.kind k)) I))) ∧ w' = w) := fun w => tagged_any _ I w (by have := name_len (Pg.kind k); omega) (by omega)
  have hQ : (P ++ Pg.bytes (Pg.lists o ((k : Int) == 2))).length ≤ 1000000 := by
    have := Pg.lists_len o ((k : Int) == 2)
    rw [List.length_append]
    omega
  have hG : (tagL (Pg.name (Pg.kind k)) I).length ≤ 1000100 := by
    rw [tagL_len]
    have := name_len (Pg.kind k)
    omega
  have HT : Hid (Blocks w) := hT
  clear hB hP hT
  generalize P ++ Pg.bytes (Pg.lists o ((k : Int) == 2)) = Q at *
  have HN : Hid (∀ w, Blocks w → w.cell? ⟨2, k, none⟩ = some (.string (B (Pg.name (Pg.kind k))))) := fun w h => h.at_ k hk
  generalize tagL (Pg.name (Pg.kind k)) I = G at *
  generalize B (Pg.name (Pg.kind k)) = nm at *
  rw [← B_app]
  have q1 := B_size Q
  have q2 := B_size G
  go_enter Tryz.func139, Tryz.ntmps139
  go_wp2_with fail
  refine C1.out.mono ?_
  rintro e w1 ⟨rfl, hB, hb⟩
  have c0 : w1.cell? ⟨b, 0, none⟩ = some (.string (B Q)) := hB.cell 0
  have c1 : w1.cell? ⟨b, 1, none⟩ = some (.string (B I)) := hB.cell 1
  have z0 := hB.frozen 0
  have z1 := hB.frozen 1
  have n1 := HN.out w1 (HT.out.below hb hb6)
  have HB : Hid (Blk w1 b (wcells (B Q) (B I) ((k : Int) == 2)) 178) := hB
  have H1 : Hid (Below b w w1) := hb
  have hne : (2 : Nat) ≠ b := by omega
  clear hB hb HN HT
  go_wp2
  go_region_with (go_at_call 212; refine (C2.out _).mono ?_; rintro e w3 ⟨rfl, rfl⟩)
  all_goals
    go_wp2
    go_end0
    exact ⟨rfl, Blk.set (Blk.set (w := w1) HB.out 0 _) 1 _, H1.out.trans ((Below.trans (set_below b 0 _) (set_below b 1 _)).drew)⟩
end Go.Proofs.YtbhcklkbckacpaaGreatDoor
