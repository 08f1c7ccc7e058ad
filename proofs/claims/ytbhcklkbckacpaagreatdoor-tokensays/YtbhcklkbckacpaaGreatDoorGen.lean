/-
  strings.makeGenericReplacer's own memory: the cells of a generic replacer, and what a store makes of them.
-/
import Derived.Test.YtbhcklkbckacpaaGreatDoorAdd3
import Derived.Test.YtbhcklkbckacpaaGreatDoorAdd2
import Derived.Deep.MidRow
namespace Go.Proofs.YtbhcklkbckacpaaGreatDoor
open Go.RowKit

/-- The mapping's cells. -/
def mapL (f : Nat → Int) : List Value := (List.range 256).map fun i => .int .u8 (f i)
/-- A generic replacer's cells: its root, how great tables are, the mapping. -/
def rarr (root : List Value) (ts : Int) (f : Nat → Int) : List Value := root ++ (.int .i64 ts :: mapL f)
def upd (f : Nat → Int) (k : Nat) (v : Int) : Nat → Int := fun i => if i = k then v else f i

theorem mapL_length (f : Nat → Int) : (mapL f).length = 256 := by simp [mapL]
theorem mapL_at (f : Nat → Int) (k : Nat) (h : k < 256) : (mapL f)[k]? = some (.int .u8 (f k)) := by simp [mapL, h]
theorem mapL_set (f : Nat → Int) (k : Nat) (v : Int) : (mapL f).set k (.int .u8 v) = mapL (upd f k v) := by
  apply List.ext_getElem?
  intro i
  rw [List.getElem?_set]
  by_cases h : k = i
  · subst h
    by_cases hk : k < 256
    · rw [if_pos rfl, if_pos (by rw [mapL_length]; exact hk), mapL_at _ _ hk]; simp [upd]
    · rw [if_pos rfl, if_neg (by rw [mapL_length]; exact hk)]; simp [hk, mapL]
  · by_cases hi : i < 256
    · simp [h, mapL_at _ _ hi, upd, Ne.symm h]
    · simp [h, mapL, hi]
theorem rarr_map (root : List Value) (ts : Int) (f : Nat → Int) (hr : root.length = 5) (k : Nat) (h : k < 256) : (rarr root ts f)[6 + k]? = some (.int .u8 (f k)) := by
  unfold rarr
  rw [List.getElem?_append_right (by omega), show 6 + k - root.length = k + 1 by omega, List.getElem?_cons_succ, mapL_at f k h]
theorem rarr_ts (root : List Value) (ts : Int) (f : Nat → Int) (hr : root.length = 5) : (rarr root ts f)[5]? = some (.int .i64 ts) := by
  unfold rarr
  rw [List.getElem?_append_right (by omega), hr]
  rfl
theorem rarr_root (root : List Value) (ts : Int) (f : Nat → Int) (hr : root.length = 5) (j : Nat) (h : j < 5) : (rarr root ts f)[j]? = root[j]? := by
  unfold rarr
  rw [List.getElem?_append_left (by omega)]
theorem rarr_set_map (root : List Value) (ts : Int) (f : Nat → Int) (hr : root.length = 5) (k : Nat) (v : Int) : (rarr root ts f).set (6 + k) (.int .u8 v) = rarr root ts (upd f k v) := by
  unfold rarr
  rw [List.set_append_right _ _ (by omega), show 6 + k - root.length = k + 1 by omega, List.set_cons_succ, mapL_set]
theorem rarr_set_ts (root : List Value) (ts : Int) (f : Nat → Int) (hr : root.length = 5) (v : Int) : (rarr root ts f).set 5 (.int .i64 v) = rarr root v f := by
  unfold rarr
  rw [List.set_append_right _ _ (by omega), hr]
  rfl
theorem rarr_set_root (root : List Value) (ts : Int) (f : Nat → Int) (hr : root.length = 5) (j : Nat) (h : j < 5) (v : Value) : (rarr root ts f).set j v = rarr (root.set j v) ts f := by
  unfold rarr
  rw [List.set_append_left _ _ (by omega)]
theorem rarr_length (root : List Value) (ts : Int) (f : Nat → Int) (hr : root.length = 5) : (rarr root ts f).length = 262 := by simp [rarr, hr, mapL_length]

/-- One for each of these bytes, else none. -/
def mk (l : List UInt8) : Nat → Int := fun i => if l.any (fun c => c.toNat == i) then 1 else 0
theorem mk_snoc (l : List UInt8) (c : UInt8) : upd (mk l) c.toNat 1 = mk (l ++ [c]) := by
  funext i
  unfold upd mk
  by_cases h : i = c.toNat
  · subst h; simp
  · have : (c.toNat == i) = false := beq_eq_false_iff_ne.2 (Ne.symm h)
    simp [h, List.any_append, this]

theorem zero101 (w : World) : (zeroValue 356).run Tryz.prog w = .ok (.agg (rarr emptyN 0 (fun _ => 0)).toArray) w := by kernel_rfl
theorem info80 : (Tryz.prog.info? 182).map (·.size) = some 256 := by kernel_rfl

theorem range_mid {w : World} {b : Nat} {root : List Value} {ts : Int} {f : Nat → Int} (hr : root.length = 5) (h : Blk w b (rarr root ts f) 356) : w.rangeAt b 6 (mapL f) := by
  intro j v hv
  have hj : j < 256 := by have := (List.getElem?_eq_some_iff.1 hv).1; rwa [mapL_length] at this
  rw [h.cell, rarr_map root ts f hr j hj, ← mapL_at f j hj, hv]

theorem run_index80 (f : Nat → Int) (k : Nat) (hk : k < 256) (w : World) : (Instr.index 182 (.agg (mapL f).toArray) (.int .i64 k)).run Tryz.prog w = .ok (.int .u8 (f k)) w := by
  have h1 := Tryz.underlying182
  have h4 := mapL_at f k hk
  have hs := Tryz.sizeOf5 w
  simp only [Instr.index, asIntOf, Sem.run_bind, Sem.run_pure, Result.andThen_ok, run_underlying h1]
  rw [if_pos ⟨by omega, by omega⟩]
  simp [Sem.run_bind, hs, part, h4]
end Go.Proofs.YtbhcklkbckacpaaGreatDoor
