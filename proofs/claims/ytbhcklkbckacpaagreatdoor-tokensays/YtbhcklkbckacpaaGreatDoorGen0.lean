/-
  What strings.makeGenericReplacer reckons of the four ways of writing: which bytes stand in them, and their numbers.
-/
import Derived.Test.YtbhcklkbckacpaaGreatDoorGen
import Derived.Test.YtbhcklkbckacpaaGreatDoorAny0
namespace Go.Proofs.YtbhcklkbckacpaaGreatDoor
open Go.RowKit

/-- The eight texts that the replacer is made of. -/
def onL : List ByteArray := [⟨#[38, 97, 109, 112, 59]⟩, ⟨#[38]⟩, ⟨#[38, 108, 116, 59]⟩, ⟨#[60]⟩, ⟨#[38, 103, 116, 59]⟩, ⟨#[62]⟩, ⟨#[38, 113, 117, 111, 116, 59]⟩, ⟨#[34]⟩]
def onCells : List Value := onL.map Value.string
/-- The bytes of the first q ways of writing. -/
def preL : Nat → List UInt8
  | 0 => []
  | 1 => [38, 97, 109, 112, 59]
  | 2 => [38, 97, 109, 112, 59, 38, 108, 116, 59]
  | 3 => [38, 97, 109, 112, 59, 38, 108, 116, 59, 38, 103, 116, 59]
  | _ => [38, 97, 109, 112, 59, 38, 108, 116, 59, 38, 103, 116, 59, 38, 113, 117, 111, 116, 59]

theorem on_key (ex : List Value) (q : Nat) (h : q < 4) : ∃ key : ByteArray, (onCells ++ ex)[2 * q]? = some (.string key) ∧ key.size ≤ 6 ∧ preL q ++ key.data.toList = preL (q + 1) := by
  have : q = 0 ∨ q = 1 ∨ q = 2 ∨ q = 3 := by omega
  rcases this with rfl | rfl | rfl | rfl
  · exact ⟨_, rfl, by decide, rfl⟩
  · exact ⟨_, rfl, by decide, rfl⟩
  · exact ⟨_, rfl, by decide, rfl⟩
  · exact ⟨_, rfl, by decide, rfl⟩

theorem take_snoc' (s : ByteArray) (k : Nat) (h : k < s.size) : s.data.toList.take (k + 1) = s.data.toList.take k ++ [s[k]] := by
  rw [List.take_succ_eq_append_getElem (by simpa using h)]; rfl

/-- Which bytes stand in the four ways of writing. -/
def F4 : Nat → Int := mk (preL 4)
/-- How many of the first k. -/
def cnt (f : Nat → Int) : Nat → Int
  | 0 => 0
  | k + 1 => cnt f k + f k
theorem F4_01 (k : Nat) : 0 ≤ F4 k ∧ F4 k ≤ 1 := by unfold F4 mk; split <;> omega
theorem cnt_bd (k : Nat) : 0 ≤ cnt F4 k ∧ cnt F4 k ≤ k := by
  induction k with
  | zero => exact ⟨Int.le_refl _, Int.le_refl _⟩
  | succ k ih => have := F4_01 k; simp only [cnt]; omega
theorem cnt_all : cnt F4 256 = 11 := by decide +kernel

theorem cnt_mono (k j : Nat) : cnt F4 k ≤ cnt F4 (k + j) := by
  induction j with
  | zero => exact Int.le_refl _
  | succ j ih => have := F4_01 (k + j); show _ ≤ cnt F4 (k + j) + F4 (k + j); omega
theorem cnt_le (k : Nat) (h : k ≤ 256) : cnt F4 k ≤ 11 := by
  obtain ⟨j, hj⟩ := Nat.exists_eq_add_of_le h
  have := cnt_mono k j
  rw [← hj, cnt_all] at this
  exact this
theorem F4_two (k : Nat) : F4 k = 0 ∨ F4 k = 1 := by have := F4_01 k; omega
/-- The mapping in the end. -/
def FIN (i : Nat) : Int := if F4 i = 0 then 11 else cnt F4 i
def GG (k : Nat) : Nat → Int := fun i => if i < k then FIN i else F4 i
theorem GG_succ (k : Nat) : upd (GG k) k (FIN k) = GG (k + 1) := by
  funext i
  unfold upd GG
  by_cases h : i = k
  · subst h; simp
  · by_cases h2 : i < k
    · simp [h, h2, show i < k + 1 by omega]
    · simp [h, h2, show ¬ i < k + 1 by omega]
theorem GG_all (i : Nat) (h : i < 256) : GG 256 i = FIN i := by simp [GG, h]

theorem mk0 : mk [] = fun _ => 0 := rfl

end Go.Proofs.YtbhcklkbckacpaaGreatDoor
