/-
  Chapter 2 on lists of bytes: the scheme of an address, whether one may be led to it, an address without blanks at its ends; and what holds of them.
-/
import Derived.Test.YtbhcklkbckacpaaGreatDoorRows
import Derived.Test.YtbhcklkbckacpaaGreatDoorShelf
import Derived.WalkKit
import Derived.WalkLawsBesides
import Derived.Lib.OthersKept
import Derived.Lib.IndexAny
namespace Go.Proofs.YtbhcklkbckacpaaGreatDoor
open Go.RowKit
namespace Lk

def small1 (c : UInt8) : UInt8 := if 65 ≤ c ∧ c ≤ 90 then c + 32 else c
def small (l : List UInt8) : List UInt8 := l.map small1
def path : List UInt8 := [47, 63, 35]
def head (l : List UInt8) : List UInt8 := l.takeWhile (fun c => c != 58)
def scheme (l : List UInt8) : List UInt8 := if l.contains 58 && !(Lib.containsAny (head l) path) then small (head l) else []
def barred : List UInt8 := [34, 39, 60, 62, 92, 96]
def stand (c : UInt8) : Bool := decide (33 ≤ c) && decide (c ≤ 126) && !(barred.contains c)
def leads : List (List UInt8) := [[104, 116, 116, 112], [104, 116, 116, 112, 115], [109, 97, 105, 108, 116, 111]]
def lead (x : List UInt8) : Bool := leads.contains x
def may (l : List UInt8) : Bool := decide (1 ≤ l.length) && decide (l.length ≤ 24) && l.all stand && lead (scheme l)
def blanks : List UInt8 := [32, 9, 10, 13, 12]
/-- Without what p holds of at its left end. -/
def tl (p : UInt8 → Bool) : List UInt8 → List UInt8
  | [] => []
  | x :: t => if p x then tl p t else x :: t
/-- Without what p holds of at its right end. -/
def tr (p : UInt8 → Bool) : List UInt8 → List UInt8
  | [] => []
  | x :: t => match tr p t with
    | [] => if p x then [] else [x]
    | y :: u => x :: y :: u
def bl (c : UInt8) : Bool := blanks.contains c
def trim (l : List UInt8) : List UInt8 := tl bl (tr bl l)
def clean (l : List UInt8) : List UInt8 := if may (trim l) then trim l else []

theorem tr_snoc (p : UInt8 → Bool) (x : UInt8) : ∀ l, tr p (l ++ [x]) = if p x then tr p l else l ++ [x]
  | [] => by simp [tr]
  | y :: t => by
    have ih := tr_snoc p x t
    rw [List.cons_append, tr, ih]
    cases hp : p x
    · simp only [Bool.false_eq_true, if_false]
      cases t with
      | nil => rfl
      | cons z u => rfl
    · simp only [if_true]
      rw [tr]
theorem tr_tl (p : UInt8 → Bool) : ∀ l, tl p (tr p l) = tr p (tl p l)
  | [] => rfl
  | x :: t => by
    have ih := tr_tl p t
    cases hp : p x
    · have h1 : tl p (x :: t) = x :: t := by simp [tl, hp]
      rw [h1, tr]
      cases htr : tr p t with
      | nil => simp [tl, hp]
      | cons y u => simp [tl, hp]
    · have h1 : tl p (x :: t) = tl p t := by simp [tl, hp]
      rw [h1, ← ih, tr]
      cases htr : tr p t with
      | nil => simp [tl, hp]
      | cons y u => simp [tl, hp]
theorem tl_len (p : UInt8 → Bool) : ∀ l, (tl p l).length ≤ l.length
  | [] => Nat.le_refl _
  | x :: t => by
    rw [tl]
    split
    · exact Nat.le_trans (tl_len p t) (by simp)
    · exact Nat.le_refl _
theorem tr_len (p : UInt8 → Bool) : ∀ l, (tr p l).length ≤ l.length
  | [] => Nat.le_refl _
  | x :: t => by
    have ih := tr_len p t
    rw [tr]
    cases h : tr p t with
    | nil => simp only; split <;> simp
    | cons y u => rw [h] at ih; simp at ih ⊢; omega
theorem trim_len (l : List UInt8) : (trim l).length ≤ l.length := Nat.le_trans (tl_len _ _) (tr_len _ _)

theorem head_at : ∀ (l : List UInt8) (k : Nat), Lib.indexByte l 58 = k → k < l.length ∧ l.take k = head l ∧ l.contains 58 = true
  | [], k, h => by simp [Lib.indexByte] at h
  | b :: l, k, h => by
    rw [Lib.indexByte] at h
    by_cases hb : b = 58
    · subst hb
      simp at h
      obtain rfl : k = 0 := by omega
      exact ⟨by simp, by simp [head], by simp⟩
    · have hb' : (b == 58) = false := by simpa using hb
      rw [hb'] at h
      by_cases hi : Lib.indexByte l 58 = -1
      · rw [hi] at h; simp at h
      · have hi' : (Lib.indexByte l 58 == -1) = false := by simpa using hi
        have hge := Lib.indexByte_ge l 58
        rw [hi'] at h
        simp at h
        match k, h with
        | 0, h => omega
        | k + 1, h =>
          obtain ⟨h1, h2, h3⟩ := head_at l k (by omega)
          refine ⟨by simp; omega, ?_, by simp; right; simpa using h3⟩
          simp [head, hb]
          rw [h2]; rfl
theorem no_head (l : List UInt8) (h : Lib.indexByte l 58 = -1) : l.contains 58 = false := by
  rw [Lib.contains_iff_indexByte, h]; rfl
theorem idx_cases (l : List UInt8) : Lib.indexByte l 58 = -1 ∨ ∃ k : Nat, Lib.indexByte l 58 = k := by
  have hge := Lib.indexByte_ge l 58
  by_cases h : Lib.indexByte l 58 = -1
  · exact .inl h
  · exact .inr ⟨(Lib.indexByte l 58).toNat, by omega⟩
theorem head_len (l : List UInt8) : (head l).length ≤ l.length := (List.takeWhile_sublist _).length_le
theorem small_len (l : List UInt8) : (small l).length = l.length := by simp [small]
theorem scheme_len (l : List UInt8) : (scheme l).length ≤ l.length := by
  unfold scheme
  split
  · rw [small_len]; exact head_len l
  · simp
end Lk

/-- The text of a list of bytes. -/
def B (l : List UInt8) : ByteArray := ⟨l.toArray⟩
theorem B_data (l : List UInt8) : (B l).data.toList = l := rfl
theorem B_size (l : List UInt8) : (B l).size = l.length := by simp [B, ByteArray.size]
theorem B_of (s : ByteArray) : B s.data.toList = s := rfl
theorem len_list (s : ByteArray) : s.data.toList.length = s.size := by simp
theorem B_inj {a b : List UInt8} (h : B a = B b) : a = b := by
  have := congrArg (fun s : ByteArray => s.data.toList) h
  simpa [B] using this
theorem ext_list {a b : ByteArray} (h : a.data.toList = b.data.toList) : a = b := by
  apply ByteArray.ext
  apply Array.ext'
  exact h
theorem extract_B (s : ByteArray) (a b : Nat) : s.extract a b = B ((s.data.toList.drop a).take (b - a)) := by
  apply ext_list
  rw [Lib.extract_data]
  rfl
end Go.Proofs.YtbhcklkbckacpaaGreatDoor
