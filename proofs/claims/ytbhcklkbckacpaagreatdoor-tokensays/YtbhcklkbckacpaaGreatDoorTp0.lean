/-
  Chapter 5 on lists of bytes: what a page is taken apart into.
-/
import Derived.Test.YtbhcklkbckacpaaGreatDoorPure
import Derived.Test.YtbhcklkbckacpaaGreatDoorLp
namespace Go.Proofs.YtbhcklkbckacpaaGreatDoor
open Go.RowKit
/-- A token. -/
structure Tk where
  kind : Int
  name : List UInt8
  text : List UInt8
  href : List UInt8
namespace Tk
def sp (c : UInt8) : Bool := c == 32 || c == 9 || c == 10 || c == 13 || c == 12
def letter (c : UInt8) : Bool := (decide (97 ≤ c) && decide (c ≤ 122)) || (decide (65 ≤ c) && decide (c ≤ 90))
/-- Of a tag's name; of an attribute's name; of a value without quotes. -/
def nam (c : UInt8) : Bool := !sp c && c != 47 && c != 62
def anm (c : UInt8) : Bool := !sp c && c != 47 && c != 62 && c != 61
def avl (c : UInt8) : Bool := !sp c && c != 62
def not (q : UInt8) (c : UInt8) : Bool := c != q
def hrefL : List UInt8 := [104, 114, 101, 102]
/-- What stands behind the first 'pat'. -/
def after (pat : List UInt8) : List UInt8 → Option (List UInt8)
  | [] => none
  | c :: t => if pat.isPrefixOf (c :: t) then some ((c :: t).drop pat.length) else after pat t
/-- A value behind an '=' and spaces, and what stands behind it. -/
def val : List UInt8 → List UInt8 × List UInt8
  | [] => ([], [])
  | q :: r => if q == 34 || q == 39 then (r.takeWhile (not q), (r.dropWhile (not q)).drop 1) else ((q :: r).takeWhile avl, (q :: r).dropWhile avl)
/-- What stands behind an attribute's name: its value, and the rest. -/
def value (r : List UInt8) : List UInt8 × List UInt8 :=
  match r.dropWhile sp with
  | [] => ([], r)
  | c :: r2 => if c == 61 then val (r2.dropWhile sp) else ([], r)
/-- The attributes of a tag, up to its end: the first href, and what stands behind the tag. -/
def attrs : Nat → List UInt8 → Option (List UInt8) → Option (Option (List UInt8) × List UInt8)
  | 0, _, _ => none
  | _ + 1, [], _ => none
  | n + 1, c :: t, h => if c == 62 then some (h, t) else if sp c || c == 47 then attrs n t h else
      attrs n (value (t.dropWhile anm)).2 (if Lk.small (c :: t.takeWhile anm) == hrefL && h.isNone then some (value (t.dropWhile anm)).1 else h)
theorem dw_len (p : UInt8 → Bool) (l : List UInt8) : (l.dropWhile p).length ≤ l.length := (List.dropWhile_sublist p).length_le
theorem val_len (l : List UInt8) : (val l).2.length ≤ l.length := by
  cases l with
  | nil => exact Nat.le_refl _
  | cons q r =>
    rw [val]
    split
    · have := dw_len (not q) r
      simp only [List.length_drop, List.length_cons]
      omega
    · exact dw_len avl (q :: r)
theorem value_len (l : List UInt8) : (value l).2.length ≤ l.length := by
  unfold value
  have h0 := dw_len sp l
  cases h : l.dropWhile sp with
  | nil => exact Nat.le_refl _
  | cons c r2 =>
    rw [h] at h0
    simp only
    split
    · have h1 := val_len (r2.dropWhile sp)
      have h2 := dw_len sp r2
      simp at h0
      omega
    · exact Nat.le_refl _
theorem attrs_more : ∀ (n m : Nat) (l : List UInt8) (h : Option (List UInt8)), l.length < n → l.length < m → attrs n l h = attrs m l h
  | 0, _, _, _, h, _ => by omega
  | _, 0, _, _, _, h => by omega
  | n + 1, m + 1, [], _, _, _ => rfl
  | n + 1, m + 1, c :: t, h, h1, h2 => by
    have h3 := value_len (t.dropWhile anm)
    have h4 := dw_len anm t
    simp only [List.length_cons] at h1 h2
    unfold attrs
    rw [attrs_more n m t h (by omega) (by omega), attrs_more n m (value (t.dropWhile anm)).2 _ (by omega) (by omega)]
def attr (l : List UInt8) (h : Option (List UInt8)) : Option (Option (List UInt8) × List UInt8) := attrs (l.length + 1) l h
theorem attr_nil (h : Option (List UInt8)) : attr [] h = none := rfl
theorem attr_cons (c : UInt8) (t : List UInt8) (h : Option (List UInt8)) : attr (c :: t) h = if c == 62 then some (h, t) else if sp c || c == 47 then attr t h else
      attr (value (t.dropWhile anm)).2 (if Lk.small (c :: t.takeWhile anm) == hrefL && h.isNone then some (value (t.dropWhile anm)).1 else h) := by
  have h3 := value_len (t.dropWhile anm)
  have h4 := dw_len anm t
  show attrs (t.length + 1 + 1) (c :: t) h = _
  unfold attrs
  rw [attrs_more (t.length + 1) ((value (t.dropWhile anm)).2.length + 1) (value (t.dropWhile anm)).2 _ (by omega) (by omega)]
  rfl
theorem attr_len : ∀ (n : Nat) (l : List UInt8) (h : Option (List UInt8)) (x : Option (List UInt8) × List UInt8), l.length ≤ n → attr l h = some x → x.2.length < l.length
  | _, [], _, _, _, e => by rw [attr_nil] at e; cases e
  | 0, _ :: _, _, _, hn, _ => by simp at hn
  | n + 1, c :: t, h, x, hn, e => by
    have h3 := value_len (t.dropWhile anm)
    have h4 := dw_len anm t
    simp only [List.length_cons] at hn ⊢
    rw [attr_cons] at e
    split at e
    · cases e; simp
    split at e
    · have := attr_len n t h x (by omega) e; omega
    · have := attr_len n _ _ x (by omega) e; omega
def txt (l : List UInt8) : Tk := ⟨1, [], l, []⟩
def oth : Tk := ⟨4, [], [], []⟩
/-- A tag, from its name on. -/
def tag (shut : Bool) (u : List UInt8) : List Tk × List UInt8 :=
  match attr (u.dropWhile nam) none with
  | some (h, r) => ([⟨if shut then 3 else 2, Lk.small (u.takeWhile nam), [], if shut then [] else Esc.rd (h.getD [])⟩], r)
  | none => ([], [])
/-- What begins at a '<' with a '/' behind it. -/
def shutAt : List UInt8 → List Tk × List UInt8
  | [] => ([txt [60]], [47])
  | e :: v => if letter e then tag true (e :: v) else ([txt [60]], 47 :: e :: v)
/-- What begins at a '<'. -/
def angle (t : List UInt8) : List Tk × List UInt8 :=
  if ([33, 45, 45] : List UInt8).isPrefixOf t then ([oth], (after [45, 45, 62] (t.drop 3)).getD [])
  else match t with
    | [] => ([txt [60]], [])
    | d :: u => if d == 33 || d == 63 then ([oth], (after [62] t).getD [])
      else if d == 47 then shutAt u else if letter d then tag false t else ([txt [60]], t)
/-- The first tokens (none, where a tag has no end), and what stands behind. -/
def first (c : UInt8) (t : List UInt8) : List Tk × List UInt8 :=
  if c == 60 then angle t else ([txt (Esc.rd (c :: t.takeWhile (not 60)))], t.dropWhile (not 60))
def toksN : Nat → List UInt8 → List Tk
  | 0, _ => []
  | _ + 1, [] => []
  | n + 1, c :: t => (first c t).1 ++ toksN n (first c t).2
def toks (l : List UInt8) : List Tk := toksN l.length l
theorem after_len (p : List UInt8) : ∀ (l r : List UInt8), after p l = some r → r.length ≤ l.length
  | [], _, h => by cases h
  | c :: t, r, h => by
    rw [after] at h
    split at h
    · cases h; simp
    · have := after_len p t r h; simp; omega
theorem after_le (p l : List UInt8) : ((after p l).getD []).length ≤ l.length := by
  cases h : after p l with
  | none => simp
  | some r => exact after_len p l r h
theorem tag_len (s : Bool) (u : List UInt8) : (tag s u).2.length ≤ u.length := by
  unfold tag
  have h0 := dw_len nam u
  cases h : attr (u.dropWhile nam) none with
  | none => simp
  | some x =>
    have := attr_len _ _ _ x (Nat.le_refl _) h
    obtain ⟨a, r⟩ := x
    simp only at this ⊢
    omega
theorem angle_nil : angle [] = ([txt [60]], []) := rfl
theorem angle_cons (d : UInt8) (u : List UInt8) : angle (d :: u) = if ([33, 45, 45] : List UInt8).isPrefixOf (d :: u) then ([oth], (after [45, 45, 62] ((d :: u).drop 3)).getD []) else if d == 33 || d == 63 then ([oth], (after [62] (d :: u)).getD [])
    else if d == 47 then shutAt u else if letter d then tag false (d :: u) else ([txt [60]], d :: u) := rfl
theorem shut_len (u : List UInt8) : (shutAt u).2.length ≤ u.length + 1 := by
  cases u with
  | nil => simp [shutAt]
  | cons e v =>
    rw [shutAt]
    split
    · have := tag_len true (e :: v); simp only [List.length_cons] at this ⊢; omega
    · simp
theorem angle_len (t : List UInt8) : (angle t).2.length ≤ t.length := by
  cases t with
  | nil => simp [angle_nil]
  | cons d u =>
    rw [angle_cons]
    split
    · have := after_le [45, 45, 62] ((d :: u).drop 3)
      simp only [List.length_drop] at this
      simp only
      omega
    split
    · exact after_le [62] (d :: u)
    split
    · have := shut_len u
      simp only [List.length_cons]
      omega
    split
    · exact tag_len false (d :: u)
    · simp
theorem first_len (c : UInt8) (t : List UInt8) : (first c t).2.length ≤ t.length := by
  unfold first
  split
  · exact angle_len t
  · exact dw_len _ t
theorem toksN_more : ∀ (n m : Nat) (l : List UInt8), l.length ≤ n → l.length ≤ m → toksN n l = toksN m l
  | 0, 0, _, _, _ => rfl
  | 0, _ + 1, [], _, _ => rfl
  | _ + 1, 0, [], _, _ => rfl
  | 0, _ + 1, _ :: _, h, _ => by simp at h
  | _ + 1, 0, _ :: _, _, h => by simp at h
  | _ + 1, _ + 1, [], _, _ => rfl
  | n + 1, m + 1, c :: t, h1, h2 => by
    have := first_len c t
    simp only [List.length_cons] at h1 h2
    simp only [toksN]
    rw [toksN_more n m _ (by omega) (by omega)]
theorem toks_nil : toks [] = [] := rfl
theorem toks_cons (c : UInt8) (t : List UInt8) : toks (c :: t) = (first c t).1 ++ toks (first c t).2 := by
  have := first_len c t
  show (first c t).1 ++ toksN t.length (first c t).2 = _
  rw [toksN_more t.length (first c t).2.length _ this (Nat.le_refl _)]
  rfl
end Tk
end Go.Proofs.YtbhcklkbckacpaaGreatDoor
