/-
  Plain mathematics of chapter 1, of no program: what Write and Read come to, as functions on lists of bytes, and what holds of them.
-/
namespace Go.Proofs.YtbhcklkbckacpaaGreatDoor.Esc

/-- How one byte is written. -/
def enc1 (c : UInt8) : List UInt8 :=
  if c = 38 then [38, 97, 109, 112, 59] else if c = 60 then [38, 108, 116, 59] else if c = 62 then [38, 103, 116, 59] else if c = 34 then [38, 113, 117, 111, 116, 59] else [c]

/-- How a text is written. -/
def wr (l : List UInt8) : List UInt8 := l.flatMap enc1

/-- The character that a text begins with when it is read, and how many bytes it takes. -/
def fst1 (l : List UInt8) : UInt8 × Nat :=
  if ([38, 97, 109, 112, 59] : List UInt8).isPrefixOf l then (38, 5) else if ([38, 108, 116, 59] : List UInt8).isPrefixOf l then (60, 4)
  else if ([38, 103, 116, 59] : List UInt8).isPrefixOf l then (62, 4) else if ([38, 113, 117, 111, 116, 59] : List UInt8).isPrefixOf l then (34, 6) else (l.headD 0, 1)

/-- Read, in at most so many steps. -/
def rdN : Nat → List UInt8 → List UInt8
  | 0, _ => []
  | _ + 1, [] => []
  | n + 1, c :: t => (fst1 (c :: t)).1 :: rdN n ((c :: t).drop (fst1 (c :: t)).2)

/-- How a text is read. -/
def rd (l : List UInt8) : List UInt8 := rdN l.length l

theorem fst1_pos (l : List UInt8) : 1 ≤ (fst1 l).2 ∧ (fst1 l).2 ≤ 6 := by
  unfold fst1; split
  · simp
  split
  · simp
  split
  · simp
  split <;> simp

theorem prefix_le {p l : List UInt8} (h : p.isPrefixOf l = true) : p.length ≤ l.length := (List.isPrefixOf_iff_prefix.1 h).length_le

theorem fst1_le (l : List UInt8) (h : l ≠ []) : (fst1 l).2 ≤ l.length := by
  have hl : 1 ≤ l.length := by cases l with | nil => exact absurd rfl h | cons => simp
  unfold fst1; split
  · rename_i g; simpa using prefix_le g
  split
  · rename_i g; simpa using prefix_le g
  split
  · rename_i g; simpa using prefix_le g
  split
  · rename_i g; simpa using prefix_le g
  · exact hl

theorem rdN_more : ∀ (n m : Nat) (l : List UInt8), l.length ≤ n → l.length ≤ m → rdN n l = rdN m l
  | n, m, [], _, _ => by cases n <;> cases m <;> rfl
  | 0, _, _ :: _, h, _ => by simp at h
  | _ + 1, 0, _ :: _, _, h => by simp at h
  | n + 1, m + 1, c :: t, h1, h2 => by
    simp only [rdN]
    congr 1
    have := fst1_pos (c :: t)
    apply rdN_more <;> simp at h1 h2 ⊢ <;> omega

theorem rd_nil : rd [] = [] := rfl

theorem rd_step (l : List UInt8) (h : l ≠ []) : rd l = (fst1 l).1 :: rd (l.drop (fst1 l).2) := by
  cases l with
  | nil => exact absurd rfl h
  | cons c t =>
    have := fst1_pos (c :: t)
    unfold rd
    simp only [List.length_cons, rdN]
    congr 1
    apply rdN_more <;> simp <;> omega

theorem rd_len (l : List UInt8) : (rd l).length ≤ l.length := by
  generalize hn : l.length = n
  induction n using Nat.strongRecOn generalizing l with
  | ind n ih =>
    by_cases h : l = []
    · subst h; simp [rd_nil]
    · rw [rd_step l h]
      have h1 := fst1_pos l
      have h2 := fst1_le l h
      have := ih (l.drop (fst1 l).2).length (by simp; omega) _ rfl
      simp at this ⊢
      omega

theorem enc1_pos (c : UInt8) : 1 ≤ (enc1 c).length ∧ (enc1 c).length ≤ 6 := by
  unfold enc1; split
  · simp
  split
  · simp
  split
  · simp
  split <;> simp

theorem wr_append (a b : List UInt8) : wr (a ++ b) = wr a ++ wr b := by simp [wr]
theorem wr_nil : wr [] = [] := rfl
theorem wr_cons (c : UInt8) (l : List UInt8) : wr (c :: l) = enc1 c ++ wr l := by simp [wr]
theorem wr_one (c : UInt8) : wr [c] = enc1 c := by simp [wr]

theorem wr_len (l : List UInt8) : l.length ≤ (wr l).length ∧ (wr l).length ≤ 6 * l.length := by
  induction l with
  | nil => simp [wr_nil]
  | cons c l ih =>
    have := enc1_pos c
    rw [wr_cons]
    simp
    omega

theorem fst1_enc (c : UInt8) (r : List UInt8) : fst1 (enc1 c ++ r) = (c, (enc1 c).length) := by
  unfold enc1
  split
  · rename_i h; subst h; simp [fst1]
  split
  · rename_i h; subst h; simp [fst1]
  split
  · rename_i h; subst h; simp [fst1]
  split
  · rename_i h; subst h; simp [fst1]
  · rename_i h _ _ _
    have h' : (38 == c) = false := by simp; exact fun e => h e.symm
    simp [fst1, List.isPrefixOf, h']

theorem rd_wr (l : List UInt8) : rd (wr l) = l := by
  induction l with
  | nil => rfl
  | cons c l ih =>
    have hp := enc1_pos c
    rw [wr_cons, rd_step _ (by intro e; have := congrArg List.length e; simp at this; rw [this.1] at hp; simp at hp), fst1_enc]
    simp [ih]

theorem enc1_plain (c : UInt8) : ∀ x ∈ enc1 c, x ≠ 60 ∧ x ≠ 62 ∧ x ≠ 34 := by
  unfold enc1
  split
  · decide
  split
  · decide
  split
  · decide
  split
  · decide
  · rename_i h1 h2 h3 h4
    intro x hx
    simp at hx
    subst hx
    exact ⟨h2, h3, h4⟩

theorem wr_plain (l : List UInt8) : ∀ x ∈ wr l, x ≠ 60 ∧ x ≠ 62 ∧ x ≠ 34 := by
  intro x hx
  simp only [wr, List.mem_flatMap] at hx
  obtain ⟨c, _, hx⟩ := hx
  exact enc1_plain c x hx

theorem wr_count (l : List UInt8) : (wr l).length = l.length + 4 * l.count 38 + 3 * l.count 60 + 3 * l.count 62 + 5 * l.count 34 := by
  induction l with
  | nil => rfl
  | cons c l ih =>
    rw [wr_cons, List.length_append, ih]
    simp only [List.count_cons, List.length_cons]
    unfold enc1
    split
    · rename_i h; subst h; simp; omega
    split
    · rename_i h; subst h; simp; omega
    split
    · rename_i h; subst h; simp; omega
    split
    · rename_i h; subst h; simp; omega
    · rename_i h1 h2 h3 h4
      simp [h1, h2, h3, h4]
      omega

theorem wr_same (l : List UInt8) (h : ∀ x ∈ l, x ≠ 38 ∧ x ≠ 60 ∧ x ≠ 62 ∧ x ≠ 34) : wr l = l := by
  induction l with
  | nil => rfl
  | cons c l ih =>
    obtain ⟨h1, h2, h3, h4⟩ := h c (by simp)
    rw [wr_cons, ih (fun x hx => h x (by simp [hx]))]
    simp [enc1, h1, h2, h3, h4]
end Go.Proofs.YtbhcklkbckacpaaGreatDoor.Esc
