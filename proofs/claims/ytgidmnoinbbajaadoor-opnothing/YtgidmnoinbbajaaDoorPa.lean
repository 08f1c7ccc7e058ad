/-
  Chapter 7 on parts: the acts of an operation's parts, one an item; acts made parts again, as Tidy lays them; and what holds of that.
-/
import Derived.Test.YtgidmnoinbbajaaDoorAc
namespace Go.Proofs.YtgidmnoinbbajaaDoor
open Go.RowKit
namespace Ac
/-- A part of an operation. -/
structure Pt where
  kind : Int
  n : Int
  items : List It
  set : Int
  clr : Int
  goes : Bool
  link : ByteArray
def chOf (p : Pt) : Ch := ⟨p.set, p.clr, p.goes, p.link⟩
def keepP (c : Ch) (n : Int) : Pt := ⟨1, n, [], c.set, c.clr, c.goes, c.link⟩
def putP (xs : List It) : Pt := ⟨2, 0, xs, 0, 0, false, ⟨#[]⟩⟩
def cutP (n : Nat) : Pt := ⟨3, n, [], 0, 0, false, ⟨#[]⟩⟩
/-- The acts of a part, one an item. -/
def acts1 (p : Pt) : List A := if p.kind = 2 then p.items.map A.put else List.replicate p.n.toNat (if p.kind = 1 then A.keep (chOf p) else A.cut)
def acts (o : List Pt) : List A := o.flatMap acts1
theorem acts_nil : acts [] = [] := rfl
theorem acts_cons (p : Pt) (o : List Pt) : acts (p :: o) = acts1 p ++ acts o := rfl
theorem acts_app (o o' : List Pt) : acts (o ++ o') = acts o ++ acts o' := List.flatMap_append
theorem acts1_keep (c : Ch) (n : Int) : acts1 (keepP c n) = List.replicate n.toNat (A.keep c) := rfl
theorem acts1_put (xs : List It) : acts1 (putP xs) = xs.map A.put := rfl
theorem acts1_cut (n : Nat) : acts1 (cutP n) = List.replicate n A.cut := rfl
/-- What is put and cut, as parts. -/
def flushP (ps : List It) (n : Nat) : List Pt := (if ps.isEmpty then [] else [putP ps]) ++ (if n = 0 then [] else [cutP n])
theorem acts_flush (ps : List It) (n : Nat) : acts (flushP ps n) = group ps n := by
  unfold flushP group
  rw [acts_app]
  congr 1
  · cases ps with
    | nil => rfl
    | cons x t => simp [acts, acts1_put]
  · cases n with
    | zero => rfl
    | succ n => simp [acts, acts1_cut]
/-- Whether a part keeps, with the same change. -/
def likeK (p : Pt) (c : Ch) : Bool := p.kind == 1 && p.set == c.set && p.clr == c.clr && p.goes == c.goes && p.link.data.toList == c.link.data.toList
/-- One more item is kept. -/
def addK : List Pt → Ch → List Pt
  | [], c => [keepP c 1]
  | [p], c => if likeK p c then [{ p with n := p.n + 1 }] else [p, keepP c 1]
  | p :: q :: o, c => p :: addK (q :: o) c
theorem likeK_ch {p : Pt} {c : Ch} (h : likeK p c = true) : p.kind = 1 ∧ chOf p = c := by
  unfold likeK at h
  simp only [Bool.and_eq_true, beq_iff_eq] at h
  obtain ⟨⟨⟨⟨h1, h2⟩, h3⟩, h4⟩, h5⟩ := h
  refine ⟨h1, ?_⟩
  unfold chOf
  cases c
  simp at h2 h3 h4 h5
  have : p.link = _ := ByteArray.ext h5
  rw [h2, h3, h4, this]
/-- Parts of which what is kept is some. -/
def Pos (o : List Pt) : Prop := ∀ p ∈ o, p.kind = 1 → 1 ≤ p.n
theorem acts_addK : ∀ (o : List Pt) (c : Ch), Pos o → acts (addK o c) = acts o ++ [A.keep c]
  | [], c, _ => rfl
  | [p], c, hp => by
    rw [addK]
    split
    · rename_i h
      obtain ⟨h1, h2⟩ := likeK_ch h
      have hn := hp p (by simp) h1
      have a1 : ∀ q : Pt, q.kind = 1 → chOf q = c → acts1 q = List.replicate q.n.toNat (A.keep c) := fun q k1 k2 => by
        unfold acts1
        rw [if_neg (by rw [k1]; decide), if_pos k1, k2]
      have hc : chOf { p with n := p.n + 1 } = c := h2
      rw [acts_cons, acts_nil, acts_cons, acts_nil, List.append_nil, List.append_nil, a1 p h1 h2, a1 { p with n := p.n + 1 } h1 hc]
      show List.replicate (p.n + 1).toNat _ = _
      rw [show (p.n + 1).toNat = p.n.toNat + 1 by omega, List.replicate_succ']
    · rw [acts_cons, acts_cons, acts_cons, acts_nil, List.append_nil, List.append_nil]
      rfl
  | p :: q :: o, c, hp => by
    rw [addK, acts_cons, acts_addK (q :: o) c (fun x hx => hp x (List.mem_cons_of_mem _ hx)), acts_cons p, List.append_assoc]
theorem addK_pos : ∀ (o : List Pt) (c : Ch), Pos o → Pos (addK o c)
  | [], c, _ => by
    intro p hp _
    simp [addK] at hp
    subst hp
    exact Int.le_refl _
  | [p], c, h => by
    rw [addK]
    split
    · intro x hx h1
      simp at hx
      subst hx
      have := h p (by simp) h1
      simp only
      omega
    · intro x hx h1
      simp at hx
      rcases hx with rfl | rfl
      · exact h x (by simp) h1
      · exact Int.le_refl _
  | p :: q :: o, c, h => by
    rw [addK]
    intro x hx h1
    rcases List.mem_cons.1 hx with rfl | hx
    · exact h x (by simp) h1
    · exact addK_pos (q :: o) c (fun x hx => h x (List.mem_cons_of_mem _ hx)) x hx h1
theorem flush_pos (ps : List It) (n : Nat) : Pos (flushP ps n) := by
  intro p hp h1
  unfold flushP at hp
  rcases List.mem_append.1 hp with h | h
  · split at h
    · cases h
    · simp at h; subst h; cases h1
  · split at h
    · cases h
    · simp at h; subst h; cases h1
theorem Pos.app {o o' : List Pt} (h : Pos o) (h' : Pos o') : Pos (o ++ o') := fun p hp h1 => by
  rcases List.mem_append.1 hp with hp | hp
  · exact h p hp h1
  · exact h' p hp h1
/-- Acts made parts: what was laid so far, what is put and cut behind it, what is to come. -/
def tdy : List Pt → List It → Nat → List A → List Pt
  | out, ps, n, [] => out ++ flushP ps n
  | out, ps, n, some (.inr x) :: r => tdy out (ps ++ [x]) n r
  | out, ps, n, none :: r => tdy out ps (n + 1) r
  | out, ps, n, some (.inl c) :: r => tdy (addK (out ++ flushP ps n) c) [] 0 r
theorem acts_tdy : ∀ (l : List A) (out : List Pt) (ps : List It) (n : Nat), Pos out → acts (tdy out ps n l) = acts out ++ norm ps n l
  | [], out, ps, n, _ => by rw [tdy, norm, acts_app, acts_flush]
  | some (.inr x) :: r, out, ps, n, h => by rw [tdy, norm, acts_tdy r out _ _ h]
  | none :: r, out, ps, n, h => by rw [tdy, norm, acts_tdy r out _ _ h]
  | some (.inl c) :: r, out, ps, n, h => by
    have hp := h.app (flush_pos ps n)
    rw [tdy, norm, acts_tdy r _ _ _ (addK_pos _ c hp), acts_addK _ c hp, acts_app, acts_flush]
    simp
def tidy (o : List Pt) : List Pt := tdy [] [] 0 (acts o)
/-- Tidy's acts are its operation's, what is put ahead of what is cut. -/
theorem acts_tidy (o : List Pt) : acts (tidy o) = nf (acts o) := by
  unfold tidy
  rw [acts_tdy _ _ _ _ (fun p hp => by cases hp), acts_nil]
  rfl
theorem tdy_puts : ∀ (qs : List It) (out : List Pt) (ps : List It) (n : Nat) (r : List A), tdy out ps n (qs.map A.put ++ r) = tdy out (ps ++ qs) n r
  | [], out, ps, n, r => by simp
  | x :: qs, out, ps, n, r => by
    rw [List.map_cons, List.cons_append, tdy, tdy_puts qs]
    simp
theorem tdy_cuts : ∀ (k : Nat) (out : List Pt) (ps : List It) (n : Nat) (r : List A), tdy out ps n (List.replicate k A.cut ++ r) = tdy out ps (n + k) r
  | 0, out, ps, n, r => by simp
  | k + 1, out, ps, n, r => by
    rw [List.replicate_succ, List.cons_append, tdy, tdy_cuts k]
    congr 1
    omega
theorem tdy_group (qs : List It) (k : Nat) (out : List Pt) (ps : List It) (n : Nat) (r : List A) : tdy out ps n (group qs k ++ r) = tdy out (ps ++ qs) (n + k) r := by
  unfold group
  rw [List.append_assoc, tdy_puts, tdy_cuts]
theorem tdy_norm : ∀ (l : List A) (out : List Pt) (qs : List It) (k : Nat) (ps : List It) (n : Nat), tdy out ps n (norm qs k l) = tdy out (ps ++ qs) (n + k) l
  | [], out, qs, k, ps, n => by
    have := tdy_group qs k out ps n []
    rw [List.append_nil] at this
    exact this
  | some (.inr x) :: r, out, qs, k, ps, n => by
    rw [norm, tdy_norm r, tdy]
    simp
  | none :: r, out, qs, k, ps, n => by
    rw [norm, tdy_norm r, tdy]
    rfl
  | some (.inl c) :: r, out, qs, k, ps, n => by
    rw [norm, tdy_group, tdy, tdy, tdy_norm r]
    rfl
/-- What is tidy is as Tidy makes it. -/
theorem tidy_tidy (o : List Pt) : tidy (tidy o) = tidy o := by
  unfold tidy
  rw [show acts (tdy [] [] 0 (acts o)) = nf (acts o) from acts_tidy o]
  exact tdy_norm (acts o) [] [] 0 [] 0
/-- What says the same, as acts, is tidied to the same. -/
theorem tidy_of {o o' : List Pt} (h : nf (acts o) = nf (acts o')) : tidy o = tidy o' := by
  have h1 := tdy_norm (acts o) [] [] 0 [] 0
  have h2 := tdy_norm (acts o') [] [] 0 [] 0
  unfold nf at h
  rw [h] at h1
  exact h1.symm.trans h2
end Ac
end Go.Proofs.YtgidmnoinbbajaaDoor
