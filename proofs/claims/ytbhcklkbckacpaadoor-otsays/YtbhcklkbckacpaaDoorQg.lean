/-
  What the reference's Join makes of the acts of one and the rows of another one.
-/
import Derived.Test.YtbhcklkbckacpaaDoorQf
namespace Go.Proofs.YtbhcklkbckacpaaDoor
open Go.RowKit
/-- An act of the first that keeps, with the second's behind it. -/
def thenA (s t : AV) : AV := ⟨s.kind, s.x, { s.p with set := Ac.both (Ac.less s.p.set t.p.clr) t.p.set, clr := Ac.both (Ac.less s.p.clr t.p.set) t.p.clr, goes := t.p.goes || s.p.goes, link := if t.p.goes then t.p.link else s.p.link }⟩
/-- What is put, changed. -/
def chgA (s t : AV) : AV := ⟨s.kind, Ac.change s.x (Ac.chOf t.p.pt), s.p⟩
def ownJ (s t : AV) : List AV := if s.kind = 1 then (if t.kind = 3 then [t] else [thenA s t]) else (if t.kind = 1 then [chgA s t] else [])
def joinA : List AV → List RwV → List AV
  | [], _ => []
  | s :: la, [] => if s.kind = 3 then s :: joinA la [] else []
  | s :: la, t :: R => if s.kind = 3 then s :: joinA la (t :: R) else t.put ++ ownJ s t.own ++ joinA la R
theorem joinA_cut {s : AV} (h : s.kind = 3) (la : List AV) (R : List RwV) : joinA (s :: la) R = s :: joinA la R := by
  cases R with
  | nil => exact if_pos h
  | cons t R => exact if_pos h
theorem joinA_go {s : AV} (h : ¬ s.kind = 3) (la : List AV) (t : RwV) (R : List RwV) : joinA (s :: la) (t :: R) = t.put ++ ownJ s t.own ++ joinA la R := if_neg h
def stay (l : List AV) : Nat := (l.filter (fun s => !(s.kind == 3))).length
theorem stay_cut {s : AV} (h : s.kind = 3) (l : List AV) : stay (s :: l) = stay l := by unfold stay; rw [List.filter_cons, if_neg (by simp [h])]
theorem stay_go {s : AV} (h : ¬ s.kind = 3) (l : List AV) : stay (s :: l) = stay l + 1 := by unfold stay; rw [List.filter_cons, if_pos (by simp [h])]; rfl
theorem toA_then {s t : AV} (hs : s.kind = 1) : Ac.toA (thenA s t) = Ac.A.keep (Ac.thenCh (Ac.chOf s.p.pt) (Ac.chOf t.p.pt)) := by
  rw [toA_keep (show (thenA s t).kind = 1 from hs)]
  show Ac.A.keep ⟨_, _, t.p.goes || s.p.goes, _⟩ = Ac.A.keep ⟨_, _, s.p.goes || t.p.goes, _⟩
  rw [Bool.or_comm]
  rfl
theorem join_row {s : AV} {t : RwV} (hs : s.kind = 1 ∨ s.kind = 2) (ht : RwK t) (la : List AV) (R : List RwV) :
    Ac.join ((s :: la).map Ac.toA) ((flatR (t :: R)).map Ac.toA) = (t.put ++ ownJ s t.own).map Ac.toA ++ Ac.join (la.map Ac.toA) ((flatR R).map Ac.toA) := by
  rw [flatR_cons, List.map_append, List.map_cons, List.map_cons, toA_puts ht.put]
  have hne : ∀ a', Ac.toA s :: la.map Ac.toA ≠ Ac.A.cut :: a' := by
    intro a' e
    have e1 := (List.cons.inj e).1
    rcases hs with hs | hs
    · rw [toA_keep hs] at e1; cases e1
    · rw [toA_put hs] at e1; cases e1
  rw [Ac.join_puts_r _ _ hne, List.map_append, toA_puts ht.put, List.append_assoc]
  congr 1
  unfold ownJ
  rcases hs with hs | hs <;> rcases ht.own with ht | ht
  · rw [if_pos hs, if_neg (by omega), toA_keep hs, toA_keep ht, Ac.join_kk, List.map_singleton, toA_then hs]
    rfl
  · rw [if_pos hs, if_pos ht, toA_keep hs, toA_cut ht, Ac.join_kc, List.map_singleton, toA_cut ht]
    rfl
  · rw [if_neg (by omega), if_pos ht, toA_put hs, toA_keep ht, Ac.join_pk, List.map_singleton, toA_put (show (chgA s t.own).kind = 2 from hs)]
    rfl
  · rw [if_neg (by omega), if_neg (by omega), toA_put hs, toA_cut ht, Ac.join_pc]
    rfl
theorem join_rows : ∀ (la : List AV) (R : List RwV), (∀ s ∈ la, s.kind = 1 ∨ s.kind = 2 ∨ s.kind = 3) → (∀ t ∈ R, RwK t) → stay la = R.length →
    (joinA la R).map Ac.toA = Ac.join (la.map Ac.toA) ((flatR R).map Ac.toA)
  | [], R, _, _, h => by
    have : R = [] := List.length_eq_zero_iff.1 h.symm
    subst this
    rfl
  | s :: la, R, hk, hR, h => by
    have hk2 := fun x hx => hk x (List.mem_cons_of_mem _ hx)
    by_cases h3 : s.kind = 3
    · rw [stay_cut h3] at h
      rw [joinA_cut h3, List.map_cons, List.map_cons, toA_cut h3, Ac.join_cut, join_rows la R hk2 hR h]
    · rw [stay_go h3] at h
      cases R with
      | nil => cases h
      | cons t R =>
        have hs : s.kind = 1 ∨ s.kind = 2 := by
          rcases hk s (List.mem_cons_self ..) with e | e | e
          · exact .inl e
          · exact .inr e
          · exact absurd e h3
        rw [joinA_go h3, List.map_append, join_rows la R hk2 (fun x hx => hR x (List.mem_cons_of_mem _ hx)) (by simpa using h), join_row hs (hR t (List.mem_cons_self ..))]
theorem leave_stay : ∀ (la : List AV), (∀ s ∈ la, s.kind = 1 ∨ s.kind = 2 ∨ s.kind = 3) → Ac.leave (la.map Ac.toA) = stay la
  | [], _ => rfl
  | s :: la, hk => by
    have ih := leave_stay la (fun x hx => hk x (List.mem_cons_of_mem _ hx))
    rcases hk s (List.mem_cons_self ..) with e | e | e
    · rw [stay_go (by omega), List.map_cons, toA_keep e, ← ih]
      rfl
    · rw [stay_go (by omega), List.map_cons, toA_put e, ← ih]
      rfl
    · rw [stay_cut e, List.map_cons, toA_cut e, ← ih]
      rfl
theorem flatR_len_cons (t : RwV) (R : List RwV) : (flatR (t :: R)).length = t.put.length + 1 + (flatR R).length := by
  rw [flatR_cons, List.length_append, List.length_cons]; omega
theorem ownJ_len (s t : AV) : (ownJ s t).length ≤ 1 := by
  unfold ownJ
  split <;> split <;> simp
theorem joinA_len : ∀ (la : List AV) (R : List RwV), (joinA la R).length ≤ la.length + (flatR R).length
  | [], R => by show 0 ≤ _; omega
  | s :: la, R => by
    by_cases h3 : s.kind = 3
    · rw [joinA_cut h3, List.length_cons, List.length_cons]
      have := joinA_len la R
      omega
    · cases R with
      | nil =>
        have : joinA (s :: la) [] = [] := if_neg h3
        rw [this]
        show 0 ≤ _
        omega
      | cons t R =>
        rw [joinA_go h3, List.length_append, List.length_append, flatR_len_cons, List.length_cons]
        have := joinA_len la R
        have := ownJ_len s t.own
        omega
theorem okT_p {w : World} {a : AV} (h : Ac.OkT w a) (k : a.kind = 1) : a.p.kind = 1 ∧ a.p.n = 1 ∧ a.p.m = 0 ∧ a.p.items = [] ∧ Pvt w a.p := by
  rcases h with ⟨k2, _⟩ | ⟨_, h⟩ | k3
  · omega
  · exact h
  · omega
theorem okT_x {w : World} {a : AV} (h : Ac.OkT w a) (k : a.kind = 2) : a.x.l.size ≤ 9223372036854775807 := by
  rcases h with ⟨_, h⟩ | ⟨k1, _⟩ | k3
  · exact h
  · omega
  · omega
theorem okT_then {w : World} {s t : AV} (hs : Ac.OkT w s) (ht : Ac.OkT w t) (ks : s.kind = 1) (kt : t.kind = 1) : Ac.OkT w (thenA s t) := by
  obtain ⟨h1, h2, h3, h4, h5⟩ := okT_p hs ks
  obtain ⟨-, -, -, -, g5⟩ := okT_p ht kt
  refine Or.inr (Or.inl ⟨ks, h1, h2, h3, h4, ⟨h5.doc, ?_⟩⟩)
  show (if t.p.goes then t.p.link else s.p.link).size ≤ _
  split
  · exact g5.fit
  · exact h5.fit
theorem okT_chg {w : World} {s t : AV} (hs : Ac.OkT w s) (ht : Ac.OkT w t) (ks : s.kind = 2) (kt : t.kind = 1) : Ac.OkT w (chgA s t) := by
  have h1 := okT_x hs ks
  obtain ⟨-, -, -, -, g5⟩ := okT_p ht kt
  refine Or.inl ⟨ks, ?_⟩
  show (if (t.p.goes && !Dc.ends s.x) = true then t.p.link else s.x.l).size ≤ _
  split
  · exact g5.fit
  · exact h1
/-- What is made is right, where the acts and the rows are. -/
theorem joinA_okT {w : World} : ∀ (la : List AV) (R : List RwV), (∀ s ∈ la, s.kind = 1 ∨ s.kind = 2 ∨ s.kind = 3) → (∀ t ∈ R, RwK t) → (∀ a ∈ la, Ac.OkT w a) → (∀ a ∈ flatR R, Ac.OkT w a) → ∀ a ∈ joinA la R, Ac.OkT w a
  | [], R, _, _, _, _ => fun a ha => by cases ha
  | s :: la, R, hk, hR, h1, h2 => by
    have hk2 := fun x hx => hk x (List.mem_cons_of_mem _ hx)
    have h12 := fun x hx => h1 x (List.mem_cons_of_mem _ hx)
    by_cases h3 : s.kind = 3
    · rw [joinA_cut h3]
      intro a ha
      rcases List.mem_cons.1 ha with rfl | ha
      · exact h1 _ (List.mem_cons_self ..)
      · exact joinA_okT la R hk2 hR h12 h2 a ha
    · cases R with
      | nil =>
        have : joinA (s :: la) [] = [] := if_neg h3
        rw [this]
        intro a ha
        cases ha
      | cons t R =>
        rw [joinA_go h3]
        rw [flatR_cons] at h2
        intro a ha
        rcases List.mem_append.1 ha with ha | ha
        · rcases List.mem_append.1 ha with ha | ha
          · exact h2 a (List.mem_append_left _ ha)
          · have hs := h1 s (List.mem_cons_self ..)
            have ht := h2 t.own (List.mem_append_right _ (List.mem_cons_self ..))
            unfold ownJ at ha
            rcases (hR t (List.mem_cons_self ..)).own with kt | kt
            · split at ha
              · rename_i ks
                rw [if_neg (by omega)] at ha
                rw [List.mem_singleton.1 ha]
                exact okT_then hs ht ks kt
              · rename_i ks
                rw [List.mem_singleton.1 ha]
                refine okT_chg hs ht ?_ kt
                rcases hk s (List.mem_cons_self ..) with e | e | e
                · exact absurd e ks
                · exact e
                · exact absurd e h3
            · split at ha
              · rw [List.mem_singleton.1 ha]
                exact ht
              · rw [if_neg (by omega)] at ha
                cases ha
        · exact joinA_okT la R hk2 (fun x hx => hR x (List.mem_cons_of_mem _ hx)) h12 (fun x hx => h2 x (List.mem_append_right _ (List.mem_cons_of_mem _ hx))) a ha
end Go.Proofs.YtbhcklkbckacpaaDoor
