/-
  What the reference's Turn makes of two operations' rows, row by row.
-/
import Derived.Test.YtbhcklkbckacpaaGreatDoorQb
import Derived.Test.YtbhcklkbckacpaaGreatDoorPi
namespace Go.Proofs.YtbhcklkbckacpaaGreatDoor
open Go.RowKit
def keepA : AV := ⟨1, it0, ⟨1, 1, none, 0, 0, [], 0, 0, false, ⟨#[]⟩⟩⟩
theorem toA_keepA : Ac.toA keepA = Ac.A.keep Ac.nop := by
  unfold Ac.toA
  rw [if_neg (by decide), if_neg (by decide)]
  rfl
theorem toA_put {a : AV} (h : a.kind = 2) : Ac.toA a = Ac.A.put a.x := if_pos h
theorem toA_cut {a : AV} (h : a.kind = 3) : Ac.toA a = Ac.A.cut := by unfold Ac.toA; rw [if_neg (by omega), if_pos h]
theorem toA_keep {a : AV} (h : a.kind = 1) : Ac.toA a = Ac.A.keep (Ac.chOf a.p.pt) := by unfold Ac.toA; rw [if_neg (by omega), if_neg (by omega)]
theorem toA_puts {l : List AV} (h : ∀ a ∈ l, a.kind = 2) : l.map Ac.toA = (l.map AV.x).map Ac.A.put := by
  rw [List.map_map]
  exact List.map_congr_left fun a ha => toA_put (h a ha)
theorem toA_keeps (n : Nat) : (List.replicate n keepA).map Ac.toA = List.replicate n (Ac.A.keep Ac.nop) := by rw [List.map_replicate, toA_keepA]
def behA (s t : AV) : AV := ⟨t.kind, t.x, { t.p with set := Ac.less t.p.set (Ac.both s.p.set s.p.clr), clr := Ac.less t.p.clr (Ac.both s.p.set s.p.clr), goes := t.p.goes && !s.p.goes, link := if s.p.goes then ⟨#[]⟩ else t.p.link }⟩
def ownX (s t : AV) : List AV := if t.kind = 1 then [s] else []
def ownY (s t : AV) : List AV := if s.kind = 1 then (if t.kind = 1 then [behA s t] else [t]) else []
def rowX (z : RwV × RwV) : List AV := z.1.put ++ List.replicate z.2.put.length keepA ++ ownX z.1.own z.2.own
def rowY (z : RwV × RwV) : List AV := List.replicate z.1.put.length keepA ++ z.2.put ++ ownY z.1.own z.2.own
structure RwK (r : RwV) : Prop where
  put : ∀ a ∈ r.put, a.kind = 2
  own : r.own.kind = 1 ∨ r.own.kind = 3
theorem toA_beh {s t : AV} (h : t.kind = 1) : Ac.toA (behA s t) = Ac.A.keep (Ac.behind (Ac.chOf t.p.pt) (Ac.chOf s.p.pt)) := by
  rw [toA_keep (show (behA s t).kind = 1 from h)]
  rfl
theorem turn_own {s t : AV} (hs : s.kind = 1 ∨ s.kind = 3) (ht : t.kind = 1 ∨ t.kind = 3) (a b : List Ac.A) :
    Ac.turn (Ac.toA s :: a) (Ac.toA t :: b) = ((ownX s t).map Ac.toA ++ (Ac.turn a b).1, (ownY s t).map Ac.toA ++ (Ac.turn a b).2) := by
  unfold ownX ownY
  rcases hs with hs | hs <;> rcases ht with ht | ht
  · rw [if_pos hs, if_pos ht, if_pos ht, toA_keep hs, toA_keep ht, Ac.turn_kk, List.map_singleton, List.map_singleton, toA_beh ht, toA_keep hs]
    rfl
  · rw [if_pos hs, if_neg (by omega), if_neg (by omega), toA_keep hs, toA_cut ht, Ac.turn_kc, List.map_nil, List.map_singleton, toA_cut ht]
    rfl
  · rw [if_pos ht, if_neg (show ¬ s.kind = 1 by omega), toA_cut hs, toA_keep ht, Ac.turn_ck, List.map_nil, List.map_singleton, toA_cut hs]
    rfl
  · rw [if_neg (by omega), if_neg (by omega), toA_cut hs, toA_cut ht, Ac.turn_cc]
    rfl
theorem flatR_cons (r : RwV) (R : List RwV) : flatR (r :: R) = r.put ++ r.own :: flatR R := by
  show (r.put ++ [r.own]) ++ flatR R = _
  rw [List.append_assoc]
  rfl
theorem turn_row (z : RwV × RwV) (h1 : RwK z.1) (h2 : RwK z.2) (R Q : List RwV) :
    Ac.turn ((flatR (z.1 :: R)).map Ac.toA) ((flatR (z.2 :: Q)).map Ac.toA) = ((rowX z).map Ac.toA ++ (Ac.turn ((flatR R).map Ac.toA) ((flatR Q).map Ac.toA)).1, (rowY z).map Ac.toA ++ (Ac.turn ((flatR R).map Ac.toA) ((flatR Q).map Ac.toA)).2) := by
  rw [flatR_cons, flatR_cons, List.map_append, List.map_append, List.map_cons, List.map_cons, toA_puts h1.put, toA_puts h2.put, Ac.turn_puts]
  rw [Ac.turn_puts_r _ _ (by
    rcases h1.own with k | k
    · exact Or.inl ⟨_, _, by rw [toA_keep k]⟩
    · exact Or.inr ⟨_, by rw [toA_cut k]⟩), turn_own h1.own h2.own]
  unfold rowX rowY
  simp only [List.map_append, toA_puts h1.put, toA_puts h2.put, toA_keeps, List.append_assoc, List.length_map]
def madeX (Z : List (RwV × RwV)) : List AV := Z.flatMap rowX
def madeY (Z : List (RwV × RwV)) : List AV := Z.flatMap rowY
theorem madeX_app (Z Z' : List (RwV × RwV)) : madeX (Z ++ Z') = madeX Z ++ madeX Z' := List.flatMap_append
theorem madeY_app (Z Z' : List (RwV × RwV)) : madeY (Z ++ Z') = madeY Z ++ madeY Z' := List.flatMap_append
theorem madeX_one (z : RwV × RwV) : madeX [z] = rowX z := by simp [madeX]
theorem madeY_one (z : RwV × RwV) : madeY [z] = rowY z := by simp [madeY]
theorem turn_rows : ∀ (Z : List (RwV × RwV)), (∀ z ∈ Z, RwK z.1 ∧ RwK z.2) → Ac.turn ((flatR (Z.map Prod.fst)).map Ac.toA) ((flatR (Z.map Prod.snd)).map Ac.toA) = ((madeX Z).map Ac.toA, (madeY Z).map Ac.toA)
  | [], _ => rfl
  | z :: Z, h => by
    have hz := h z (List.mem_cons_self ..)
    rw [List.map_cons, List.map_cons, turn_row z hz.1 hz.2, turn_rows Z (fun y hy => h y (List.mem_cons_of_mem _ hy))]
    have e1 : madeX (z :: Z) = rowX z ++ madeX Z := rfl
    have e2 : madeY (z :: Z) = rowY z ++ madeY Z := rfl
    rw [e1, e2, List.map_append, List.map_append]
theorem need_rows : ∀ (R : List RwV), (∀ r ∈ R, RwK r) → Ac.need ((flatR R).map Ac.toA) = R.length
  | [], _ => rfl
  | r :: R, h => by
    have hr := h r (List.mem_cons_self ..)
    have ih := need_rows R (fun y hy => h y (List.mem_cons_of_mem _ hy))
    have key : ∀ (l : List It) (b : List Ac.A), Ac.need (l.map Ac.A.put ++ b) = Ac.need b := fun l b => by
      induction l with
      | nil => rfl
      | cons x l ihl => exact ihl
    rw [flatR_cons, List.map_append, List.map_cons, toA_puts hr.put, key, List.length_cons]
    rcases hr.own with k | k
    · rw [toA_keep k]; show Ac.need _ + 1 = _; rw [ih]
    · rw [toA_cut k]; show Ac.need _ + 1 = _; rw [ih]
theorem rows_end {vs : List PV} (h : Ac.Right (vs.map PV.pt)) (hok : ∀ v ∈ vs, Ac.err1 v.pt = 0) {R : List RwV} {ps : List AV} (hp : ∀ a ∈ ps, a.kind = 2) (e : flatR R ++ ps = actsV vs) : ps = [] := by
  obtain ⟨l, c, hl⟩ := h.snoc
  rw [← Ac.acts_toA hok, ← e, List.map_append] at hl
  rcases List.eq_nil_or_concat ps with h0 | ⟨qs, a, rfl⟩
  · exact h0
  · have ha := hp a (by simp)
    rw [List.concat_eq_append, List.map_append, List.map_singleton, ← List.append_assoc, toA_put ha] at hl
    have := List.append_inj_right' hl rfl
    cases this
theorem rows_right {vs : List PV} {w : World} (hok : ∀ v ∈ vs, Ac.err1 v.pt = 0) (hp : ∀ v ∈ vs, Pvt w v) {R : List RwV} (hR : ∀ r ∈ R, RwOk r) (e : flatR R = actsV vs) : ∀ r ∈ R, RwK r := fun r hr => by
  refine ⟨(hR r hr).put, ?_⟩
  have hm : r.own ∈ flatR R := List.mem_flatMap.2 ⟨r, hr, by simp⟩
  rw [e] at hm
  rcases Ac.okT_acts hok hp _ hm with k | k | k
  · exact absurd k.1 (hR r hr).own
  · exact Or.inl k.1
  · exact Or.inr k
theorem okT_keepA (w : World) : Ac.OkT w keepA := Or.inr (Or.inl ⟨rfl, rfl, rfl, rfl, rfl, ⟨doc_none w, by decide⟩⟩)
theorem okT_beh {w : World} {s t : AV} (h : Ac.OkT w t) (k : t.kind = 1) : Ac.OkT w (behA s t) := by
  rcases h with h | h | h
  · omega
  · obtain ⟨h1, h2, h3, h4, h5, h6⟩ := h
    refine Or.inr (Or.inl ⟨h1, h2, h3, h4, h5, ⟨h6.doc, ?_⟩⟩)
    show (if s.p.goes then (⟨#[]⟩ : ByteArray) else t.p.link).size ≤ _
    split
    · decide
    · exact h6.fit
  · omega
theorem made_okT {w : World} {Z : List (RwV × RwV)} (h1 : ∀ a ∈ flatR (Z.map Prod.fst), Ac.OkT w a) (h2 : ∀ a ∈ flatR (Z.map Prod.snd), Ac.OkT w a) : (∀ a ∈ madeX Z, Ac.OkT w a) ∧ ∀ a ∈ madeY Z, Ac.OkT w a := by
  have m1 : ∀ z ∈ Z, (∀ a ∈ z.1.put, Ac.OkT w a) ∧ Ac.OkT w z.1.own := fun z hz =>
    ⟨fun a ha => h1 a (List.mem_flatMap.2 ⟨z.1, List.mem_map.2 ⟨z, hz, rfl⟩, by simp [ha]⟩), h1 _ (List.mem_flatMap.2 ⟨z.1, List.mem_map.2 ⟨z, hz, rfl⟩, by simp⟩)⟩
  have m2 : ∀ z ∈ Z, (∀ a ∈ z.2.put, Ac.OkT w a) ∧ Ac.OkT w z.2.own := fun z hz =>
    ⟨fun a ha => h2 a (List.mem_flatMap.2 ⟨z.2, List.mem_map.2 ⟨z, hz, rfl⟩, by simp [ha]⟩), h2 _ (List.mem_flatMap.2 ⟨z.2, List.mem_map.2 ⟨z, hz, rfl⟩, by simp⟩)⟩
  refine ⟨fun a ha => ?_, fun a ha => ?_⟩
  · obtain ⟨z, hz, ha⟩ := List.mem_flatMap.1 ha
    unfold rowX ownX at ha
    rcases List.mem_append.1 ha with ha | ha
    · rcases List.mem_append.1 ha with ha | ha
      · exact (m1 z hz).1 a ha
      · rw [(List.mem_replicate.1 ha).2]; exact okT_keepA w
    · split at ha
      · rw [List.mem_singleton.1 ha]; exact (m1 z hz).2
      · cases ha
  · obtain ⟨z, hz, ha⟩ := List.mem_flatMap.1 ha
    unfold rowY ownY at ha
    rcases List.mem_append.1 ha with ha | ha
    · rcases List.mem_append.1 ha with ha | ha
      · rw [(List.mem_replicate.1 ha).2]; exact okT_keepA w
      · exact (m2 z hz).1 a ha
    · split at ha
      · split at ha
        · rename_i k; rw [List.mem_singleton.1 ha]; exact okT_beh (m2 z hz).2 k
        · rw [List.mem_singleton.1 ha]; exact (m2 z hz).2
      · cases ha
theorem made_len : ∀ Z : List (RwV × RwV), (madeX Z).length ≤ (flatR (Z.map Prod.fst)).length + (flatR (Z.map Prod.snd)).length ∧ (madeY Z).length ≤ (flatR (Z.map Prod.fst)).length + (flatR (Z.map Prod.snd)).length
  | [] => ⟨Nat.le_refl _, Nat.le_refl _⟩
  | z :: Z => by
    have ih := made_len Z
    have e1 : madeX (z :: Z) = rowX z ++ madeX Z := rfl
    have e2 : madeY (z :: Z) = rowY z ++ madeY Z := rfl
    have k1 : (ownX z.1.own z.2.own).length ≤ 1 := by unfold ownX; split <;> simp
    have k2 : (ownY z.1.own z.2.own).length ≤ 1 := by
      unfold ownY
      split
      · split <;> simp
      · simp
    rw [e1, e2, List.map_cons, List.map_cons, flatR_cons, flatR_cons]
    unfold rowX rowY
    simp only [List.length_append, List.length_replicate, List.length_cons]
    omega
end Go.Proofs.YtbhcklkbckacpaaGreatDoor
