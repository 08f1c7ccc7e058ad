/-
  Texts of this proof, one behind the other.
-/
import Derived.Test.YtaigleblmbblcaaDoorM2
import Derived.Test.YtaigleblmbblcaaDoorM1

/-
  Chapters 7 and 8 on lists of acts, one an item (kept with a change, put, cut): what they make of items; two, turned behind each other, meet; two, joined, do what the one and then the other one does; joined three in either way are the same; tidied they do the same.
-/
namespace Go.Proofs.YtaigleblmbblcaaDoor
open Go.RowKit
namespace Ac
/-- What is done to an item that is kept: marks that are set and cleared, whether its link is another one, and which. -/
structure Ch where
  set : Int
  clr : Int
  goes : Bool
  link : ByteArray
/-- An act: an item is kept, with a change, put, or cut. -/
abbrev A := Option (Ch ⊕ It)
namespace A
abbrev keep (c : Ch) : A := some (.inl c)
abbrev put (x : It) : A := some (.inr x)
abbrev cut : A := none
end A
def nop : Ch := ⟨0, 0, false, ⟨#[]⟩⟩
/-- Marks without those that are cleared, with those that are set. -/
def mark (m c s : Int) : Int := ((m.toNat - (m.toNat &&& c.toNat)) ||| s.toNat : Nat)
/-- Marks without those of another. -/
def less (a b : Int) : Int := (a.toNat - (a.toNat &&& b.toNat) : Nat)
def both (a b : Int) : Int := (a.toNat ||| b.toNat : Nat)
def change (x : It) (c : Ch) : It := ⟨x.c, mark x.m c.clr c.set, if c.goes && !Dc.ends x then c.link else x.l⟩
/-- Marks that may be. -/
def m4 (m : Int) : Prop := 0 ≤ m ∧ m ≤ 3
structure ChOk (c : Ch) : Prop where
  set : m4 c.set
  clr : m4 c.clr
theorem nop_ok : ChOk nop := ⟨⟨by decide, by decide⟩, ⟨by decide, by decide⟩⟩
theorem m4_nat {m : Int} (h : m4 m) : ∃ k : Nat, k < 4 ∧ m = k := by
  obtain ⟨h0, h3⟩ := h
  exact ⟨m.toNat, by omega, by omega⟩
def A.ok : A → Prop
  | some (.inl c) => ChOk c
  | some (.inr x) => m4 x.m
  | none => True
def Ok (l : List A) : Prop := ∀ a ∈ l, A.ok a
/-- What acts make of items. -/
def ap : List A → List It → Option (List It)
  | [], [] => some []
  | [], _ :: _ => none
  | some (.inr x) :: r, d => (ap r d).map (x :: ·)
  | some (.inl _) :: _, [] => none
  | some (.inl c) :: r, x :: d => (ap r d).map (change x c :: ·)
  | none :: _, [] => none
  | none :: r, _ :: d => ap r d
/-- For how many items they are, and how many they leave. -/
def need : List A → Nat
  | [] => 0
  | some (.inr _) :: r => need r
  | some (.inl _) :: r => need r + 1
  | none :: r => need r + 1
def leave : List A → Nat
  | [] => 0
  | some (.inr _) :: r => leave r + 1
  | some (.inl _) :: r => leave r + 1
  | none :: r => leave r
theorem ap_some : ∀ (l : List A) (d : List It), need l = d.length → ∃ p, ap l d = some p ∧ p.length = leave l
  | [], [], _ => ⟨[], rfl, rfl⟩
  | [], _ :: _, h => by simp [need] at h
  | some (.inr x) :: r, d, h => by
    obtain ⟨p, h1, h2⟩ := ap_some r d h
    exact ⟨x :: p, by rw [ap, h1]; rfl, by simp [leave, h2]⟩
  | some (.inl _) :: _, [], h => by simp [need] at h
  | some (.inl c) :: r, x :: d, h => by
    obtain ⟨p, h1, h2⟩ := ap_some r d (by simpa [need] using h)
    exact ⟨change x c :: p, by rw [ap, h1]; rfl, by simp [leave, h2]⟩
  | none :: _, [], h => by simp [need] at h
  | none :: r, _ :: d, h => by
    obtain ⟨p, h1, h2⟩ := ap_some r d (by simpa [need] using h)
    exact ⟨p, by rw [ap, h1], by simp [leave, h2]⟩
theorem ap_need : ∀ (l : List A) (d p : List It), ap l d = some p → need l = d.length
  | [], [], _, _ => rfl
  | [], _ :: _, _, h => by cases h
  | some (.inr x) :: r, d, p, h => by
    rw [ap] at h
    cases hr : ap r d with
    | none => rw [hr] at h; cases h
    | some q => exact ap_need r d q hr
  | some (.inl _) :: _, [], _, h => by cases h
  | some (.inl c) :: r, x :: d, p, h => by
    rw [ap] at h
    cases hr : ap r d with
    | none => rw [hr] at h; cases h
    | some q => simp [need, ap_need r d q hr]
  | none :: _, [], _, h => by cases h
  | none :: r, _ :: d, p, h => by
    rw [ap] at h
    simp [need, ap_need r d p h]
theorem ap_cut (r : List A) (x : It) (d : List It) : ap (.cut :: r) (x :: d) = ap r d := rfl
theorem ap_keep (c : Ch) (r : List A) (x : It) (d : List It) : ap (.keep c :: r) (x :: d) = (ap r d).map (change x c :: ·) := rfl
theorem ap_put (x : It) (r : List A) (d : List It) : ap (.put x :: r) d = (ap r d).map (x :: ·) := by cases d <;> rfl

/- Marks: a finite matter. -/
theorem mark_m4 {m c s : Int} (hm : m4 m) (hc : m4 c) (hs : m4 s) : m4 (mark m c s) := by
  obtain ⟨a, ha, rfl⟩ := m4_nat hm
  obtain ⟨b, hb, rfl⟩ := m4_nat hc
  obtain ⟨e, he, rfl⟩ := m4_nat hs
  have h : ∀ a < 4, ∀ b < 4, ∀ e < 4, ((a - (a &&& b)) ||| e) ≤ 3 := by decide
  have := h a ha b hb e he
  refine ⟨Int.natCast_nonneg _, ?_⟩
  show (((a - (a &&& b)) ||| e : Nat) : Int) ≤ 3
  omega
theorem less_m4 {a b : Int} (ha : m4 a) (hb : m4 b) : m4 (less a b) := by
  obtain ⟨x, hx, rfl⟩ := m4_nat ha
  obtain ⟨y, hy, rfl⟩ := m4_nat hb
  have h : ∀ a < 4, ∀ b < 4, (a - (a &&& b)) ≤ 3 := by decide
  have := h x hx y hy
  refine ⟨Int.natCast_nonneg _, ?_⟩
  show ((x - (x &&& y) : Nat) : Int) ≤ 3
  omega
theorem both_m4 {a b : Int} (ha : m4 a) (hb : m4 b) : m4 (both a b) := by
  obtain ⟨x, hx, rfl⟩ := m4_nat ha
  obtain ⟨y, hy, rfl⟩ := m4_nat hb
  have h : ∀ a < 4, ∀ b < 4, (a ||| b) ≤ 3 := by decide
  have := h x hx y hy
  refine ⟨Int.natCast_nonneg _, ?_⟩
  show ((x ||| y : Nat) : Int) ≤ 3
  omega
theorem mark_nop {m : Int} (hm : m4 m) : mark m 0 0 = m := by
  obtain ⟨a, ha, rfl⟩ := m4_nat hm
  have h : ∀ a < 4, ((a - (a &&& 0)) ||| 0) = a := by decide
  show (((a - (a &&& 0)) ||| 0 : Nat) : Int) = _
  rw [h a ha]
theorem mark_turn {m c1 s1 c2 s2 : Int} (hm : m4 m) (hc1 : m4 c1) (hs1 : m4 s1) (hc2 : m4 c2) (hs2 : m4 s2) :
    mark (mark m c1 s1) (less c2 (both s1 c1)) (less s2 (both s1 c1)) = mark (mark m c2 s2) c1 s1 := by
  obtain ⟨a, ha, rfl⟩ := m4_nat hm
  obtain ⟨b, hb, rfl⟩ := m4_nat hc1
  obtain ⟨e, he, rfl⟩ := m4_nat hs1
  obtain ⟨f, hf, rfl⟩ := m4_nat hc2
  obtain ⟨g, hg, rfl⟩ := m4_nat hs2
  have h : ∀ a < 4, ∀ b < 4, ∀ e < 4, ∀ f < 4, ∀ g < 4, ((((a - (a &&& b)) ||| e) - (((a - (a &&& b)) ||| e) &&& (f - (f &&& (e ||| b))))) ||| (g - (g &&& (e ||| b)))) = ((((a - (a &&& f)) ||| g) - (((a - (a &&& f)) ||| g) &&& b)) ||| e) := by decide +kernel
  exact congrArg Int.ofNat (h a ha b hb e he f hf g hg)
theorem mark_then {m c1 s1 c2 s2 : Int} (hm : m4 m) (hc1 : m4 c1) (hs1 : m4 s1) (hc2 : m4 c2) (hs2 : m4 s2) :
    mark m (both (less c1 s2) c2) (both (less s1 c2) s2) = mark (mark m c1 s1) c2 s2 := by
  obtain ⟨a, ha, rfl⟩ := m4_nat hm
  obtain ⟨b, hb, rfl⟩ := m4_nat hc1
  obtain ⟨e, he, rfl⟩ := m4_nat hs1
  obtain ⟨f, hf, rfl⟩ := m4_nat hc2
  obtain ⟨g, hg, rfl⟩ := m4_nat hs2
  have h : ∀ a < 4, ∀ b < 4, ∀ e < 4, ∀ f < 4, ∀ g < 4, ((a - (a &&& ((b - (b &&& g)) ||| f))) ||| ((e - (e &&& f)) ||| g)) = ((((a - (a &&& b)) ||| e) - (((a - (a &&& b)) ||| e) &&& f)) ||| g) := by decide +kernel
  exact congrArg Int.ofNat (h a ha b hb e he f hf g hg)
/-- b's change behind a's: without the marks that a sets or clears, and, if a has another link, without b's. -/
def behind (b a : Ch) : Ch := ⟨less b.set (both a.set a.clr), less b.clr (both a.set a.clr), b.goes && !a.goes, if a.goes then ⟨#[]⟩ else b.link⟩
/-- a's change, and then b's. -/
def thenCh (a b : Ch) : Ch := ⟨both (less a.set b.clr) b.set, both (less a.clr b.set) b.clr, a.goes || b.goes, if b.goes then b.link else a.link⟩
theorem ends_change (x : It) (c : Ch) : Dc.ends (change x c) = Dc.ends x := rfl
theorem change_turn {x : It} {a b : Ch} (hx : m4 x.m) (ha : ChOk a) (hb : ChOk b) : change (change x a) (behind b a) = change (change x b) a := by
  have hm : (change (change x a) (behind b a)).m = (change (change x b) a).m := mark_turn hx ha.clr ha.set hb.clr hb.set
  have hl : (change (change x a) (behind b a)).l = (change (change x b) a).l := by
    show (if (b.goes && !a.goes) && !Dc.ends x then (if a.goes then (⟨#[]⟩ : ByteArray) else b.link) else (if a.goes && !Dc.ends x then a.link else x.l)) = (if a.goes && !Dc.ends x then a.link else (if b.goes && !Dc.ends x then b.link else x.l))
    cases a.goes <;> cases b.goes <;> cases Dc.ends x <;> rfl
  show (⟨x.c, (change (change x a) (behind b a)).m, (change (change x a) (behind b a)).l⟩ : It) = ⟨x.c, (change (change x b) a).m, (change (change x b) a).l⟩
  rw [hm, hl]
theorem change_then {x : It} {a b : Ch} (hx : m4 x.m) (ha : ChOk a) (hb : ChOk b) : change x (thenCh a b) = change (change x a) b := by
  have hm : (change x (thenCh a b)).m = (change (change x a) b).m := mark_then hx ha.clr ha.set hb.clr hb.set
  have hl : (change x (thenCh a b)).l = (change (change x a) b).l := by
    show (if (a.goes || b.goes) && !Dc.ends x then (if b.goes then b.link else a.link) else x.l) = (if b.goes && !Dc.ends x then b.link else (if a.goes && !Dc.ends x then a.link else x.l))
    cases a.goes <;> cases b.goes <;> cases Dc.ends x <;> rfl
  show (⟨x.c, (change x (thenCh a b)).m, (change x (thenCh a b)).l⟩ : It) = ⟨x.c, (change (change x a) b).m, (change (change x a) b).l⟩
  rw [hm, hl]
theorem change_nop {x : It} (hx : m4 x.m) : change x nop = x := by
  show (⟨x.c, mark x.m 0 0, x.l⟩ : It) = x
  rw [mark_nop hx]
theorem behind_ok {a b : Ch} (ha : ChOk a) (hb : ChOk b) : ChOk (behind b a) := ⟨less_m4 hb.set (both_m4 ha.set ha.clr), less_m4 hb.clr (both_m4 ha.set ha.clr)⟩
theorem then_ok {a b : Ch} (ha : ChOk a) (hb : ChOk b) : ChOk (thenCh a b) := ⟨both_m4 (less_m4 ha.set hb.clr) hb.set, both_m4 (less_m4 ha.clr hb.set) hb.clr⟩

/- Turn. -/
/-- Where a is at a Keep or a Cut, f being the rest of a: b's puts go ahead. -/
def onto (h : Option Ch) (f : List A → List A × List A) : List A → List A × List A
  | [] => ([], [])
  | some (.inr y) :: b => (.keep nop :: (onto h f b).1, .put y :: (onto h f b).2)
  | some (.inl d) :: b => match h with
    | some c => (.keep c :: (f b).1, .keep (behind d c) :: (f b).2)
    | none => (.cut :: (f b).1, (f b).2)
  | none :: b => match h with
    | some _ => ((f b).1, .cut :: (f b).2)
    | none => f b
def tails : List A → List A × List A
  | some (.inr y) :: b => (.keep nop :: (tails b).1, .put y :: (tails b).2)
  | _ => ([], [])
def turn : List A → List A → List A × List A
  | [], b => tails b
  | some (.inr x) :: a, b => (.put x :: (turn a b).1, .keep nop :: (turn a b).2)
  | some (.inl c) :: a, b => onto (some c) (turn a) b
  | none :: a, b => onto none (turn a) b
theorem turn_put (x : It) (a b : List A) : turn (.put x :: a) b = (.put x :: (turn a b).1, .keep nop :: (turn a b).2) := rfl
theorem turn_np (y : It) (b : List A) : turn [] (.put y :: b) = (.keep nop :: (turn [] b).1, .put y :: (turn [] b).2) := rfl
theorem turn_kp (c : Ch) (y : It) (a b : List A) : turn (.keep c :: a) (.put y :: b) = (.keep nop :: (turn (.keep c :: a) b).1, .put y :: (turn (.keep c :: a) b).2) := rfl
theorem turn_cp (y : It) (a b : List A) : turn (.cut :: a) (.put y :: b) = (.keep nop :: (turn (.cut :: a) b).1, .put y :: (turn (.cut :: a) b).2) := rfl
theorem turn_kk (c d : Ch) (a b : List A) : turn (.keep c :: a) (.keep d :: b) = (.keep c :: (turn a b).1, .keep (behind d c) :: (turn a b).2) := rfl
theorem turn_ck (d : Ch) (a b : List A) : turn (.cut :: a) (.keep d :: b) = (.cut :: (turn a b).1, (turn a b).2) := rfl
theorem turn_kc (c : Ch) (a b : List A) : turn (.keep c :: a) (.cut :: b) = ((turn a b).1, .cut :: (turn a b).2) := rfl
theorem turn_cc (a b : List A) : turn (.cut :: a) (.cut :: b) = turn a b := rfl
theorem turn_nn : turn [] [] = ([], []) := rfl
end Ac
namespace Ac
def M4 (d : List It) : Prop := ∀ x ∈ d, m4 x.m
theorem Ok.tail {a : A} {l : List A} (h : Ok (a :: l)) : Ok l := fun b hb => h b (by simp [hb])
theorem Ok.head {a : A} {l : List A} (h : Ok (a :: l)) : A.ok a := h a (by simp)
theorem M4.tail {x : It} {d : List It} (h : M4 (x :: d)) : M4 d := fun y hy => h y (by simp [hy])
theorem M4.head {x : It} {d : List It} (h : M4 (x :: d)) : m4 x.m := h x (by simp)
theorem ap_put_some {x : It} {r : List A} {d p : List It} (h : ap (.put x :: r) d = some p) : ∃ p', p = x :: p' ∧ ap r d = some p' := by
  rw [ap_put] at h
  cases hr : ap r d with
  | none => rw [hr] at h; cases h
  | some q => rw [hr] at h; cases h; exact ⟨q, rfl, rfl⟩
theorem ap_keep_some {c : Ch} {r : List A} {d p : List It} (h : ap (.keep c :: r) d = some p) : ∃ z d' p', d = z :: d' ∧ p = change z c :: p' ∧ ap r d' = some p' := by
  cases d with
  | nil => cases h
  | cons z d' =>
    rw [ap_keep] at h
    cases hr : ap r d' with
    | none => rw [hr] at h; cases h
    | some q => rw [hr] at h; cases h; exact ⟨z, d', q, rfl, rfl, hr⟩
theorem ap_cut_some {r : List A} {d p : List It} (h : ap (.cut :: r) d = some p) : ∃ z d', d = z :: d' ∧ ap r d' = some p := by
  cases d with
  | nil => cases h
  | cons z d' => exact ⟨z, d', rfl, h⟩
theorem ap_nil_some {d p : List It} (h : ap [] d = some p) : d = [] ∧ p = [] := by
  cases d with
  | nil => cases h; exact ⟨rfl, rfl⟩
  | cons => cases h
theorem ap_m4 : ∀ (l : List A) (d p : List It), Ok l → M4 d → ap l d = some p → M4 p
  | [], d, p, _, _, h => by rw [(ap_nil_some h).2]; intro x hx; simp at hx
  | some (.inr x) :: r, d, p, ho, hd, h => by
    obtain ⟨p', rfl, h'⟩ := ap_put_some h
    have ih := ap_m4 r d p' ho.tail hd h'
    intro y hy
    rcases List.mem_cons.1 hy with rfl | hy
    · exact ho.head
    · exact ih y hy
  | some (.inl c) :: r, d, p, ho, hd, h => by
    obtain ⟨z, d', p', rfl, rfl, h'⟩ := ap_keep_some h
    have ih := ap_m4 r d' p' ho.tail hd.tail h'
    intro y hy
    rcases List.mem_cons.1 hy with rfl | hy
    · exact mark_m4 hd.head ho.head.clr ho.head.set
    · exact ih y hy
  | none :: r, d, p, ho, hd, h => by
    obtain ⟨z, d', rfl, h'⟩ := ap_cut_some h
    exact ap_m4 r d' p ho.tail hd.tail h'
/-- Two, done in either order, each turned behind the other one, make the same. -/
theorem turn_meets : ∀ (n : Nat) (a b : List A), a.length + b.length ≤ n → ∀ (d p q : List It), M4 d → Ok a → Ok b → ap a d = some p → ap b d = some q → ∃ r, ap (turn a b).2 p = some r ∧ ap (turn a b).1 q = some r
  | n, some (.inr x) :: a, b, hn, d, p, q, hd, ha, hb, h1, h2 => by
    obtain ⟨p', rfl, h1'⟩ := ap_put_some h1
    match n, hn with
    | 0, hn => simp at hn
    | n + 1, hn =>
      obtain ⟨r, g1, g2⟩ := turn_meets n a b (by simp only [List.length_cons] at hn; omega) d p' q hd ha.tail hb h1' h2
      rw [turn_put]
      refine ⟨x :: r, ?_, ?_⟩
      · show ap (.keep nop :: (turn a b).2) (x :: p') = _
        rw [ap_keep, g1, change_nop ha.head]; rfl
      · show ap (.put x :: (turn a b).1) q = _
        rw [ap_put, g2]; rfl
  | n, [], some (.inr y) :: b, hn, d, p, q, hd, ha, hb, h1, h2 => by
    obtain ⟨q', rfl, h2'⟩ := ap_put_some h2
    match n, hn with
    | 0, hn => simp at hn
    | n + 1, hn =>
      obtain ⟨r, g1, g2⟩ := turn_meets n [] b (by simp only [List.length_cons] at hn; omega) d p q' hd ha hb.tail h1 h2'
      rw [turn_np]
      refine ⟨y :: r, ?_, ?_⟩
      · show ap (.put y :: (turn [] b).2) p = _
        rw [ap_put, g1]; rfl
      · show ap (.keep nop :: (turn [] b).1) (y :: q') = _
        rw [ap_keep, g2, change_nop hb.head]; rfl
  | n, some (.inl c) :: a, some (.inr y) :: b, hn, d, p, q, hd, ha, hb, h1, h2 => by
    obtain ⟨q', rfl, h2'⟩ := ap_put_some h2
    match n, hn with
    | 0, hn => simp at hn
    | n + 1, hn =>
      obtain ⟨r, g1, g2⟩ := turn_meets n (.keep c :: a) b (by simp only [List.length_cons] at hn ⊢; omega) d p q' hd ha hb.tail h1 h2'
      rw [turn_kp]
      refine ⟨y :: r, ?_, ?_⟩
      · show ap (.put y :: (turn (.keep c :: a) b).2) p = _
        rw [ap_put, g1]; rfl
      · show ap (.keep nop :: (turn (.keep c :: a) b).1) (y :: q') = _
        rw [ap_keep, g2, change_nop hb.head]; rfl
  | n, none :: a, some (.inr y) :: b, hn, d, p, q, hd, ha, hb, h1, h2 => by
    obtain ⟨q', rfl, h2'⟩ := ap_put_some h2
    match n, hn with
    | 0, hn => simp at hn
    | n + 1, hn =>
      obtain ⟨r, g1, g2⟩ := turn_meets n (.cut :: a) b (by simp only [List.length_cons] at hn ⊢; omega) d p q' hd ha hb.tail h1 h2'
      rw [turn_cp]
      refine ⟨y :: r, ?_, ?_⟩
      · show ap (.put y :: (turn (.cut :: a) b).2) p = _
        rw [ap_put, g1]; rfl
      · show ap (.keep nop :: (turn (.cut :: a) b).1) (y :: q') = _
        rw [ap_keep, g2, change_nop hb.head]; rfl
  | n, some (.inl c) :: a, some (.inl e) :: b, hn, d, p, q, hd, ha, hb, h1, h2 => by
    obtain ⟨z, d', p', rfl, rfl, h1'⟩ := ap_keep_some h1
    obtain ⟨z2, d2, q', hz, rfl, h2'⟩ := ap_keep_some h2
    cases hz
    match n, hn with
    | 0, hn => simp at hn
    | n + 1, hn =>
      obtain ⟨r, g1, g2⟩ := turn_meets n a b (by simp only [List.length_cons] at hn; omega) d' p' q' hd.tail ha.tail hb.tail h1' h2'
      rw [turn_kk]
      refine ⟨change (change z e) c :: r, ?_, ?_⟩
      · show ap (.keep (behind e c) :: (turn a b).2) (change z c :: p') = _
        rw [ap_keep, g1, change_turn hd.head ha.head hb.head]; rfl
      · show ap (.keep c :: (turn a b).1) (change z e :: q') = _
        rw [ap_keep, g2]; rfl
  | n, none :: a, some (.inl e) :: b, hn, d, p, q, hd, ha, hb, h1, h2 => by
    obtain ⟨z, d', rfl, h1'⟩ := ap_cut_some h1
    obtain ⟨z2, d2, q', hz, rfl, h2'⟩ := ap_keep_some h2
    cases hz
    match n, hn with
    | 0, hn => simp at hn
    | n + 1, hn =>
      obtain ⟨r, g1, g2⟩ := turn_meets n a b (by simp only [List.length_cons] at hn; omega) d' p q' hd.tail ha.tail hb.tail h1' h2'
      rw [turn_ck]
      exact ⟨r, g1, g2⟩
  | n, some (.inl c) :: a, none :: b, hn, d, p, q, hd, ha, hb, h1, h2 => by
    obtain ⟨z, d', p', rfl, rfl, h1'⟩ := ap_keep_some h1
    obtain ⟨z2, d2, hz, h2'⟩ := ap_cut_some h2
    cases hz
    match n, hn with
    | 0, hn => simp at hn
    | n + 1, hn =>
      obtain ⟨r, g1, g2⟩ := turn_meets n a b (by simp only [List.length_cons] at hn; omega) d' p' q hd.tail ha.tail hb.tail h1' h2'
      rw [turn_kc]
      exact ⟨r, g1, g2⟩
  | n, none :: a, none :: b, hn, d, p, q, hd, ha, hb, h1, h2 => by
    obtain ⟨z, d', rfl, h1'⟩ := ap_cut_some h1
    obtain ⟨z2, d2, hz, h2'⟩ := ap_cut_some h2
    cases hz
    match n, hn with
    | 0, hn => simp at hn
    | n + 1, hn =>
      obtain ⟨r, g1, g2⟩ := turn_meets n a b (by simp only [List.length_cons] at hn; omega) d' p q hd.tail ha.tail hb.tail h1' h2'
      rw [turn_cc]
      exact ⟨r, g1, g2⟩
  | _, [], [], _, d, p, q, _, _, _, h1, h2 => by
    rw [(ap_nil_some h1).2, (ap_nil_some h2).2, turn_nn]
    exact ⟨[], rfl, rfl⟩
  | _, [], some (.inl e) :: b, _, d, p, q, _, _, _, h1, h2 => by
    rw [(ap_nil_some h1).1] at h2; cases h2
  | _, [], none :: b, _, d, p, q, _, _, _, h1, h2 => by
    rw [(ap_nil_some h1).1] at h2; cases h2
  | _, some (.inl c) :: a, [], _, d, p, q, _, _, _, h1, h2 => by
    rw [(ap_nil_some h2).1] at h1; cases h1
  | _, none :: a, [], _, d, p, q, _, _, _, h1, h2 => by
    rw [(ap_nil_some h2).1] at h1; cases h1

/- Join. -/
/-- Where a is at a Keep or a Put, f being the rest of a: b's puts go ahead. -/
def into (h : Ch ⊕ It) (f : List A → List A) : List A → List A
  | [] => []
  | some (.inr y) :: b => .put y :: into h f b
  | some (.inl e) :: b => match h with
    | .inl c => .keep (thenCh c e) :: f b
    | .inr x => .put (change x e) :: f b
  | none :: b => match h with
    | .inl _ => .cut :: f b
    | .inr _ => f b
def puts : List A → List A
  | some (.inr y) :: b => .put y :: puts b
  | _ => []
def join : List A → List A → List A
  | [], b => puts b
  | none :: a, b => .cut :: join a b
  | some h :: a, b => into h (join a) b
theorem join_cut (a b : List A) : join (.cut :: a) b = .cut :: join a b := rfl
theorem join_nil : join [] [] = [] := rfl
theorem join_kk (c e : Ch) (a b : List A) : join (.keep c :: a) (.keep e :: b) = .keep (thenCh c e) :: join a b := rfl
theorem join_kc (c : Ch) (a b : List A) : join (.keep c :: a) (.cut :: b) = .cut :: join a b := rfl
theorem join_pk (x : It) (e : Ch) (a b : List A) : join (.put x :: a) (.keep e :: b) = .put (change x e) :: join a b := rfl
theorem join_pc (x : It) (a b : List A) : join (.put x :: a) (.cut :: b) = join a b := rfl
theorem join_kp (c : Ch) (y : It) (a b : List A) : join (.keep c :: a) (.put y :: b) = .put y :: join (.keep c :: a) b := rfl
theorem join_pp (x y : It) (a b : List A) : join (.put x :: a) (.put y :: b) = .put y :: join (.put x :: a) b := rfl
theorem join_np (y : It) (b : List A) : join [] (.put y :: b) = .put y :: join [] b := rfl
/-- b's put goes in ahead of what a keeps, or puts. -/
theorem join_put (a b : List A) (y : It) (h : ∀ a', a ≠ .cut :: a') : join a (.put y :: b) = .put y :: join a b := by
  match a, h with
  | [], _ => rfl
  | some (.inl c) :: a, _ => rfl
  | some (.inr x) :: a, _ => rfl
  | none :: a, h => exact absurd rfl (h a)
theorem ap_join : ∀ (n : Nat) (a b : List A), a.length + b.length ≤ n → ∀ (d p q : List It), M4 d → Ok a → Ok b → ap a d = some p → ap b p = some q → ap (join a b) d = some q
  | n, none :: a, b, hn, d, p, q, hd, ha, hb, h1, h2 => by
    obtain ⟨z, d', rfl, h1'⟩ := ap_cut_some h1
    match n, hn with
    | 0, hn => simp at hn
    | n + 1, hn =>
      rw [join_cut, ap_cut]
      exact ap_join n a b (by simp only [List.length_cons] at hn; omega) d' p q hd.tail ha.tail hb h1' h2
  | n, [], some (.inr y) :: b, hn, d, p, q, hd, ha, hb, h1, h2 => by
    obtain ⟨q', rfl, h2'⟩ := ap_put_some h2
    match n, hn with
    | 0, hn => simp at hn
    | n + 1, hn =>
      rw [join_put _ _ _ (by intro a' e; cases e), ap_put, ap_join n [] b (by simp only [List.length_cons] at hn; omega) d p q' hd ha hb.tail h1 h2']
      rfl
  | n, some (.inl c) :: a, some (.inr y) :: b, hn, d, p, q, hd, ha, hb, h1, h2 => by
    obtain ⟨q', rfl, h2'⟩ := ap_put_some h2
    match n, hn with
    | 0, hn => simp at hn
    | n + 1, hn =>
      rw [join_put _ _ _ (by intro a' e; cases e), ap_put, ap_join n (.keep c :: a) b (by simp only [List.length_cons] at hn ⊢; omega) d p q' hd ha hb.tail h1 h2']
      rfl
  | n, some (.inr x) :: a, some (.inr y) :: b, hn, d, p, q, hd, ha, hb, h1, h2 => by
    obtain ⟨q', rfl, h2'⟩ := ap_put_some h2
    match n, hn with
    | 0, hn => simp at hn
    | n + 1, hn =>
      rw [join_put _ _ _ (by intro a' e; cases e), ap_put, ap_join n (.put x :: a) b (by simp only [List.length_cons] at hn ⊢; omega) d p q' hd ha hb.tail h1 h2']
      rfl
  | n, some (.inl c) :: a, some (.inl e) :: b, hn, d, p, q, hd, ha, hb, h1, h2 => by
    obtain ⟨z, d', p', rfl, rfl, h1'⟩ := ap_keep_some h1
    obtain ⟨z2, p2, q', hz, rfl, h2'⟩ := ap_keep_some h2
    cases hz
    match n, hn with
    | 0, hn => simp at hn
    | n + 1, hn =>
      rw [join_kk, ap_keep, ap_join n a b (by simp only [List.length_cons] at hn; omega) d' p' q' hd.tail ha.tail hb.tail h1' h2', change_then hd.head ha.head hb.head]
      rfl
  | n, some (.inl c) :: a, none :: b, hn, d, p, q, hd, ha, hb, h1, h2 => by
    obtain ⟨z, d', p', rfl, rfl, h1'⟩ := ap_keep_some h1
    obtain ⟨z2, p2, hz, h2'⟩ := ap_cut_some h2
    cases hz
    match n, hn with
    | 0, hn => simp at hn
    | n + 1, hn =>
      rw [join_kc, ap_cut]
      exact ap_join n a b (by simp only [List.length_cons] at hn; omega) d' p' q hd.tail ha.tail hb.tail h1' h2'
  | n, some (.inr x) :: a, some (.inl e) :: b, hn, d, p, q, hd, ha, hb, h1, h2 => by
    obtain ⟨p', rfl, h1'⟩ := ap_put_some h1
    obtain ⟨z2, p2, q', hz, rfl, h2'⟩ := ap_keep_some h2
    cases hz
    match n, hn with
    | 0, hn => simp at hn
    | n + 1, hn =>
      rw [join_pk, ap_put, ap_join n a b (by simp only [List.length_cons] at hn; omega) d p' q' hd ha.tail hb.tail h1' h2']
      rfl
  | n, some (.inr x) :: a, none :: b, hn, d, p, q, hd, ha, hb, h1, h2 => by
    obtain ⟨p', rfl, h1'⟩ := ap_put_some h1
    obtain ⟨z2, p2, hz, h2'⟩ := ap_cut_some h2
    cases hz
    match n, hn with
    | 0, hn => simp at hn
    | n + 1, hn =>
      rw [join_pc]
      exact ap_join n a b (by simp only [List.length_cons] at hn; omega) d p' q hd ha.tail hb.tail h1' h2'
  | _, [], [], _, d, p, q, _, _, _, h1, h2 => by
    rw [(ap_nil_some h1).1, (ap_nil_some h2).2, join_nil]
    rfl
  | _, [], some (.inl e) :: b, _, d, p, q, _, _, _, h1, h2 => by
    rw [(ap_nil_some h1).2] at h2; cases h2
  | _, [], none :: b, _, d, p, q, _, _, _, h1, h2 => by
    rw [(ap_nil_some h1).2] at h2; cases h2
  | _, some (.inl c) :: a, [], _, d, p, q, _, _, _, h1, h2 => by
    rw [(ap_nil_some h2).1] at h1
    obtain ⟨_, _, _, _, e, _⟩ := ap_keep_some h1
    cases e
  | _, some (.inr x) :: a, [], _, d, p, q, _, _, _, h1, h2 => by
    rw [(ap_nil_some h2).1] at h1
    obtain ⟨_, e, _⟩ := ap_put_some h1
    cases e
end Ac
namespace Ac
/- How many items: of what is turned, of what is joined. -/
theorem turn_long : ∀ (n : Nat) (a b : List A), a.length + b.length ≤ n → need a = need b → need (turn a b).1 = leave b ∧ need (turn a b).2 = leave a ∧ leave (turn a b).1 = leave (turn a b).2
  | n, some (.inr x) :: a, b, hn, h => by
    match n, hn with
    | 0, hn => simp at hn
    | n + 1, hn =>
      obtain ⟨g1, g2, g3⟩ := turn_long n a b (by simp only [List.length_cons] at hn; omega) h
      rw [turn_put]
      exact ⟨g1, by simp [need, leave, g2], by simp [leave, g3]⟩
  | n, [], some (.inr y) :: b, hn, h => by
    match n, hn with
    | 0, hn => simp at hn
    | n + 1, hn =>
      obtain ⟨g1, g2, g3⟩ := turn_long n [] b (by simp only [List.length_cons] at hn; omega) h
      rw [turn_np]
      exact ⟨by simp [need, leave, g1], g2, by simp [leave, g3]⟩
  | n, some (.inl c) :: a, some (.inr y) :: b, hn, h => by
    match n, hn with
    | 0, hn => simp at hn
    | n + 1, hn =>
      obtain ⟨g1, g2, g3⟩ := turn_long n (.keep c :: a) b (by simp only [List.length_cons] at hn ⊢; omega) h
      rw [turn_kp]
      exact ⟨by simp [need, leave, g1], g2, by simp [leave, g3]⟩
  | n, none :: a, some (.inr y) :: b, hn, h => by
    match n, hn with
    | 0, hn => simp at hn
    | n + 1, hn =>
      obtain ⟨g1, g2, g3⟩ := turn_long n (.cut :: a) b (by simp only [List.length_cons] at hn ⊢; omega) h
      rw [turn_cp]
      exact ⟨by simp [need, leave, g1], g2, by simp [leave, g3]⟩
  | n, some (.inl c) :: a, some (.inl e) :: b, hn, h => by
    match n, hn with
    | 0, hn => simp at hn
    | n + 1, hn =>
      obtain ⟨g1, g2, g3⟩ := turn_long n a b (by simp only [List.length_cons] at hn; omega) (by simpa [need] using h)
      rw [turn_kk]
      exact ⟨by simp [need, leave, g1], by simp [need, leave, g2], by simp [leave, g3]⟩
  | n, none :: a, some (.inl e) :: b, hn, h => by
    match n, hn with
    | 0, hn => simp at hn
    | n + 1, hn =>
      obtain ⟨g1, g2, g3⟩ := turn_long n a b (by simp only [List.length_cons] at hn; omega) (by simpa [need] using h)
      rw [turn_ck]
      exact ⟨by simp [need, leave, g1], by simp [leave, g2], by simp [leave, g3]⟩
  | n, some (.inl c) :: a, none :: b, hn, h => by
    match n, hn with
    | 0, hn => simp at hn
    | n + 1, hn =>
      obtain ⟨g1, g2, g3⟩ := turn_long n a b (by simp only [List.length_cons] at hn; omega) (by simpa [need] using h)
      rw [turn_kc]
      exact ⟨by simp [leave, g1], by simp [need, leave, g2], by simp [leave, g3]⟩
  | n, none :: a, none :: b, hn, h => by
    match n, hn with
    | 0, hn => simp at hn
    | n + 1, hn =>
      obtain ⟨g1, g2, g3⟩ := turn_long n a b (by simp only [List.length_cons] at hn; omega) (by simpa [need] using h)
      rw [turn_cc]
      exact ⟨by simp [leave, g1], by simp [leave, g2], g3⟩
  | _, [], [], _, _ => by
    rw [turn_nn]
    exact ⟨rfl, rfl, rfl⟩
  | _, [], some (.inl e) :: b, _, h => by simp [need] at h
  | _, [], none :: b, _, h => by simp [need] at h
  | _, some (.inl c) :: a, [], _, h => by simp [need] at h
  | _, none :: a, [], _, h => by simp [need] at h
theorem less_both_assoc {s1 s2 c2 s3 c3 : Int} (h1 : m4 s1) (h3 : m4 s2) (h4 : m4 c2) (h5 : m4 s3) (h6 : m4 c3) :
    both (less (both (less s1 c2) s2) c3) s3 = both (less s1 (both (less c2 s3) c3)) (both (less s2 c3) s3) := by
  obtain ⟨a, ha, rfl⟩ := m4_nat h1
  obtain ⟨b, hb, rfl⟩ := m4_nat h3
  obtain ⟨e, he, rfl⟩ := m4_nat h4
  obtain ⟨f, hf, rfl⟩ := m4_nat h5
  obtain ⟨g, hg, rfl⟩ := m4_nat h6
  have h : ∀ a < 4, ∀ b < 4, ∀ e < 4, ∀ f < 4, ∀ g < 4, (((a - (a &&& e)) ||| b) - (((a - (a &&& e)) ||| b) &&& g)) ||| f = (a - (a &&& ((e - (e &&& f)) ||| g))) ||| ((b - (b &&& g)) ||| f) := by decide +kernel
  exact congrArg Int.ofNat (h a ha b hb e he f hf g hg)
end Ac
namespace Ac
theorem ch_ext {a b : Ch} (h1 : a.set = b.set) (h2 : a.clr = b.clr) (h3 : a.goes = b.goes) (h4 : a.link = b.link) : a = b := by
  cases a
  cases b
  simp only at h1 h2 h3 h4
  rw [h1, h2, h3, h4]
theorem then_assoc {a b c : Ch} (ha : ChOk a) (hb : ChOk b) (hc : ChOk c) : thenCh (thenCh a b) c = thenCh a (thenCh b c) := by
  have h1 : (thenCh (thenCh a b) c).set = (thenCh a (thenCh b c)).set := less_both_assoc ha.set hb.set hb.clr hc.set hc.clr
  have h2 : (thenCh (thenCh a b) c).clr = (thenCh a (thenCh b c)).clr := less_both_assoc ha.clr hb.clr hb.set hc.clr hc.set
  have h3 : (thenCh (thenCh a b) c).goes = (thenCh a (thenCh b c)).goes := Bool.or_assoc ..
  have h4 : (thenCh (thenCh a b) c).link = (thenCh a (thenCh b c)).link := by
    show (if c.goes then c.link else if b.goes then b.link else a.link) = (if (b.goes || c.goes) then (if c.goes then c.link else b.link) else a.link)
    cases b.goes <;> cases c.goes <;> rfl
  exact ch_ext h1 h2 h3 h4
/-- Joined three in either way are the same. -/
theorem join_assoc : ∀ (n : Nat) (a b c : List A), a.length + b.length + c.length ≤ n → Ok a → Ok b → Ok c → leave a = need b → leave b = need c → join (join a b) c = join a (join b c)
  | n, none :: a, b, c, hn, ha, hb, hc, h1, h2 => by
    match n, hn with
    | 0, hn => simp at hn
    | n + 1, hn =>
      rw [join_cut, join_cut, join_cut, join_assoc n a b c (by simp only [List.length_cons] at hn; omega) ha.tail hb hc h1 h2]
  | n, some (.inl k) :: a, none :: b, c, hn, ha, hb, hc, h1, h2 => by
    match n, hn with
    | 0, hn => simp at hn
    | n + 1, hn =>
      rw [join_kc, join_cut, join_cut, join_kc, join_assoc n a b c (by simp only [List.length_cons] at hn; omega) ha.tail hb.tail hc (by simpa [leave, need] using h1) h2]
  | n, some (.inr x) :: a, none :: b, c, hn, ha, hb, hc, h1, h2 => by
    match n, hn with
    | 0, hn => simp at hn
    | n + 1, hn =>
      rw [join_pc, join_cut, join_pc, join_assoc n a b c (by simp only [List.length_cons] at hn; omega) ha.tail hb.tail hc (by simpa [leave, need] using h1) h2]
  | n, [], none :: b, c, _, _, _, _, h1, _ => by simp [leave, need] at h1
  | n, some (.inl k) :: a, some (.inr z) :: b, some (.inr y) :: c, hn, ha, hb, hc, h1, h2 => by
    match n, hn with
    | 0, hn => simp at hn
    | n + 1, hn =>
      have ih := join_assoc n (.keep k :: a) (.put z :: b) c (by simp only [List.length_cons] at hn ⊢; omega) ha hb hc.tail h1 h2
      rw [join_kp, join_pp, join_pp, join_kp, ← ih, join_kp]
  | n, some (.inr x) :: a, some (.inr z) :: b, some (.inr y) :: c, hn, ha, hb, hc, h1, h2 => by
    match n, hn with
    | 0, hn => simp at hn
    | n + 1, hn =>
      have ih := join_assoc n (.put x :: a) (.put z :: b) c (by simp only [List.length_cons] at hn ⊢; omega) ha hb hc.tail h1 h2
      rw [join_pp x z, join_pp z y, join_pp z y, join_pp x y, ← ih, join_pp x z]
  | n, [], some (.inr z) :: b, some (.inr y) :: c, hn, ha, hb, hc, h1, h2 => by
    match n, hn with
    | 0, hn => simp at hn
    | n + 1, hn =>
      have ih := join_assoc n [] (.put z :: b) c (by simp only [List.length_cons] at hn ⊢; omega) ha hb hc.tail h1 h2
      rw [join_np z, join_pp z y, join_pp z y, join_np y, ← ih, join_np z]
  | n, some (.inl k) :: a, some (.inr z) :: b, some (.inl e) :: c, hn, ha, hb, hc, h1, h2 => by
    match n, hn with
    | 0, hn => simp at hn
    | n + 1, hn =>
      rw [join_kp, join_pk, join_pk, join_kp, join_assoc n (.keep k :: a) b c (by simp only [List.length_cons] at hn ⊢; omega) ha hb.tail hc.tail h1 (by simpa [leave, need] using h2)]
  | n, some (.inr x) :: a, some (.inr z) :: b, some (.inl e) :: c, hn, ha, hb, hc, h1, h2 => by
    match n, hn with
    | 0, hn => simp at hn
    | n + 1, hn =>
      rw [join_pp, join_pk, join_pk, join_pp, join_assoc n (.put x :: a) b c (by simp only [List.length_cons] at hn ⊢; omega) ha hb.tail hc.tail h1 (by simpa [leave, need] using h2)]
  | n, [], some (.inr z) :: b, some (.inl e) :: c, hn, ha, hb, hc, h1, h2 => by
    match n, hn with
    | 0, hn => simp at hn
    | n + 1, hn =>
      rw [join_np, join_pk, join_pk, join_np, join_assoc n [] b c (by simp only [List.length_cons] at hn ⊢; omega) ha hb.tail hc.tail h1 (by simpa [leave, need] using h2)]
  | n, some (.inl k) :: a, some (.inr z) :: b, none :: c, hn, ha, hb, hc, h1, h2 => by
    match n, hn with
    | 0, hn => simp at hn
    | n + 1, hn =>
      rw [join_kp, join_pc, join_pc, join_assoc n (.keep k :: a) b c (by simp only [List.length_cons] at hn ⊢; omega) ha hb.tail hc.tail h1 (by simpa [leave, need] using h2)]
  | n, some (.inr x) :: a, some (.inr z) :: b, none :: c, hn, ha, hb, hc, h1, h2 => by
    match n, hn with
    | 0, hn => simp at hn
    | n + 1, hn =>
      rw [join_pp, join_pc, join_pc, join_assoc n (.put x :: a) b c (by simp only [List.length_cons] at hn ⊢; omega) ha hb.tail hc.tail h1 (by simpa [leave, need] using h2)]
  | n, [], some (.inr z) :: b, none :: c, hn, ha, hb, hc, h1, h2 => by
    match n, hn with
    | 0, hn => simp at hn
    | n + 1, hn =>
      rw [join_np, join_pc, join_pc, join_assoc n [] b c (by simp only [List.length_cons] at hn ⊢; omega) ha hb.tail hc.tail h1 (by simpa [leave, need] using h2)]
  | n, _, some (.inr z) :: b, [], _, _, _, _, _, h2 => by simp [leave, need] at h2
  | n, some (.inl k) :: a, some (.inl f) :: b, some (.inr y) :: c, hn, ha, hb, hc, h1, h2 => by
    match n, hn with
    | 0, hn => simp at hn
    | n + 1, hn =>
      have ih := join_assoc n (.keep k :: a) (.keep f :: b) c (by simp only [List.length_cons] at hn ⊢; omega) ha hb hc.tail h1 h2
      rw [join_kk] at ih
      rw [join_kk, join_kp, join_kp, join_kp, ih]
  | n, some (.inr x) :: a, some (.inl f) :: b, some (.inr y) :: c, hn, ha, hb, hc, h1, h2 => by
    match n, hn with
    | 0, hn => simp at hn
    | n + 1, hn =>
      have ih := join_assoc n (.put x :: a) (.keep f :: b) c (by simp only [List.length_cons] at hn ⊢; omega) ha hb hc.tail h1 h2
      rw [join_pk] at ih
      rw [join_pk, join_pp, join_kp, join_pp, ih]
  | n, some (.inl k) :: a, some (.inl f) :: b, some (.inl e) :: c, hn, ha, hb, hc, h1, h2 => by
    match n, hn with
    | 0, hn => simp at hn
    | n + 1, hn =>
      rw [join_kk, join_kk, join_kk, join_kk, then_assoc ha.head hb.head hc.head, join_assoc n a b c (by simp only [List.length_cons] at hn; omega) ha.tail hb.tail hc.tail (by simpa [leave, need] using h1) (by simpa [leave, need] using h2)]
  | n, some (.inr x) :: a, some (.inl f) :: b, some (.inl e) :: c, hn, ha, hb, hc, h1, h2 => by
    match n, hn with
    | 0, hn => simp at hn
    | n + 1, hn =>
      rw [join_pk, join_pk, join_kk, join_pk, change_then ha.head hb.head hc.head, join_assoc n a b c (by simp only [List.length_cons] at hn; omega) ha.tail hb.tail hc.tail (by simpa [leave, need] using h1) (by simpa [leave, need] using h2)]
  | n, some (.inl k) :: a, some (.inl f) :: b, none :: c, hn, ha, hb, hc, h1, h2 => by
    match n, hn with
    | 0, hn => simp at hn
    | n + 1, hn =>
      rw [join_kk, join_kc, join_kc, join_kc, join_assoc n a b c (by simp only [List.length_cons] at hn; omega) ha.tail hb.tail hc.tail (by simpa [leave, need] using h1) (by simpa [leave, need] using h2)]
  | n, some (.inr x) :: a, some (.inl f) :: b, none :: c, hn, ha, hb, hc, h1, h2 => by
    match n, hn with
    | 0, hn => simp at hn
    | n + 1, hn =>
      rw [join_pk, join_pc, join_kc, join_pc, join_assoc n a b c (by simp only [List.length_cons] at hn; omega) ha.tail hb.tail hc.tail (by simpa [leave, need] using h1) (by simpa [leave, need] using h2)]
  | n, _, some (.inl f) :: b, [], _, _, _, _, _, h2 => by simp [leave, need] at h2
  | n, [], some (.inl f) :: b, c, _, _, _, _, h1, _ => by simp [leave, need] at h1
  | n, [], [], some (.inr y) :: c, hn, ha, hb, hc, h1, h2 => by
    match n, hn with
    | 0, hn => simp at hn
    | n + 1, hn =>
      have ih := join_assoc n [] [] c (by simp only [List.length_cons, List.length_nil] at hn ⊢; omega) ha hb hc.tail h1 h2
      rw [join_nil] at ih
      rw [join_nil, join_np, join_np, ← ih]
  | n, [], [], [], _, _, _, _, _, _ => by rw [join_nil, join_nil]
  | n, [], [], some (.inl e) :: c, _, _, _, _, _, h2 => by simp [leave, need] at h2
  | n, [], [], none :: c, _, _, _, _, _, h2 => by simp [leave, need] at h2
  | n, some (.inl k) :: a, [], c, _, _, _, _, h1, _ => by simp [leave, need] at h1
  | n, some (.inr x) :: a, [], c, _, _, _, _, h1, _ => by simp [leave, need] at h1
end Ac
namespace Ac
/- Tidy: what is put ahead of what is cut, between what is kept. -/
def group (ps : List It) (n : Nat) : List A := ps.map A.put ++ List.replicate n A.cut
def norm : List It → Nat → List A → List A
  | ps, n, [] => group ps n
  | ps, n, some (.inr x) :: r => norm (ps ++ [x]) n r
  | ps, n, none :: r => norm ps (n + 1) r
  | ps, n, some (.inl c) :: r => group ps n ++ .keep c :: norm [] 0 r
def nf (l : List A) : List A := norm [] 0 l
theorem ap_puts : ∀ (ps : List It) (l : List A) (d : List It), ap (ps.map A.put ++ l) d = (ap l d).map (ps ++ ·)
  | [], l, d => by simp
  | x :: ps, l, d => by
    rw [List.map_cons, List.cons_append, ap_put, ap_puts ps l d, Option.map_map]
    rfl
theorem ap_cuts : ∀ (n : Nat) (l : List A) (d : List It), ap (List.replicate n A.cut ++ l) d = if n ≤ d.length then ap l (d.drop n) else none
  | 0, l, d => by simp
  | n + 1, l, [] => by simp [List.replicate_succ, ap]
  | n + 1, l, x :: d => by
    rw [List.replicate_succ, List.cons_append, ap_cut, ap_cuts n l d]
    simp
theorem ap_group (ps : List It) (n : Nat) (l : List A) (d : List It) : ap (group ps n ++ l) d = (if n ≤ d.length then ap l (d.drop n) else none).map (ps ++ ·) := by
  unfold group
  rw [List.append_assoc, ap_puts, ap_cuts]
theorem ap_norm : ∀ (l : List A) (ps : List It) (n : Nat) (d : List It), ap (norm ps n l) d = (if n ≤ d.length then ap l (d.drop n) else none).map (ps ++ ·)
  | [], ps, n, d => by
    rw [norm]
    have := ap_group ps n [] d
    rw [List.append_nil] at this
    exact this
  | some (.inr x) :: r, ps, n, d => by
    rw [norm, ap_norm r, ap_put]
    split
    · rw [Option.map_map]
      congr 1
      funext z
      simp
    · rfl
  | none :: r, ps, n, d => by
    rw [norm, ap_norm r]
    by_cases h : n + 1 ≤ d.length
    · rw [if_pos h, if_pos (by omega)]
      have hn : n < d.length := by omega
      rw [List.drop_eq_getElem_cons hn, ap_cut]
    · rw [if_neg h]
      by_cases h2 : n ≤ d.length
      · have e : d.length = n := by omega
        rw [if_pos h2, List.drop_eq_nil_of_le (by omega)]
        rfl
      · rw [if_neg h2]
  | some (.inl c) :: r, ps, n, d => by
    rw [norm, ap_group]
    split
    · cases hd : d.drop n with
      | nil => rfl
      | cons x d' =>
        rw [ap_keep, ap_keep, ap_norm r]
        simp
    · rfl
/-- Tidy does the same. -/
theorem ap_nf (l : List A) (d : List It) : ap (nf l) d = ap l d := by
  unfold nf
  rw [ap_norm]
  simp
theorem norm_puts : ∀ (qs : List It) (ps : List It) (n : Nat) (r : List A), norm ps n (qs.map A.put ++ r) = norm (ps ++ qs) n r
  | [], ps, n, r => by simp
  | x :: qs, ps, n, r => by
    rw [List.map_cons, List.cons_append, norm, norm_puts qs]
    simp
theorem norm_cuts : ∀ (k : Nat) (ps : List It) (n : Nat) (r : List A), norm ps n (List.replicate k A.cut ++ r) = norm ps (n + k) r
  | 0, ps, n, r => by simp
  | k + 1, ps, n, r => by
    rw [List.replicate_succ, List.cons_append, norm, norm_cuts k]
    congr 1
    omega
theorem norm_group (qs : List It) (k : Nat) (ps : List It) (n : Nat) (r : List A) : norm ps n (group qs k ++ r) = norm (ps ++ qs) (n + k) r := by
  unfold group
  rw [List.append_assoc, norm_puts, norm_cuts]
theorem norm_norm : ∀ (l : List A) (qs : List It) (k : Nat) (ps : List It) (n : Nat), norm ps n (norm qs k l) = norm (ps ++ qs) (n + k) l
  | [], qs, k, ps, n => by
    have := norm_group qs k ps n []
    rw [List.append_nil] at this
    exact this
  | some (.inr x) :: r, qs, k, ps, n => by
    rw [norm, norm_norm r, norm]
    simp
  | none :: r, qs, k, ps, n => by
    rw [norm, norm_norm r, norm]
    congr 1
  | some (.inl c) :: r, qs, k, ps, n => by
    have ih := norm_norm r [] 0 [] 0
    rw [norm, norm_group, norm, norm, ih]
    rfl
/-- Made tidy again it is the same. -/
theorem nf_nf (l : List A) : nf (nf l) = nf l := norm_norm l [] 0 [] 0
/-- Alike, made tidy. -/
def Like (l l' : List A) : Prop := ∀ ps n, norm ps n l = norm ps n l'
theorem Like.refl (l : List A) : Like l l := fun _ _ => rfl
theorem Like.symm {l l' : List A} (h : Like l l') : Like l' l := fun ps n => (h ps n).symm
theorem Like.trans {a b c : List A} (h : Like a b) (k : Like b c) : Like a c := fun ps n => (h ps n).trans (k ps n)
theorem Like.cons {l l' : List A} (a : A) (h : Like l l') : Like (a :: l) (a :: l') := by
  intro ps n
  rcases a with _ | (c | x)
  · exact h _ _
  · show group ps n ++ .keep c :: norm [] 0 l = group ps n ++ .keep c :: norm [] 0 l'
    rw [h]
  · exact h _ _
theorem like_swap (x : It) (r : List A) : Like (.cut :: .put x :: r) (.put x :: .cut :: r) := fun _ _ => rfl
theorem like_nf (l : List A) : Like (nf l) l := by
  intro ps n
  have := norm_norm l [] 0 ps n
  rw [List.append_nil, Nat.add_zero] at this
  exact this
theorem nf_of {l l' : List A} (h : Like l l') : nf l = nf l' := h [] 0
theorem need_norm : ∀ (l : List A) (ps : List It) (n : Nat), need (norm ps n l) = n + need l ∧ leave (norm ps n l) = ps.length + leave l := by
  have hg : ∀ (ps : List It) (n : Nat) (r : List A), need (group ps n ++ r) = n + need r ∧ leave (group ps n ++ r) = ps.length + leave r := by
    intro ps n r
    unfold group
    rw [List.append_assoc]
    have h1 : ∀ (k : Nat), need (List.replicate k A.cut ++ r) = k + need r ∧ leave (List.replicate k A.cut ++ r) = leave r := by
      intro k
      induction k with
      | zero => simp
      | succ k ih => rw [List.replicate_succ, List.cons_append, need, leave, ih.1, ih.2]; exact ⟨by omega, rfl⟩
    induction ps with
    | nil => simpa using h1 n
    | cons x ps ih =>
      rw [List.map_cons, List.cons_append, need, leave, ih.1, ih.2]
      exact ⟨rfl, by simp; omega⟩
  intro l
  induction l with
  | nil =>
    intro ps n
    have := hg ps n []
    rw [List.append_nil] at this
    exact this
  | cons a r ih =>
    intro ps n
    rcases a with _ | (c | x)
    · rw [norm, (ih _ _).1, (ih _ _).2]; simp [need, leave]; omega
    · rw [norm, (hg _ _ _).1, (hg _ _ _).2]; simp [need, leave, (ih [] 0).1, (ih [] 0).2]
    · rw [norm, (ih _ _).1, (ih _ _).2]; simp [need, leave]; omega
theorem need_nf (l : List A) : need (nf l) = need l := by have := (need_norm l [] 0).1; rw [Nat.zero_add] at this; exact this
theorem leave_nf (l : List A) : leave (nf l) = leave l := by have := (need_norm l [] 0).2; rw [List.length_nil, Nat.zero_add] at this; exact this
/-- One step of tidying: what is put goes ahead of what is cut. -/
def Step (l l' : List A) : Prop := ∃ p x r, l = p ++ .cut :: .put x :: r ∧ l' = p ++ .put x :: .cut :: r
theorem Step.swap (x : It) (r : List A) : Step (.cut :: .put x :: r) (.put x :: .cut :: r) := ⟨[], x, r, rfl, rfl⟩
theorem Step.cons (a : A) {l l' : List A} (h : Step l l') : Step (a :: l) (a :: l') := by
  obtain ⟨p, x, r, rfl, rfl⟩ := h
  exact ⟨a :: p, x, r, rfl, rfl⟩
theorem step_cases {l l' : List A} (h : Step l l') : (∃ x r, l = .cut :: .put x :: r ∧ l' = .put x :: .cut :: r) ∨ (∃ a m m', l = a :: m ∧ l' = a :: m' ∧ Step m m') := by
  obtain ⟨p, x, r, rfl, rfl⟩ := h
  cases p with
  | nil => exact .inl ⟨x, r, rfl, rfl⟩
  | cons a p => exact .inr ⟨a, _, _, rfl, rfl, p, x, r, rfl, rfl⟩
def StepsN : Nat → List A → List A → Prop
  | 0, l, l' => l = l'
  | k + 1, l, l' => ∃ m, Step l m ∧ StepsN k m l'
def Steps (l l' : List A) : Prop := ∃ k, StepsN k l l'
theorem Steps.refl (l : List A) : Steps l l := ⟨0, rfl⟩
theorem Steps.head {a b c : List A} (h : Step a b) (k : Steps b c) : Steps a c := by
  obtain ⟨n, hn⟩ := k
  exact ⟨n + 1, b, h, hn⟩
theorem stepsN_trans : ∀ (n : Nat) {a b c : List A}, StepsN n a b → Steps b c → Steps a c
  | 0, a, b, c, h, k => by rw [show a = b from h]; exact k
  | n + 1, a, b, c, h, k => by
    obtain ⟨m, h1, h2⟩ := h
    exact Steps.head h1 (stepsN_trans n h2 k)
theorem Steps.trans {a b c : List A} (h : Steps a b) (k : Steps b c) : Steps a c := by
  obtain ⟨n, hn⟩ := h
  exact stepsN_trans n hn k
theorem stepsN_cons (a : A) : ∀ (n : Nat) {l l' : List A}, StepsN n l l' → StepsN n (a :: l) (a :: l')
  | 0, l, l', h => by rw [show l = l' from h]; exact rfl
  | n + 1, l, l', h => by
    obtain ⟨m, h1, h2⟩ := h
    exact ⟨a :: m, h1.cons a, stepsN_cons a n h2⟩
theorem Steps.cons {l l' : List A} (a : A) (h : Steps l l') : Steps (a :: l) (a :: l') := by
  obtain ⟨n, hn⟩ := h
  exact ⟨n, stepsN_cons a n hn⟩
theorem steps_puts (ps : List It) {l l' : List A} (h : Steps l l') : Steps (ps.map A.put ++ l) (ps.map A.put ++ l') := by
  induction ps with
  | nil => exact h
  | cons x ps ih => exact ih.cons _
theorem steps_cuts (x : It) (r : List A) : ∀ n, Steps (List.replicate n A.cut ++ .put x :: r) (.put x :: (List.replicate n A.cut ++ r))
  | 0 => Steps.refl _
  | n + 1 => by
    rw [List.replicate_succ, List.cons_append, List.cons_append]
    exact ((steps_cuts x r n).cons .cut).trans (Steps.head (Step.swap x _) (Steps.refl _))
theorem steps_norm : ∀ (l : List A) (ps : List It) (n : Nat), Steps (group ps n ++ l) (norm ps n l)
  | [], ps, n => by rw [List.append_nil]; exact Steps.refl _
  | some (.inr x) :: r, ps, n => by
    refine Steps.trans ?_ (steps_norm r (ps ++ [x]) n)
    unfold group
    rw [List.append_assoc, List.map_append, List.append_assoc, List.append_assoc]
    exact steps_puts ps (steps_cuts x r n)
  | none :: r, ps, n => by
    refine Steps.trans ?_ (steps_norm r ps (n + 1))
    have e : group ps n ++ .cut :: r = group ps (n + 1) ++ r := by
      unfold group
      rw [List.append_assoc, List.append_assoc, List.replicate_succ', List.append_assoc]
      rfl
    rw [e]
    exact Steps.refl _
  | some (.inl c) :: r, ps, n => by
    rw [norm]
    have h := (steps_norm r [] 0).cons (.keep c)
    have hg : ∀ (k : Nat) {l l' : List A}, Steps l l' → Steps (List.replicate k A.cut ++ l) (List.replicate k A.cut ++ l') := by
      intro k l l' hl
      induction k with
      | zero => exact hl
      | succ k ih => exact ih.cons .cut
    unfold group
    rw [List.append_assoc, List.append_assoc]
    exact steps_puts ps (hg n h)
theorem steps_nf (l : List A) : Steps l (nf l) := steps_norm l [] 0
end Ac
namespace Ac
theorem step_long {l l' : List A} (h : Step l l') : need l' = need l ∧ leave l' = leave l := by
  obtain ⟨p, x, r, rfl, rfl⟩ := h
  induction p with
  | nil => exact ⟨rfl, rfl⟩
  | cons a p ih =>
    rcases a with _ | (c | y)
    · exact ⟨congrArg (· + 1) ih.1, ih.2⟩
    · exact ⟨congrArg (· + 1) ih.1, congrArg (· + 1) ih.2⟩
    · exact ⟨ih.1, congrArg (· + 1) ih.2⟩
/-- What is put ahead of all else, but for what is cut. -/
theorem join_put_like : ∀ (a b : List A) (y : It), Like (join a (.put y :: b)) (.put y :: join a b)
  | none :: a, b, y => by
    rw [join_cut, join_cut]
    exact ((join_put_like a b y).cons .cut).trans (like_swap y _)
  | [], b, y => by rw [join_np]; exact Like.refl _
  | some (.inl c) :: a, b, y => by rw [join_kp]; exact Like.refl _
  | some (.inr x) :: a, b, y => by rw [join_pp]; exact Like.refl _
/-- Joined with one that is a step tidier. -/
theorem join_step_r : ∀ (n : Nat) (a b b' : List A), a.length + b.length ≤ n → Step b b' → leave a = need b → Like (join a b) (join a b') := by
  intro n
  induction n with
  | zero =>
    intro a b b' hn hs h
    rcases step_cases hs with ⟨x, r, rfl, rfl⟩ | ⟨e, l, l', rfl, rfl, _⟩ <;> simp at hn
  | succ n ih =>
    intro a b b' hn hs h
    rcases a with _ | ⟨k, a⟩
    · rcases step_cases hs with ⟨y, r, rfl, rfl⟩ | ⟨e, l, l', rfl, rfl, hs'⟩
      · simp [leave, need] at h
      · rcases e with _ | (e | y)
        · simp [leave, need] at h
        · simp [leave, need] at h
        · rw [join_np, join_np]
          exact (ih [] l l' (by simp only [List.length_cons] at hn; omega) hs' h).cons _
    · rcases k with _ | (c | x)
      · rw [join_cut, join_cut]
        exact (ih a b b' (by simp only [List.length_cons] at hn; omega) hs h).cons .cut
      · rcases step_cases hs with ⟨y, r, rfl, rfl⟩ | ⟨e, l, l', rfl, rfl, hs'⟩
        · rw [join_kc, join_kp, join_kc]
          exact ((join_put_like a r y).cons .cut).trans (like_swap y _)
        · rcases e with _ | (e | y)
          · rw [join_kc, join_kc]
            exact (ih a l l' (by simp only [List.length_cons] at hn; omega) hs' (by simpa [leave, need] using h)).cons _
          · rw [join_kk, join_kk]
            exact (ih a l l' (by simp only [List.length_cons] at hn; omega) hs' (by simpa [leave, need] using h)).cons _
          · rw [join_kp, join_kp]
            exact (ih (.keep c :: a) l l' (by simp only [List.length_cons] at hn ⊢; omega) hs' h).cons _
      · rcases step_cases hs with ⟨y, r, rfl, rfl⟩ | ⟨e, l, l', rfl, rfl, hs'⟩
        · rw [join_pc, join_pp, join_pc]
          exact join_put_like a r y
        · rcases e with _ | (e | y)
          · rw [join_pc, join_pc]
            exact ih a l l' (by simp only [List.length_cons] at hn; omega) hs' (by simpa [leave, need] using h)
          · rw [join_pk, join_pk]
            exact (ih a l l' (by simp only [List.length_cons] at hn; omega) hs' (by simpa [leave, need] using h)).cons _
          · rw [join_pp, join_pp]
            exact (ih (.put x :: a) l l' (by simp only [List.length_cons] at hn ⊢; omega) hs' h).cons _
/-- One that is a step tidier, joined. -/
theorem join_swap_l (x : It) : ∀ (b r : List A), leave (.cut :: .put x :: r) = need b → Like (join (.cut :: .put x :: r) b) (join (.put x :: .cut :: r) b)
  | [], r, h => by simp [leave, need] at h
  | some (.inr y) :: b, r, h => by
    have ih := join_swap_l x b r h
    rw [join_cut] at ih
    rw [join_cut, join_pp, join_pp]
    exact (like_swap y _).trans (ih.cons _)
  | some (.inl e) :: b, r, h => by
    rw [join_cut, join_pk, join_pk, join_cut]
    exact like_swap _ _
  | none :: b, r, h => by
    rw [join_cut, join_pc, join_pc, join_cut]
    exact Like.refl _
theorem join_step_l : ∀ (n : Nat) (a a' b : List A), a.length + b.length ≤ n → Step a a' → leave a = need b → Like (join a b) (join a' b) := by
  intro n
  induction n with
  | zero =>
    intro a a' b hn hs h
    rcases step_cases hs with ⟨x, r, rfl, rfl⟩ | ⟨e, l, l', rfl, rfl, _⟩ <;> simp at hn
  | succ n ih =>
    intro a a' b hn hs h
    rcases step_cases hs with ⟨x, r, rfl, rfl⟩ | ⟨k, l, l', rfl, rfl, hs'⟩
    · exact join_swap_l x b r h
    · rcases k with _ | (c | x)
      · rw [join_cut, join_cut]
        exact (ih l l' b (by simp only [List.length_cons] at hn; omega) hs' h).cons _
      · rcases b with _ | ⟨e, b⟩
        · simp [leave, need] at h
        · rcases e with _ | (e | y)
          · rw [join_kc, join_kc]
            exact (ih l l' b (by simp only [List.length_cons] at hn; omega) hs' (by simpa [leave, need] using h)).cons _
          · rw [join_kk, join_kk]
            exact (ih l l' b (by simp only [List.length_cons] at hn; omega) hs' (by simpa [leave, need] using h)).cons _
          · rw [join_kp, join_kp]
            exact (ih (.keep c :: l) (.keep c :: l') b (by simp only [List.length_cons] at hn ⊢; omega) (hs'.cons _) h).cons _
      · rcases b with _ | ⟨e, b⟩
        · simp [leave, need] at h
        · rcases e with _ | (e | y)
          · rw [join_pc, join_pc]
            exact ih l l' b (by simp only [List.length_cons] at hn; omega) hs' (by simpa [leave, need] using h)
          · rw [join_pk, join_pk]
            exact (ih l l' b (by simp only [List.length_cons] at hn; omega) hs' (by simpa [leave, need] using h)).cons _
          · rw [join_pp, join_pp]
            exact (ih (.put x :: l) (.put x :: l') b (by simp only [List.length_cons] at hn ⊢; omega) (hs'.cons _) h).cons _
theorem join_steps_l : ∀ (k : Nat) {a a' : List A}, StepsN k a a' → ∀ (b : List A), leave a = need b → Like (join a b) (join a' b)
  | 0, a, a', hs, b, _ => by rw [show a = a' from hs]; exact Like.refl _
  | k + 1, a, a', hs, b, h => by
    obtain ⟨m, h1, h2⟩ := hs
    exact (join_step_l _ a m b (Nat.le_refl _) h1 h).trans (join_steps_l k h2 b (by rw [(step_long h1).2]; exact h))
theorem join_steps_r (a : List A) : ∀ (k : Nat) {b b' : List A}, StepsN k b b' → leave a = need b → Like (join a b) (join a b')
  | 0, b, b', hs, _ => by rw [show b = b' from hs]; exact Like.refl _
  | k + 1, b, b', hs, h => by
    obtain ⟨m, h1, h2⟩ := hs
    exact (join_step_r _ a b m (Nat.le_refl _) h1 h).trans (join_steps_r a k h2 (by rw [(step_long h1).1]; exact h))
/-- Joined, made tidy: of what was made tidy ahead the same. -/
theorem nf_join_l (a b : List A) (h : leave a = need b) : nf (join (nf a) b) = nf (join a b) := by
  obtain ⟨k, hk⟩ := steps_nf a
  exact (nf_of (join_steps_l k hk b h)).symm
theorem nf_join_r (a b : List A) (h : leave a = need b) : nf (join a (nf b)) = nf (join a b) := by
  obtain ⟨k, hk⟩ := steps_nf b
  exact (nf_of (join_steps_r a k hk h)).symm
theorem join_long : ∀ (n : Nat) (a b : List A), a.length + b.length ≤ n → leave a = need b → need (join a b) = need a ∧ leave (join a b) = leave b
  | n, none :: a, b, hn, h => by
    match n, hn with
    | 0, hn => simp at hn
    | n + 1, hn =>
      obtain ⟨g1, g2⟩ := join_long n a b (by simp only [List.length_cons] at hn; omega) h
      rw [join_cut]
      exact ⟨by simp [need, g1], by simp [leave, g2]⟩
  | n, [], some (.inr y) :: b, hn, h => by
    match n, hn with
    | 0, hn => simp at hn
    | n + 1, hn =>
      obtain ⟨g1, g2⟩ := join_long n [] b (by simp only [List.length_cons] at hn; omega) h
      rw [join_np]
      exact ⟨by simpa [need] using g1, by simp [leave, g2]⟩
  | n, some (.inl c) :: a, some (.inr y) :: b, hn, h => by
    match n, hn with
    | 0, hn => simp at hn
    | n + 1, hn =>
      obtain ⟨g1, g2⟩ := join_long n (.keep c :: a) b (by simp only [List.length_cons] at hn ⊢; omega) h
      rw [join_kp]
      exact ⟨by simpa [need] using g1, by simp [leave, g2]⟩
  | n, some (.inr x) :: a, some (.inr y) :: b, hn, h => by
    match n, hn with
    | 0, hn => simp at hn
    | n + 1, hn =>
      obtain ⟨g1, g2⟩ := join_long n (.put x :: a) b (by simp only [List.length_cons] at hn ⊢; omega) h
      rw [join_pp]
      exact ⟨by simpa [need] using g1, by simp [leave, g2]⟩
  | n, some (.inl c) :: a, some (.inl e) :: b, hn, h => by
    match n, hn with
    | 0, hn => simp at hn
    | n + 1, hn =>
      obtain ⟨g1, g2⟩ := join_long n a b (by simp only [List.length_cons] at hn; omega) (by simpa [leave, need] using h)
      rw [join_kk]
      exact ⟨by simp [need, g1], by simp [leave, g2]⟩
  | n, some (.inl c) :: a, none :: b, hn, h => by
    match n, hn with
    | 0, hn => simp at hn
    | n + 1, hn =>
      obtain ⟨g1, g2⟩ := join_long n a b (by simp only [List.length_cons] at hn; omega) (by simpa [leave, need] using h)
      rw [join_kc]
      exact ⟨by simp [need, g1], by simp [leave, g2]⟩
  | n, some (.inr x) :: a, some (.inl e) :: b, hn, h => by
    match n, hn with
    | 0, hn => simp at hn
    | n + 1, hn =>
      obtain ⟨g1, g2⟩ := join_long n a b (by simp only [List.length_cons] at hn; omega) (by simpa [leave, need] using h)
      rw [join_pk]
      exact ⟨by simp [need, g1], by simp [leave, g2]⟩
  | n, some (.inr x) :: a, none :: b, hn, h => by
    match n, hn with
    | 0, hn => simp at hn
    | n + 1, hn =>
      obtain ⟨g1, g2⟩ := join_long n a b (by simp only [List.length_cons] at hn; omega) (by simpa [leave, need] using h)
      rw [join_pc]
      exact ⟨by simp [need, g1], by simp [leave, g2]⟩
  | _, [], [], _, _ => by rw [join_nil]; exact ⟨rfl, rfl⟩
  | _, [], some (.inl e) :: b, _, h => by simp [leave, need] at h
  | _, [], none :: b, _, h => by simp [leave, need] at h
  | _, some (.inl c) :: a, [], _, h => by simp [leave, need] at h
  | _, some (.inr x) :: a, [], _, h => by simp [leave, need] at h
/-- Joined three in either way, made tidy at each step, are the same. -/
theorem nf_assoc (a b c : List A) (ha : Ok a) (hb : Ok b) (hc : Ok c) (h1 : leave a = need b) (h2 : leave b = need c) : nf (join (nf (join a b)) c) = nf (join a (nf (join b c))) := by
  obtain ⟨_, g2⟩ := join_long _ a b (Nat.le_refl _) h1
  obtain ⟨g1, _⟩ := join_long _ b c (Nat.le_refl _) h2
  rw [nf_join_l _ c (by rw [g2]; exact h2), nf_join_r a _ (by rw [g1]; exact h1), join_assoc _ a b c (Nat.le_refl _) ha hb hc h1 h2]
end Ac
end Go.Proofs.YtaigleblmbblcaaDoor

/-
  Chapter 7 on parts: the acts of an operation's parts, one an item; acts made parts again, as Tidy lays them; and what holds of that.
-/
namespace Go.Proofs.YtaigleblmbblcaaDoor
open Go.RowKit
namespace Ac
/-- A part of an operation. -/
structure Pt where
  kind : Int
  n : Int
  items : List It
  set : Int
  clr : Int
  goes : Bool
  link : ByteArray
def chOf (p : Pt) : Ch := ⟨p.set, p.clr, p.goes, p.link⟩
def keepP (c : Ch) (n : Int) : Pt := ⟨1, n, [], c.set, c.clr, c.goes, c.link⟩
def putP (xs : List It) : Pt := ⟨2, 0, xs, 0, 0, false, ⟨#[]⟩⟩
def cutP (n : Nat) : Pt := ⟨3, n, [], 0, 0, false, ⟨#[]⟩⟩
/-- The acts of a part, one an item. -/
def acts1 (p : Pt) : List A := if p.kind = 2 then p.items.map A.put else List.replicate p.n.toNat (if p.kind = 1 then A.keep (chOf p) else A.cut)
def acts (o : List Pt) : List A := o.flatMap acts1
theorem acts_nil : acts [] = [] := rfl
theorem acts_cons (p : Pt) (o : List Pt) : acts (p :: o) = acts1 p ++ acts o := rfl
theorem acts_app (o o' : List Pt) : acts (o ++ o') = acts o ++ acts o' := List.flatMap_append
theorem acts1_keep (c : Ch) (n : Int) : acts1 (keepP c n) = List.replicate n.toNat (A.keep c) := rfl
theorem acts1_put (xs : List It) : acts1 (putP xs) = xs.map A.put := rfl
theorem acts1_cut (n : Nat) : acts1 (cutP n) = List.replicate n A.cut := rfl
/-- What is put and cut, as parts. -/
def flushP (ps : List It) (n : Nat) : List Pt := (if ps.isEmpty then [] else [putP ps]) ++ (if n = 0 then [] else [cutP n])
theorem acts_flush (ps : List It) (n : Nat) : acts (flushP ps n) = group ps n := by
  unfold flushP group
  rw [acts_app]
  congr 1
  · cases ps with
    | nil => rfl
    | cons x t => simp [acts, acts1_put]
  · cases n with
    | zero => rfl
    | succ n => simp [acts, acts1_cut]
/-- Whether a part keeps, with the same change. -/
def likeK (p : Pt) (c : Ch) : Bool := p.kind == 1 && p.set == c.set && p.clr == c.clr && p.goes == c.goes && p.link.data.toList == c.link.data.toList
/-- One more item is kept. -/
def addK : List Pt → Ch → List Pt
  | [], c => [keepP c 1]
  | [p], c => if likeK p c then [{ p with n := p.n + 1 }] else [p, keepP c 1]
  | p :: q :: o, c => p :: addK (q :: o) c
theorem likeK_ch {p : Pt} {c : Ch} (h : likeK p c = true) : p.kind = 1 ∧ chOf p = c := by
  unfold likeK at h
  simp only [Bool.and_eq_true, beq_iff_eq] at h
  obtain ⟨⟨⟨⟨h1, h2⟩, h3⟩, h4⟩, h5⟩ := h
  refine ⟨h1, ?_⟩
  unfold chOf
  cases c
  simp at h2 h3 h4 h5
  have : p.link = _ := ByteArray.ext h5
  rw [h2, h3, h4, this]
/-- Parts of which what is kept is some. -/
def Pos (o : List Pt) : Prop := ∀ p ∈ o, p.kind = 1 → 1 ≤ p.n
theorem acts_addK : ∀ (o : List Pt) (c : Ch), Pos o → acts (addK o c) = acts o ++ [A.keep c]
  | [], c, _ => rfl
  | [p], c, hp => by
    rw [addK]
    split
    · rename_i h
      obtain ⟨h1, h2⟩ := likeK_ch h
      have hn := hp p (by simp) h1
      have a1 : ∀ q : Pt, q.kind = 1 → chOf q = c → acts1 q = List.replicate q.n.toNat (A.keep c) := fun q k1 k2 => by
        unfold acts1
        rw [if_neg (by rw [k1]; decide), if_pos k1, k2]
      have hc : chOf { p with n := p.n + 1 } = c := h2
      rw [acts_cons, acts_nil, acts_cons, acts_nil, List.append_nil, List.append_nil, a1 p h1 h2, a1 { p with n := p.n + 1 } h1 hc]
      show List.replicate (p.n + 1).toNat _ = _
      rw [show (p.n + 1).toNat = p.n.toNat + 1 by omega, List.replicate_succ']
    · rw [acts_cons, acts_cons, acts_cons, acts_nil, List.append_nil, List.append_nil]
      rfl
  | p :: q :: o, c, hp => by
    rw [addK, acts_cons, acts_addK (q :: o) c (fun x hx => hp x (List.mem_cons_of_mem _ hx)), acts_cons p, List.append_assoc]
theorem addK_pos : ∀ (o : List Pt) (c : Ch), Pos o → Pos (addK o c)
  | [], c, _ => by
    intro p hp _
    simp [addK] at hp
    subst hp
    exact Int.le_refl _
  | [p], c, h => by
    rw [addK]
    split
    · intro x hx h1
      simp at hx
      subst hx
      have := h p (by simp) h1
      simp only
      omega
    · intro x hx h1
      simp at hx
      rcases hx with rfl | rfl
      · exact h x (by simp) h1
      · exact Int.le_refl _
  | p :: q :: o, c, h => by
    rw [addK]
    intro x hx h1
    rcases List.mem_cons.1 hx with rfl | hx
    · exact h x (by simp) h1
    · exact addK_pos (q :: o) c (fun x hx => h x (List.mem_cons_of_mem _ hx)) x hx h1
theorem flush_pos (ps : List It) (n : Nat) : Pos (flushP ps n) := by
  intro p hp h1
  unfold flushP at hp
  rcases List.mem_append.1 hp with h | h
  · split at h
    · cases h
    · simp at h; subst h; cases h1
  · split at h
    · cases h
    · simp at h; subst h; cases h1
theorem Pos.app {o o' : List Pt} (h : Pos o) (h' : Pos o') : Pos (o ++ o') := fun p hp h1 => by
  rcases List.mem_append.1 hp with hp | hp
  · exact h p hp h1
  · exact h' p hp h1
/-- Acts made parts: what was laid so far, what is put and cut behind it, what is to come. -/
def tdy : List Pt → List It → Nat → List A → List Pt
  | out, ps, n, [] => out ++ flushP ps n
  | out, ps, n, some (.inr x) :: r => tdy out (ps ++ [x]) n r
  | out, ps, n, none :: r => tdy out ps (n + 1) r
  | out, ps, n, some (.inl c) :: r => tdy (addK (out ++ flushP ps n) c) [] 0 r
theorem acts_tdy : ∀ (l : List A) (out : List Pt) (ps : List It) (n : Nat), Pos out → acts (tdy out ps n l) = acts out ++ norm ps n l
  | [], out, ps, n, _ => by rw [tdy, norm, acts_app, acts_flush]
  | some (.inr x) :: r, out, ps, n, h => by rw [tdy, norm, acts_tdy r out _ _ h]
  | none :: r, out, ps, n, h => by rw [tdy, norm, acts_tdy r out _ _ h]
  | some (.inl c) :: r, out, ps, n, h => by
    have hp := h.app (flush_pos ps n)
    rw [tdy, norm, acts_tdy r _ _ _ (addK_pos _ c hp), acts_addK _ c hp, acts_app, acts_flush]
    simp
def tidy (o : List Pt) : List Pt := tdy [] [] 0 (acts o)
/-- Tidy's acts are its operation's, what is put ahead of what is cut. -/
theorem acts_tidy (o : List Pt) : acts (tidy o) = nf (acts o) := by
  unfold tidy
  rw [acts_tdy _ _ _ _ (fun p hp => by cases hp), acts_nil]
  rfl
theorem tdy_puts : ∀ (qs : List It) (out : List Pt) (ps : List It) (n : Nat) (r : List A), tdy out ps n (qs.map A.put ++ r) = tdy out (ps ++ qs) n r
  | [], out, ps, n, r => by simp
  | x :: qs, out, ps, n, r => by
    rw [List.map_cons, List.cons_append, tdy, tdy_puts qs]
    simp
theorem tdy_cuts : ∀ (k : Nat) (out : List Pt) (ps : List It) (n : Nat) (r : List A), tdy out ps n (List.replicate k A.cut ++ r) = tdy out ps (n + k) r
  | 0, out, ps, n, r => by simp
  | k + 1, out, ps, n, r => by
    rw [List.replicate_succ, List.cons_append, tdy, tdy_cuts k]
    congr 1
    omega
theorem tdy_group (qs : List It) (k : Nat) (out : List Pt) (ps : List It) (n : Nat) (r : List A) : tdy out ps n (group qs k ++ r) = tdy out (ps ++ qs) (n + k) r := by
  unfold group
  rw [List.append_assoc, tdy_puts, tdy_cuts]
theorem tdy_norm : ∀ (l : List A) (out : List Pt) (qs : List It) (k : Nat) (ps : List It) (n : Nat), tdy out ps n (norm qs k l) = tdy out (ps ++ qs) (n + k) l
  | [], out, qs, k, ps, n => by
    have := tdy_group qs k out ps n []
    rw [List.append_nil] at this
    exact this
  | some (.inr x) :: r, out, qs, k, ps, n => by
    rw [norm, tdy_norm r, tdy]
    simp
  | none :: r, out, qs, k, ps, n => by
    rw [norm, tdy_norm r, tdy]
    rfl
  | some (.inl c) :: r, out, qs, k, ps, n => by
    rw [norm, tdy_group, tdy, tdy, tdy_norm r]
    rfl
/-- What is tidy is as Tidy makes it. -/
theorem tidy_tidy (o : List Pt) : tidy (tidy o) = tidy o := by
  unfold tidy
  rw [show acts (tdy [] [] 0 (acts o)) = nf (acts o) from acts_tidy o]
  exact tdy_norm (acts o) [] [] 0 [] 0
/-- What says the same, as acts, is tidied to the same. -/
theorem tidy_of {o o' : List Pt} (h : nf (acts o) = nf (acts o')) : tidy o = tidy o' := by
  have h1 := tdy_norm (acts o) [] [] 0 [] 0
  have h2 := tdy_norm (acts o') [] [] 0 [] 0
  unfold nf at h
  rw [h] at h1
  exact h1.symm.trans h2
end Ac
end Go.Proofs.YtaigleblmbblcaaDoor

/-
  Operations in memory: lists of parts, each with a list of items; chapter 7's check, measure and sameness on parts.
-/
namespace Go.Proofs.YtaigleblmbblcaaDoor
open Go.RowKit
namespace Ac
def says (p q : Pt) : Bool := (p.set == q.set) && ((p.clr == q.clr) && ((p.goes == q.goes) && (p.link.toList == q.link.toList)))
def same1 (p q : Pt) : Bool := (p.kind == q.kind) && ((p.n == q.n) && (Dc.same p.items q.items && says p q))
def sameO : List Pt → List Pt → Bool
  | [], [] => true
  | p :: s, q :: t => same1 p q && sameO s t
  | _, _ => false
theorem sameO_len : ∀ (s t : List Pt), ¬ s.length = t.length → sameO s t = false
  | [], [], h => absurd rfl h
  | [], _ :: _, _ => rfl
  | _ :: _, [], _ => rfl
  | x :: s, y :: t, h => by rw [sameO, sameO_len s t (by simpa using h), Bool.and_false]
theorem sameO_step (s t : List Pt) (k : Nat) (h : k < s.length) (h' : k < t.length) : sameO (s.drop k) (t.drop k) = (same1 s[k] t[k] && sameO (s.drop (k + 1)) (t.drop (k + 1))) := by
  rw [List.drop_eq_getElem_cons h, List.drop_eq_getElem_cons h', sameO]
/-- A part with nothing in it but what its kind has a use for. -/
def usedP (p : Pt) : Pt := if p.kind = 1 then { p with items := [] } else if p.kind = 2 then ⟨p.kind, 0, p.items, 0, 0, false, ⟨#[]⟩⟩ else ⟨p.kind, p.n, [], 0, 0, false, ⟨#[]⟩⟩
def areM (m : Int) : Bool := decide (0 ≤ m) && decide (m ≤ 3)
def errN (n : Int) : Int := if n < 1 ∨ 80 < n then 3 else 0
def errPut (l : List It) : Int := if l.length < 1 ∨ 80 < l.length then 2 else Dc.errs l
def marksBad (s c : Int) : Bool := !areM s || (!areM c || (s.toNat &&& c.toNat) != 0)
def linkBad (g : Bool) (l : ByteArray) : Bool := !l.toList.isEmpty && (!g || !Lk.may l.data.toList)
def errK (p : Pt) : Int := if marksBad p.set p.clr then 3 else if linkBad p.goes p.link then 4 else errN p.n
def err0 (p : Pt) : Int := if p.kind = 1 then errK p else if p.kind = 2 then errPut p.items else if p.kind = 3 then errN p.n else 4
def err1 (p : Pt) : Int := if err0 p = 0 then (if same1 p (usedP p) then 0 else 4) else err0 p
def chks : Int → List Pt → Int
  | _, [] => 0
  | s, p :: t => if err1 p = 0 then (if 80 < s + p.n then 2 else chks (s + p.n) t) else err1 p
def chk (o : List Pt) : Int := if o.length < 1 ∨ 40 < o.length then 2 else if chks 0 o = 0 then (match o.getLast? with | some p => if p.kind = 1 then 0 else 4 | none => 4) else chks 0 o
def lfS (s : Int) (p : Pt) : Int := if p.kind = 1 ∨ p.kind = 3 then wrap64 (s + p.n) else s
def ltS (s : Int) (p : Pt) : Int := if p.kind = 1 then wrap64 (s + p.n) else if p.kind = 2 then wrap64 (s + p.items.length) else s
def lf (o : List Pt) : Int := o.foldl lfS 0
def lt (o : List Pt) : Int := o.foldl ltS 0
end Ac
/-- A part in memory: its fields, and where its items lie. -/
structure PV where
  kind : Int
  n : Int
  ao : Option Addr
  m : Nat
  cap : Nat
  items : List It
  set : Int
  clr : Int
  goes : Bool
  link : ByteArray
def PV.pt (v : PV) : Ac.Pt := ⟨v.kind, v.n, v.items, v.set, v.clr, v.goes, v.link⟩
def pvC (v : PV) : List Value := [.int .i64 v.kind, .int .i64 v.n, .slice v.ao v.m v.cap, .int .i64 v.set, .int .i64 v.clr, .bool v.goes, .string v.link]
def pvCells (l : List PV) : List Value := l.flatMap pvC
theorem pvCells_nil : pvCells [] = [] := rfl
theorem pvCells_cons (v : PV) (l : List PV) : pvCells (v :: l) = .int .i64 v.kind :: .int .i64 v.n :: .slice v.ao v.m v.cap :: .int .i64 v.set :: .int .i64 v.clr :: .bool v.goes :: .string v.link :: pvCells l := rfl
theorem pvCells_app (l l' : List PV) : pvCells (l ++ l') = pvCells l ++ pvCells l' := List.flatMap_append
theorem pvCells_one (v : PV) : pvCells [v] = pvC v := by simp [pvCells]
theorem pvCells_len : ∀ l : List PV, (pvCells l).length = l.length * 7
  | [] => rfl
  | k :: l => by rw [pvCells_cons]; simp only [List.length_cons]; rw [pvCells_len l]; omega
theorem pvCells_at : ∀ (l : List PV) (i : Nat) (h : i < l.length), (pvCells l)[i * 7]? = some (.int .i64 l[i].kind) ∧ (pvCells l)[i * 7 + 1]? = some (.int .i64 l[i].n) ∧ (pvCells l)[i * 7 + 2]? = some (.slice l[i].ao l[i].m l[i].cap) ∧ (pvCells l)[i * 7 + 3]? = some (.int .i64 l[i].set) ∧ (pvCells l)[i * 7 + 4]? = some (.int .i64 l[i].clr) ∧ (pvCells l)[i * 7 + 5]? = some (.bool l[i].goes) ∧ (pvCells l)[i * 7 + 6]? = some (.string l[i].link)
  | [], _, h => by simp at h
  | k :: l, 0, _ => ⟨rfl, rfl, rfl, rfl, rfl, rfl, rfl⟩
  | k :: l, i + 1, h => by
    have := pvCells_at l i (by simpa using h)
    rw [pvCells_cons, show (i + 1) * 7 = i * 7 + 1 + 1 + 1 + 1 + 1 + 1 + 1 by omega]
    exact this
theorem pvCells_oneCell (l : List PV) : ∀ u ∈ pvCells l, u.oneCell' = true := by
  intro u hu
  obtain ⟨k, _, h⟩ := List.mem_flatMap.1 hu
  simp only [pvC, List.mem_cons, List.not_mem_nil, or_false] at h
  rcases h with rfl | rfl | rfl | rfl | rfl | rfl | rfl <;> rfl
/-- A part's items lie where it says. -/
structure Pvt (w : World) (v : PV) : Prop where
  doc : Doc w v.ao v.m v.cap v.items
  fit : v.link.size ≤ 9223372036854775807
theorem Pvt.below {w w' : World} {v : PV} (h : Pvt w v) (hb : Below w.heap.size w w') : Pvt w' v := ⟨h.doc.below hb, h.fit⟩
/-- The cells of a part. -/
structure Seven (w : World) (b off : Nat) (v : PV) : Prop where
  c0 : w.cell? ⟨b, off, none⟩ = some (.int .i64 v.kind)
  c1 : w.cell? ⟨b, off + 1, none⟩ = some (.int .i64 v.n)
  c2 : w.cell? ⟨b, off + 2, none⟩ = some (.slice v.ao v.m v.cap)
  c3 : w.cell? ⟨b, off + 3, none⟩ = some (.int .i64 v.set)
  c4 : w.cell? ⟨b, off + 4, none⟩ = some (.int .i64 v.clr)
  c5 : w.cell? ⟨b, off + 5, none⟩ = some (.bool v.goes)
  c6 : w.cell? ⟨b, off + 6, none⟩ = some (.string v.link)
theorem Seven.below {w w' : World} {b off : Nat} {v : PV} (h : Seven w b off v) (hb : Below w.heap.size w w') : Seven w' b off v :=
  ⟨cell_below h.c0 hb, cell_below h.c1 hb, cell_below h.c2 hb, cell_below h.c3 hb, cell_below h.c4 hb, cell_below h.c5 hb, cell_below h.c6 hb⟩
/-- A slice of parts. -/
structure Ops (w : World) (ao : Option Addr) (n cap : Nat) (vs : List PV) : Prop where
  row : Row w ao n cap 7 (pvCells vs)
  pts : ∀ v ∈ vs, Pvt w v
theorem Ops.below {w w' : World} {ao : Option Addr} {n cap : Nat} {vs : List PV} (h : Ops w ao n cap vs) (hb : Below w.heap.size w w') : Ops w' ao n cap vs :=
  ⟨h.row.below hb, fun v hv => (h.pts v hv).below hb⟩
theorem Ops.len {w : World} {ao : Option Addr} {n cap : Nat} {vs : List PV} (h : Ops w ao n cap vs) : vs.length = n := by
  have := h.row.len
  rw [pvCells_len] at this
  omega
theorem Ops.get {w : World} {ao : Option Addr} {n cap : Nat} {vs : List PV} (h : Ops w ao n cap vs) (hn : n ≠ 0) : ∃ b off, ao = some ⟨b, off, none⟩ ∧ ∀ i (hi : i < vs.length), Seven w b (off + i * 7) vs[i] := by
  obtain ⟨b, off, e, hc⟩ := h.row.lies hn
  refine ⟨b, off, e, fun i hi => ?_⟩
  obtain ⟨h0, h1, h2, h3, h4, h5, h6⟩ := pvCells_at vs i hi
  exact ⟨hc _ _ h0, by rw [Nat.add_assoc]; exact hc _ _ h1, by rw [Nat.add_assoc]; exact hc _ _ h2, by rw [Nat.add_assoc]; exact hc _ _ h3, by rw [Nat.add_assoc]; exact hc _ _ h4, by rw [Nat.add_assoc]; exact hc _ _ h5, by rw [Nat.add_assoc]; exact hc _ _ h6⟩
/-- A call that is handed a part lays it in a block of its own. -/
def boxp (v : PV) (w : World) : World := w.alloc (.cells #[.int .i64 v.kind, .int .i64 v.n, .slice v.ao v.m v.cap, .int .i64 v.set, .int .i64 v.clr, .bool v.goes, .string v.link] 55)
theorem boxp_below (v : PV) (w : World) : Below w.heap.size w (boxp v w) := (Below.refl _ _).alloc (Nat.le_refl _) _
theorem boxp_size (v : PV) (w : World) : (boxp v w).heap.size = w.heap.size + 1 := World.size_alloc ..
theorem boxp_blk (v : PV) (w : World) : Blk (boxp v w) w.heap.size (pvC v) 55 := Blk.new w _ _
theorem seven_blk {w : World} {b : Nat} {v : PV} (h : Blk w b (pvC v) 55) : Seven w b 0 v := ⟨h.cell 0, h.cell 1, h.cell 2, h.cell 3, h.cell 4, h.cell 5, h.cell 6⟩
theorem boxp_at (v : PV) (w : World) : Seven (boxp v w) w.heap.size 0 v := seven_blk (boxp_blk v w)
theorem boxp2_below (v u : PV) (w : World) : Below w.heap.size w (boxp u (boxp v w)) := (boxp_below v w).trans ((boxp_below u _).mono (boxp_below v w).size)
theorem boxp2_fst (v u : PV) (w : World) : Seven (boxp u (boxp v w)) w.heap.size 0 v := (boxp_at v w).below (boxp_below u _)
theorem boxp2_snd (v u : PV) (w : World) : Seven (boxp u (boxp v w)) (w.heap.size + 1) 0 u := by
  have := boxp_at u (boxp v w)
  rw [boxp_size] at this
  exact this
theorem Tryd.infP : (Tryd.prog.info? 55).map (fun i => (i.zero, i.size, i.bytes)) = some (some (.agg #[.int .i64 0, .int .i64 0, .slice none 0 0, .int .i64 0, .int .i64 0, .bool false, .string ⟨#[]⟩]), 7, 80) := by kernel_rfl
end Go.Proofs.YtaigleblmbblcaaDoor
