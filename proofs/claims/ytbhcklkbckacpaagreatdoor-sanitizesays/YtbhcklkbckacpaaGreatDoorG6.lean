/-
  Texts of this proof, one behind the other.
-/
import Derived.Test.YtbhcklkbckacpaaGreatDoorG0
import Derived.Test.YtbhcklkbckacpaaGreatDoorG5

/-
  What holds of an address that may be led to, cleaned: pure mathematics of chapter 2.
-/
namespace Go.Proofs.YtbhcklkbckacpaaGreatDoor
open Go.RowKit
namespace Lk

theorem clean_some {l : List UInt8} (h : clean l ≠ []) : clean l = trim l ∧ may (clean l) = true := by
  unfold clean at h ⊢
  cases hm : may (trim l)
  · rw [hm] at h; exact absurd rfl h
  · exact ⟨rfl, hm⟩
end Lk
end Go.Proofs.YtbhcklkbckacpaaGreatDoor

/-
  Chapter 4 on lists: pages as tags and characters, how they are written, read back, joined, how long they are; and the same run by run.
-/
namespace Go.Proofs.YtbhcklkbckacpaaGreatDoor
open Go.RowKit
namespace Pg
abbrev Nm := Bool × Bool × Bool
namespace Nm
abbrev p : Nm := (false, false, false)
abbrev h1 : Nm := (false, false, true)
abbrev li : Nm := (false, true, false)
abbrev h2 : Nm := (false, true, true)
abbrev ul : Nm := (true, false, false)
abbrev b : Nm := (true, false, true)
abbrev i : Nm := (true, true, false)
abbrev a : Nm := (true, true, true)
end Nm
abbrev Tok := (Nm ⊕ Nm) ⊕ (List UInt8 ⊕ UInt8)
namespace Tok
abbrev op (n : Nm) : Tok := .inl (.inl n)
abbrev cl (n : Nm) : Tok := .inl (.inr n)
abbrev a (l : List UInt8) : Tok := .inr (.inl l)
abbrev ch (c : UInt8) : Tok := .inr (.inr c)
end Tok
def name : Nm → List UInt8
  | (false, false, false) => [112]
  | (false, false, true) => [104, 49]
  | (false, true, false) => [108, 105]
  | (false, true, true) => [104, 50]
  | (true, false, false) => [117, 108]
  | (true, false, true) => [98]
  | (true, true, false) => [105]
  | (true, true, true) => [97]
def apre : List UInt8 := [60, 97, 32, 104, 114, 101, 102, 61, 34]
def enc : Tok → List UInt8
  | .inl (.inl n) => 60 :: (name n ++ [62])
  | .inl (.inr n) => 60 :: 47 :: (name n ++ [62])
  | .inr (.inl l) => apre ++ (Esc.wr l ++ [34, 62])
  | .inr (.inr c) => Esc.enc1 c
def bytes (t : List Tok) : List UInt8 := t.flatMap enc
theorem bytes_nil : bytes [] = [] := rfl
theorem bytes_cons (x : Tok) (t : List Tok) : bytes (x :: t) = enc x ++ bytes t := by simp [bytes]
theorem bytes_append (s t : List Tok) : bytes (s ++ t) = bytes s ++ bytes t := by simp [bytes]
theorem bytes_chars : ∀ l : List UInt8, bytes (l.map .ch) = Esc.wr l
  | [] => rfl
  | c :: l => by rw [List.map_cons, bytes_cons, bytes_chars l, Esc.wr_cons]; rfl

theorem tw (p : UInt8 → Bool) (x : UInt8) (r : List UInt8) (hx : p x = false) : ∀ l : List UInt8, (∀ y ∈ l, p y = true) → (l ++ x :: r).takeWhile p = l ∧ (l ++ x :: r).dropWhile p = x :: r
  | [], _ => by simp [hx]
  | y :: l, h => by
    have hy := h y (by simp)
    obtain ⟨h1, h2⟩ := tw p x r hx l (fun z hz => h z (by simp [hz]))
    exact ⟨by rw [List.cons_append, List.takeWhile_cons, hy, h1]; rfl, by rw [List.cons_append, List.dropWhile_cons, hy, h2]; rfl⟩
structure St where
  page : List Tok
  ins : List Tok
  text : List UInt8
  last : It
  list : Bool
def kind (m : Int) : Nm := if m = 0 then .p else if m = 1 then .h1 else if m = 2 then .li else .h2
def wrap (b : Bool) (n : Nm) (s : List Tok) : List Tok := if b then .op n :: (s ++ [.cl n]) else s
def tags (m : Int) (s : List Tok) : List Tok := wrap (m % 2 == 1) .b (wrap (decide (2 ≤ m)) .i s)
def linked (l : ByteArray) (s : List Tok) : List Tok := if l.toList.isEmpty then s else .a l.data.toList :: (s ++ [.cl .a])
def seg (x : It) (t : List UInt8) : List Tok := linked x.l (tags x.m (t.map .ch))
def none : It := ⟨0, 0, ⟨#[]⟩⟩
def tail (x : It) (t : List UInt8) : List Tok := if t.isEmpty then [] else seg x t
def flush (s : St) : St := { s with ins := s.ins ++ tail s.last s.text, text := [], last := none }
def lists (o n : Bool) : List Tok := if n && !o then [.op .ul] else if !n && o then [.cl .ul] else []
def endB (s : St) (m : Int) : St := { s with page := s.page ++ lists s.list (m == 2) ++ .op (kind m) :: (s.ins ++ [.cl (kind m)]), ins := [], list := m == 2 }
def diff (a x : It) : Bool := (x.m != a.m) || !(x.l.toList == a.l.toList)
def step (s : St) (x : It) : St :=
  if Dc.ends x then endB (flush s) x.m
  else if !s.text.isEmpty && diff s.last x then { flush s with text := [x.c], last := x }
  else { s with text := s.text ++ [x.c], last := x }
def st0 : St := ⟨[], [], [], none, false⟩
def run (l : List It) : St := l.foldl step st0
def fin (s : St) : List Tok := s.page ++ lists s.list false
def toks (l : List It) : List Tok := fin (run l)
def page (l : List It) : List UInt8 := bytes (toks l)
theorem run_snoc (l : List It) (x : It) : run (l ++ [x]) = step (run l) x := by simp [run]
/- Reading a page's tags and characters back. -/
structure De where
  m : Int
  l : List UInt8
  out : List It
def mk (m : Int) (l : ByteArray) (c : UInt8) : It := ⟨c, m, l⟩
def dstep (d : De) : Tok → De
  | .inl (.inl (true, false, true)) => { d with m := d.m + 1 }
  | .inl (.inr (true, false, true)) => { d with m := d.m - 1 }
  | .inl (.inl (true, true, false)) => { d with m := d.m + 2 }
  | .inl (.inr (true, true, false)) => { d with m := d.m - 2 }
  | .inr (.inl l) => { d with l := l }
  | .inl (.inr (true, true, true)) => { d with l := [] }
  | .inr (.inr c) => { d with out := d.out ++ [mk d.m (B d.l) c] }
  | .inl (.inr (false, false, false)) => { d with out := d.out ++ [⟨10, 0, B []⟩] }
  | .inl (.inr (false, false, true)) => { d with out := d.out ++ [⟨10, 1, B []⟩] }
  | .inl (.inr (false, true, false)) => { d with out := d.out ++ [⟨10, 2, B []⟩] }
  | .inl (.inr (false, true, true)) => { d with out := d.out ++ [⟨10, 3, B []⟩] }
  | _ => d
def dec (o : De) (t : List Tok) : De := t.foldl dstep o
structure Inv (s : St) (l : List It) : Prop where
  back : ∃ o, dec ⟨0, [], []⟩ (s.page ++ s.ins) = ⟨0, [], o⟩ ∧ l = o ++ s.text.map (mk s.last.m s.last.l)
  ok : s.text ≠ [] → 0 ≤ s.last.m ∧ s.last.m ≤ 3
theorem ends_c {x : It} (h : Dc.ends x = true) : x.c = 10 := by
  unfold Dc.ends at h
  have : (x.c.toNat : Int) = 10 := by simpa using h
  exact UInt8.toNat_inj.1 (by show x.c.toNat = 10; omega)
theorem not_diff {a x : It} (h : diff a x = false) : x.m = a.m ∧ x.l = a.l := by
  unfold diff at h
  rw [Bool.or_eq_false_iff, Bool.not_eq_false', Lib.toList_data, Lib.toList_data] at h
  exact ⟨by simpa using h.1, ext_list (by simpa using h.2)⟩
/- Two documents, one behind the other. -/
def pre (P : List Tok) (s : St) : St := { s with page := P ++ s.page }
end Pg
namespace Pg
/- Runs: the places where they begin, one behind the other. -/
def from_ (l : List It) (n q : Nat) : List Nat := (List.range' q (n - q)).filter (Dc.runB l)
theorem from_end (l : List It) (n : Nat) : from_ l n n = [] := by simp [from_]
theorem from_runs (l : List It) (n : Nat) : Dc.runsTo l n = from_ l n 0 := by
  unfold Dc.runsTo from_
  rw [List.range_eq_range', Nat.sub_zero]
theorem from_step (l : List It) (n q : Nat) (h : q < n) : from_ l n q = if Dc.runB l q then q :: from_ l n (q + 1) else from_ l n (q + 1) := by
  unfold from_
  obtain ⟨d, hd⟩ : ∃ d, n - q = d + 1 := ⟨n - q - 1, by omega⟩
  rw [hd, List.range'_succ, show n - (q + 1) = d by omega, List.filter_cons]
theorem next (l : List It) (n : Nat) : ∀ d q, n - q = d → q ≤ n → ∃ q', q ≤ q' ∧ q' ≤ n ∧ (q' = n ∨ Dc.runB l q' = true) ∧ (∀ j, q ≤ j → j < q' → Dc.runB l j = false) ∧ from_ l n q = from_ l n q'
  | 0, q, hd, hq => ⟨q, Nat.le_refl _, hq, .inl (by omega), fun j h1 h2 => by omega, rfl⟩
  | d + 1, q, hd, hq => by
    cases h : Dc.runB l q
    · obtain ⟨q', h1, h2, h3, h4, h5⟩ := next l n d (q + 1) (by omega) (by omega)
      refine ⟨q', by omega, h2, h3, fun j j1 j2 => ?_, ?_⟩
      · by_cases hj : j = q
        · rw [hj]; exact h
        · exact h4 j (by omega) j2
      · rw [from_step l n q (by omega), h]
        exact h5
    · exact ⟨q, Nat.le_refl _, hq, .inr h, fun j h1 h2 => by omega, rfl⟩
theorem from_head (l : List It) (n q : Nat) (h : q < n) (hb : Dc.runB l q = true) : from_ l n q = q :: from_ l n (q + 1) := by
  rw [from_step l n q h, hb]; rfl

/- What a run comes to. -/
theorem turns_iff (a x : It) : Dc.turns a x = false ↔ Dc.ends a = false ∧ Dc.ends x = false ∧ diff a x = false := by
  unfold Dc.turns diff
  cases Dc.ends a <;> cases Dc.ends x <;> simp
theorem run_on (s : St) (x : It) (m : Int) (l : ByteArray) (hm : x.m = m) (hl : x.l = l) : ∀ (t : List It) (u : List UInt8) (y : It), u ≠ [] → y.m = m → y.l = l → (∀ z ∈ t, Dc.ends z = false ∧ z.m = m ∧ z.l = l) →
    ∃ y', y'.m = m ∧ y'.l = l ∧ t.foldl step { s with text := u, last := y } = { s with text := u ++ t.map It.c, last := y' }
  | [], u, y, _, h1, h2, _ => ⟨y, h1, h2, by simp⟩
  | z :: t, u, y, hu, h1, h2, h => by
    obtain ⟨g1, g2, g3⟩ := h z (by simp)
    have hs : step { s with text := u, last := y } z = { s with text := u ++ [z.c], last := z } := by
      have hd : diff y z = false := by unfold diff; rw [g2, g3, h1, h2]; simp
      unfold step
      simp [g1, hd]
    obtain ⟨y', k1, k2, k3⟩ := run_on s x m l hm hl t (u ++ [z.c]) z (by simp) g2 g3 (fun w hw => h w (by simp [hw]))
    exact ⟨y', k1, k2, by rw [List.foldl_cons, hs, k3]; simp⟩
theorem tail_same (x y : It) (u : List UInt8) (h1 : y.m = x.m) (h2 : y.l = x.l) : tail y u = tail x u := by
  unfold tail seg
  rw [h1, h2]
theorem run_run (s : St) (x : It) (t : List It) (he : Dc.ends x = false) (hd : s.text = [] ∨ diff s.last x = true) (ht : ∀ z ∈ t, Dc.ends z = false ∧ z.m = x.m ∧ z.l = x.l) :
    flush ((x :: t).foldl step s) = { flush s with ins := (flush s).ins ++ seg x ((x :: t).map It.c) } := by
  have hs : step s x = { flush s with text := [x.c], last := x } := by
    unfold step
    rw [if_neg (by rw [he]; decide)]
    rcases hd with h | h
    · rw [if_neg (by rw [h]; simp)]
      unfold flush
      rw [h]
      simp [tail]
    · cases hte : s.text.isEmpty
      · rw [if_pos (by rw [h]; rfl)]
      · have h' : s.text = [] := by simpa using hte
        rw [if_neg (by simp)]
        unfold flush
        rw [h']
        simp [tail]
  obtain ⟨y', k1, k2, k3⟩ := run_on (flush s) x x.m x.l rfl rfl t [x.c] x (by simp) rfl rfl ht
  rw [List.foldl_cons, hs, k3]
  show ({ flush s with ins := (flush s).ins ++ tail y' ([x.c] ++ t.map It.c), text := [], last := none } : St) = _
  rw [tail_same x y' _ k1 k2]
  rfl
theorem last_of : ∀ (l : List It) (x : It), (∃ s, run (l ++ [x]) = endB s x.m ∧ s.text = [] ∧ Dc.ends x = true) ∨ (Dc.ends x = false ∧ (run (l ++ [x])).last = x) := by
  intro l x
  rw [run_snoc]
  unfold step
  cases he : Dc.ends x
  · refine .inr ⟨rfl, ?_⟩
    simp only [Bool.false_eq_true, if_false]
    split <;> rfl
  · exact .inl ⟨_, rfl, rfl, rfl⟩
theorem run_take (l : List It) (k : Nat) (h : k < l.length) : run (l.take (k + 1)) = step (run (l.take k)) l[k] := by
  rw [List.take_succ_eq_append_getElem h, run_snoc]
theorem begins (l : List It) (q : Nat) (h : q < l.length) (hb : Dc.runB l q = true) (he : Dc.ends l[q] = false) : (run (l.take q)).text = [] ∨ diff (run (l.take q)).last l[q] = true := by
  match q, h, hb, he with
  | 0, h, hb, he => exact .inl rfl
  | j + 1, h, hb, he =>
    rw [Dc.runB_succ h] at hb
    have hj : j < l.length := by omega
    rw [List.take_succ_eq_append_getElem hj]
    rcases last_of (l.take j) l[j] with ⟨s, hs, ht, _⟩ | ⟨h1, h2⟩
    · rw [hs]; exact .inl ht
    · rw [h2]
      right
      cases hd : diff l[j] l[j + 1]
      · rw [(turns_iff _ _).2 ⟨h1, he, hd⟩] at hb; cases hb
      · rfl
theorem alike_on (l : List It) (q q' : Nat) (hq : q' ≤ l.length) (h : ∀ j, q + 1 ≤ j → j < q' → Dc.runB l j = false) (hlt : q < l.length) (he : Dc.ends l[q] = false) : ∀ d j (hj : j < l.length), j = q + d → j < q' → Dc.ends l[j] = false ∧ l[j].m = l[q].m ∧ l[j].l = l[q].l
  | 0, j, hj, e, _ => by
    obtain rfl : j = q := by omega
    exact ⟨he, rfl, rfl⟩
  | d + 1, j, hj, e, hjq => by
    obtain ⟨i, rfl⟩ : ∃ i, j = i + 1 := ⟨q + d, by omega⟩
    obtain ⟨g1, g2, g3⟩ := alike_on l q q' hq h hlt he d i (by omega) (by omega) (by omega)
    have := h (i + 1) (by omega) hjq
    rw [Dc.runB_succ hj] at this
    obtain ⟨t1, t2, t3⟩ := (turns_iff _ _).1 this
    obtain ⟨e1, e2⟩ := not_diff t3
    exact ⟨t2, by rw [e1, g2], by rw [e2, g3]⟩
theorem run_at (l : List It) (q q' : Nat) (h1 : q < q') (hq : q' ≤ l.length) (h : ∀ j, q + 1 ≤ j → j < q' → Dc.runB l j = false) (hb : Dc.runB l q = true) (hlt : q < l.length) (he : Dc.ends l[q] = false) :
    flush (run (l.take q')) = { flush (run (l.take q)) with ins := (flush (run (l.take q))).ins ++ seg l[q] (((l.drop q).take (q' - q)).map It.c) } := by
  have hd : l.take q' = l.take q ++ (l.drop q).take (q' - q) := by
    have : q' = q + (q' - q) := by omega
    rw [this, List.take_add]
    simp
  obtain ⟨e, he'⟩ : ∃ e, q' - q = e + 1 := ⟨q' - q - 1, by omega⟩
  have hc : (l.drop q).take (q' - q) = l[q] :: (l.drop (q + 1)).take e := by
    rw [he', List.drop_eq_getElem_cons hlt]
    rfl
  have hr : run (l.take q') = (l[q] :: (l.drop (q + 1)).take e).foldl step (run (l.take q)) := by
    rw [hd, hc]
    unfold run
    rw [List.foldl_append]
  rw [hr, hc]
  refine run_run _ _ _ he (begins l q hlt hb he) ?_
  intro z hz
  obtain ⟨i, hi, rfl⟩ := List.mem_iff_getElem.1 hz
  simp at hi
  have hlen : q + 1 + i < l.length := by omega
  have := alike_on l q q' hq h hlt he (i + 1) (q + 1 + i) hlen (by omega) (by omega)
  simpa using this
theorem end_at (l : List It) (q : Nat) (hlt : q < l.length) (he : Dc.ends l[q] = true) : flush (run (l.take (q + 1))) = endB (flush (run (l.take q))) l[q].m := by
  rw [run_take l q hlt]
  unfold step
  rw [if_pos he]
  show ({ endB (flush (run (l.take q))) l[q].m with ins := [] ++ tail none [], text := [], last := none } : St) = _
  rfl
end Pg
namespace Pg
/- How long a page is. -/
def pend (t : List UInt8) : Nat := if t.isEmpty then 0 else 6 * t.length + 200
def weight (s : St) : Nat := (bytes s.page).length + (bytes s.ins).length + pend s.text
theorem wrap_len (b : Bool) (n : Nm) (s : List Tok) (hn : (name n).length ≤ 1) : (bytes (wrap b n s)).length ≤ (bytes s).length + 7 := by
  unfold wrap
  cases b
  · simp
  · simp only [if_true, bytes_cons, bytes_append, bytes_nil, enc, List.length_append, List.length_cons, List.length_nil]
    omega
theorem seg_len (x : It) (t : List UInt8) (hl : x.l.size ≤ 24) : (bytes (seg x t)).length ≤ 6 * t.length + 200 := by
  have h0 : (bytes (t.map Tok.ch)).length ≤ 6 * t.length := by rw [bytes_chars]; exact (Esc.wr_len t).2
  have h1 := wrap_len (decide (2 ≤ x.m)) .i (t.map .ch) (by decide)
  have h2 := wrap_len (x.m % 2 == 1) .b (wrap (decide (2 ≤ x.m)) .i (t.map .ch)) (by decide)
  have h3 : (bytes (tags x.m (t.map .ch))).length ≤ 6 * t.length + 14 := by unfold tags; omega
  unfold seg linked
  split
  · omega
  · have h4 := (Esc.wr_len x.l.data.toList).2
    have h5 : x.l.data.toList.length = x.l.size := by simp
    rw [bytes_cons, bytes_append, List.length_append, List.length_append]
    have e1 : (enc (.a x.l.data.toList)).length = 9 + ((Esc.wr x.l.data.toList).length + 2) := by simp [enc, apre]; omega
    have e2 : (bytes [.cl .a]).length = 4 := rfl
    omega
theorem flush_weight (s : St) (hl : s.text ≠ [] → s.last.l.size ≤ 24) : weight (flush s) ≤ weight s := by
  unfold weight
  show (bytes s.page).length + (bytes (s.ins ++ tail s.last s.text)).length + 0 ≤ _
  rw [bytes_append, List.length_append]
  unfold tail pend
  cases h : s.text.isEmpty
  · have h' : s.text ≠ [] := by intro e; rw [e] at h; cases h
    have := seg_len s.last s.text (hl h')
    simp only [Bool.false_eq_true, if_false]
    omega
  · simp [bytes_nil]
theorem lists_len (a b : Bool) : (bytes (lists a b)).length ≤ 5 := by cases a <;> cases b <;> decide
theorem kind_len (m : Int) : (enc (.op (kind m))).length ≤ 4 ∧ (enc (.cl (kind m))).length ≤ 5 := by
  unfold kind
  split
  · decide
  split
  · decide
  split <;> decide
theorem step_weight (s : St) (x : It) (hl : s.text ≠ [] → s.last.l.size ≤ 24) (hx : x.l.size ≤ 24) : weight (step s x) ≤ weight s + 206 ∧ ((step s x).text ≠ [] → (step s x).last.l.size ≤ 24) := by
  have hf := flush_weight s hl
  unfold step
  cases Dc.ends x
  · simp only [Bool.false_eq_true, if_false]
    cases hd : (!s.text.isEmpty && diff s.last x)
    · simp only [Bool.false_eq_true, if_false]
      refine ⟨?_, fun _ => hx⟩
      unfold weight pend
      simp only
      have : (s.text ++ [x.c]).isEmpty = false := by simp
      rw [this]
      simp only [Bool.false_eq_true, if_false, List.length_append, List.length_cons, List.length_nil]
      cases h : s.text.isEmpty
      · simp only [Bool.false_eq_true, if_false]; omega
      · have : s.text = [] := by simpa using h
        rw [this]; simp
    · simp only [if_true]
      refine ⟨?_, fun _ => hx⟩
      show weight (flush s) + 206 ≤ weight s + 206
      omega
  · simp only [if_true]
    refine ⟨?_, fun h => absurd rfl h⟩
    have e : weight (endB (flush s) x.m) = (bytes ((flush s).page ++ lists (flush s).list (x.m == 2) ++ .op (kind x.m) :: ((flush s).ins ++ [.cl (kind x.m)]))).length + 0 + 0 := rfl
    have e2 : weight (flush s) = (bytes (flush s).page).length + (bytes (flush s).ins).length + 0 := rfl
    have h1 := lists_len (flush s).list (x.m == 2)
    have h2 := kind_len x.m
    rw [e, bytes_append, bytes_append, bytes_cons, bytes_append, bytes_cons, bytes_nil]
    simp only [List.length_append, List.length_nil]
    omega
theorem fold_weight : ∀ (l : List It) (s : St), (s.text ≠ [] → s.last.l.size ≤ 24) → (∀ x ∈ l, x.l.size ≤ 24) → weight (l.foldl step s) ≤ weight s + 206 * l.length
  | [], s, _, _ => by simp
  | x :: l, s, hs, hl => by
    obtain ⟨h1, h2⟩ := step_weight s x hs (hl x (by simp))
    have := fold_weight l (step s x) h2 (fun y hy => hl y (by simp [hy]))
    rw [List.foldl_cons]
    simp only [List.length_cons]
    omega
theorem run_weight (l : List It) (hl : ∀ x ∈ l, x.l.size ≤ 24) : weight (run l) ≤ 206 * l.length := by
  have := fold_weight l st0 (fun h => absurd rfl h) hl
  have e : weight st0 = 0 := rfl
  unfold run
  omega
theorem last_short : ∀ (l : List It) (s : St), (s.text ≠ [] → s.last.l.size ≤ 24) → (∀ x ∈ l, x.l.size ≤ 24) → ((l.foldl step s).text ≠ [] → (l.foldl step s).last.l.size ≤ 24)
  | [], _, hs, _ => hs
  | x :: l, s, hs, hl => by
    rw [List.foldl_cons]
    exact last_short l _ (step_weight s x hs (hl x (by simp))).2 (fun y hy => hl y (by simp [hy]))
end Pg
end Go.Proofs.YtbhcklkbckacpaaGreatDoor

/-
  Chapter 5 on lists of bytes: that of what is written of a document the tags are its own, in order, and the texts its characters; and that what stands behind a whole tag is taken apart by itself.
-/
namespace Go.Proofs.YtbhcklkbckacpaaGreatDoor
open Go.RowKit
namespace Tk
open Pg (Nm Tok enc)
def one : Tok → Tk
  | .inl (.inl n) => ⟨2, Pg.name n, [], []⟩
  | .inl (.inr n) => ⟨3, Pg.name n, [], []⟩
  | .inr (.inl l) => ⟨2, [97], [], l⟩
  | .inr (.inr c) => txt [c]
theorem tw' (x : UInt8) (r : List UInt8) (l : List UInt8) (h : ∀ y ∈ l, y ≠ x) : (l ++ x :: r).takeWhile (not x) = l ∧ (l ++ x :: r).dropWhile (not x) = x :: r :=
  Pg.tw (not x) x r (by simp [not]) l (fun y hy => by simpa [not] using h y hy)
end Tk
namespace Tk
open Pg (Nm Tok enc St)
def names : List (List UInt8) := [[112], [104, 49], [104, 50], [108, 105], [117, 108], [97], [98], [105]]
def clean (o : List (List UInt8)) : Prop := o.contains [97] = false ∧ o.contains [98] = false ∧ o.contains [105] = false
def Good (x : It) : Prop := 0 ≤ x.m ∧ x.m ≤ 3 ∧ (x.l.toList.isEmpty = true ∨ Lk.may x.l.data.toList = true)
def chars (l : List It) : List UInt8 := (l.filter (fun x => !Dc.ends x)).map It.c
theorem chars_snoc (l : List It) (x : It) : chars (l ++ [x]) = if Dc.ends x then chars l else chars l ++ [x.c] := by
  unfold chars
  rw [List.filter_append, List.map_append]
  cases h : Dc.ends x <;> simp [h]
end Tk
namespace Tk
def E (w : List UInt8) : Prop := w.getLast? = some 62
end Tk
end Go.Proofs.YtbhcklkbckacpaaGreatDoor

/-
  Chapter 6 on lists: the document that a page's tokens make; that it is one; that what is written of a document is read as itself; what is hidden; the page of a text.
-/
namespace Go.Proofs.YtbhcklkbckacpaaGreatDoor
open Go.RowKit
namespace Sn
open Pg (Nm Tok St)
def blockOf (n : List UInt8) : Option Int := if n == [112] then some 0 else if n == [100, 105, 118] then some 0 else if n == [104, 49] then some 1 else if n == [108, 105] then some 2 else if n == [104, 50] then some 3 else none
def boldL : List (List UInt8) := [[98], [115, 116, 114, 111, 110, 103]]
def slantL : List (List UInt8) := [[105], [101, 109]]
def brL : List UInt8 := [98, 114]
def hiddenL : List (List UInt8) := [[115, 99, 114, 105, 112, 116], [115, 116, 121, 108, 101], [116, 101, 109, 112, 108, 97, 116, 101], [115, 118, 103], [109, 97, 116, 104], [105, 102, 114, 97, 109, 101], [116, 105, 116, 108, 101], [116, 101, 120, 116, 97, 114, 101, 97], [110, 111, 115, 99, 114, 105, 112, 116]]
structure S where
  d : List It
  bold : Int
  slant : Int
  kind : Int
  link : List UInt8
  hides : List UInt8
  opened : Bool
def endOf (m : Int) : It := ⟨10, m, B []⟩
def whole (d : List It) : Bool := match d.getLast? with
  | some x => Dc.ends x
  | none => true
def shut (s : S) : S := { s with d := if s.opened || !whole s.d then s.d ++ [endOf s.kind] else s.d, opened := false, kind := 0 }
def chr (c : UInt8) : UInt8 := if c == 9 || c == 10 || c == 13 || c == 12 then 32 else if c < 32 || 126 < c then 63 else c
def item (s : S) (c : UInt8) : It := ⟨chr c, (if 0 < s.bold then 1 else 0) + (if 0 < s.slant then 2 else 0), B s.link⟩
def one (k : Int) : Int := if k == 2 then 1 else if k == 3 then -1 else 0
def up (x : Int) : Int := if x < 0 then 0 else x
def other (s : S) (t : Tk) : S :=
  if boldL.contains t.name then { s with bold := up (s.bold + one t.kind) }
  else if slantL.contains t.name then { s with slant := up (s.slant + one t.kind) }
  else if t.name == [97] then { s with link := if t.kind == 2 then Lk.clean t.href else [] }
  else if t.kind == 3 then s
  else if t.name == brL then { shut { s with opened := true } with kind := s.kind }
  else if hiddenL.contains t.name then { s with hides := t.name } else s
def step (s : S) (t : Tk) : S :=
  if !s.hides.isEmpty then (if t.kind == 3 && t.name == s.hides then { s with hides := [] } else s)
  else if t.kind == 1 then { s with d := s.d ++ t.text.map (item s) }
  else if t.kind == 4 then s
  else match blockOf t.name with
    | some k => if t.kind == 2 then { shut s with opened := true, kind := k } else shut s
    | none => other s t
def run : S → List Tk → Option S
  | s, [] => some s
  | s, t :: r => if 80 < (step s t).d.length then none else run (step s t) r
def s0 : S := ⟨[], 0, 0, 0, [], [], false⟩
def all (s : S) : List It := if (shut s).d.isEmpty then [endOf 0] else (shut s).d
def fin (s : S) : Option (List It) := if 80 < (all s).length then none else some (all s)
def read (ts : List Tk) : Option (List It) := (run s0 ts).bind fin

/- Behind each token there are no fewer items. -/
theorem shut_len (s : S) : s.d.length ≤ (shut s).d.length := by
  unfold shut
  show s.d.length ≤ (if s.opened || !whole s.d then s.d ++ [endOf s.kind] else s.d).length
  split <;> simp
theorem run_some : ∀ (ts : List Tk) (s s' : S), run s ts = some s' → s' = ts.foldl step s
  | [], s, s', h => by cases h; rfl
  | t :: r, s, s', h => by
    rw [run] at h
    split at h
    · cases h
    · exact run_some r _ _ h

/- What a page that is written is read as. -/
structure In (s : S) : Prop where
  bold : s.bold = 0
  slant : s.slant = 0
  link : s.link = []
  hides : s.hides = []
def plus (s : S) (d : List It) : S := { s with d := s.d ++ d }
def vis (c : UInt8) : Prop := 32 ≤ c ∧ c ≤ 126
theorem step_seen (s : S) (t : Tk) (h : s.hides = []) : step s t = if t.kind == 1 then { s with d := s.d ++ t.text.map (item s) } else if t.kind == 4 then s else match blockOf t.name with
    | some k => if t.kind == 2 then { shut s with opened := true, kind := k } else shut s
    | none => other s t := by
  unfold step
  rw [if_neg (by rw [h]; decide)]
def Nice (x : It) : Prop := Tk.Good x ∧ (Dc.ends x = true → x.l = B []) ∧ (Dc.ends x = false → vis x.c)
end Sn
namespace Sn
/- What is made is a document. -/
theorem chr_is (c : UInt8) : vis (chr c) := by
  unfold chr vis
  split
  · decide
  split
  · decide
  · rename_i h1 h2
    simp only [Bool.or_eq_true, decide_eq_true_eq, not_or] at h2
    exact ⟨UInt8.not_lt.1 h2.1, UInt8.not_lt.1 h2.2⟩
theorem vis_ends {x : It} (h : vis x.c) : Dc.ends x = false := by
  cases he : Dc.ends x
  · rfl
  · have := Pg.ends_c he
    rw [this] at h
    exact absurd h.1 (by decide)
theorem empty_B : (B []).toList.isEmpty = true := by rw [Lib.toList_data, B_data]; rfl
structure Made (s : S) : Prop where
  nice : ∀ x ∈ s.d, Nice x
  link : s.link = [] ∨ Lk.may s.link = true
  lo : 0 ≤ s.kind
  hi : s.kind ≤ 3
theorem nice_end (m : Int) (h0 : 0 ≤ m) (h3 : m ≤ 3) : Nice (endOf m) :=
  ⟨⟨h0, h3, .inl empty_B⟩, fun _ => rfl, fun h => by simp [endOf, Dc.ends] at h⟩
theorem nice_item {s : S} (h : Made s) (c : UInt8) : Nice (item s c) := by
  have hv : vis (item s c).c := chr_is c
  refine ⟨⟨?_, ?_, ?_⟩, fun he => ?_, fun _ => hv⟩
  · show (0 : Int) ≤ (if 0 < s.bold then 1 else 0) + (if 0 < s.slant then 2 else 0)
    split <;> split <;> decide
  · show (if 0 < s.bold then (1 : Int) else 0) + (if 0 < s.slant then 2 else 0) ≤ 3
    split <;> split <;> decide
  · rcases h.link with e | e
    · left
      show (B s.link).toList.isEmpty = true
      rw [e]
      exact empty_B
    · right
      exact e
  · rw [vis_ends hv] at he
    cases he
theorem Made.shut {s : S} (h : Made s) : Made (shut s) := by
  refine ⟨fun x hx => ?_, h.link, Int.le_refl 0, (by decide : (0 : Int) ≤ 3)⟩
  change x ∈ (if s.opened || !whole s.d then s.d ++ [endOf s.kind] else s.d) at hx
  split at hx
  · rcases List.mem_append.1 hx with hx | hx
    · exact h.nice x hx
    · simp at hx; rw [hx]; exact nice_end _ h.lo h.hi
  · exact h.nice x hx
theorem clean_link (l : List UInt8) : Lk.clean l = [] ∨ Lk.may (Lk.clean l) = true := by
  by_cases h : Lk.clean l = []
  · exact .inl h
  · exact .inr (Lk.clean_some h).2
theorem Made.other {s : S} (h : Made s) (t : Tk) : Made (other s t) := by
  unfold Sn.other
  split
  · exact ⟨h.nice, h.link, h.lo, h.hi⟩
  split
  · exact ⟨h.nice, h.link, h.lo, h.hi⟩
  split
  · refine ⟨h.nice, ?_, h.lo, h.hi⟩
    show (if t.kind == 2 then Lk.clean t.href else []) = [] ∨ _
    split
    · exact clean_link _
    · exact .inl rfl
  split
  · exact h
  split
  · have h1 : Made { s with opened := true } := ⟨h.nice, h.link, h.lo, h.hi⟩
    have h2 := h1.shut
    exact ⟨h2.nice, h2.link, h.lo, h.hi⟩
  split
  · exact ⟨h.nice, h.link, h.lo, h.hi⟩
  · exact h
theorem block_kind {n : List UInt8} {k : Int} (h : blockOf n = some k) : 0 ≤ k ∧ k ≤ 3 := by
  unfold blockOf at h
  split at h
  · cases h; decide
  split at h
  · cases h; decide
  split at h
  · cases h; decide
  split at h
  · cases h; decide
  split at h
  · cases h; decide
  · cases h
theorem Made.step {s : S} (h : Made s) (t : Tk) : Made (step s t) := by
  unfold Sn.step
  split
  · split
    · exact ⟨h.nice, h.link, h.lo, h.hi⟩
    · exact h
  split
  · refine ⟨fun x hx => ?_, h.link, h.lo, h.hi⟩
    rcases List.mem_append.1 hx with hx | hx
    · exact h.nice x hx
    · obtain ⟨c, _, rfl⟩ := List.mem_map.1 hx
      exact nice_item h c
  split
  · exact h
  split
  · rename_i k hk
    obtain ⟨k0, k3⟩ := block_kind hk
    split
    · exact ⟨h.shut.nice, h.shut.link, k0, k3⟩
    · exact h.shut
  · exact h.other t
theorem made_fold : ∀ (ts : List Tk) (s : S), Made s → Made (ts.foldl step s)
  | [], _, h => h
  | t :: r, _, h => made_fold r _ (h.step t)
theorem made0 : Made s0 := ⟨fun x hx => by simp [s0] at hx, .inl rfl, by decide, by decide⟩
theorem read_doc {ts : List Tk} {d : List It} (h : read ts = some d) : (∀ x ∈ d, Nice x) ∧ d.length ≤ 80 ∧ ∃ k x, d = k ++ [x] ∧ Dc.ends x = true := by
  unfold read at h
  cases hr : run s0 ts with
  | none => rw [hr] at h; cases h
  | some s =>
    rw [hr] at h
    change fin s = some d at h
    have hm : Made s := by rw [run_some ts s0 s hr]; exact made_fold ts s0 made0
    unfold fin at h
    split at h
    · cases h
    · rename_i h80
      have hd : all s = d := by cases h; rfl
      rw [hd] at h80
      unfold all at hd
      split at hd
      · subst hd
        exact ⟨fun x hx => by simp at hx; rw [hx]; exact nice_end 0 (by decide) (by decide), by omega, [], endOf 0, rfl, rfl⟩
      · rename_i he
        refine ⟨fun x hx => hm.shut.nice x (by rw [hd]; exact hx), by omega, ?_⟩
        change (if s.opened || !whole s.d then s.d ++ [endOf s.kind] else s.d) = d at hd
        split at hd
        · exact ⟨s.d, endOf s.kind, hd.symm, rfl⟩
        · rename_i hw
          have hw' : whole d = true := by rw [← hd]; simp at hw; exact hw.2
          have hne : d ≠ [] := by
            intro e
            apply he
            change (if s.opened || !whole s.d then s.d ++ [endOf s.kind] else s.d).isEmpty = true
            rw [if_neg hw, hd, e]
            rfl
          refine ⟨d.dropLast, d.getLast hne, (List.dropLast_concat_getLast hne).symm, ?_⟩
          unfold whole at hw'
          rw [List.getLast?_eq_some_getLast hne] at hw'
          exact hw'

/- What is hidden. -/
theorem run_append : ∀ (a b : List Tk) (s : S), run s (a ++ b) = (run s a).bind fun s' => run s' b
  | [], _, _ => rfl
  | t :: a, b, s => by
    rw [List.cons_append, run, run]
    split
    · rfl
    · exact run_append a b _
theorem run_few : ∀ (ts : List Tk) (s s' : S), s.d.length ≤ 80 → run s ts = some s' → s'.d.length ≤ 80
  | [], _, _, hs, h => by cases h; exact hs
  | t :: r, s, s', hs, h => by
    rw [run] at h
    split at h
    · cases h
    · exact run_few r _ _ (by omega) h
def Idle (X : List Tk) : Prop := ∀ s : S, s.hides = [] → s.d.length ≤ 80 → run s X = some s
def textOf (u : List UInt8) : List Tk := if u.isEmpty then [] else [Tk.txt (Esc.rd u)]
theorem toks_plain (u s : List UInt8) (hu : ∀ y ∈ u, y ≠ 60) : Tk.toks (u ++ 60 :: s) = textOf u ++ Tk.toks (60 :: s) := by
  cases u with
  | nil => rfl
  | cons c t =>
    have hc : (c == 60) = false := by simpa using hu c (by simp)
    obtain ⟨h1, h2⟩ := Tk.tw' 60 s t (fun y hy => hu y (by simp [hy]))
    rw [List.cons_append, Tk.toks_cons]
    unfold Tk.first
    rw [hc]
    simp only [Bool.false_eq_true, if_false, h1, h2]
    rfl
theorem run_idle (a X b : List Tk) (hX : Idle X) (ha : ∀ s', run s0 a = some s' → s'.hides = []) : read (a ++ (X ++ b)) = read (a ++ b) := by
  unfold read
  rw [run_append, run_append]
  cases hr : run s0 a with
  | none => rfl
  | some s' =>
    show ((run s' (X ++ b)).bind fin) = ((run s' b).bind fin)
    rw [run_append, hX s' (ha s' hr) (run_few a s0 s' (by decide) hr)]
    rfl
def uT : Tk := ⟨2, [117], [], []⟩
theorem step_u (s : S) (h : s.hides = []) : step s uT = s := by rw [step_seen s uT h]; rfl
theorem seen_u (a : List UInt8) (s' : S) (h : run s0 (textOf a ++ [uT]) = some s') : s'.hides = [] := by
  rw [run_some _ _ _ h, List.foldl_append]
  have h1 : ((textOf a).foldl step s0).hides = [] := by
    unfold textOf
    cases a.isEmpty
    · rfl
    · rfl
  show (step _ uT).hides = []
  rw [step_u _ h1]
  exact h1
/- The four that the law asks about. -/
def uL : List UInt8 := [60, 117, 62]
theorem toks_u (r : List UInt8) : Tk.toks (uL ++ r) = uT :: Tk.toks r := by
  show Tk.toks (60 :: 117 :: 62 :: r) = _
  rw [Tk.toks_cons]; rfl
theorem toks_au (a r : List UInt8) (ha : ∀ y ∈ a, y ≠ 60) : Tk.toks (a ++ (uL ++ r)) = (textOf a ++ [uT]) ++ Tk.toks r := by
  have : a ++ (uL ++ r) = a ++ 60 :: ([117, 62] ++ r) := rfl
  rw [this, toks_plain a _ ha]
  show textOf a ++ Tk.toks (uL ++ r) = _
  rw [toks_u]
  simp
theorem hides_any (a b X : List UInt8) (ts : List Tk) (ha : ∀ y ∈ a, y ≠ 60) (hX : Tk.toks (X ++ b) = ts ++ Tk.toks b) (hi : Idle ts) : read (Tk.toks (a ++ (uL ++ (X ++ b)))) = read (Tk.toks (a ++ (uL ++ b))) := by
  rw [toks_au a _ ha, toks_au a _ ha, hX]
  exact run_idle (textOf a ++ [uT]) ts (Tk.toks b) hi (fun s' h => seen_u a s' h)
/- The page of a text. -/
end Sn
end Go.Proofs.YtbhcklkbckacpaaGreatDoor

/-
  What holds of each token that a page is taken apart into: its kind is one of four, what it bears is no longer than the page.
-/
namespace Go.Proofs.YtbhcklkbckacpaaGreatDoor
open Go.RowKit
namespace Tk
structure Fits (n : Nat) (t : Tk) : Prop where
  kind : t.kind = 1 ∨ t.kind = 2 ∨ t.kind = 3 ∨ t.kind = 4
  text : t.text.length ≤ n
  href : t.href.length ≤ n
theorem Fits.mono {n m : Nat} {t : Tk} (h : Fits n t) (hm : n ≤ m) : Fits m t := ⟨h.kind, Nat.le_trans h.text hm, Nat.le_trans h.href hm⟩
theorem tw_le (p : UInt8 → Bool) (l : List UInt8) : (l.takeWhile p).length ≤ l.length := (List.takeWhile_sublist p).length_le
theorem val_fst (l : List UInt8) : (val l).1.length ≤ l.length := by
  cases l with
  | nil => exact Nat.le_refl _
  | cons q r =>
    rw [val]
    split
    · have := tw_le (not q) r
      simp only [List.length_cons]
      omega
    · exact tw_le avl (q :: r)
theorem value_fst (l : List UInt8) : (value l).1.length ≤ l.length := by
  unfold value
  have h0 := dw_len sp l
  cases h : l.dropWhile sp with
  | nil => exact Nat.zero_le _
  | cons c r2 =>
    rw [h] at h0
    simp only
    split
    · have h1 := val_fst (r2.dropWhile sp)
      have h2 := dw_len sp r2
      simp at h0
      omega
    · exact Nat.zero_le _
theorem attr_fst : ∀ (n : Nat) (l : List UInt8) (h : Option (List UInt8)) (x : Option (List UInt8) × List UInt8) (m : Nat), l.length ≤ n → attr l h = some x → l.length ≤ m → (h.getD []).length ≤ m → (x.1.getD []).length ≤ m
  | _, [], _, _, _, _, e, _, _ => by rw [attr_nil] at e; cases e
  | 0, _ :: _, _, _, _, hn, _, _, _ => by simp at hn
  | n + 1, c :: t, h, x, m, hn, e, hm, hh => by
    have h3 := value_len (t.dropWhile anm)
    have h4 := dw_len anm t
    have h5 := value_fst (t.dropWhile anm)
    simp only [List.length_cons] at hn hm
    rw [attr_cons] at e
    split at e
    · cases e; exact hh
    split at e
    · exact attr_fst n t h x m (by omega) e (by omega) hh
    · refine attr_fst n _ _ x m (by omega) e (by omega) ?_
      split
      · show (value (t.dropWhile anm)).1.length ≤ m
        omega
      · exact hh
theorem tag_fits (s : Bool) (u : List UInt8) (hr : ∀ l : List UInt8, (Esc.rd l).length ≤ l.length) : ∀ t ∈ (tag s u).1, Fits u.length t := by
  unfold tag
  have h0 := dw_len nam u
  cases h : attr (u.dropWhile nam) none with
  | none => intro t ht; cases ht
  | some x =>
    have h1 := attr_fst _ _ _ x u.length (Nat.le_refl _) h h0 (Nat.zero_le _)
    obtain ⟨a, r⟩ := x
    intro t ht
    simp only [List.mem_singleton] at ht
    subst ht
    refine ⟨?_, Nat.zero_le _, ?_⟩
    · cases s
      · exact .inr (.inl rfl)
      · exact .inr (.inr (.inl rfl))
    · cases s
      · exact Nat.le_trans (hr _) h1
      · exact Nat.zero_le _
theorem fits_lt {n : Nat} (h : 1 ≤ n) : Fits n (txt [60]) := ⟨.inl rfl, h, Nat.zero_le _⟩
theorem fits_oth (n : Nat) : Fits n oth := ⟨.inr (.inr (.inr rfl)), Nat.zero_le _, Nat.zero_le _⟩
theorem mem_one {x y : Tk} {r : List UInt8} (h : x ∈ (([y], r) : List Tk × List UInt8).1) : x = y := List.mem_singleton.1 h
theorem first_fits (c : UInt8) (t : List UInt8) (hr : ∀ l : List UInt8, (Esc.rd l).length ≤ l.length) : ∀ k ∈ (first c t).1, Fits (t.length + 1) k := by
  unfold first
  split
  · cases t with
    | nil => intro k hk; rw [angle_nil] at hk; rw [mem_one hk]; exact fits_lt (Nat.le_refl _)
    | cons d u =>
      rw [angle_cons]
      split
      · intro k hk; rw [mem_one hk]; exact fits_oth _
      split
      · intro k hk; rw [mem_one hk]; exact fits_oth _
      split
      · cases u with
        | nil => intro k hk; rw [mem_one hk]; exact fits_lt (by simp)
        | cons e v =>
          rw [shutAt]
          split
          · intro k hk; exact (tag_fits true (e :: v) hr k hk).mono (by simp)
          · intro k hk; rw [mem_one hk]; exact fits_lt (by simp)
      split
      · intro k hk; exact (tag_fits false (d :: u) hr k hk).mono (by simp)
      · intro k hk; rw [mem_one hk]; exact fits_lt (by simp)
  · intro k hk
    rw [mem_one hk]
    refine ⟨.inl rfl, ?_, Nat.zero_le _⟩
    have h1 := hr (c :: t.takeWhile (not 60))
    have h2 := tw_le (not 60) t
    simp only [List.length_cons] at h1
    show (Esc.rd (c :: t.takeWhile (not 60))).length ≤ _
    omega
theorem toks_fits (hr : ∀ l : List UInt8, (Esc.rd l).length ≤ l.length) : ∀ (n : Nat) (l : List UInt8), l.length ≤ n → ∀ t ∈ toks l, Fits n t
  | _, [], _, t, ht => by rw [toks_nil] at ht; cases ht
  | 0, _ :: _, h, _, _ => by simp at h
  | n + 1, c :: u, h, t, ht => by
    have hl := first_len c u
    simp only [List.length_cons] at h
    rw [toks_cons] at ht
    rcases List.mem_append.1 ht with h1 | h1
    · exact (first_fits c u hr t h1).mono (by omega)
    · exact (toks_fits hr n _ (by omega) t h1).mono (by omega)
theorem first_le1 (c : UInt8) (t : List UInt8) : (first c t).1.length ≤ 1 := by
  unfold first
  split
  · cases t with
    | nil => exact Nat.le_refl _
    | cons d u =>
      have ht : ∀ s v, (tag s v).1.length ≤ 1 := fun s v => by
        unfold tag
        split <;> simp
      rw [angle_cons]
      split
      · exact Nat.le_refl _
      split
      · exact Nat.le_refl _
      split
      · cases u with
        | nil => exact Nat.le_refl _
        | cons e v =>
          rw [shutAt]
          split
          · exact ht _ _
          · exact Nat.le_refl _
      split
      · exact ht _ _
      · exact Nat.le_refl _
  · exact Nat.le_refl _
theorem toks_count : ∀ (n : Nat) (l : List UInt8), l.length ≤ n → (toks l).length ≤ l.length
  | _, [], _ => Nat.le_refl _
  | 0, _ :: _, h => by simp at h
  | n + 1, c :: u, h => by
    have hl := first_len c u
    have h1 := first_le1 c u
    simp only [List.length_cons] at h ⊢
    rw [toks_cons, List.length_append]
    have := toks_count n (first c u).2 (by omega)
    omega
end Tk
end Go.Proofs.YtbhcklkbckacpaaGreatDoor
