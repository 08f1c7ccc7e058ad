/-
  Texts of this proof, one behind the other.
-/
import Derived.Test.YtpcaiechaakhnabGreatDoorM1
import Derived.Test.YtpcaiechaakhnabGreatDoorM4
import Derived.Test.YtpcaiechaakhnabGreatDoorM3

/-
  Chapter 4 on lists: pages as tags and characters, how they are written, read back, joined, how long they are; and the same run by run.
-/
namespace Go.Proofs.YtpcaiechaakhnabGreatDoor
open Go.RowKit
namespace Pg
/-- The names of tags: p, h1, li, h2, ul, b, i, a. -/
abbrev Nm := Bool × Bool × Bool
namespace Nm
abbrev p : Nm := (false, false, false)
abbrev h1 : Nm := (false, false, true)
abbrev li : Nm := (false, true, false)
abbrev h2 : Nm := (false, true, true)
abbrev ul : Nm := (true, false, false)
abbrev b : Nm := (true, false, true)
abbrev i : Nm := (true, true, false)
abbrev a : Nm := (true, true, true)
end Nm
/-- What a page is made of: tags that open, tags that shut, links that open, characters. -/
abbrev Tok := (Nm ⊕ Nm) ⊕ (List UInt8 ⊕ UInt8)
namespace Tok
abbrev op (n : Nm) : Tok := .inl (.inl n)
abbrev cl (n : Nm) : Tok := .inl (.inr n)
abbrev a (l : List UInt8) : Tok := .inr (.inl l)
abbrev ch (c : UInt8) : Tok := .inr (.inr c)
end Tok
def name : Nm → List UInt8
  | (false, false, false) => [112]
  | (false, false, true) => [104, 49]
  | (false, true, false) => [108, 105]
  | (false, true, true) => [104, 50]
  | (true, false, false) => [117, 108]
  | (true, false, true) => [98]
  | (true, true, false) => [105]
  | (true, true, true) => [97]
def apre : List UInt8 := [60, 97, 32, 104, 114, 101, 102, 61, 34]
def enc : Tok → List UInt8
  | .inl (.inl n) => 60 :: (name n ++ [62])
  | .inl (.inr n) => 60 :: 47 :: (name n ++ [62])
  | .inr (.inl l) => apre ++ (Esc.wr l ++ [34, 62])
  | .inr (.inr c) => Esc.enc1 c
/-- How tags and characters are written. -/
def bytes (t : List Tok) : List UInt8 := t.flatMap enc
theorem bytes_nil : bytes [] = [] := rfl
theorem bytes_cons (x : Tok) (t : List Tok) : bytes (x :: t) = enc x ++ bytes t := by simp [bytes]
theorem bytes_append (s t : List Tok) : bytes (s ++ t) = bytes s ++ bytes t := by simp [bytes]
theorem bytes_chars : ∀ l : List UInt8, bytes (l.map .ch) = Esc.wr l
  | [] => rfl
  | c :: l => by rw [List.map_cons, bytes_cons, bytes_chars l, Esc.wr_cons]; rfl

def fixed : List Tok := [.op .p, .op .h1, .op .li, .op .h2, .op .ul, .op .b, .op .i, .op .a, .cl .p, .cl .h1, .cl .li, .cl .h2, .cl .ul, .cl .b, .cl .i, .cl .a]
/-- The first thing of a page, and what stands behind it. -/
def lex (s : List UInt8) : Tok × List UInt8 :=
  match fixed.find? (fun t => (enc t).isPrefixOf s) with
  | some t => (t, s.drop (enc t).length)
  | none => if apre.isPrefixOf s then (.a (Esc.rd ((s.drop 9).takeWhile (fun c => c != 34))), ((s.drop 9).dropWhile (fun c => c != 34)).drop 2) else (.ch (Esc.fst1 s).1, s.drop (Esc.fst1 s).2)
theorem tw (p : UInt8 → Bool) (x : UInt8) (r : List UInt8) (hx : p x = false) : ∀ l : List UInt8, (∀ y ∈ l, p y = true) → (l ++ x :: r).takeWhile p = l ∧ (l ++ x :: r).dropWhile p = x :: r
  | [], _ => by simp [hx]
  | y :: l, h => by
    have hy := h y (by simp)
    obtain ⟨h1, h2⟩ := tw p x r hx l (fun z hz => h z (by simp [hz]))
    exact ⟨by rw [List.cons_append, List.takeWhile_cons, hy, h1]; rfl, by rw [List.cons_append, List.dropWhile_cons, hy, h2]; rfl⟩
theorem fixed_head : ∀ t ∈ fixed, ∃ r, enc t = 60 :: r := by
  intro t ht
  simp only [fixed, List.mem_cons, List.not_mem_nil, or_false] at ht
  rcases ht with rfl | rfl | rfl | rfl | rfl | rfl | rfl | rfl | rfl | rfl | rfl | rfl | rfl | rfl | rfl | rfl <;> exact ⟨_, rfl⟩
theorem enc1_head (c : UInt8) : ∃ d r, Esc.enc1 c = d :: r ∧ d ≠ 60 := by
  cases h : Esc.enc1 c with
  | nil => have := Esc.enc1_pos c; rw [h] at this; simp at this
  | cons d r => exact ⟨d, r, rfl, (Esc.enc1_plain c d (by rw [h]; simp)).1⟩
theorem lex_enc (t : Tok) (r : List UInt8) : lex (enc t ++ r) = (t, r) := by
  rcases t with (n | n) | (l | c)
  · obtain ⟨x, y, z⟩ := n
    cases x <;> cases y <;> cases z <;> rfl
  · obtain ⟨x, y, z⟩ := n
    cases x <;> cases y <;> cases z <;> rfl
  · show lex (enc (.a l) ++ r) = (.a l, r)
    have hf : fixed.find? (fun t => (enc t).isPrefixOf (enc (.a l) ++ r)) = none := by rfl
    have hp : apre.isPrefixOf (enc (.a l) ++ r) = true := by rfl
    have hd : (enc (.a l) ++ r).drop 9 = Esc.wr l ++ 34 :: 62 :: r := by
      show (Esc.wr l ++ [34, 62]) ++ r = _
      simp
    obtain ⟨h1, h2⟩ := tw (fun c => c != 34) 34 (62 :: r) rfl (Esc.wr l) (fun y hy => by simpa using (Esc.wr_plain l y hy).2.2)
    unfold lex
    rw [hf]
    simp only [hp, if_true, hd, h1, h2, Esc.rd_wr]
    rfl
  · show lex (enc (.ch c) ++ r) = (.ch c, r)
    obtain ⟨d, u, hd, h60⟩ := enc1_head c
    have hne : ∀ (z : List UInt8), (60 :: z).isPrefixOf (enc (.ch c) ++ r) = false := by
      intro z
      show (60 :: z).isPrefixOf (Esc.enc1 c ++ r) = false
      rw [hd]
      have : ((60 : UInt8) == d) = false := by simpa using fun e => h60 e.symm
      simp [List.isPrefixOf, this]
    have hf : fixed.find? (fun t => (enc t).isPrefixOf (enc (.ch c) ++ r)) = none := by
      rw [List.find?_eq_none]
      intro t ht
      obtain ⟨z, hz⟩ := fixed_head t ht
      rw [hz, hne]
      simp
    have hp : apre.isPrefixOf (enc (.ch c) ++ r) = false := hne _
    unfold lex
    rw [hf]
    simp only [hp]
    have e : enc (.ch c) = Esc.enc1 c := rfl
    rw [e, Esc.fst1_enc]
    simp
theorem enc_ne (t : Tok) : enc t ≠ [] := by
  rcases t with (n | n) | (l | c)
  · simp [enc]
  · simp [enc]
  · simp [enc, apre]
  · obtain ⟨d, r, h, _⟩ := enc1_head c
    show Esc.enc1 c ≠ []
    rw [h]
    simp
theorem bytes_inj : ∀ s t : List Tok, bytes s = bytes t → s = t
  | [], [], _ => rfl
  | [], y :: t, h => by rw [bytes_nil, bytes_cons] at h; exact absurd (List.append_eq_nil_iff.1 h.symm).1 (enc_ne y)
  | x :: s, [], h => by rw [bytes_nil, bytes_cons] at h; exact absurd (List.append_eq_nil_iff.1 h).1 (enc_ne x)
  | x :: s, y :: t, h => by
    rw [bytes_cons, bytes_cons] at h
    have := congrArg lex h
    rw [lex_enc, lex_enc] at this
    simp only [Prod.mk.injEq] at this
    rw [this.1, bytes_inj s t this.2]

/-- A page at work. -/
structure St where
  page : List Tok
  ins : List Tok
  text : List UInt8
  last : It
  list : Bool
def kind (m : Int) : Nm := if m = 0 then .p else if m = 1 then .h1 else if m = 2 then .li else .h2
def wrap (b : Bool) (n : Nm) (s : List Tok) : List Tok := if b then .op n :: (s ++ [.cl n]) else s
def tags (m : Int) (s : List Tok) : List Tok := wrap (m % 2 == 1) .b (wrap (decide (2 ≤ m)) .i s)
def linked (l : ByteArray) (s : List Tok) : List Tok := if l.toList.isEmpty then s else .a l.data.toList :: (s ++ [.cl .a])
/-- A run. -/
def seg (x : It) (t : List UInt8) : List Tok := linked x.l (tags x.m (t.map .ch))
def none : It := ⟨0, 0, ⟨#[]⟩⟩
/-- What a run at work comes to. -/
def tail (x : It) (t : List UInt8) : List Tok := if t.isEmpty then [] else seg x t
def flush (s : St) : St := { s with ins := s.ins ++ tail s.last s.text, text := [], last := none }
def lists (o n : Bool) : List Tok := if n && !o then [.op .ul] else if !n && o then [.cl .ul] else []
def endB (s : St) (m : Int) : St := { s with page := s.page ++ lists s.list (m == 2) ++ .op (kind m) :: (s.ins ++ [.cl (kind m)]), ins := [], list := m == 2 }
def diff (a x : It) : Bool := (x.m != a.m) || !(x.l.toList == a.l.toList)
def step (s : St) (x : It) : St :=
  if Dc.ends x then endB (flush s) x.m
  else if !s.text.isEmpty && diff s.last x then { flush s with text := [x.c], last := x }
  else { s with text := s.text ++ [x.c], last := x }
def st0 : St := ⟨[], [], [], none, false⟩
def run (l : List It) : St := l.foldl step st0
def fin (s : St) : List Tok := s.page ++ lists s.list false
def toks (l : List It) : List Tok := fin (run l)
/-- The page of a document. -/
def page (l : List It) : List UInt8 := bytes (toks l)
theorem run_snoc (l : List It) (x : It) : run (l ++ [x]) = step (run l) x := by simp [run]
theorem flush_text (s : St) : (flush s).text = [] := by
  rfl
theorem flush_flush (s : St) : flush (flush s) = flush s := by
  show ({ s with ins := (s.ins ++ tail s.last s.text) ++ tail none [], text := [], last := none } : St) = _
  rw [show tail none [] = [] from rfl, List.append_nil]
  rfl

/- Reading a page's tags and characters back. -/
structure De where
  m : Int
  l : List UInt8
  out : List It
def mk (m : Int) (l : ByteArray) (c : UInt8) : It := ⟨c, m, l⟩
def dstep (d : De) : Tok → De
  | .inl (.inl (true, false, true)) => { d with m := d.m + 1 }
  | .inl (.inr (true, false, true)) => { d with m := d.m - 1 }
  | .inl (.inl (true, true, false)) => { d with m := d.m + 2 }
  | .inl (.inr (true, true, false)) => { d with m := d.m - 2 }
  | .inr (.inl l) => { d with l := l }
  | .inl (.inr (true, true, true)) => { d with l := [] }
  | .inr (.inr c) => { d with out := d.out ++ [mk d.m (B d.l) c] }
  | .inl (.inr (false, false, false)) => { d with out := d.out ++ [⟨10, 0, B []⟩] }
  | .inl (.inr (false, false, true)) => { d with out := d.out ++ [⟨10, 1, B []⟩] }
  | .inl (.inr (false, true, false)) => { d with out := d.out ++ [⟨10, 2, B []⟩] }
  | .inl (.inr (false, true, true)) => { d with out := d.out ++ [⟨10, 3, B []⟩] }
  | _ => d
def dec (o : De) (t : List Tok) : De := t.foldl dstep o
theorem dec_append (o : De) (s t : List Tok) : dec o (s ++ t) = dec (dec o s) t := by simp [dec]
theorem dec_cons (o : De) (x : Tok) (t : List Tok) : dec o (x :: t) = dec (dstep o x) t := rfl
theorem dec_nil (o : De) : dec o [] = o := rfl
theorem dec_chars (m : Int) (l : List UInt8) : ∀ (t : List UInt8) (o : List It), dec ⟨m, l, o⟩ (t.map .ch) = ⟨m, l, o ++ t.map (mk m (B l))⟩
  | [], o => by simp [dec]
  | c :: t, o => by
    rw [List.map_cons, dec_cons]
    show dec ⟨m, l, o ++ [mk m (B l) c]⟩ _ = _
    rw [dec_chars m l t, List.map_cons, List.append_assoc]
    rfl
theorem dec_tags (m : Int) (h0 : 0 ≤ m) (h3 : m ≤ 3) (l t : List UInt8) (o : List It) : dec ⟨0, l, o⟩ (tags m (t.map .ch)) = ⟨0, l, o ++ t.map (mk m (B l))⟩ := by
  have hm : m = 0 ∨ m = 1 ∨ m = 2 ∨ m = 3 := by omega
  rcases hm with rfl | rfl | rfl | rfl
  · show dec ⟨0, l, o⟩ (t.map .ch) = _
    exact dec_chars 0 l t o
  · show dec ⟨0, l, o⟩ (.op .b :: (t.map .ch ++ [.cl .b])) = _
    rw [dec_cons, dec_append]
    show dec (dec ⟨1, l, o⟩ _) _ = _
    rw [dec_chars]
    rfl
  · show dec ⟨0, l, o⟩ (.op .i :: (t.map .ch ++ [.cl .i])) = _
    rw [dec_cons, dec_append]
    show dec (dec ⟨2, l, o⟩ _) _ = _
    rw [dec_chars]
    rfl
  · show dec ⟨0, l, o⟩ (.op .b :: ((.op .i :: (t.map .ch ++ [.cl .i])) ++ [.cl .b])) = _
    rw [dec_cons, dec_append]
    show dec (dec ⟨3, l, o⟩ (t.map .ch ++ [.cl .i])) [.cl .b] = _
    rw [dec_append, dec_chars]
    rfl
theorem dec_seg (x : It) (h0 : 0 ≤ x.m) (h3 : x.m ≤ 3) (t : List UInt8) (o : List It) : dec ⟨0, [], o⟩ (seg x t) = ⟨0, [], o ++ t.map (mk x.m x.l)⟩ := by
  unfold seg linked
  cases h : x.l.toList.isEmpty
  · show dec ⟨0, [], o⟩ (.a x.l.data.toList :: (tags x.m (t.map .ch) ++ [.cl .a])) = _
    rw [dec_cons, dec_append]
    show dec (dec ⟨0, x.l.data.toList, o⟩ _) _ = _
    rw [dec_tags x.m h0 h3, B_of]
    rfl
  · rw [if_pos rfl, dec_tags x.m h0 h3]
    have : x.l = B [] := by
      rw [Lib.toList_data] at h
      apply ext_list
      rw [B_data]
      simpa using h
    rw [← this]
/-- What holds of a page at work: read back it is what came. -/
structure Inv (s : St) (l : List It) : Prop where
  back : ∃ o, dec ⟨0, [], []⟩ (s.page ++ s.ins) = ⟨0, [], o⟩ ∧ l = o ++ s.text.map (mk s.last.m s.last.l)
  ok : s.text ≠ [] → 0 ≤ s.last.m ∧ s.last.m ≤ 3
theorem Inv.flush {s : St} {l : List It} (h : Inv s l) : Inv (flush s) l := by
  obtain ⟨⟨o, h1, h2⟩, h3⟩ := h
  refine ⟨⟨l, ?_, by simp [Pg.flush]⟩, fun h => absurd rfl h⟩
  show dec _ (s.page ++ (s.ins ++ tail s.last s.text)) = _
  rw [← List.append_assoc, dec_append, h1]
  unfold tail
  split
  · rename_i ht
    have ht' : s.text = [] := by simpa using ht
    rw [ht'] at h2
    rw [h2, dec_nil]
    simp
  · rename_i ht
    have ht' : s.text ≠ [] := by simpa using ht
    obtain ⟨g0, g3⟩ := h3 ht'
    rw [dec_seg _ g0 g3, h2]
theorem dec_lists (d : De) (a b : Bool) : dec d (lists a b) = d := by cases a <;> cases b <;> rfl
theorem dec_kind (d : De) (m : Int) (h0 : 0 ≤ m) (h3 : m ≤ 3) : dstep d (.op (kind m)) = d ∧ dstep d (.cl (kind m)) = { d with out := d.out ++ [⟨10, m, B []⟩] } := by
  have hm : m = 0 ∨ m = 1 ∨ m = 2 ∨ m = 3 := by omega
  rcases hm with rfl | rfl | rfl | rfl <;> exact ⟨rfl, rfl⟩

/-- An item that may be in a document. -/
def Ok (x : It) : Prop := 0 ≤ x.m ∧ x.m ≤ 3 ∧ (Dc.ends x = true → x.l = B [])
theorem ends_c {x : It} (h : Dc.ends x = true) : x.c = 10 := by
  unfold Dc.ends at h
  have : (x.c.toNat : Int) = 10 := by simpa using h
  exact UInt8.toNat_inj.1 (by show x.c.toNat = 10; omega)
theorem not_diff {a x : It} (h : diff a x = false) : x.m = a.m ∧ x.l = a.l := by
  unfold diff at h
  rw [Bool.or_eq_false_iff, Bool.not_eq_false', Lib.toList_data, Lib.toList_data] at h
  exact ⟨by simpa using h.1, ext_list (by simpa using h.2)⟩
theorem Inv.step {s : St} {l : List It} {x : It} (h : Inv s l) (hx : Ok x) : Inv (step s x) (l ++ [x]) := by
  obtain ⟨x0, x3, xl⟩ := hx
  unfold Pg.step
  cases he : Dc.ends x
  · simp only [Bool.false_eq_true, if_false]
    cases hd : (!s.text.isEmpty && diff s.last x)
    · simp only [Bool.false_eq_true, if_false]
      obtain ⟨⟨o, h1, h2⟩, h3⟩ := h
      refine ⟨⟨o, h1, ?_⟩, fun _ => ⟨x0, x3⟩⟩
      show l ++ [x] = o ++ (s.text ++ [x.c]).map (Pg.mk x.m x.l)
      rw [List.map_append, ← List.append_assoc, h2]
      congr 2
      by_cases ht : s.text = []
      · rw [ht]; rfl
      · have : diff s.last x = false := by simpa [ht] using hd
        obtain ⟨e1, e2⟩ := not_diff this
        rw [e1, e2]
    · simp only [if_true]
      obtain ⟨⟨o, h1, h2⟩, h3⟩ := h.flush
      refine ⟨⟨o, h1, ?_⟩, fun _ => ⟨x0, x3⟩⟩
      rw [flush_text] at h2
      rw [h2]
      simp
      rfl
  · simp only [if_true]
    obtain ⟨⟨o, h1, h2⟩, h3⟩ := h.flush
    refine ⟨⟨l ++ [x], ?_, ?_⟩, fun ht => absurd (flush_text s) ht⟩
    · show dec _ ((((Pg.flush s).page ++ lists (Pg.flush s).list (x.m == 2)) ++ Tok.op (kind x.m) :: ((Pg.flush s).ins ++ [Tok.cl (kind x.m)])) ++ []) = _
      rw [List.append_nil, dec_append, dec_append, dec_lists, dec_cons, (dec_kind _ x.m x0 x3).1, ← dec_append, ← List.append_assoc, dec_append, h1, dec_cons, (dec_kind _ x.m x0 x3).2, dec_nil]
      rw [flush_text] at h2
      have : x = ⟨10, x.m, B []⟩ := by rw [← xl he, ← ends_c he]
      rw [h2, ← this]
      simp
    · show l ++ [x] = (l ++ [x]) ++ (Pg.flush s).text.map _
      rw [flush_text]
      simp
theorem inv_fold : ∀ (l k : List It) (s : St), Inv s k → (∀ x ∈ l, Ok x) → Inv (l.foldl step s) (k ++ l)
  | [], k, s, h, _ => by simpa using h
  | x :: l, k, s, h, hl => by
    rw [List.foldl_cons, show k ++ x :: l = (k ++ [x]) ++ l by simp]
    exact inv_fold l (k ++ [x]) _ (h.step (hl x (by simp))) (fun y hy => hl y (by simp [hy]))
theorem inv_run (l : List It) (hl : ∀ x ∈ l, Ok x) : Inv (run l) l := by
  have := inv_fold l [] st0 ⟨⟨[], rfl, rfl⟩, fun h => absurd rfl h⟩ hl
  rw [List.nil_append] at this
  exact this
theorem run_ends (l : List It) (x : It) (he : Dc.ends x = true) : run (l ++ [x]) = endB (flush (run l)) x.m := by
  rw [run_snoc]
  unfold step
  rw [if_pos he]
theorem dec_toks (l : List It) (x : It) (he : Dc.ends x = true) (hl : ∀ y ∈ l ++ [x], Ok y) : dec ⟨0, [], []⟩ (toks (l ++ [x])) = ⟨0, [], l ++ [x]⟩ := by
  obtain ⟨⟨o, h1, h2⟩, _⟩ := inv_run _ hl
  rw [run_ends l x he] at h1 h2
  unfold toks fin
  rw [run_ends l x he]
  have hi : (endB (flush (run l)) x.m).ins = [] := rfl
  have ht : (endB (flush (run l)) x.m).text = [] := rfl
  rw [hi, List.append_nil] at h1
  rw [ht, List.map_nil, List.append_nil] at h2
  rw [dec_append, h1, dec_lists, h2]
/-- Unlike documents are written as unlike pages. -/
theorem page_inj (l l' : List It) (x x' : It) (he : Dc.ends x = true) (he' : Dc.ends x' = true) (hl : ∀ y ∈ l ++ [x], Ok y) (hl' : ∀ y ∈ l' ++ [x'], Ok y) (h : page (l ++ [x]) = page (l' ++ [x'])) : l ++ [x] = l' ++ [x'] := by
  have h1 := dec_toks l x he hl
  have h2 := dec_toks l' x' he' hl'
  rw [bytes_inj _ _ h] at h1
  rw [h1] at h2
  simpa using h2

/- Two documents, one behind the other. -/
def pre (P : List Tok) (s : St) : St := { s with page := P ++ s.page }
theorem step_pre (P : List Tok) (s : St) (x : It) : step (pre P s) x = pre P (step s x) := by
  unfold step
  cases Dc.ends x
  · have e1 : (pre P s).text = s.text := rfl
    have e2 : (pre P s).last = s.last := rfl
    rw [e1, e2]
    cases (!s.text.isEmpty && diff s.last x)
    · rfl
    · rfl
  · simp only [if_true]
    unfold endB flush pre
    simp
theorem fold_pre (P : List Tok) : ∀ (b : List It) (s : St), b.foldl step (pre P s) = pre P (b.foldl step s)
  | [], _ => rfl
  | x :: b, s => by rw [List.foldl_cons, List.foldl_cons, step_pre, fold_pre P b]
theorem fold_list : ∀ (b : List It) (ins : List Tok) (t : List UInt8) (y : It), (∃ x ∈ b, Dc.ends x = true) →
    ∃ (m : Int) (R : List Tok) (T : St), (∃ x ∈ b, x.m = m) ∧ ∀ la, b.foldl step ⟨[], ins, t, y, la⟩ = { T with page := lists la (m == 2) ++ .op (kind m) :: R }
  | [], _, _, _, h => by obtain ⟨x, hx, _⟩ := h; simp at hx
  | x :: b, ins, t, y, h => by
    cases he : Dc.ends x
    · obtain ⟨i2, t2, y2, hs⟩ : ∃ i2 t2 y2, ∀ la, step ⟨[], ins, t, y, la⟩ x = ⟨[], i2, t2, y2, la⟩ := by
        unfold step
        simp only [he, Bool.false_eq_true, if_false]
        cases (!t.isEmpty && diff y x)
        · exact ⟨_, _, _, fun _ => rfl⟩
        · exact ⟨ins ++ tail y t, [x.c], x, fun _ => rfl⟩
      have hb : ∃ z ∈ b, Dc.ends z = true := by
        obtain ⟨z, hz, hze⟩ := h
        rcases List.mem_cons.1 hz with rfl | hz
        · rw [he] at hze; cases hze
        · exact ⟨z, hz, hze⟩
      obtain ⟨m, R, T, ⟨z, hz, hm⟩, hall⟩ := fold_list b i2 t2 y2 hb
      exact ⟨m, R, T, ⟨z, by simp [hz], hm⟩, fun la => by rw [List.foldl_cons, hs, hall]⟩
    · refine ⟨x.m, (ins ++ tail y t ++ [.cl (kind x.m)]) ++ (b.foldl step ⟨[], [], [], none, x.m == 2⟩).page, b.foldl step ⟨[], [], [], none, x.m == 2⟩, ⟨x, by simp, rfl⟩, fun la => ?_⟩
      have : step ⟨[], ins, t, y, la⟩ x = pre (lists la (x.m == 2) ++ .op (kind x.m) :: (ins ++ tail y t ++ [.cl (kind x.m)])) ⟨[], [], [], none, x.m == 2⟩ := by
        unfold step
        rw [if_pos he]
        simp [endB, flush, pre]
      rw [List.foldl_cons, this, fold_pre]
      simp [pre]
theorem run_split (a : List It) (x : It) (he : Dc.ends x = true) : ∃ A, run (a ++ [x]) = ⟨A ++ [.cl (kind x.m)], [], [], none, x.m == 2⟩ := by
  rw [run_ends a x he]
  exact ⟨(flush (run a)).page ++ lists (flush (run a)).list (x.m == 2) ++ .op (kind x.m) :: (flush (run a)).ins, by simp [endB, flush]⟩
/-- What the page of two documents is. -/
theorem toks_join (a b : List It) (x y : It) (hx : Dc.ends x = true) (hy : Dc.ends y = true) : ∃ A m R, (∃ z ∈ b ++ [y], z.m = m) ∧ toks (a ++ [x]) = A ++ [.cl (kind x.m)] ++ lists (x.m == 2) false ∧
    toks (b ++ [y]) = lists false (m == 2) ++ .op (kind m) :: R ∧ toks ((a ++ [x]) ++ (b ++ [y])) = A ++ [.cl (kind x.m)] ++ lists (x.m == 2) (m == 2) ++ .op (kind m) :: R := by
  obtain ⟨A, hA⟩ := run_split a x hx
  obtain ⟨m, R, T, hm, hall⟩ := fold_list (b ++ [y]) [] [] none ⟨y, by simp, hy⟩
  refine ⟨A, m, R ++ lists T.list false, hm, ?_, ?_, ?_⟩
  · unfold toks fin
    rw [hA]
  · unfold toks fin run
    rw [show st0 = ⟨[], [], [], none, false⟩ from rfl, hall]
    simp
  · have h1 : run ((a ++ [x]) ++ (b ++ [y])) = (b ++ [y]).foldl step (run (a ++ [x])) := by simp [run]
    unfold toks fin
    rw [h1, hA, show (⟨A ++ [.cl (kind x.m)], [], [], none, x.m == 2⟩ : St) = pre (A ++ [.cl (kind x.m)]) ⟨[], [], [], none, x.m == 2⟩ by simp [pre], fold_pre, hall]
    simp [pre]
end Pg
namespace Pg
def suf : List UInt8 := [60, 47, 117, 108, 62]
def pref : List UInt8 := [60, 117, 108, 62]
theorem isSuf (a b : List UInt8) : a.isSuffixOf (b ++ a) = true := by
  rw [List.isSuffixOf_iff_suffix]
  exact ⟨b, rfl⟩
theorem not_suf (b : List UInt8) (k : Nm) (h : k = .p ∨ k = .h1 ∨ k = .h2) : suf.isSuffixOf (b ++ enc (.cl k)) = false := by
  rw [← Bool.not_eq_true, List.isSuffixOf_iff_suffix]
  rintro ⟨t, ht⟩
  have := congrArg List.reverse ht
  rcases h with rfl | rfl | rfl <;> simp [suf, enc, name] at this
theorem kind_of {m : Int} (h0 : 0 ≤ m) (h3 : m ≤ 3) : (m == 2) = false → kind m = .p ∨ kind m = .h1 ∨ kind m = .h2 := by
  have hm : m = 0 ∨ m = 1 ∨ m = 2 ∨ m = 3 := by omega
  rcases hm with rfl | rfl | rfl | rfl <;> decide
theorem not_pref (b : List UInt8) (k : Nm) (h : k = .p ∨ k = .h1 ∨ k = .h2) : pref.isPrefixOf (enc (.op k) ++ b) = false := by
  rcases h with rfl | rfl | rfl <;> rfl
/-- The page of two documents is the two pages, but where a list goes on. -/
theorem page_join (a b : List It) (x y : It) (hx : Dc.ends x = true) (hy : Dc.ends y = true) (hxo : Ok x) (hb : ∀ z ∈ b ++ [y], Ok z) :
    page ((a ++ [x]) ++ (b ++ [y])) = if suf.isSuffixOf (page (a ++ [x])) && pref.isPrefixOf (page (b ++ [y])) then (page (a ++ [x])).take ((page (a ++ [x])).length - 5) ++ (page (b ++ [y])).drop 4 else page (a ++ [x]) ++ page (b ++ [y]) := by
  obtain ⟨A, m, R, ⟨z, hz, rfl⟩, e1, e2, e3⟩ := toks_join a b x y hx hy
  obtain ⟨z0, z3, _⟩ := hb z hz
  obtain ⟨x0, x3, _⟩ := hxo
  unfold page
  rw [e1, e2, e3]
  cases h1 : (x.m == 2)
  · have hk := kind_of x0 x3 h1
    have e : lists false false = [] := rfl
    rw [e, List.append_nil]
    have hs : suf.isSuffixOf (bytes (A ++ [.cl (kind x.m)])) = false := by
      rw [bytes_append, bytes_cons, bytes_nil, List.append_nil]
      exact not_suf _ _ hk
    rw [hs, Bool.false_and, if_neg (by decide), ← bytes_append]
    simp
  · cases h2 : (z.m == 2)
    · have hk := kind_of z0 z3 h2
      have hs : pref.isPrefixOf (bytes (lists false false ++ .op (kind z.m) :: R)) = false := by
        rw [show lists false false = [] from rfl, List.nil_append, bytes_cons]
        exact not_pref _ _ hk
      rw [hs, Bool.and_false, if_neg (by decide), ← bytes_append]
      rfl
    · have e4 : lists true false = [.cl .ul] := rfl
      have e5 : lists false true = [.op .ul] := rfl
      have e6 : lists true true = [] := rfl
      have b1 : bytes [.cl .ul] = suf := rfl
      have b2 : bytes [.op .ul] = pref := rfl
      rw [e4, e5, e6, List.append_nil]
      generalize A ++ [Tok.cl (kind x.m)] = A2
      rw [bytes_append A2 [.cl .ul], bytes_append [.op .ul], b1, b2, isSuf]
      have hp : ∀ r, pref.isPrefixOf (pref ++ r) = true := fun r => rfl
      rw [hp, Bool.and_self, if_pos rfl, List.length_append, show suf.length = 5 from rfl, Nat.add_sub_cancel, List.take_left', bytes_append]
      · rfl
      · rfl

/- Runs: the places where they begin, one behind the other. -/
def from_ (l : List It) (n q : Nat) : List Nat := (List.range' q (n - q)).filter (Dc.runB l)
theorem from_end (l : List It) (n : Nat) : from_ l n n = [] := by simp [from_]
theorem from_runs (l : List It) (n : Nat) : Dc.runsTo l n = from_ l n 0 := by
  unfold Dc.runsTo from_
  rw [List.range_eq_range', Nat.sub_zero]
theorem from_step (l : List It) (n q : Nat) (h : q < n) : from_ l n q = if Dc.runB l q then q :: from_ l n (q + 1) else from_ l n (q + 1) := by
  unfold from_
  obtain ⟨d, hd⟩ : ∃ d, n - q = d + 1 := ⟨n - q - 1, by omega⟩
  rw [hd, List.range'_succ, show n - (q + 1) = d by omega, List.filter_cons]
/-- Behind a place where a run begins: the next one. -/
theorem next (l : List It) (n : Nat) : ∀ d q, n - q = d → q ≤ n → ∃ q', q ≤ q' ∧ q' ≤ n ∧ (q' = n ∨ Dc.runB l q' = true) ∧ (∀ j, q ≤ j → j < q' → Dc.runB l j = false) ∧ from_ l n q = from_ l n q'
  | 0, q, hd, hq => ⟨q, Nat.le_refl _, hq, .inl (by omega), fun j h1 h2 => by omega, rfl⟩
  | d + 1, q, hd, hq => by
    cases h : Dc.runB l q
    · obtain ⟨q', h1, h2, h3, h4, h5⟩ := next l n d (q + 1) (by omega) (by omega)
      refine ⟨q', by omega, h2, h3, fun j j1 j2 => ?_, ?_⟩
      · by_cases hj : j = q
        · rw [hj]; exact h
        · exact h4 j (by omega) j2
      · rw [from_step l n q (by omega), h]
        exact h5
    · exact ⟨q, Nat.le_refl _, hq, .inr h, fun j h1 h2 => by omega, rfl⟩
theorem from_head (l : List It) (n q : Nat) (h : q < n) (hb : Dc.runB l q = true) : from_ l n q = q :: from_ l n (q + 1) := by
  rw [from_step l n q h, hb]; rfl

/- What a run comes to. -/
theorem turns_iff (a x : It) : Dc.turns a x = false ↔ Dc.ends a = false ∧ Dc.ends x = false ∧ diff a x = false := by
  unfold Dc.turns diff
  cases Dc.ends a <;> cases Dc.ends x <;> simp
/-- Items behind one that is no end, none of which turns: they are as it is. -/
theorem run_on (s : St) (x : It) (m : Int) (l : ByteArray) (hm : x.m = m) (hl : x.l = l) : ∀ (t : List It) (u : List UInt8) (y : It), u ≠ [] → y.m = m → y.l = l → (∀ z ∈ t, Dc.ends z = false ∧ z.m = m ∧ z.l = l) →
    ∃ y', y'.m = m ∧ y'.l = l ∧ t.foldl step { s with text := u, last := y } = { s with text := u ++ t.map It.c, last := y' }
  | [], u, y, _, h1, h2, _ => ⟨y, h1, h2, by simp⟩
  | z :: t, u, y, hu, h1, h2, h => by
    obtain ⟨g1, g2, g3⟩ := h z (by simp)
    have hs : step { s with text := u, last := y } z = { s with text := u ++ [z.c], last := z } := by
      have hd : diff y z = false := by unfold diff; rw [g2, g3, h1, h2]; simp
      unfold step
      simp [g1, hd]
    obtain ⟨y', k1, k2, k3⟩ := run_on s x m l hm hl t (u ++ [z.c]) z (by simp) g2 g3 (fun w hw => h w (by simp [hw]))
    exact ⟨y', k1, k2, by rw [List.foldl_cons, hs, k3]; simp⟩
theorem tail_same (x y : It) (u : List UInt8) (h1 : y.m = x.m) (h2 : y.l = x.l) : tail y u = tail x u := by
  unfold tail seg
  rw [h1, h2]
/-- A run behind what was: flushed it is that, flushed, and the run's tags and characters. -/
theorem run_run (s : St) (x : It) (t : List It) (he : Dc.ends x = false) (hd : s.text = [] ∨ diff s.last x = true) (ht : ∀ z ∈ t, Dc.ends z = false ∧ z.m = x.m ∧ z.l = x.l) :
    flush ((x :: t).foldl step s) = { flush s with ins := (flush s).ins ++ seg x ((x :: t).map It.c) } := by
  have hs : step s x = { flush s with text := [x.c], last := x } := by
    unfold step
    rw [if_neg (by rw [he]; decide)]
    rcases hd with h | h
    · rw [if_neg (by rw [h]; simp)]
      unfold flush
      rw [h]
      simp [tail]
    · cases hte : s.text.isEmpty
      · rw [if_pos (by rw [h]; rfl)]
      · have h' : s.text = [] := by simpa using hte
        rw [if_neg (by simp)]
        unfold flush
        rw [h']
        simp [tail]
  obtain ⟨y', k1, k2, k3⟩ := run_on (flush s) x x.m x.l rfl rfl t [x.c] x (by simp) rfl rfl ht
  rw [List.foldl_cons, hs, k3]
  show ({ flush s with ins := (flush s).ins ++ tail y' ([x.c] ++ t.map It.c), text := [], last := none } : St) = _
  rw [tail_same x y' _ k1 k2]
  rfl
theorem last_of : ∀ (l : List It) (x : It), (∃ s, run (l ++ [x]) = endB s x.m ∧ s.text = [] ∧ Dc.ends x = true) ∨ (Dc.ends x = false ∧ (run (l ++ [x])).last = x) := by
  intro l x
  rw [run_snoc]
  unfold step
  cases he : Dc.ends x
  · refine .inr ⟨rfl, ?_⟩
    simp only [Bool.false_eq_true, if_false]
    split <;> rfl
  · exact .inl ⟨_, rfl, rfl, rfl⟩
theorem run_take (l : List It) (k : Nat) (h : k < l.length) : run (l.take (k + 1)) = step (run (l.take k)) l[k] := by
  rw [List.take_succ_eq_append_getElem h, run_snoc]
/-- Where a run begins, what was is of another one. -/
theorem begins (l : List It) (q : Nat) (h : q < l.length) (hb : Dc.runB l q = true) (he : Dc.ends l[q] = false) : (run (l.take q)).text = [] ∨ diff (run (l.take q)).last l[q] = true := by
  match q, h, hb, he with
  | 0, h, hb, he => exact .inl rfl
  | j + 1, h, hb, he =>
    rw [Dc.runB_succ h] at hb
    have hj : j < l.length := by omega
    rw [List.take_succ_eq_append_getElem hj]
    rcases last_of (l.take j) l[j] with ⟨s, hs, ht, _⟩ | ⟨h1, h2⟩
    · rw [hs]; exact .inl ht
    · rw [h2]
      right
      cases hd : diff l[j] l[j + 1]
      · rw [(turns_iff _ _).2 ⟨h1, he, hd⟩] at hb; cases hb
      · rfl
theorem alike_on (l : List It) (q q' : Nat) (hq : q' ≤ l.length) (h : ∀ j, q + 1 ≤ j → j < q' → Dc.runB l j = false) (hlt : q < l.length) (he : Dc.ends l[q] = false) : ∀ d j (hj : j < l.length), j = q + d → j < q' → Dc.ends l[j] = false ∧ l[j].m = l[q].m ∧ l[j].l = l[q].l
  | 0, j, hj, e, _ => by
    obtain rfl : j = q := by omega
    exact ⟨he, rfl, rfl⟩
  | d + 1, j, hj, e, hjq => by
    obtain ⟨i, rfl⟩ : ∃ i, j = i + 1 := ⟨q + d, by omega⟩
    obtain ⟨g1, g2, g3⟩ := alike_on l q q' hq h hlt he d i (by omega) (by omega) (by omega)
    have := h (i + 1) (by omega) hjq
    rw [Dc.runB_succ hj] at this
    obtain ⟨t1, t2, t3⟩ := (turns_iff _ _).1 this
    obtain ⟨e1, e2⟩ := not_diff t3
    exact ⟨t2, by rw [e1, g2], by rw [e2, g3]⟩
/-- The run that begins at q and ends ahead of q'. -/
theorem run_at (l : List It) (q q' : Nat) (h1 : q < q') (hq : q' ≤ l.length) (h : ∀ j, q + 1 ≤ j → j < q' → Dc.runB l j = false) (hb : Dc.runB l q = true) (hlt : q < l.length) (he : Dc.ends l[q] = false) :
    flush (run (l.take q')) = { flush (run (l.take q)) with ins := (flush (run (l.take q))).ins ++ seg l[q] (((l.drop q).take (q' - q)).map It.c) } := by
  have hd : l.take q' = l.take q ++ (l.drop q).take (q' - q) := by
    have : q' = q + (q' - q) := by omega
    rw [this, List.take_add]
    simp
  obtain ⟨e, he'⟩ : ∃ e, q' - q = e + 1 := ⟨q' - q - 1, by omega⟩
  have hc : (l.drop q).take (q' - q) = l[q] :: (l.drop (q + 1)).take e := by
    rw [he', List.drop_eq_getElem_cons hlt]
    rfl
  have hr : run (l.take q') = (l[q] :: (l.drop (q + 1)).take e).foldl step (run (l.take q)) := by
    rw [hd, hc]
    unfold run
    rw [List.foldl_append]
  rw [hr, hc]
  refine run_run _ _ _ he (begins l q hlt hb he) ?_
  intro z hz
  obtain ⟨i, hi, rfl⟩ := List.mem_iff_getElem.1 hz
  simp at hi
  have hlen : q + 1 + i < l.length := by omega
  have := alike_on l q q' hq h hlt he (i + 1) (q + 1 + i) hlen (by omega) (by omega)
  simpa using this
/-- Where a block ends. -/
theorem end_at (l : List It) (q : Nat) (hlt : q < l.length) (he : Dc.ends l[q] = true) : flush (run (l.take (q + 1))) = endB (flush (run (l.take q))) l[q].m := by
  rw [run_take l q hlt]
  unfold step
  rw [if_pos he]
  show ({ endB (flush (run (l.take q))) l[q].m with ins := [] ++ tail none [], text := [], last := none } : St) = _
  rfl
end Pg
namespace Pg
/- How long a page is. -/
theorem enc1_len (c : UInt8) : (enc (.ch c)).length ≤ 6 := (Esc.enc1_pos c).2
def pend (t : List UInt8) : Nat := if t.isEmpty then 0 else 6 * t.length + 200
def weight (s : St) : Nat := (bytes s.page).length + (bytes s.ins).length + pend s.text
theorem wrap_len (b : Bool) (n : Nm) (s : List Tok) (hn : (name n).length ≤ 1) : (bytes (wrap b n s)).length ≤ (bytes s).length + 7 := by
  unfold wrap
  cases b
  · simp
  · simp only [if_true, bytes_cons, bytes_append, bytes_nil, enc, List.length_append, List.length_cons, List.length_nil]
    omega
theorem seg_len (x : It) (t : List UInt8) (hl : x.l.size ≤ 24) : (bytes (seg x t)).length ≤ 6 * t.length + 200 := by
  have h0 : (bytes (t.map Tok.ch)).length ≤ 6 * t.length := by rw [bytes_chars]; exact (Esc.wr_len t).2
  have h1 := wrap_len (decide (2 ≤ x.m)) .i (t.map .ch) (by decide)
  have h2 := wrap_len (x.m % 2 == 1) .b (wrap (decide (2 ≤ x.m)) .i (t.map .ch)) (by decide)
  have h3 : (bytes (tags x.m (t.map .ch))).length ≤ 6 * t.length + 14 := by unfold tags; omega
  unfold seg linked
  split
  · omega
  · have h4 := (Esc.wr_len x.l.data.toList).2
    have h5 : x.l.data.toList.length = x.l.size := by simp
    rw [bytes_cons, bytes_append, List.length_append, List.length_append]
    have e1 : (enc (.a x.l.data.toList)).length = 9 + ((Esc.wr x.l.data.toList).length + 2) := by simp [enc, apre]; omega
    have e2 : (bytes [.cl .a]).length = 4 := rfl
    omega
theorem flush_weight (s : St) (hl : s.text ≠ [] → s.last.l.size ≤ 24) : weight (flush s) ≤ weight s := by
  unfold weight
  show (bytes s.page).length + (bytes (s.ins ++ tail s.last s.text)).length + 0 ≤ _
  rw [bytes_append, List.length_append]
  unfold tail pend
  cases h : s.text.isEmpty
  · have h' : s.text ≠ [] := by intro e; rw [e] at h; cases h
    have := seg_len s.last s.text (hl h')
    simp only [Bool.false_eq_true, if_false]
    omega
  · simp [bytes_nil]
theorem lists_len (a b : Bool) : (bytes (lists a b)).length ≤ 5 := by cases a <;> cases b <;> decide
theorem kind_len (m : Int) : (enc (.op (kind m))).length ≤ 4 ∧ (enc (.cl (kind m))).length ≤ 5 := by
  unfold kind
  split
  · decide
  split
  · decide
  split <;> decide
theorem step_weight (s : St) (x : It) (hl : s.text ≠ [] → s.last.l.size ≤ 24) (hx : x.l.size ≤ 24) : weight (step s x) ≤ weight s + 206 ∧ ((step s x).text ≠ [] → (step s x).last.l.size ≤ 24) := by
  have hf := flush_weight s hl
  unfold step
  cases Dc.ends x
  · simp only [Bool.false_eq_true, if_false]
    cases hd : (!s.text.isEmpty && diff s.last x)
    · simp only [Bool.false_eq_true, if_false]
      refine ⟨?_, fun _ => hx⟩
      unfold weight pend
      simp only
      have : (s.text ++ [x.c]).isEmpty = false := by simp
      rw [this]
      simp only [Bool.false_eq_true, if_false, List.length_append, List.length_cons, List.length_nil]
      cases h : s.text.isEmpty
      · simp only [Bool.false_eq_true, if_false]; omega
      · have : s.text = [] := by simpa using h
        rw [this]; simp
    · simp only [if_true]
      refine ⟨?_, fun _ => hx⟩
      show weight (flush s) + 206 ≤ weight s + 206
      omega
  · simp only [if_true]
    refine ⟨?_, fun h => absurd rfl h⟩
    have e : weight (endB (flush s) x.m) = (bytes ((flush s).page ++ lists (flush s).list (x.m == 2) ++ .op (kind x.m) :: ((flush s).ins ++ [.cl (kind x.m)]))).length + 0 + 0 := rfl
    have e2 : weight (flush s) = (bytes (flush s).page).length + (bytes (flush s).ins).length + 0 := rfl
    have h1 := lists_len (flush s).list (x.m == 2)
    have h2 := kind_len x.m
    rw [e, bytes_append, bytes_append, bytes_cons, bytes_append, bytes_cons, bytes_nil]
    simp only [List.length_append, List.length_nil]
    omega
theorem fold_weight : ∀ (l : List It) (s : St), (s.text ≠ [] → s.last.l.size ≤ 24) → (∀ x ∈ l, x.l.size ≤ 24) → weight (l.foldl step s) ≤ weight s + 206 * l.length
  | [], s, _, _ => by simp
  | x :: l, s, hs, hl => by
    obtain ⟨h1, h2⟩ := step_weight s x hs (hl x (by simp))
    have := fold_weight l (step s x) h2 (fun y hy => hl y (by simp [hy]))
    rw [List.foldl_cons]
    simp only [List.length_cons]
    omega
theorem run_weight (l : List It) (hl : ∀ x ∈ l, x.l.size ≤ 24) : weight (run l) ≤ 206 * l.length := by
  have := fold_weight l st0 (fun h => absurd rfl h) hl
  have e : weight st0 = 0 := rfl
  unfold run
  omega
theorem last_short : ∀ (l : List It) (s : St), (s.text ≠ [] → s.last.l.size ≤ 24) → (∀ x ∈ l, x.l.size ≤ 24) → ((l.foldl step s).text ≠ [] → (l.foldl step s).last.l.size ≤ 24)
  | [], _, hs, _ => hs
  | x :: l, s, hs, hl => by
    rw [List.foldl_cons]
    exact last_short l _ (step_weight s x hs (hl x (by simp))).2 (fun y hy => hl y (by simp [hy]))
theorem page_len (l : List It) (hl : ∀ x ∈ l, x.l.size ≤ 24) : (page l).length ≤ 206 * l.length + 5 := by
  have h := run_weight l hl
  have h1 := lists_len (run l).list false
  unfold page toks fin
  rw [bytes_append, List.length_append]
  unfold weight at h
  omega
end Pg
end Go.Proofs.YtpcaiechaakhnabGreatDoor

/-
  Chapter 5 on lists of bytes: what a page is taken apart into.
-/
namespace Go.Proofs.YtpcaiechaakhnabGreatDoor
open Go.RowKit
/-- A token. -/
structure Tk where
  kind : Int
  name : List UInt8
  text : List UInt8
  href : List UInt8
namespace Tk
def sp (c : UInt8) : Bool := c == 32 || c == 9 || c == 10 || c == 13 || c == 12
def letter (c : UInt8) : Bool := (decide (97 ≤ c) && decide (c ≤ 122)) || (decide (65 ≤ c) && decide (c ≤ 90))
/-- Of a tag's name; of an attribute's name; of a value without quotes. -/
def nam (c : UInt8) : Bool := !sp c && c != 47 && c != 62
def anm (c : UInt8) : Bool := !sp c && c != 47 && c != 62 && c != 61
def avl (c : UInt8) : Bool := !sp c && c != 62
def not (q : UInt8) (c : UInt8) : Bool := c != q
def hrefL : List UInt8 := [104, 114, 101, 102]
/-- What stands behind the first 'pat'. -/
def after (pat : List UInt8) : List UInt8 → Option (List UInt8)
  | [] => none
  | c :: t => if pat.isPrefixOf (c :: t) then some ((c :: t).drop pat.length) else after pat t
/-- A value behind an '=' and spaces, and what stands behind it. -/
def val : List UInt8 → List UInt8 × List UInt8
  | [] => ([], [])
  | q :: r => if q == 34 || q == 39 then (r.takeWhile (not q), (r.dropWhile (not q)).drop 1) else ((q :: r).takeWhile avl, (q :: r).dropWhile avl)
/-- What stands behind an attribute's name: its value, and the rest. -/
def value (r : List UInt8) : List UInt8 × List UInt8 :=
  match r.dropWhile sp with
  | [] => ([], r)
  | c :: r2 => if c == 61 then val (r2.dropWhile sp) else ([], r)
/-- The attributes of a tag, up to its end: the first href, and what stands behind the tag. -/
def attrs : Nat → List UInt8 → Option (List UInt8) → Option (Option (List UInt8) × List UInt8)
  | 0, _, _ => none
  | _ + 1, [], _ => none
  | n + 1, c :: t, h => if c == 62 then some (h, t) else if sp c || c == 47 then attrs n t h else
      attrs n (value (t.dropWhile anm)).2 (if Lk.small (c :: t.takeWhile anm) == hrefL && h.isNone then some (value (t.dropWhile anm)).1 else h)
theorem dw_len (p : UInt8 → Bool) (l : List UInt8) : (l.dropWhile p).length ≤ l.length := (List.dropWhile_sublist p).length_le
theorem val_len (l : List UInt8) : (val l).2.length ≤ l.length := by
  cases l with
  | nil => exact Nat.le_refl _
  | cons q r =>
    rw [val]
    split
    · have := dw_len (not q) r
      simp only [List.length_drop, List.length_cons]
      omega
    · exact dw_len avl (q :: r)
theorem value_len (l : List UInt8) : (value l).2.length ≤ l.length := by
  unfold value
  have h0 := dw_len sp l
  cases h : l.dropWhile sp with
  | nil => exact Nat.le_refl _
  | cons c r2 =>
    rw [h] at h0
    simp only
    split
    · have h1 := val_len (r2.dropWhile sp)
      have h2 := dw_len sp r2
      simp at h0
      omega
    · exact Nat.le_refl _
theorem attrs_more : ∀ (n m : Nat) (l : List UInt8) (h : Option (List UInt8)), l.length < n → l.length < m → attrs n l h = attrs m l h
  | 0, _, _, _, h, _ => by omega
  | _, 0, _, _, _, h => by omega
  | n + 1, m + 1, [], _, _, _ => rfl
  | n + 1, m + 1, c :: t, h, h1, h2 => by
    have h3 := value_len (t.dropWhile anm)
    have h4 := dw_len anm t
    simp only [List.length_cons] at h1 h2
    unfold attrs
    rw [attrs_more n m t h (by omega) (by omega), attrs_more n m (value (t.dropWhile anm)).2 _ (by omega) (by omega)]
def attr (l : List UInt8) (h : Option (List UInt8)) : Option (Option (List UInt8) × List UInt8) := attrs (l.length + 1) l h
theorem attr_nil (h : Option (List UInt8)) : attr [] h = none := rfl
theorem attr_cons (c : UInt8) (t : List UInt8) (h : Option (List UInt8)) : attr (c :: t) h = if c == 62 then some (h, t) else if sp c || c == 47 then attr t h else
      attr (value (t.dropWhile anm)).2 (if Lk.small (c :: t.takeWhile anm) == hrefL && h.isNone then some (value (t.dropWhile anm)).1 else h) := by
  have h3 := value_len (t.dropWhile anm)
  have h4 := dw_len anm t
  show attrs (t.length + 1 + 1) (c :: t) h = _
  unfold attrs
  rw [attrs_more (t.length + 1) ((value (t.dropWhile anm)).2.length + 1) (value (t.dropWhile anm)).2 _ (by omega) (by omega)]
  rfl
theorem attr_len : ∀ (n : Nat) (l : List UInt8) (h : Option (List UInt8)) (x : Option (List UInt8) × List UInt8), l.length ≤ n → attr l h = some x → x.2.length < l.length
  | _, [], _, _, _, e => by rw [attr_nil] at e; cases e
  | 0, _ :: _, _, _, hn, _ => by simp at hn
  | n + 1, c :: t, h, x, hn, e => by
    have h3 := value_len (t.dropWhile anm)
    have h4 := dw_len anm t
    simp only [List.length_cons] at hn ⊢
    rw [attr_cons] at e
    split at e
    · cases e; simp
    split at e
    · have := attr_len n t h x (by omega) e; omega
    · have := attr_len n _ _ x (by omega) e; omega
def txt (l : List UInt8) : Tk := ⟨1, [], l, []⟩
def oth : Tk := ⟨4, [], [], []⟩
/-- A tag, from its name on. -/
def tag (shut : Bool) (u : List UInt8) : List Tk × List UInt8 :=
  match attr (u.dropWhile nam) none with
  | some (h, r) => ([⟨if shut then 3 else 2, Lk.small (u.takeWhile nam), [], if shut then [] else Esc.rd (h.getD [])⟩], r)
  | none => ([], [])
/-- What begins at a '<' with a '/' behind it. -/
def shutAt : List UInt8 → List Tk × List UInt8
  | [] => ([txt [60]], [47])
  | e :: v => if letter e then tag true (e :: v) else ([txt [60]], 47 :: e :: v)
/-- What begins at a '<'. -/
def angle (t : List UInt8) : List Tk × List UInt8 :=
  if ([33, 45, 45] : List UInt8).isPrefixOf t then ([oth], (after [45, 45, 62] (t.drop 3)).getD [])
  else match t with
    | [] => ([txt [60]], [])
    | d :: u => if d == 33 || d == 63 then ([oth], (after [62] t).getD [])
      else if d == 47 then shutAt u else if letter d then tag false t else ([txt [60]], t)
/-- The first tokens (none, where a tag has no end), and what stands behind. -/
def first (c : UInt8) (t : List UInt8) : List Tk × List UInt8 :=
  if c == 60 then angle t else ([txt (Esc.rd (c :: t.takeWhile (not 60)))], t.dropWhile (not 60))
def toksN : Nat → List UInt8 → List Tk
  | 0, _ => []
  | _ + 1, [] => []
  | n + 1, c :: t => (first c t).1 ++ toksN n (first c t).2
def toks (l : List UInt8) : List Tk := toksN l.length l
theorem after_len (p : List UInt8) : ∀ (l r : List UInt8), after p l = some r → r.length ≤ l.length
  | [], _, h => by cases h
  | c :: t, r, h => by
    rw [after] at h
    split at h
    · cases h; simp
    · have := after_len p t r h; simp; omega
theorem after_le (p l : List UInt8) : ((after p l).getD []).length ≤ l.length := by
  cases h : after p l with
  | none => simp
  | some r => exact after_len p l r h
theorem tag_len (s : Bool) (u : List UInt8) : (tag s u).2.length ≤ u.length := by
  unfold tag
  have h0 := dw_len nam u
  cases h : attr (u.dropWhile nam) none with
  | none => simp
  | some x =>
    have := attr_len _ _ _ x (Nat.le_refl _) h
    obtain ⟨a, r⟩ := x
    simp only at this ⊢
    omega
theorem angle_nil : angle [] = ([txt [60]], []) := rfl
theorem angle_cons (d : UInt8) (u : List UInt8) : angle (d :: u) = if ([33, 45, 45] : List UInt8).isPrefixOf (d :: u) then ([oth], (after [45, 45, 62] ((d :: u).drop 3)).getD []) else if d == 33 || d == 63 then ([oth], (after [62] (d :: u)).getD [])
    else if d == 47 then shutAt u else if letter d then tag false (d :: u) else ([txt [60]], d :: u) := rfl
theorem shut_len (u : List UInt8) : (shutAt u).2.length ≤ u.length + 1 := by
  cases u with
  | nil => simp [shutAt]
  | cons e v =>
    rw [shutAt]
    split
    · have := tag_len true (e :: v); simp only [List.length_cons] at this ⊢; omega
    · simp
theorem angle_len (t : List UInt8) : (angle t).2.length ≤ t.length := by
  cases t with
  | nil => simp [angle_nil]
  | cons d u =>
    rw [angle_cons]
    split
    · have := after_le [45, 45, 62] ((d :: u).drop 3)
      simp only [List.length_drop] at this
      simp only
      omega
    split
    · exact after_le [62] (d :: u)
    split
    · have := shut_len u
      simp only [List.length_cons]
      omega
    split
    · exact tag_len false (d :: u)
    · simp
theorem first_len (c : UInt8) (t : List UInt8) : (first c t).2.length ≤ t.length := by
  unfold first
  split
  · exact angle_len t
  · exact dw_len _ t
theorem toksN_more : ∀ (n m : Nat) (l : List UInt8), l.length ≤ n → l.length ≤ m → toksN n l = toksN m l
  | 0, 0, _, _, _ => rfl
  | 0, _ + 1, [], _, _ => rfl
  | _ + 1, 0, [], _, _ => rfl
  | 0, _ + 1, _ :: _, h, _ => by simp at h
  | _ + 1, 0, _ :: _, _, h => by simp at h
  | _ + 1, _ + 1, [], _, _ => rfl
  | n + 1, m + 1, c :: t, h1, h2 => by
    have := first_len c t
    simp only [List.length_cons] at h1 h2
    simp only [toksN]
    rw [toksN_more n m _ (by omega) (by omega)]
theorem toks_nil : toks [] = [] := rfl
theorem toks_cons (c : UInt8) (t : List UInt8) : toks (c :: t) = (first c t).1 ++ toks (first c t).2 := by
  have := first_len c t
  show (first c t).1 ++ toksN t.length (first c t).2 = _
  rw [toksN_more t.length (first c t).2.length _ this (Nat.le_refl _)]
  rfl
end Tk
end Go.Proofs.YtpcaiechaakhnabGreatDoor

/-
  Chapter 5 on lists of bytes: that of what is written of a document the tags are its own, in order, and the texts its characters; and that what stands behind a whole tag is taken apart by itself.
-/
namespace Go.Proofs.YtpcaiechaakhnabGreatDoor
open Go.RowKit
namespace Tk
open Pg (Nm Tok enc)
/-- The token of a tag. -/
def one : Tok → Tk
  | .inl (.inl n) => ⟨2, Pg.name n, [], []⟩
  | .inl (.inr n) => ⟨3, Pg.name n, [], []⟩
  | .inr (.inl l) => ⟨2, [97], [], l⟩
  | .inr (.inr c) => txt [c]
def some1 (u : List UInt8) : List Tk := if u.isEmpty then [] else [txt u]
/-- A page's tags and characters as tokens: characters that stand side by side are one. -/
def view : List UInt8 → List Tok → List Tk
  | u, [] => some1 u
  | u, .inr (.inr c) :: r => view (u ++ [c]) r
  | u, .inl (.inl n) :: r => some1 u ++ one (.op n) :: view [] r
  | u, .inl (.inr n) :: r => some1 u ++ one (.cl n) :: view [] r
  | u, .inr (.inl l) :: r => some1 u ++ one (.a l) :: view [] r
theorem toks_op (n : Nm) (r : List UInt8) : toks (enc (.op n) ++ r) = one (.op n) :: toks r := by
  obtain ⟨x, y, z⟩ := n
  cases x <;> cases y <;> cases z <;>
  · show toks (60 :: (_ ++ [62]) ++ r) = _
    rw [List.cons_append, toks_cons]
    rfl
theorem toks_cl (n : Nm) (r : List UInt8) : toks (enc (.cl n) ++ r) = one (.cl n) :: toks r := by
  obtain ⟨x, y, z⟩ := n
  cases x <;> cases y <;> cases z <;>
  · show toks (60 :: 47 :: (_ ++ [62]) ++ r) = _
    rw [List.cons_append, toks_cons]
    rfl
theorem tw' (x : UInt8) (r : List UInt8) (l : List UInt8) (h : ∀ y ∈ l, y ≠ x) : (l ++ x :: r).takeWhile (not x) = l ∧ (l ++ x :: r).dropWhile (not x) = x :: r :=
  Pg.tw (not x) x r (by simp [not]) l (fun y hy => by simpa [not] using h y hy)
theorem toks_a (l r : List UInt8) : toks (enc (.a l) ++ r) = one (.a l) :: toks r := by
  have e : enc (.a l) ++ r = 60 :: 97 :: 32 :: 104 :: 114 :: 101 :: 102 :: 61 :: 34 :: (Esc.wr l ++ 34 :: 62 :: r) := by
    show (Pg.apre ++ (Esc.wr l ++ [34, 62])) ++ r = _
    rw [List.append_assoc, List.append_assoc]
    rfl
  obtain ⟨h1, h2⟩ := tw' 34 (62 :: r) (Esc.wr l) (fun y hy => (Esc.wr_plain l y hy).2.2)
  have hv : value (61 :: 34 :: (Esc.wr l ++ 34 :: 62 :: r)) = (Esc.wr l, 62 :: r) := by
    show ((Esc.wr l ++ 34 :: 62 :: r).takeWhile (not 34), ((Esc.wr l ++ 34 :: 62 :: r).dropWhile (not 34)).drop 1) = _
    rw [h1, h2]
    rfl
  have ha : attr (32 :: 104 :: 114 :: 101 :: 102 :: 61 :: 34 :: (Esc.wr l ++ 34 :: 62 :: r)) none = some (some (Esc.wr l), r) := by
    rw [attr_cons]
    show attr (104 :: 114 :: 101 :: 102 :: 61 :: 34 :: (Esc.wr l ++ 34 :: 62 :: r)) none = _
    rw [attr_cons]
    show attr (value (61 :: 34 :: (Esc.wr l ++ 34 :: 62 :: r))).2 (some (value (61 :: 34 :: (Esc.wr l ++ 34 :: 62 :: r))).1) = _
    rw [hv, attr_cons]
    rfl
  have ht : tag false (97 :: 32 :: 104 :: 114 :: 101 :: 102 :: 61 :: 34 :: (Esc.wr l ++ 34 :: 62 :: r)) = ([one (.a l)], r) := by
    unfold tag
    show (match attr (32 :: 104 :: 114 :: 101 :: 102 :: 61 :: 34 :: (Esc.wr l ++ 34 :: 62 :: r)) none with
      | some (h, r) => ([(⟨2, [97], [], Esc.rd (h.getD [])⟩ : Tk)], r)
      | none => ([], [])) = _
    rw [ha]
    simp only [Option.getD_some, Esc.rd_wr]
    rfl
  rw [e, toks_cons]
  show (tag false (97 :: 32 :: 104 :: 114 :: 101 :: 102 :: 61 :: 34 :: (Esc.wr l ++ 34 :: 62 :: r))).1 ++ toks (tag false (97 :: 32 :: 104 :: 114 :: 101 :: 102 :: 61 :: 34 :: (Esc.wr l ++ 34 :: 62 :: r))).2 = _
  rw [ht]
  rfl
theorem all_tw (p : UInt8 → Bool) : ∀ t : List UInt8, (∀ y ∈ t, p y = true) → t.takeWhile p = t ∧ t.dropWhile p = []
  | [], _ => ⟨rfl, rfl⟩
  | x :: t, h => by
    obtain ⟨h1, h2⟩ := all_tw p t (fun y hy => h y (by simp [hy]))
    have hx := h x (by simp)
    exact ⟨by rw [List.takeWhile_cons, hx, h1]; rfl, by rw [List.dropWhile_cons, hx, h2]; rfl⟩
theorem wr_cons_ne (u : List UInt8) (h : u ≠ []) : ∃ c t, Esc.wr u = c :: t := by
  cases hw : Esc.wr u with
  | nil =>
    have := (Esc.wr_len u).1
    rw [hw] at this
    cases u with
    | nil => exact absurd rfl h
    | cons => simp at this
  | cons c t => exact ⟨c, t, rfl⟩
/-- A text, and behind it the end, or a '<'. -/
theorem toks_text (u r : List UInt8) (hr : r = [] ∨ ∃ s, r = 60 :: s) : toks (Esc.wr u ++ r) = some1 u ++ toks r := by
  by_cases hu : u = []
  · subst hu; rfl
  · obtain ⟨c, t, hw⟩ := wr_cons_ne u hu
    have hp := Esc.wr_plain u
    rw [hw] at hp
    have hc : (c == 60) = false := by simpa using (hp c (by simp)).1
    have h1 : (t ++ r).takeWhile (not 60) = t ∧ (t ++ r).dropWhile (not 60) = r := by
      rcases hr with rfl | ⟨s, rfl⟩
      · have ht : ∀ y ∈ t, not 60 y = true := fun y hy => by simpa [not] using (hp y (by simp [hy])).1
        rw [List.append_nil]
        exact all_tw (not 60) t ht
      · exact tw' 60 s t (fun y hy => (hp y (by simp [hy])).1)
    have hs : some1 u = [txt u] := by unfold some1; cases u with | nil => exact absurd rfl hu | cons => rfl
    rw [hw, List.cons_append, toks_cons]
    unfold first
    rw [hc]
    simp only [Bool.false_eq_true, if_false, h1.1, h1.2]
    rw [hs, ← hw, Esc.rd_wr]
/-- What a page is taken apart into. -/
theorem toks_bytes : ∀ (ts : List Tok) (u : List UInt8), toks (Esc.wr u ++ Pg.bytes ts) = view u ts
  | [], u => by
    rw [Pg.bytes_nil, toks_text u [] (.inl rfl), toks_nil, List.append_nil]
    rfl
  | .inr (.inr c) :: r, u => by
    have e : Esc.wr u ++ Pg.bytes (.ch c :: r) = Esc.wr (u ++ [c]) ++ Pg.bytes r := by
      rw [Pg.bytes_cons, Esc.wr_append, Esc.wr_one, List.append_assoc]
      rfl
    rw [e, toks_bytes r (u ++ [c])]
    rfl
  | .inl (.inl n) :: r, u => by
    have ih := toks_bytes r []
    rw [Esc.wr_nil, List.nil_append] at ih
    rw [Pg.bytes_cons, toks_text u (enc (.op n) ++ Pg.bytes r) (.inr ⟨_, rfl⟩), toks_op, ih]
    rfl
  | .inl (.inr n) :: r, u => by
    have ih := toks_bytes r []
    rw [Esc.wr_nil, List.nil_append] at ih
    rw [Pg.bytes_cons, toks_text u (enc (.cl n) ++ Pg.bytes r) (.inr ⟨_, rfl⟩), toks_cl, ih]
    rfl
  | .inr (.inl l) :: r, u => by
    have ih := toks_bytes r []
    rw [Esc.wr_nil, List.nil_append] at ih
    rw [Pg.bytes_cons, toks_text u (enc (.a l) ++ Pg.bytes r) (.inr ⟨_, rfl⟩), toks_a, ih]
    rfl
theorem toks_page (l : List It) : toks (Pg.page l) = view [] (Pg.toks l) := toks_bytes (Pg.toks l) []
end Tk
namespace Tk
open Pg (Nm Tok enc St)
def names : List (List UInt8) := [[112], [104, 49], [104, 50], [108, 105], [117, 108], [97], [98], [105]]
/-- Whether a tag may open where these are open. -/
def okOpen (o : List (List UInt8)) (k : Tk) : Bool := names.contains k.name && ((k.name == [97]) == !k.href.isEmpty) && (k.href.isEmpty || Lk.may k.href) && !o.contains k.name
/-- Tags that open and shut in order, and the texts: what is open, and what was read. -/
def chk : List Tk → List (List UInt8) → List UInt8 → Option (List (List UInt8) × List UInt8)
  | [], o, t => some (o, t)
  | k :: ks, o, t => if k.kind == 1 then chk ks o (t ++ k.text) else if k.kind == 2 then (if okOpen o k then chk ks (o ++ [k.name]) t else none)
      else if k.kind == 3 then (if o.getLast? == some k.name then chk ks o.dropLast t else none) else none
def chkP : List Tok → List (List UInt8) → List UInt8 → Option (List (List UInt8) × List UInt8)
  | [], o, t => some (o, t)
  | .inr (.inr c) :: r, o, t => chkP r o (t ++ [c])
  | .inl (.inl n) :: r, o, t => if okOpen o (one (.op n)) then chkP r (o ++ [Pg.name n]) t else none
  | .inl (.inr n) :: r, o, t => if o.getLast? == some (Pg.name n) then chkP r o.dropLast t else none
  | .inr (.inl l) :: r, o, t => if okOpen o (one (.a l)) then chkP r (o ++ [[97]]) t else none
theorem chk_some1 (u : List UInt8) (ks : List Tk) (o : List (List UInt8)) (t : List UInt8) : chk (some1 u ++ ks) o t = chk ks o (t ++ u) := by
  unfold some1
  cases h : u.isEmpty
  · simp [chk, txt]
  · have : u = [] := by simpa using h
    subst this
    simp
theorem chk_view : ∀ (ts : List Tok) (u : List UInt8) (o : List (List UInt8)) (t : List UInt8), chk (view u ts) o t = chkP ts o (t ++ u)
  | [], u, o, t => by
    have := chk_some1 u [] o t
    rw [List.append_nil] at this
    exact this
  | .inr (.inr c) :: r, u, o, t => by
    rw [view, chk_view r, chkP, List.append_assoc]
  | .inl (.inl n) :: r, u, o, t => by
    rw [view, chk_some1]
    show (if okOpen o (one (.op n)) then chk (view [] r) (o ++ [Pg.name n]) (t ++ u) else none) = _
    rw [chk_view r, List.append_nil]
    rfl
  | .inl (.inr n) :: r, u, o, t => by
    rw [view, chk_some1]
    show (if o.getLast? == some (Pg.name n) then chk (view [] r) o.dropLast (t ++ u) else none) = _
    rw [chk_view r, List.append_nil]
    rfl
  | .inr (.inl l) :: r, u, o, t => by
    rw [view, chk_some1]
    show (if okOpen o (one (.a l)) then chk (view [] r) (o ++ [[97]]) (t ++ u) else none) = _
    rw [chk_view r, List.append_nil]
    rfl
theorem chkP_append : ∀ (s r : List Tok) (o : List (List UInt8)) (t : List UInt8), chkP (s ++ r) o t = (chkP s o t).bind fun x => chkP r x.1 x.2
  | [], r, o, t => rfl
  | .inr (.inr c) :: s, r, o, t => by rw [List.cons_append, chkP, chkP, chkP_append s r]
  | .inl (.inl n) :: s, r, o, t => by
    rw [List.cons_append, chkP, chkP, chkP_append s r]
    split <;> rfl
  | .inl (.inr n) :: s, r, o, t => by
    rw [List.cons_append, chkP, chkP, chkP_append s r]
    split <;> rfl
  | .inr (.inl l) :: s, r, o, t => by
    rw [List.cons_append, chkP, chkP, chkP_append s r]
    split <;> rfl
theorem chkP_chars : ∀ (u : List UInt8) (o : List (List UInt8)) (t : List UInt8), chkP (u.map .ch) o t = some (o, t ++ u)
  | [], o, t => by simp [chkP]
  | c :: u, o, t => by rw [List.map_cons, chkP, chkP_chars u, List.append_assoc]; rfl
theorem ok_op (o : List (List UInt8)) (n : Nm) (hn : n ≠ .a) (h : o.contains (Pg.name n) = false) : okOpen o (one (.op n)) = true := by
  unfold okOpen
  rw [show (one (.op n)).name = Pg.name n from rfl, h]
  obtain ⟨x, y, z⟩ := n
  cases x <;> cases y <;> cases z <;> first | rfl | exact absurd rfl hn
/-- What stands between a tag that opens and one that shuts. -/
theorem chkP_wrap (n : Nm) (s : List Tok) (o : List (List UInt8)) (t u : List UInt8) (hn : n ≠ .a) (h : o.contains (Pg.name n) = false) (hs : chkP s (o ++ [Pg.name n]) t = some (o ++ [Pg.name n], t ++ u)) :
    chkP (.op n :: (s ++ [.cl n])) o t = some (o, t ++ u) := by
  rw [chkP, ok_op o n hn h, if_pos rfl, chkP_append, hs]
  show chkP [.cl n] (o ++ [Pg.name n]) (t ++ u) = _
  rw [chkP, List.getLast?_append]
  simp [chkP]
/-- None of these is a, b, i. -/
def clean (o : List (List UInt8)) : Prop := o.contains [97] = false ∧ o.contains [98] = false ∧ o.contains [105] = false
theorem has_app (o : List (List UInt8)) (x y : List UInt8) (h : o.contains x = false) (hxy : x ≠ y) : (o ++ [y]).contains x = false := by
  have h' : x ∉ o := by simpa using h
  simp [h', hxy]
theorem chkP_tags (m : Int) (h0 : 0 ≤ m) (h3 : m ≤ 3) (u : List UInt8) (o : List (List UInt8)) (t : List UInt8) (h1 : o.contains [98] = false) (h2 : o.contains [105] = false) : chkP (Pg.tags m (u.map .ch)) o t = some (o, t ++ u) := by
  have hm : m = 0 ∨ m = 1 ∨ m = 2 ∨ m = 3 := by omega
  rcases hm with rfl | rfl | rfl | rfl
  · exact chkP_chars u o t
  · exact chkP_wrap .b _ o t u (by decide) h1 (chkP_chars u _ t)
  · exact chkP_wrap .i _ o t u (by decide) h2 (chkP_chars u _ t)
  · exact chkP_wrap .b _ o t u (by decide) h1 (chkP_wrap .i _ _ t u (by decide) (has_app o _ _ h2 (by decide)) (chkP_chars u _ t))
/-- An item whose marks and link may be. -/
def Good (x : It) : Prop := 0 ≤ x.m ∧ x.m ≤ 3 ∧ (x.l.toList.isEmpty = true ∨ Lk.may x.l.data.toList = true)
theorem chkP_seg (x : It) (hx : Good x) (u : List UInt8) (o : List (List UInt8)) (t : List UInt8) (ho : clean o) : chkP (Pg.seg x u) o t = some (o, t ++ u) := by
  obtain ⟨h0, h3, hl⟩ := hx
  obtain ⟨oa, ob, oi⟩ := ho
  unfold Pg.seg Pg.linked
  cases he : x.l.toList.isEmpty
  · have hmay : Lk.may x.l.data.toList = true := by rcases hl with h | h; rw [he] at h; cases h; exact h
    have hne : x.l.data.toList.isEmpty = false := by rw [← Lib.toList_data]; exact he
    have hok : okOpen o (one (.a x.l.data.toList)) = true := by
      unfold okOpen
      show (names.contains [97] && (([97] == [97]) == !x.l.data.toList.isEmpty) && (x.l.data.toList.isEmpty || Lk.may x.l.data.toList) && !o.contains [97]) = true
      rw [hne, hmay, oa]
      rfl
    rw [if_neg (by decide), chkP, hok, if_pos rfl, chkP_append, chkP_tags x.m h0 h3 u _ t (has_app o _ _ ob (by decide)) (has_app o _ _ oi (by decide))]
    show chkP [.cl .a] (o ++ [[97]]) (t ++ u) = _
    rw [chkP, List.getLast?_append]
    simp [chkP, Pg.name]
  · rw [if_pos rfl]
    exact chkP_tags x.m h0 h3 u o t ob oi
def stk (b : Bool) : List (List UInt8) := if b then [[117, 108]] else []
theorem chkP_lists (a b : Bool) (t : List UInt8) : chkP (Pg.lists a b) (stk a) t = some (stk b, t) := by
  cases a <;> cases b <;> rfl
def chars (l : List It) : List UInt8 := (l.filter (fun x => !Dc.ends x)).map It.c
theorem chars_snoc (l : List It) (x : It) : chars (l ++ [x]) = if Dc.ends x then chars l else chars l ++ [x.c] := by
  unfold chars
  rw [List.filter_append, List.map_append]
  cases h : Dc.ends x <;> simp [h]
structure CInv (S : St) (l : List It) : Prop where
  back : ∃ T1 T2, chkP S.page [] [] = some (stk S.list, T1) ∧ (∀ o t, clean o → chkP S.ins o t = some (o, t ++ T2)) ∧ chars l = T1 ++ T2 ++ S.text
  ok : S.text ≠ [] → Good S.last
theorem CInv.flush {S : St} {l : List It} (h : CInv S l) : CInv (Pg.flush S) l := by
  obtain ⟨⟨T1, T2, h1, h2, h3⟩, h4⟩ := h
  refine ⟨⟨T1, T2 ++ S.text, h1, fun o t ho => ?_, ?_⟩, fun h => absurd rfl h⟩
  · show chkP (S.ins ++ Pg.tail S.last S.text) o t = _
    rw [chkP_append, h2 o t ho]
    show chkP (Pg.tail S.last S.text) o (t ++ T2) = _
    unfold Pg.tail
    cases ht : S.text.isEmpty
    · have hne : S.text ≠ [] := by intro e; rw [e] at ht; cases ht
      rw [if_neg (by decide), chkP_seg S.last (h4 hne) S.text o _ ho, List.append_assoc]
    · have e : S.text = [] := by simpa using ht
      rw [if_pos rfl, e, List.append_nil]
      rfl
  · rw [h3]
    show _ = T1 ++ (T2 ++ S.text) ++ []
    simp
theorem kind_clean (b : Bool) (m : Int) : clean (stk b ++ [Pg.name (Pg.kind m)]) ∧ (stk b).contains (Pg.name (Pg.kind m)) = false ∧ Pg.kind m ≠ .a := by
  unfold clean Pg.kind
  split
  · cases b <;> decide
  split
  · cases b <;> decide
  split
  · cases b <;> decide
  · cases b <;> decide
theorem CInv.step {S : St} {l : List It} {x : It} (h : CInv S l) (hx : Good x) : CInv (Pg.step S x) (l ++ [x]) := by
  unfold Pg.step
  cases he : Dc.ends x
  · simp only [Bool.false_eq_true, if_false]
    cases hd : (!S.text.isEmpty && Pg.diff S.last x)
    · simp only [Bool.false_eq_true, if_false]
      obtain ⟨⟨T1, T2, h1, h2, h3⟩, h4⟩ := h
      refine ⟨⟨T1, T2, h1, h2, ?_⟩, fun _ => hx⟩
      rw [chars_snoc, he, h3]
      simp
    · simp only [if_true]
      obtain ⟨⟨T1, T2, h1, h2, h3⟩, h4⟩ := h.flush
      refine ⟨⟨T1, T2, h1, h2, ?_⟩, fun _ => hx⟩
      rw [chars_snoc, he, h3, Pg.flush_text]
      simp
  · simp only [if_true]
    obtain ⟨⟨T1, T2, h1, h2, h3⟩, h4⟩ := h.flush
    refine ⟨⟨T1 ++ T2, [], ?_, fun o t _ => ?_, ?_⟩, fun h => absurd (Pg.flush_text S) h⟩
    · show chkP ((Pg.flush S).page ++ Pg.lists (Pg.flush S).list (x.m == 2) ++ .op (Pg.kind x.m) :: ((Pg.flush S).ins ++ [.cl (Pg.kind x.m)])) [] [] = some (stk (x.m == 2), T1 ++ T2)
      obtain ⟨k1, k2, k3⟩ := kind_clean (x.m == 2) x.m
      rw [chkP_append, chkP_append, h1]
      show ((chkP (Pg.lists (Pg.flush S).list (x.m == 2)) (stk (Pg.flush S).list) T1).bind fun z => chkP (.op (Pg.kind x.m) :: ((Pg.flush S).ins ++ [.cl (Pg.kind x.m)])) z.1 z.2) = _
      rw [chkP_lists]
      exact chkP_wrap (Pg.kind x.m) _ _ T1 T2 k3 k2 (h2 _ _ k1)
    · show chkP [] o t = _
      simp [chkP]
    · rw [chars_snoc, he, h3, Pg.flush_text]
      show _ = T1 ++ T2 ++ [] ++ (Pg.flush S).text
      rw [Pg.flush_text]
      simp
theorem cinv_fold : ∀ (l k : List It) (s : St), CInv s k → (∀ x ∈ l, Good x) → CInv (l.foldl Pg.step s) (k ++ l)
  | [], k, s, h, _ => by simpa using h
  | x :: l, k, s, h, hl => by
    rw [List.foldl_cons, show k ++ x :: l = (k ++ [x]) ++ l by simp]
    exact cinv_fold l (k ++ [x]) _ (h.step (hl x (by simp))) (fun y hy => hl y (by simp [hy]))
/-- Of what is written of a document the tags are its own, each that is opened is shut, in order, links lead where one may be led; its texts are the characters. -/
theorem safe (l : List It) (x : It) (he : Dc.ends x = true) (hl : ∀ y ∈ l ++ [x], Good y) : chk (toks (Pg.page (l ++ [x]))) [] [] = some ([], chars (l ++ [x])) := by
  have h : CInv (Pg.run (l ++ [x])) (l ++ [x]) := by
    have := cinv_fold (l ++ [x]) [] Pg.st0 ⟨⟨[], [], rfl, fun o t _ => by simp [chkP, Pg.st0], rfl⟩, fun h => absurd rfl h⟩ hl
    rw [List.nil_append] at this
    exact this
  obtain ⟨⟨T1, T2, h1, h2, h3⟩, _⟩ := h
  have hr := Pg.run_ends l x he
  rw [toks_page, chk_view, List.append_nil]
  unfold Pg.toks Pg.fin
  rw [chkP_append, h1]
  show chkP (Pg.lists (Pg.run (l ++ [x])).list false) (stk (Pg.run (l ++ [x])).list) T1 = _
  rw [chkP_lists, h3]
  have e2 : T2 = [] := by
    have := h2 [] [] ⟨rfl, rfl, rfl⟩
    rw [hr] at this
    have e : chkP (Pg.endB (Pg.flush (Pg.run l)) x.m).ins [] [] = some ([], []) := rfl
    rw [e] at this
    simpa using this.symm
  have e3 : (Pg.run (l ++ [x])).text = [] := by rw [hr]; rfl
  rw [e2, e3]
  simp [stk]
end Tk
namespace Tk
/-- It ends with a '>'. -/
def E (w : List UInt8) : Prop := w.getLast? = some 62
def qL : List UInt8 := [60, 113, 62]
theorem E_nil : ¬ E [] := by intro h; cases h
theorem E_tail {c : UInt8} {t : List UInt8} (h : E (c :: t)) (hc : c ≠ 62) : E t := by
  cases t with
  | nil => unfold E at h; simp at h; exact absurd h hc
  | cons d u => unfold E at h ⊢; rw [List.getLast?_cons_cons] at h; exact h
theorem E_app : ∀ (a : List UInt8) (c : UInt8) (b : List UInt8), E (a ++ c :: b) → E (c :: b)
  | [], _, _, h => h
  | x :: a, c, b, h => by
    refine E_app a c b ?_
    unfold E at h ⊢
    cases ha : a ++ c :: b with
    | nil => simp at ha
    | cons d u => rw [List.cons_append, ha, List.getLast?_cons_cons] at h; exact h
theorem E_drop : ∀ (n : Nat) {w : List UInt8}, E w → w.drop n = [] ∨ E (w.drop n)
  | 0, w, h => .inr h
  | n + 1, [], h => .inl rfl
  | n + 1, c :: t, h => by
    show t.drop n = [] ∨ E (t.drop n)
    cases t with
    | nil => exact .inl (by simp)
    | cons d u => exact E_drop n (by unfold E at h ⊢; rw [List.getLast?_cons_cons] at h; exact h)
theorem E_dw (p : UInt8 → Bool) (hp : p 62 = false) : ∀ {w : List UInt8}, E w → E (w.dropWhile p) ∧ ∀ X, (w ++ X).takeWhile p = w.takeWhile p ∧ (w ++ X).dropWhile p = w.dropWhile p ++ X
  | [], h => absurd h E_nil
  | c :: t, h => by
    cases hc : p c
    · refine ⟨by rw [List.dropWhile_cons, hc]; exact h, fun X => ⟨?_, ?_⟩⟩
      · rw [List.cons_append, List.takeWhile_cons, List.takeWhile_cons, hc]; rfl
      · rw [List.cons_append, List.dropWhile_cons, List.dropWhile_cons, hc]; rfl
    · obtain ⟨h1, h2⟩ := E_dw p hp (E_tail h (by intro e; rw [e, hp] at hc; cases hc))
      refine ⟨by rw [List.dropWhile_cons, hc]; exact h1, fun X => ⟨?_, ?_⟩⟩
      · rw [List.cons_append, List.takeWhile_cons, List.takeWhile_cons, hc, (h2 X).1]
      · rw [List.cons_append, List.dropWhile_cons, List.dropWhile_cons, hc, (h2 X).2]; rfl
/-- A quote: it comes, or it doesn't. -/
theorem quote (q : UInt8) : ∀ (w : List UInt8), (∃ r, w.dropWhile (not q) = q :: r ∧ ∀ X, (w ++ X).takeWhile (not q) = w.takeWhile (not q) ∧ (w ++ X).dropWhile (not q) = q :: (r ++ X)) ∨ (∀ y ∈ w, not q y = true)
  | [] => .inr (fun y hy => by simp at hy)
  | c :: t => by
    cases hc : not q c
    · have e : c = q := by simpa [not] using hc
      subst e
      refine .inl ⟨t, by rw [List.dropWhile_cons, hc]; rfl, fun X => ⟨?_, ?_⟩⟩
      · rw [List.cons_append, List.takeWhile_cons, List.takeWhile_cons, hc]; rfl
      · rw [List.cons_append, List.dropWhile_cons, hc]; rfl
    · rcases quote q t with ⟨r, h1, h2⟩ | h
      · refine .inl ⟨r, by rw [List.dropWhile_cons, hc]; exact h1, fun X => ⟨?_, ?_⟩⟩
        · rw [List.cons_append, List.takeWhile_cons, List.takeWhile_cons, hc, (h2 X).1]
        · rw [List.cons_append, List.dropWhile_cons, hc]; exact (h2 X).2
      · exact .inr (fun y hy => by rcases List.mem_cons.1 hy with rfl | hy; exact hc; exact h y hy)
/-- A value: it ends ahead of the end, or it doesn't. -/
theorem val_E {w : List UInt8} (h : E w) : (∃ v r, val w = (v, r) ∧ E r ∧ ∀ X, val (w ++ X) = (v, r ++ X)) ∨ (∃ v, val w = (v, []) ∧ ∃ v', val (w ++ qL) = (v', [])) := by
  cases w with
  | nil => exact absurd h E_nil
  | cons q r =>
    cases hq : (q == 34 || q == 39)
    · left
      obtain ⟨h1, h2⟩ := E_dw avl (by decide) h
      refine ⟨(q :: r).takeWhile avl, (q :: r).dropWhile avl, by rw [val, hq]; rfl, h1, fun X => ?_⟩
      rw [List.cons_append, val, hq]
      show ((q :: (r ++ X)).takeWhile avl, (q :: (r ++ X)).dropWhile avl) = _
      have := h2 X
      rw [List.cons_append] at this
      rw [this.1, this.2]
    · have hne : q ≠ 62 := by intro e; subst e; cases hq
      have hr := E_tail h hne
      rcases quote q r with ⟨u, h1, h2⟩ | h1
      · left
        have hu : E u := by
          have e := List.takeWhile_append_dropWhile (p := not q) (l := r)
          rw [h1] at e
          rw [← e] at hr
          exact E_tail (E_app _ _ _ hr) hne
        refine ⟨r.takeWhile (not q), u, ?_, hu, fun X => ?_⟩
        · rw [val, hq, h1]; rfl
        · rw [List.cons_append, val, hq, (h2 X).1, (h2 X).2]; rfl
      · right
        obtain ⟨a1, a2⟩ := all_tw (not q) r h1
        have hqq : q = 34 ∨ q = 39 := by simpa using hq
        have h3 : ∀ y ∈ r ++ qL, not q y = true := fun y hy => by
          rcases List.mem_append.1 hy with hy | hy
          · exact h1 y hy
          · have y1 : ∀ y ∈ qL, not 34 y = true := by decide
            have y2 : ∀ y ∈ qL, not 39 y = true := by decide
            rcases hqq with rfl | rfl
            · exact y1 y hy
            · exact y2 y hy
        obtain ⟨b1, b2⟩ := all_tw (not q) (r ++ qL) h3
        refine ⟨r, ?_, r ++ qL, ?_⟩
        · rw [val, hq, a1, a2]; rfl
        · rw [List.cons_append, val, hq, b1, b2]; rfl
theorem value_E {w : List UInt8} (h : E w) : (∃ v r, value w = (v, r) ∧ E r ∧ ∀ X, value (w ++ X) = (v, r ++ X)) ∨ (∃ v, value w = (v, []) ∧ ∃ v', value (w ++ qL) = (v', [])) := by
  obtain ⟨h1, h2⟩ := E_dw sp (by decide) h
  cases hd : w.dropWhile sp with
  | nil => rw [hd] at h1; exact absurd h1 E_nil
  | cons c r2 =>
    rw [hd] at h1 h2
    have hX : ∀ X, value (w ++ X) = if c == 61 then val ((r2 ++ X).dropWhile sp) else ([], w ++ X) := fun X => by
      unfold value
      rw [(h2 X).2]
      rfl
    have h0 : value w = if c == 61 then val (r2.dropWhile sp) else ([], w) := by
      unfold value
      rw [hd]
    cases hc : (c == 61)
    · left
      refine ⟨[], w, by rw [h0, hc]; rfl, h, fun X => by rw [hX, hc]; rfl⟩
    · have hne : c ≠ 62 := by intro e; subst e; cases hc
      obtain ⟨h3, h4⟩ := E_dw sp (by decide) (E_tail h1 hne)
      have h0' : value w = val (r2.dropWhile sp) := by rw [h0, hc]; rfl
      have hX' : ∀ X, value (w ++ X) = val (r2.dropWhile sp ++ X) := fun X => by rw [hX, hc, (h4 X).2]; rfl
      rcases val_E h3 with ⟨v, r, g1, g2, g3⟩ | ⟨v, g1, v', g2⟩
      · exact .inl ⟨v, r, by rw [h0', g1], g2, fun X => by rw [hX', g3]⟩
      · exact .inr ⟨v, by rw [h0', g1], v', by rw [hX', g2]⟩
theorem attr_E : ∀ (n : Nat) (w : List UInt8) (h : Option (List UInt8)), w.length ≤ n → E w →
    (∃ h' r, attr w h = some (h', r) ∧ (r = [] ∨ E r) ∧ ∀ X, attr (w ++ X) h = some (h', r ++ X)) ∨ (attr w h = none ∧ attr (w ++ qL) h = none)
  | _, [], _, _, he => absurd he E_nil
  | 0, _ :: _, _, hn, _ => by simp at hn
  | n + 1, c :: t, h, hn, he => by
    simp only [List.length_cons] at hn
    have hX : ∀ X, attr (c :: t ++ X) h = _ := fun X => by rw [List.cons_append, attr_cons]
    cases hc : (c == 62)
    · have hne : c ≠ 62 := by simpa using hc
      have ht := E_tail he hne
      cases hs : (sp c || c == 47)
      · obtain ⟨k1, k2⟩ := E_dw anm (by decide) ht
        have hl1 := dw_len anm t
        have hl2 := value_len (t.dropWhile anm)
        have e0 : attr (c :: t) h = attr (value (t.dropWhile anm)).2 (if Lk.small (c :: t.takeWhile anm) == hrefL && h.isNone then some (value (t.dropWhile anm)).1 else h) := by rw [attr_cons, hc, hs]; rfl
        have eX : ∀ X, attr (c :: t ++ X) h = attr (value (t.dropWhile anm ++ X)).2 (if Lk.small (c :: t.takeWhile anm) == hrefL && h.isNone then some (value (t.dropWhile anm ++ X)).1 else h) := fun X => by
          rw [hX, hc, hs, (k2 X).1, (k2 X).2]; rfl
        rcases value_E k1 with ⟨v, r, g1, g2, g3⟩ | ⟨v, g1, v', g2⟩
        · rw [g1] at e0 hl2
          simp only at e0 hl2
          rcases attr_E n r (if Lk.small (c :: t.takeWhile anm) == hrefL && h.isNone then some v else h) (by omega) g2 with ⟨h', r', f1, f2, f3⟩ | ⟨f1, f2⟩
          · exact .inl ⟨h', r', by rw [e0, f1], f2, fun X => by rw [eX, g3]; exact f3 X⟩
          · exact .inr ⟨by rw [e0, f1], by rw [eX, g3]; exact f2⟩
        · rw [g1] at e0
          exact .inr ⟨by rw [e0]; rfl, by rw [eX, g2]; rfl⟩
      · have e0 : attr (c :: t) h = attr t h := by rw [attr_cons, hc, hs]; rfl
        have eX : ∀ X, attr (c :: t ++ X) h = attr (t ++ X) h := fun X => by rw [hX, hc, hs]; rfl
        rcases attr_E n t h (by omega) ht with ⟨h', r, f1, f2, f3⟩ | ⟨f1, f2⟩
        · exact .inl ⟨h', r, by rw [e0, f1], f2, fun X => by rw [eX, f3]⟩
        · exact .inr ⟨by rw [e0, f1], by rw [eX, f2]⟩
    · left
      refine ⟨h, t, by rw [attr_cons, hc]; rfl, ?_, fun X => by rw [hX, hc]; rfl⟩
      exact E_drop 1 he
theorem tag_E (b : Bool) {u : List UInt8} (h : E u) : (∃ k r, tag b u = (k, r) ∧ (r = [] ∨ E r) ∧ ∀ X, tag b (u ++ X) = (k, r ++ X)) ∨ (tag b u = ([], []) ∧ tag b (u ++ qL) = ([], [])) := by
  obtain ⟨h1, h2⟩ := E_dw nam (by decide) h
  have eX : ∀ X, tag b (u ++ X) = match attr (u.dropWhile nam ++ X) none with
      | some (h, r) => ([⟨if b then 3 else 2, Lk.small (u.takeWhile nam), [], if b then [] else Esc.rd (h.getD [])⟩], r)
      | none => ([], []) := fun X => by
    unfold tag
    rw [(h2 X).1, (h2 X).2]
    cases attr (u.dropWhile nam ++ X) none with
    | none => rfl
    | some x => rfl
  rcases attr_E _ _ none (Nat.le_refl _) h1 with ⟨h', r, f1, f2, f3⟩ | ⟨f1, f2⟩
  · refine .inl ⟨_, r, by unfold tag; rw [f1], f2, fun X => by rw [eX, f3]⟩
  · exact .inr ⟨by unfold tag; rw [f1], by rw [eX, f2]⟩
theorem pre_app (p : List UInt8) (w X : List UInt8) (h : p.isPrefixOf w = true) : p.isPrefixOf (w ++ X) = true := by
  rw [List.isPrefixOf_iff_prefix] at h ⊢
  exact h.trans (List.prefix_append w X)
theorem after1_E : ∀ {w : List UInt8}, E w → ∃ r, after [62] w = some r ∧ (r = [] ∨ E r) ∧ ∀ X, after [62] (w ++ X) = some (r ++ X)
  | [], h => absurd h E_nil
  | c :: t, h => by
    by_cases hc : c = 62
    · subst hc
      exact ⟨t, rfl, E_drop 1 h, fun X => rfl⟩
    · obtain ⟨r, h1, h2, h3⟩ := after1_E (E_tail h hc)
      have hb : (62 == c) = false := by simpa using fun e => hc e.symm
      have hp : ∀ z : List UInt8, ([62] : List UInt8).isPrefixOf (c :: z) = false := fun z => by simp [List.isPrefixOf, hb]
      refine ⟨r, by rw [after, hp]; exact h1, h2, fun X => ?_⟩
      rw [List.cons_append, after, hp]
      exact h3 X
def dash : List UInt8 := [45, 45, 62]
theorem dash_app {w : List UInt8} (h : E w) (X : List UInt8) : dash.isPrefixOf (w ++ X) = dash.isPrefixOf w := by
  match w, h with
  | [], h => exact absurd h E_nil
  | [a], h =>
    have : a = 62 := by unfold E at h; simpa using h
    subst this; rfl
  | [a, b], h =>
    have : b = 62 := by unfold E at h; simpa using h
    subst this
    simp [dash, List.isPrefixOf]
  | a :: b :: c :: t, _ => simp [dash, List.isPrefixOf]
theorem after3_E : ∀ {w : List UInt8}, E w → (∃ r, after dash w = some r ∧ (r = [] ∨ E r) ∧ ∀ X, after dash (w ++ X) = some (r ++ X)) ∨ (after dash w = none ∧ after dash (w ++ qL) = none)
  | [], h => absurd h E_nil
  | c :: t, h => by
    have hX : ∀ X, after dash (c :: t ++ X) = if dash.isPrefixOf (c :: t) then some ((c :: t ++ X).drop 3) else after dash (t ++ X) := fun X => by
      have := dash_app h X
      rw [List.cons_append] at this ⊢
      rw [after, this]
      rfl
    cases hp : dash.isPrefixOf (c :: t)
    · have h0 : after dash (c :: t) = after dash t := by rw [after, hp]; rfl
      by_cases hc : c = 62
      · subst hc
        cases t with
        | nil => exact .inr ⟨rfl, rfl⟩
        | cons d u =>
          have ht : E (d :: u) := by unfold E at h ⊢; rw [List.getLast?_cons_cons] at h; exact h
          rcases after3_E ht with ⟨r, g1, g2, g3⟩ | ⟨g1, g2⟩
          · exact .inl ⟨r, by rw [h0, g1], g2, fun X => by rw [hX, hp]; exact g3 X⟩
          · exact .inr ⟨by rw [h0, g1], by rw [hX, hp]; exact g2⟩
      · rcases after3_E (E_tail h hc) with ⟨r, g1, g2, g3⟩ | ⟨g1, g2⟩
        · exact .inl ⟨r, by rw [h0, g1], g2, fun X => by rw [hX, hp]; exact g3 X⟩
        · exact .inr ⟨by rw [h0, g1], by rw [hX, hp]; exact g2⟩
    · have hlen : 3 ≤ (c :: t).length := Esc.prefix_le hp
      refine .inl ⟨(c :: t).drop 3, by rw [after, hp]; rfl, E_drop 3 h, fun X => ?_⟩
      rw [hX, hp, if_pos rfl, List.drop_append_of_le_length hlen]
def bang : List UInt8 := [33, 45, 45]
theorem bang_app {w : List UInt8} (h : E w) (X : List UInt8) : bang.isPrefixOf (w ++ X) = bang.isPrefixOf w := by
  match w, h with
  | [], h => exact absurd h E_nil
  | [a], h =>
    have : a = 62 := by unfold E at h; simpa using h
    subst this; rfl
  | [a, b], h =>
    have : b = 62 := by unfold E at h; simpa using h
    subst this
    simp [bang, List.isPrefixOf]
  | a :: b :: c :: t, _ => simp [bang, List.isPrefixOf]
theorem angle_E {t : List UInt8} (h : E t) : (∃ k r, angle t = (k, r) ∧ (r = [] ∨ E r) ∧ ∀ X, angle (t ++ X) = (k, r ++ X)) ∨ (∃ k, angle t = (k, []) ∧ angle (t ++ qL) = (k, [])) := by
  cases t with
  | nil => exact absurd h E_nil
  | cons d u =>
    have hX : ∀ X, angle (d :: u ++ X) = if bang.isPrefixOf (d :: u) then ([oth], (after dash ((d :: u ++ X).drop 3)).getD []) else if d == 33 || d == 63 then ([oth], (after [62] (d :: u ++ X)).getD [])
        else if d == 47 then shutAt (u ++ X) else if letter d then tag false (d :: u ++ X) else ([txt [60]], d :: u ++ X) := fun X => by
      rw [← bang_app h X]
      rfl
    have h0 : angle (d :: u) = if bang.isPrefixOf (d :: u) then ([oth], (after dash ((d :: u).drop 3)).getD []) else if d == 33 || d == 63 then ([oth], (after [62] (d :: u)).getD [])
        else if d == 47 then shutAt u else if letter d then tag false (d :: u) else ([txt [60]], d :: u) := rfl
    cases hb : bang.isPrefixOf (d :: u)
    · cases h1 : (d == 33 || d == 63)
      · cases h2 : (d == 47)
        · cases h3 : letter d
          · exact .inl ⟨[txt [60]], d :: u, by rw [h0, hb, h1, h2, h3]; rfl, .inr h, fun X => by rw [hX, hb, h1, h2, h3]; rfl⟩
          · rcases tag_E false h with ⟨k, r, g1, g2, g3⟩ | ⟨g1, g2⟩
            · exact .inl ⟨k, r, by rw [h0, hb, h1, h2, h3]; exact g1, g2, fun X => by rw [hX, hb, h1, h2, h3]; exact g3 X⟩
            · exact .inr ⟨[], by rw [h0, hb, h1, h2, h3]; exact g1, by rw [hX, hb, h1, h2, h3]; exact g2⟩
        · have hd : d = 47 := by simpa using h2
          have hu := E_tail h (by rw [hd]; decide)
          cases u with
          | nil => exact absurd hu E_nil
          | cons e v =>
            have hsX : ∀ X, shutAt (e :: v ++ X) = if letter e then tag true (e :: v ++ X) else ([txt [60]], 47 :: (e :: v ++ X)) := fun X => rfl
            cases h3 : letter e
            · refine .inl ⟨[txt [60]], d :: e :: v, ?_, .inr h, fun X => ?_⟩
              · rw [h0, hb, h1, h2, shutAt, h3, hd]; rfl
              · rw [hX, hb, h1, h2, hsX, h3, hd]; rfl
            · rcases tag_E true hu with ⟨k, r, g1, g2, g3⟩ | ⟨g1, g2⟩
              · refine .inl ⟨k, r, ?_, g2, fun X => ?_⟩
                · rw [h0, hb, h1, h2, shutAt, h3]; exact g1
                · rw [hX, hb, h1, h2, hsX, h3]; exact g3 X
              · refine .inr ⟨[], ?_, ?_⟩
                · rw [h0, hb, h1, h2, shutAt, h3]; exact g1
                · rw [hX, hb, h1, h2, hsX, h3]; exact g2
      · obtain ⟨r, g1, g2, g3⟩ := after1_E h
        refine .inl ⟨[oth], r, by rw [h0, hb, h1, g1]; rfl, g2, fun X => by rw [hX, hb, h1, g3]; rfl⟩
    · have hlen : 3 ≤ (d :: u).length := Esc.prefix_le hb
      have hE : E ((d :: u).drop 3) := by
        rcases E_drop 3 h with e | e
        · exfalso
          have hl : (d :: u).length = 3 := by
            have := congrArg List.length e
            simp only [List.length_drop, List.length_nil] at this
            omega
          have hp := List.isPrefixOf_iff_prefix.1 hb
          have := hp.eq_of_length (by rw [hl]; rfl)
          rw [← this] at h
          unfold E at h
          cases h
        · exact e
      have hdX : ∀ X, (d :: u ++ X).drop 3 = (d :: u).drop 3 ++ X := fun X => List.drop_append_of_le_length hlen
      rcases after3_E hE with ⟨r, g1, g2, g3⟩ | ⟨g1, g2⟩
      · exact .inl ⟨[oth], r, by rw [h0, hb, g1]; rfl, g2, fun X => by rw [hX, hb, hdX, g3]; rfl⟩
      · exact .inr ⟨[oth], by rw [h0, hb, g1]; rfl, by rw [hX, hb, hdX, g2]; rfl⟩
theorem tw_app (p : UInt8 → Bool) (x : UInt8) (hx : p x = false) (s : List UInt8) : ∀ t : List UInt8, (t ++ x :: s).takeWhile p = t.takeWhile p ∧ (t ++ x :: s).dropWhile p = t.dropWhile p ++ x :: s
  | [] => by simp [hx]
  | c :: t => by
    obtain ⟨h1, h2⟩ := tw_app p x hx s t
    cases hc : p c
    · exact ⟨by rw [List.cons_append, List.takeWhile_cons, List.takeWhile_cons, hc]; rfl, by rw [List.cons_append, List.dropWhile_cons, List.dropWhile_cons, hc]; rfl⟩
    · exact ⟨by rw [List.cons_append, List.takeWhile_cons, List.takeWhile_cons, hc, h1], by rw [List.cons_append, List.dropWhile_cons, List.dropWhile_cons, hc, h2]; rfl⟩
/-- A page that ends with a '>': what stands behind it, if it begins with a '<', is taken apart by itself, or the page ends within something that has no end. -/
theorem parts : ∀ (n : Nat) (a : List UInt8), a.length ≤ n → (a = [] ∨ E a) → (∀ s, toks (a ++ 60 :: s) = toks a ++ toks (60 :: s)) ∨ toks (a ++ qL) = toks a
  | _, [], _, _ => .inl (fun s => rfl)
  | 0, _ :: _, hn, _ => by simp at hn
  | n + 1, c :: t, hn, ha => by
    simp only [List.length_cons] at hn
    have he : E (c :: t) := by rcases ha with e | e; cases e; exact e
    cases hc : (c == 60)
    · have hd := dw_len (not 60) t
      have hr : t.dropWhile (not 60) = [] ∨ E (t.dropWhile (not 60)) := by
        cases hw : t.dropWhile (not 60) with
        | nil => exact .inl rfl
        | cons x r =>
          right
          have e := List.takeWhile_append_dropWhile (p := not 60) (l := t)
          rw [hw] at e
          have he' := he
          rw [← e, ← List.cons_append] at he'
          exact E_app _ _ _ he'
      have f0 : first c t = ([txt (Esc.rd (c :: t.takeWhile (not 60)))], t.dropWhile (not 60)) := by unfold first; rw [hc]; rfl
      have fX : ∀ s, first c (t ++ 60 :: s) = ([txt (Esc.rd (c :: t.takeWhile (not 60)))], t.dropWhile (not 60) ++ 60 :: s) := fun s => by
        unfold first
        obtain ⟨h1, h2⟩ := tw_app (not 60) 60 (by decide) s t
        rw [hc, h1, h2]
        rfl
      rcases parts n (t.dropWhile (not 60)) (by omega) hr with h | h
      · left
        intro s
        rw [List.cons_append, toks_cons, toks_cons c t, fX, f0, h s, List.append_assoc]
      · right
        show toks (c :: t ++ 60 :: [113, 62]) = _
        rw [List.cons_append, toks_cons, toks_cons c t, fX, f0]
        rw [show toks (t.dropWhile (not 60) ++ 60 :: [113, 62]) = toks (t.dropWhile (not 60)) from h]
    · have hcc : c = 60 := by simpa using hc
      have ht := E_tail he (by rw [hcc]; decide)
      have f0 : first c t = angle t := by unfold first; rw [hc]; rfl
      have fX : ∀ X, first c (t ++ X) = angle (t ++ X) := fun X => by unfold first; rw [hc]; rfl
      have hl := angle_len t
      rcases angle_E ht with ⟨k, r, g1, g2, g3⟩ | ⟨k, g1, g2⟩
      · rw [g1] at hl
        rcases parts n r (by simp only at hl; omega) g2 with h | h
        · left
          intro s
          rw [List.cons_append, toks_cons, toks_cons c t, fX, f0, g3, g1, h s, List.append_assoc]
        · right
          rw [List.cons_append, toks_cons, toks_cons c t, fX, f0, g3, g1, h]
      · right
        rw [List.cons_append, toks_cons, toks_cons c t, fX, f0, g2, g1]
/-- The form that TokenParts asks. -/
theorem parts_q (a b : List UInt8) (ha : a = [] ∨ E a) (h : toks (a ++ qL) = toks a ++ [⟨2, [113], [], []⟩]) : toks (a ++ qL ++ b) = toks (a ++ qL) ++ toks b := by
  rcases parts _ a (Nat.le_refl _) ha with g | g
  · have e : ∀ s, toks (60 :: 113 :: 62 :: s) = ⟨2, [113], [], []⟩ :: toks s := fun s => by rw [toks_cons]; rfl
    have e1 : a ++ qL ++ b = a ++ 60 :: (113 :: 62 :: b) := by simp [qL]
    rw [e1, g, e, h]
    simp
  · rw [h] at g
    have := congrArg List.length g
    simp at this
end Tk
end Go.Proofs.YtpcaiechaakhnabGreatDoor

/-
  What holds of an address that may be led to, cleaned: pure mathematics of chapter 2.
-/
namespace Go.Proofs.YtpcaiechaakhnabGreatDoor
open Go.RowKit
namespace Lk

theorem tl_all (p : UInt8 → Bool) : ∀ l : List UInt8, (∀ x ∈ l, p x = false) → tl p l = l
  | [], _ => rfl
  | x :: t, h => by rw [tl, h x (by simp)]; rfl
theorem tr_all (p : UInt8 → Bool) : ∀ l : List UInt8, (∀ x ∈ l, p x = false) → tr p l = l
  | [], _ => rfl
  | x :: t, h => by
    have ih := tr_all p t (fun y hy => h y (by simp [hy]))
    rw [tr, ih]
    cases t with
    | nil => simp only; rw [h x (by simp)]; rfl
    | cons y u => rfl
theorem tl_suffix (p : UInt8 → Bool) : ∀ l : List UInt8, ∃ a, l = a ++ tl p l
  | [] => ⟨[], rfl⟩
  | x :: t => by
    obtain ⟨a, ha⟩ := tl_suffix p t
    rw [tl]
    cases p x
    · exact ⟨[], rfl⟩
    · exact ⟨x :: a, by simp only [if_true, List.cons_append]; rw [← ha]⟩
theorem tr_prefix (p : UInt8 → Bool) : ∀ l : List UInt8, ∃ b, l = tr p l ++ b
  | [] => ⟨[], rfl⟩
  | x :: t => by
    obtain ⟨b, hb⟩ := tr_prefix p t
    rw [tr]
    cases h : tr p t with
    | nil =>
      rw [h] at hb
      simp only
      cases p x
      · exact ⟨t, rfl⟩
      · exact ⟨x :: t, rfl⟩
    | cons y u =>
      rw [h] at hb
      exact ⟨b, by simp only [List.cons_append] at hb ⊢; rw [← hb]⟩
theorem trim_infix (l : List UInt8) : ∃ a b, l = a ++ (trim l ++ b) := by
  obtain ⟨b, hb⟩ := tr_prefix bl l
  obtain ⟨a, ha⟩ := tl_suffix bl (tr bl l)
  refine ⟨a, b, ?_⟩
  rw [← List.append_assoc]
  show l = a ++ tl bl (tr bl l) ++ b
  rw [← ha]
  exact hb
theorem infix_contains (a c b : List UInt8) : Lib.contains (a ++ (c ++ b)) c = true := by
  rcases Lib.index_spec (a ++ (c ++ b)) c with ⟨_, h2⟩ | ⟨i, h1, _⟩
  · have := h2 a.length (by simp)
    simp [Lib.occAt] at this
    rw [List.isPrefixOf_iff_prefix.2 (List.prefix_append c b)] at this
    cases this
  · unfold Lib.contains
    rw [h1]
    exact decide_eq_true (by omega)
theorem stand_vis {x : UInt8} (h : stand x = true) : 33 ≤ x.toNat ∧ x.toNat ≤ 126 ∧ barred.contains x = false := by
  unfold stand at h
  rw [Bool.and_eq_true, Bool.and_eq_true, decide_eq_true_eq, decide_eq_true_eq, UInt8.le_iff_toNat_le, UInt8.le_iff_toNat_le] at h
  refine ⟨h.1.1, h.1.2, ?_⟩
  cases hb : barred.contains x
  · rfl
  · rw [hb] at h; cases h.2
theorem stand_bl {x : UInt8} (h : stand x = true) : bl x = false := by
  have hv := (stand_vis h).1
  unfold bl blanks
  simp only [List.contains_cons, List.contains_nil, Bool.or_false, Bool.or_eq_false_iff, beq_eq_false_iff_ne]
  refine ⟨?_, ?_, ?_, ?_, ?_⟩ <;> (intro e; subst e; revert hv; decide)
theorem may_parts {c : List UInt8} (h : may c = true) : 1 ≤ c.length ∧ c.length ≤ 24 ∧ (∀ x ∈ c, stand x = true) ∧ lead (scheme c) = true := by
  unfold may at h
  rw [Bool.and_eq_true, Bool.and_eq_true, Bool.and_eq_true, decide_eq_true_eq, decide_eq_true_eq, List.all_eq_true] at h
  exact ⟨h.1.1.1, h.1.1.2, h.1.2, h.2⟩
theorem trim_may {c : List UInt8} (h : may c = true) : trim c = c := by
  have hb : ∀ x ∈ c, bl x = false := fun x hx => stand_bl ((may_parts h).2.2.1 x hx)
  unfold trim
  rw [tr_all bl c hb, tl_all bl c hb]
theorem clean_may {c : List UInt8} (h : may c = true) : clean c = c := by
  unfold clean
  rw [trim_may h, h]
  rfl
theorem clean_some {l : List UInt8} (h : clean l ≠ []) : clean l = trim l ∧ may (clean l) = true := by
  unfold clean at h ⊢
  cases hm : may (trim l)
  · rw [hm] at h; exact absurd rfl h
  · exact ⟨rfl, hm⟩
end Lk
end Go.Proofs.YtpcaiechaakhnabGreatDoor
