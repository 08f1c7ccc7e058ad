/-
  Chapter 4 on lists: pages as tags and characters, how they are written, read back, joined, how long they are; and the same run by run.
-/
import Derived.Test.YtpcaiechaakhnabGreatDoorPure
import Derived.Test.YtpcaiechaakhnabGreatDoorM4
namespace Go.Proofs.YtpcaiechaakhnabGreatDoor
open Go.RowKit
namespace Pg
/-- The names of tags: p, h1, li, h2, ul, b, i, a. -/
abbrev Nm := Bool × Bool × Bool
namespace Nm
abbrev p : Nm := (false, false, false)
abbrev h1 : Nm := (false, false, true)
abbrev li : Nm := (false, true, false)
abbrev h2 : Nm := (false, true, true)
abbrev ul : Nm := (true, false, false)
abbrev b : Nm := (true, false, true)
abbrev i : Nm := (true, true, false)
abbrev a : Nm := (true, true, true)
end Nm
/-- What a page is made of: tags that open, tags that shut, links that open, characters. -/
abbrev Tok := (Nm ⊕ Nm) ⊕ (List UInt8 ⊕ UInt8)
namespace Tok
abbrev op (n : Nm) : Tok := .inl (.inl n)
abbrev cl (n : Nm) : Tok := .inl (.inr n)
abbrev a (l : List UInt8) : Tok := .inr (.inl l)
abbrev ch (c : UInt8) : Tok := .inr (.inr c)
end Tok
def name : Nm → List UInt8
  | (false, false, false) => [112]
  | (false, false, true) => [104, 49]
  | (false, true, false) => [108, 105]
  | (false, true, true) => [104, 50]
  | (true, false, false) => [117, 108]
  | (true, false, true) => [98]
  | (true, true, false) => [105]
  | (true, true, true) => [97]
def apre : List UInt8 := [60, 97, 32, 104, 114, 101, 102, 61, 34]
def enc : Tok → List UInt8
  | .inl (.inl n) => 60 :: (name n ++ [62])
  | .inl (.inr n) => 60 :: 47 :: (name n ++ [62])
  | .inr (.inl l) => apre ++ (Esc.wr l ++ [34, 62])
  | .inr (.inr c) => Esc.enc1 c
/-- How tags and characters are written. -/
def bytes (t : List Tok) : List UInt8 := t.flatMap enc
theorem bytes_nil : bytes [] = [] := rfl
theorem bytes_cons (x : Tok) (t : List Tok) : bytes (x :: t) = enc x ++ bytes t := by simp [bytes]
theorem bytes_append (s t : List Tok) : bytes (s ++ t) = bytes s ++ bytes t := by simp [bytes]
theorem bytes_chars : ∀ l : List UInt8, bytes (l.map .ch) = Esc.wr l
  | [] => rfl
  | c :: l => by rw [List.map_cons, bytes_cons, bytes_chars l, Esc.wr_cons]; rfl

def fixed : List Tok := [.op .p, .op .h1, .op .li, .op .h2, .op .ul, .op .b, .op .i, .op .a, .cl .p, .cl .h1, .cl .li, .cl .h2, .cl .ul, .cl .b, .cl .i, .cl .a]
/-- The first thing of a page, and what stands behind it. -/
def lex (s : List UInt8) : Tok × List UInt8 :=
  match fixed.find? (fun t => (enc t).isPrefixOf s) with
  | some t => (t, s.drop (enc t).length)
  | none => if apre.isPrefixOf s then (.a (Esc.rd ((s.drop 9).takeWhile (fun c => c != 34))), ((s.drop 9).dropWhile (fun c => c != 34)).drop 2) else (.ch (Esc.fst1 s).1, s.drop (Esc.fst1 s).2)
theorem tw (p : UInt8 → Bool) (x : UInt8) (r : List UInt8) (hx : p x = false) : ∀ l : List UInt8, (∀ y ∈ l, p y = true) → (l ++ x :: r).takeWhile p = l ∧ (l ++ x :: r).dropWhile p = x :: r
  | [], _ => by simp [hx]
  | y :: l, h => by
    have hy := h y (by simp)
    obtain ⟨h1, h2⟩ := tw p x r hx l (fun z hz => h z (by simp [hz]))
    exact ⟨by rw [List.cons_append, List.takeWhile_cons, hy, h1]; rfl, by rw [List.cons_append, List.dropWhile_cons, hy, h2]; rfl⟩
theorem fixed_head : ∀ t ∈ fixed, ∃ r, enc t = 60 :: r := by
  intro t ht
  simp only [fixed, List.mem_cons, List.not_mem_nil, or_false] at ht
  rcases ht with rfl | rfl | rfl | rfl | rfl | rfl | rfl | rfl | rfl | rfl | rfl | rfl | rfl | rfl | rfl | rfl <;> exact ⟨_, rfl⟩
theorem enc1_head (c : UInt8) : ∃ d r, Esc.enc1 c = d :: r ∧ d ≠ 60 := by
  cases h : Esc.enc1 c with
  | nil => have := Esc.enc1_pos c; rw [h] at this; simp at this
  | cons d r => exact ⟨d, r, rfl, (Esc.enc1_plain c d (by rw [h]; simp)).1⟩
theorem lex_enc (t : Tok) (r : List UInt8) : lex (enc t ++ r) = (t, r) := by
  rcases t with (n | n) | (l | c)
  · obtain ⟨x, y, z⟩ := n
    cases x <;> cases y <;> cases z <;> rfl
  · obtain ⟨x, y, z⟩ := n
    cases x <;> cases y <;> cases z <;> rfl
  · show lex (enc (.a l) ++ r) = (.a l, r)
    have hf : fixed.find? (fun t => (enc t).isPrefixOf (enc (.a l) ++ r)) = none := by rfl
    have hp : apre.isPrefixOf (enc (.a l) ++ r) = true := by rfl
    have hd : (enc (.a l) ++ r).drop 9 = Esc.wr l ++ 34 :: 62 :: r := by
      show (Esc.wr l ++ [34, 62]) ++ r = _
      simp
    obtain ⟨h1, h2⟩ := tw (fun c => c != 34) 34 (62 :: r) rfl (Esc.wr l) (fun y hy => by simpa using (Esc.wr_plain l y hy).2.2)
    unfold lex
    rw [hf]
    simp only [hp, if_true, hd, h1, h2, Esc.rd_wr]
    rfl
  · show lex (enc (.ch c) ++ r) = (.ch c, r)
    obtain ⟨d, u, hd, h60⟩ := enc1_head c
    have hne : ∀ (z : List UInt8), (60 :: z).isPrefixOf (enc (.ch c) ++ r) = false := by
      intro z
      show (60 :: z).isPrefixOf (Esc.enc1 c ++ r) = false
      rw [hd]
      have : ((60 : UInt8) == d) = false := by simpa using fun e => h60 e.symm
      simp [List.isPrefixOf, this]
    have hf : fixed.find? (fun t => (enc t).isPrefixOf (enc (.ch c) ++ r)) = none := by
      rw [List.find?_eq_none]
      intro t ht
      obtain ⟨z, hz⟩ := fixed_head t ht
      rw [hz, hne]
      simp
    have hp : apre.isPrefixOf (enc (.ch c) ++ r) = false := hne _
    unfold lex
    rw [hf]
    simp only [hp]
    have e : enc (.ch c) = Esc.enc1 c := rfl
    rw [e, Esc.fst1_enc]
    simp
theorem enc_ne (t : Tok) : enc t ≠ [] := by
  rcases t with (n | n) | (l | c)
  · simp [enc]
  · simp [enc]
  · simp [enc, apre]
  · obtain ⟨d, r, h, _⟩ := enc1_head c
    show Esc.enc1 c ≠ []
    rw [h]
    simp
theorem bytes_inj : ∀ s t : List Tok, bytes s = bytes t → s = t
  | [], [], _ => rfl
  | [], y :: t, h => by rw [bytes_nil, bytes_cons] at h; exact absurd (List.append_eq_nil_iff.1 h.symm).1 (enc_ne y)
  | x :: s, [], h => by rw [bytes_nil, bytes_cons] at h; exact absurd (List.append_eq_nil_iff.1 h).1 (enc_ne x)
  | x :: s, y :: t, h => by
    rw [bytes_cons, bytes_cons] at h
    have := congrArg lex h
    rw [lex_enc, lex_enc] at this
    simp only [Prod.mk.injEq] at this
    rw [this.1, bytes_inj s t this.2]

/-- A page at work. -/
structure St where
  page : List Tok
  ins : List Tok
  text : List UInt8
  last : It
  list : Bool
def kind (m : Int) : Nm := if m = 0 then .p else if m = 1 then .h1 else if m = 2 then .li else .h2
def wrap (b : Bool) (n : Nm) (s : List Tok) : List Tok := if b then .op n :: (s ++ [.cl n]) else s
def tags (m : Int) (s : List Tok) : List Tok := wrap (m % 2 == 1) .b (wrap (decide (2 ≤ m)) .i s)
def linked (l : ByteArray) (s : List Tok) : List Tok := if l.toList.isEmpty then s else .a l.data.toList :: (s ++ [.cl .a])
/-- A run. -/
def seg (x : It) (t : List UInt8) : List Tok := linked x.l (tags x.m (t.map .ch))
def none : It := ⟨0, 0, ⟨#[]⟩⟩
/-- What a run at work comes to. -/
def tail (x : It) (t : List UInt8) : List Tok := if t.isEmpty then [] else seg x t
def flush (s : St) : St := { s with ins := s.ins ++ tail s.last s.text, text := [], last := none }
def lists (o n : Bool) : List Tok := if n && !o then [.op .ul] else if !n && o then [.cl .ul] else []
def endB (s : St) (m : Int) : St := { s with page := s.page ++ lists s.list (m == 2) ++ .op (kind m) :: (s.ins ++ [.cl (kind m)]), ins := [], list := m == 2 }
def diff (a x : It) : Bool := (x.m != a.m) || !(x.l.toList == a.l.toList)
def step (s : St) (x : It) : St :=
  if Dc.ends x then endB (flush s) x.m
  else if !s.text.isEmpty && diff s.last x then { flush s with text := [x.c], last := x }
  else { s with text := s.text ++ [x.c], last := x }
def st0 : St := ⟨[], [], [], none, false⟩
def run (l : List It) : St := l.foldl step st0
def fin (s : St) : List Tok := s.page ++ lists s.list false
def toks (l : List It) : List Tok := fin (run l)
/-- The page of a document. -/
def page (l : List It) : List UInt8 := bytes (toks l)
theorem run_snoc (l : List It) (x : It) : run (l ++ [x]) = step (run l) x := by simp [run]
theorem flush_text (s : St) : (flush s).text = [] := by
  rfl
theorem flush_flush (s : St) : flush (flush s) = flush s := by
  show ({ s with ins := (s.ins ++ tail s.last s.text) ++ tail none [], text := [], last := none } : St) = _
  rw [show tail none [] = [] from rfl, List.append_nil]
  rfl

/- Reading a page's tags and characters back. -/
structure De where
  m : Int
  l : List UInt8
  out : List It
def mk (m : Int) (l : ByteArray) (c : UInt8) : It := ⟨c, m, l⟩
def dstep (d : De) : Tok → De
  | .inl (.inl (true, false, true)) => { d with m := d.m + 1 }
  | .inl (.inr (true, false, true)) => { d with m := d.m - 1 }
  | .inl (.inl (true, true, false)) => { d with m := d.m + 2 }
  | .inl (.inr (true, true, false)) => { d with m := d.m - 2 }
  | .inr (.inl l) => { d with l := l }
  | .inl (.inr (true, true, true)) => { d with l := [] }
  | .inr (.inr c) => { d with out := d.out ++ [mk d.m (B d.l) c] }
  | .inl (.inr (false, false, false)) => { d with out := d.out ++ [⟨10, 0, B []⟩] }
  | .inl (.inr (false, false, true)) => { d with out := d.out ++ [⟨10, 1, B []⟩] }
  | .inl (.inr (false, true, false)) => { d with out := d.out ++ [⟨10, 2, B []⟩] }
  | .inl (.inr (false, true, true)) => { d with out := d.out ++ [⟨10, 3, B []⟩] }
  | _ => d
def dec (o : De) (t : List Tok) : De := t.foldl dstep o
theorem dec_append (o : De) (s t : List Tok) : dec o (s ++ t) = dec (dec o s) t := by simp [dec]
theorem dec_cons (o : De) (x : Tok) (t : List Tok) : dec o (x :: t) = dec (dstep o x) t := rfl
theorem dec_nil (o : De) : dec o [] = o := rfl
theorem dec_chars (m : Int) (l : List UInt8) : ∀ (t : List UInt8) (o : List It), dec ⟨m, l, o⟩ (t.map .ch) = ⟨m, l, o ++ t.map (mk m (B l))⟩
  | [], o => by simp [dec]
  | c :: t, o => by
    rw [List.map_cons, dec_cons]
    show dec ⟨m, l, o ++ [mk m (B l) c]⟩ _ = _
    rw [dec_chars m l t, List.map_cons, List.append_assoc]
    rfl
theorem dec_tags (m : Int) (h0 : 0 ≤ m) (h3 : m ≤ 3) (l t : List UInt8) (o : List It) : dec ⟨0, l, o⟩ (tags m (t.map .ch)) = ⟨0, l, o ++ t.map (mk m (B l))⟩ := by
  have hm : m = 0 ∨ m = 1 ∨ m = 2 ∨ m = 3 := by omega
  rcases hm with rfl | rfl | rfl | rfl
  · show dec ⟨0, l, o⟩ (t.map .ch) = _
    exact dec_chars 0 l t o
  · show dec ⟨0, l, o⟩ (.op .b :: (t.map .ch ++ [.cl .b])) = _
    rw [dec_cons, dec_append]
    show dec (dec ⟨1, l, o⟩ _) _ = _
    rw [dec_chars]
    rfl
  · show dec ⟨0, l, o⟩ (.op .i :: (t.map .ch ++ [.cl .i])) = _
    rw [dec_cons, dec_append]
    show dec (dec ⟨2, l, o⟩ _) _ = _
    rw [dec_chars]
    rfl
  · show dec ⟨0, l, o⟩ (.op .b :: ((.op .i :: (t.map .ch ++ [.cl .i])) ++ [.cl .b])) = _
    rw [dec_cons, dec_append]
    show dec (dec ⟨3, l, o⟩ (t.map .ch ++ [.cl .i])) [.cl .b] = _
    rw [dec_append, dec_chars]
    rfl
theorem dec_seg (x : It) (h0 : 0 ≤ x.m) (h3 : x.m ≤ 3) (t : List UInt8) (o : List It) : dec ⟨0, [], o⟩ (seg x t) = ⟨0, [], o ++ t.map (mk x.m x.l)⟩ := by
  unfold seg linked
  cases h : x.l.toList.isEmpty
  · show dec ⟨0, [], o⟩ (.a x.l.data.toList :: (tags x.m (t.map .ch) ++ [.cl .a])) = _
    rw [dec_cons, dec_append]
    show dec (dec ⟨0, x.l.data.toList, o⟩ _) _ = _
    rw [dec_tags x.m h0 h3, B_of]
    rfl
  · rw [if_pos rfl, dec_tags x.m h0 h3]
    have : x.l = B [] := by
      rw [Lib.toList_data] at h
      apply ext_list
      rw [B_data]
      simpa using h
    rw [← this]
/-- What holds of a page at work: read back it is what came. -/
structure Inv (s : St) (l : List It) : Prop where
  back : ∃ o, dec ⟨0, [], []⟩ (s.page ++ s.ins) = ⟨0, [], o⟩ ∧ l = o ++ s.text.map (mk s.last.m s.last.l)
  ok : s.text ≠ [] → 0 ≤ s.last.m ∧ s.last.m ≤ 3
theorem Inv.flush {s : St} {l : List It} (h : Inv s l) : Inv (flush s) l := by
  obtain ⟨⟨o, h1, h2⟩, h3⟩ := h
  refine ⟨⟨l, ?_, by simp [Pg.flush]⟩, fun h => absurd rfl h⟩
  show dec _ (s.page ++ (s.ins ++ tail s.last s.text)) = _
  rw [← List.append_assoc, dec_append, h1]
  unfold tail
  split
  · rename_i ht
    have ht' : s.text = [] := by simpa using ht
    rw [ht'] at h2
    rw [h2, dec_nil]
    simp
  · rename_i ht
    have ht' : s.text ≠ [] := by simpa using ht
    obtain ⟨g0, g3⟩ := h3 ht'
    rw [dec_seg _ g0 g3, h2]
theorem dec_lists (d : De) (a b : Bool) : dec d (lists a b) = d := by cases a <;> cases b <;> rfl
theorem dec_kind (d : De) (m : Int) (h0 : 0 ≤ m) (h3 : m ≤ 3) : dstep d (.op (kind m)) = d ∧ dstep d (.cl (kind m)) = { d with out := d.out ++ [⟨10, m, B []⟩] } := by
  have hm : m = 0 ∨ m = 1 ∨ m = 2 ∨ m = 3 := by omega
  rcases hm with rfl | rfl | rfl | rfl <;> exact ⟨rfl, rfl⟩

/-- An item that may be in a document. -/
def Ok (x : It) : Prop := 0 ≤ x.m ∧ x.m ≤ 3 ∧ (Dc.ends x = true → x.l = B [])
theorem ends_c {x : It} (h : Dc.ends x = true) : x.c = 10 := by
  unfold Dc.ends at h
  have : (x.c.toNat : Int) = 10 := by simpa using h
  exact UInt8.toNat_inj.1 (by show x.c.toNat = 10; omega)
theorem not_diff {a x : It} (h : diff a x = false) : x.m = a.m ∧ x.l = a.l := by
  unfold diff at h
  rw [Bool.or_eq_false_iff, Bool.not_eq_false', Lib.toList_data, Lib.toList_data] at h
  exact ⟨by simpa using h.1, ext_list (by simpa using h.2)⟩
theorem Inv.step {s : St} {l : List It} {x : It} (h : Inv s l) (hx : Ok x) : Inv (step s x) (l ++ [x]) := by
  obtain ⟨x0, x3, xl⟩ := hx
  unfold Pg.step
  cases he : Dc.ends x
  · simp only [Bool.false_eq_true, if_false]
    cases hd : (!s.text.isEmpty && diff s.last x)
    · simp only [Bool.false_eq_true, if_false]
      obtain ⟨⟨o, h1, h2⟩, h3⟩ := h
      refine ⟨⟨o, h1, ?_⟩, fun _ => ⟨x0, x3⟩⟩
      show l ++ [x] = o ++ (s.text ++ [x.c]).map (Pg.mk x.m x.l)
      rw [List.map_append, ← List.append_assoc, h2]
      congr 2
      by_cases ht : s.text = []
      · rw [ht]; rfl
      · have : diff s.last x = false := by simpa [ht] using hd
        obtain ⟨e1, e2⟩ := not_diff this
        rw [e1, e2]
    · simp only [if_true]
      obtain ⟨⟨o, h1, h2⟩, h3⟩ := h.flush
      refine ⟨⟨o, h1, ?_⟩, fun _ => ⟨x0, x3⟩⟩
      rw [flush_text] at h2
      rw [h2]
      simp
      rfl
  · simp only [if_true]
    obtain ⟨⟨o, h1, h2⟩, h3⟩ := h.flush
    refine ⟨⟨l ++ [x], ?_, ?_⟩, fun ht => absurd (flush_text s) ht⟩
    · show dec _ ((((Pg.flush s).page ++ lists (Pg.flush s).list (x.m == 2)) ++ Tok.op (kind x.m) :: ((Pg.flush s).ins ++ [Tok.cl (kind x.m)])) ++ []) = _
      rw [List.append_nil, dec_append, dec_append, dec_lists, dec_cons, (dec_kind _ x.m x0 x3).1, ← dec_append, ← List.append_assoc, dec_append, h1, dec_cons, (dec_kind _ x.m x0 x3).2, dec_nil]
      rw [flush_text] at h2
      have : x = ⟨10, x.m, B []⟩ := by rw [← xl he, ← ends_c he]
      rw [h2, ← this]
      simp
    · show l ++ [x] = (l ++ [x]) ++ (Pg.flush s).text.map _
      rw [flush_text]
      simp
theorem inv_fold : ∀ (l k : List It) (s : St), Inv s k → (∀ x ∈ l, Ok x) → Inv (l.foldl step s) (k ++ l)
  | [], k, s, h, _ => by simpa using h
  | x :: l, k, s, h, hl => by
    rw [List.foldl_cons, show k ++ x :: l = (k ++ [x]) ++ l by simp]
    exact inv_fold l (k ++ [x]) _ (h.step (hl x (by simp))) (fun y hy => hl y (by simp [hy]))
theorem inv_run (l : List It) (hl : ∀ x ∈ l, Ok x) : Inv (run l) l := by
  have := inv_fold l [] st0 ⟨⟨[], rfl, rfl⟩, fun h => absurd rfl h⟩ hl
  rw [List.nil_append] at this
  exact this
theorem run_ends (l : List It) (x : It) (he : Dc.ends x = true) : run (l ++ [x]) = endB (flush (run l)) x.m := by
  rw [run_snoc]
  unfold step
  rw [if_pos he]
theorem dec_toks (l : List It) (x : It) (he : Dc.ends x = true) (hl : ∀ y ∈ l ++ [x], Ok y) : dec ⟨0, [], []⟩ (toks (l ++ [x])) = ⟨0, [], l ++ [x]⟩ := by
  obtain ⟨⟨o, h1, h2⟩, _⟩ := inv_run _ hl
  rw [run_ends l x he] at h1 h2
  unfold toks fin
  rw [run_ends l x he]
  have hi : (endB (flush (run l)) x.m).ins = [] := rfl
  have ht : (endB (flush (run l)) x.m).text = [] := rfl
  rw [hi, List.append_nil] at h1
  rw [ht, List.map_nil, List.append_nil] at h2
  rw [dec_append, h1, dec_lists, h2]
/-- Unlike documents are written as unlike pages. -/
theorem page_inj (l l' : List It) (x x' : It) (he : Dc.ends x = true) (he' : Dc.ends x' = true) (hl : ∀ y ∈ l ++ [x], Ok y) (hl' : ∀ y ∈ l' ++ [x'], Ok y) (h : page (l ++ [x]) = page (l' ++ [x'])) : l ++ [x] = l' ++ [x'] := by
  have h1 := dec_toks l x he hl
  have h2 := dec_toks l' x' he' hl'
  rw [bytes_inj _ _ h] at h1
  rw [h1] at h2
  simpa using h2

/- Two documents, one behind the other. -/
def pre (P : List Tok) (s : St) : St := { s with page := P ++ s.page }
theorem step_pre (P : List Tok) (s : St) (x : It) : step (pre P s) x = pre P (step s x) := by
  unfold step
  cases Dc.ends x
  · have e1 : (pre P s).text = s.text := rfl
    have e2 : (pre P s).last = s.last := rfl
    rw [e1, e2]
    cases (!s.text.isEmpty && diff s.last x)
    · rfl
    · rfl
  · simp only [if_true]
    unfold endB flush pre
    simp
theorem fold_pre (P : List Tok) : ∀ (b : List It) (s : St), b.foldl step (pre P s) = pre P (b.foldl step s)
  | [], _ => rfl
  | x :: b, s => by rw [List.foldl_cons, List.foldl_cons, step_pre, fold_pre P b]
theorem fold_list : ∀ (b : List It) (ins : List Tok) (t : List UInt8) (y : It), (∃ x ∈ b, Dc.ends x = true) →
    ∃ (m : Int) (R : List Tok) (T : St), (∃ x ∈ b, x.m = m) ∧ ∀ la, b.foldl step ⟨[], ins, t, y, la⟩ = { T with page := lists la (m == 2) ++ .op (kind m) :: R }
  | [], _, _, _, h => by obtain ⟨x, hx, _⟩ := h; simp at hx
  | x :: b, ins, t, y, h => by
    cases he : Dc.ends x
    · obtain ⟨i2, t2, y2, hs⟩ : ∃ i2 t2 y2, ∀ la, step ⟨[], ins, t, y, la⟩ x = ⟨[], i2, t2, y2, la⟩ := by
        unfold step
        simp only [he, Bool.false_eq_true, if_false]
        cases (!t.isEmpty && diff y x)
        · exact ⟨_, _, _, fun _ => rfl⟩
        · exact ⟨ins ++ tail y t, [x.c], x, fun _ => rfl⟩
      have hb : ∃ z ∈ b, Dc.ends z = true := by
        obtain ⟨z, hz, hze⟩ := h
        rcases List.mem_cons.1 hz with rfl | hz
        · rw [he] at hze; cases hze
        · exact ⟨z, hz, hze⟩
      obtain ⟨m, R, T, ⟨z, hz, hm⟩, hall⟩ := fold_list b i2 t2 y2 hb
      exact ⟨m, R, T, ⟨z, by simp [hz], hm⟩, fun la => by rw [List.foldl_cons, hs, hall]⟩
    · refine ⟨x.m, (ins ++ tail y t ++ [.cl (kind x.m)]) ++ (b.foldl step ⟨[], [], [], none, x.m == 2⟩).page, b.foldl step ⟨[], [], [], none, x.m == 2⟩, ⟨x, by simp, rfl⟩, fun la => ?_⟩
      have : step ⟨[], ins, t, y, la⟩ x = pre (lists la (x.m == 2) ++ .op (kind x.m) :: (ins ++ tail y t ++ [.cl (kind x.m)])) ⟨[], [], [], none, x.m == 2⟩ := by
        unfold step
        rw [if_pos he]
        simp [endB, flush, pre]
      rw [List.foldl_cons, this, fold_pre]
      simp [pre]
theorem run_split (a : List It) (x : It) (he : Dc.ends x = true) : ∃ A, run (a ++ [x]) = ⟨A ++ [.cl (kind x.m)], [], [], none, x.m == 2⟩ := by
  rw [run_ends a x he]
  exact ⟨(flush (run a)).page ++ lists (flush (run a)).list (x.m == 2) ++ .op (kind x.m) :: (flush (run a)).ins, by simp [endB, flush]⟩
/-- What the page of two documents is. -/
theorem toks_join (a b : List It) (x y : It) (hx : Dc.ends x = true) (hy : Dc.ends y = true) : ∃ A m R, (∃ z ∈ b ++ [y], z.m = m) ∧ toks (a ++ [x]) = A ++ [.cl (kind x.m)] ++ lists (x.m == 2) false ∧
    toks (b ++ [y]) = lists false (m == 2) ++ .op (kind m) :: R ∧ toks ((a ++ [x]) ++ (b ++ [y])) = A ++ [.cl (kind x.m)] ++ lists (x.m == 2) (m == 2) ++ .op (kind m) :: R := by
  obtain ⟨A, hA⟩ := run_split a x hx
  obtain ⟨m, R, T, hm, hall⟩ := fold_list (b ++ [y]) [] [] none ⟨y, by simp, hy⟩
  refine ⟨A, m, R ++ lists T.list false, hm, ?_, ?_, ?_⟩
  · unfold toks fin
    rw [hA]
  · unfold toks fin run
    rw [show st0 = ⟨[], [], [], none, false⟩ from rfl, hall]
    simp
  · have h1 : run ((a ++ [x]) ++ (b ++ [y])) = (b ++ [y]).foldl step (run (a ++ [x])) := by simp [run]
    unfold toks fin
    rw [h1, hA, show (⟨A ++ [.cl (kind x.m)], [], [], none, x.m == 2⟩ : St) = pre (A ++ [.cl (kind x.m)]) ⟨[], [], [], none, x.m == 2⟩ by simp [pre], fold_pre, hall]
    simp [pre]
end Pg
namespace Pg
def suf : List UInt8 := [60, 47, 117, 108, 62]
def pref : List UInt8 := [60, 117, 108, 62]
theorem isSuf (a b : List UInt8) : a.isSuffixOf (b ++ a) = true := by
  rw [List.isSuffixOf_iff_suffix]
  exact ⟨b, rfl⟩
theorem not_suf (b : List UInt8) (k : Nm) (h : k = .p ∨ k = .h1 ∨ k = .h2) : suf.isSuffixOf (b ++ enc (.cl k)) = false := by
  rw [← Bool.not_eq_true, List.isSuffixOf_iff_suffix]
  rintro ⟨t, ht⟩
  have := congrArg List.reverse ht
  rcases h with rfl | rfl | rfl <;> simp [suf, enc, name] at this
theorem kind_of {m : Int} (h0 : 0 ≤ m) (h3 : m ≤ 3) : (m == 2) = false → kind m = .p ∨ kind m = .h1 ∨ kind m = .h2 := by
  have hm : m = 0 ∨ m = 1 ∨ m = 2 ∨ m = 3 := by omega
  rcases hm with rfl | rfl | rfl | rfl <;> decide
theorem not_pref (b : List UInt8) (k : Nm) (h : k = .p ∨ k = .h1 ∨ k = .h2) : pref.isPrefixOf (enc (.op k) ++ b) = false := by
  rcases h with rfl | rfl | rfl <;> rfl
/-- The page of two documents is the two pages, but where a list goes on. -/
theorem page_join (a b : List It) (x y : It) (hx : Dc.ends x = true) (hy : Dc.ends y = true) (hxo : Ok x) (hb : ∀ z ∈ b ++ [y], Ok z) :
    page ((a ++ [x]) ++ (b ++ [y])) = if suf.isSuffixOf (page (a ++ [x])) && pref.isPrefixOf (page (b ++ [y])) then (page (a ++ [x])).take ((page (a ++ [x])).length - 5) ++ (page (b ++ [y])).drop 4 else page (a ++ [x]) ++ page (b ++ [y]) := by
  obtain ⟨A, m, R, ⟨z, hz, rfl⟩, e1, e2, e3⟩ := toks_join a b x y hx hy
  obtain ⟨z0, z3, _⟩ := hb z hz
  obtain ⟨x0, x3, _⟩ := hxo
  unfold page
  rw [e1, e2, e3]
  cases h1 : (x.m == 2)
  · have hk := kind_of x0 x3 h1
    have e : lists false false = [] := rfl
    rw [e, List.append_nil]
    have hs : suf.isSuffixOf (bytes (A ++ [.cl (kind x.m)])) = false := by
      rw [bytes_append, bytes_cons, bytes_nil, List.append_nil]
      exact not_suf _ _ hk
    rw [hs, Bool.false_and, if_neg (by decide), ← bytes_append]
    simp
  · cases h2 : (z.m == 2)
    · have hk := kind_of z0 z3 h2
      have hs : pref.isPrefixOf (bytes (lists false false ++ .op (kind z.m) :: R)) = false := by
        rw [show lists false false = [] from rfl, List.nil_append, bytes_cons]
        exact not_pref _ _ hk
      rw [hs, Bool.and_false, if_neg (by decide), ← bytes_append]
      rfl
    · have e4 : lists true false = [.cl .ul] := rfl
      have e5 : lists false true = [.op .ul] := rfl
      have e6 : lists true true = [] := rfl
      have b1 : bytes [.cl .ul] = suf := rfl
      have b2 : bytes [.op .ul] = pref := rfl
      rw [e4, e5, e6, List.append_nil]
      generalize A ++ [Tok.cl (kind x.m)] = A2
      rw [bytes_append A2 [.cl .ul], bytes_append [.op .ul], b1, b2, isSuf]
      have hp : ∀ r, pref.isPrefixOf (pref ++ r) = true := fun r => rfl
      rw [hp, Bool.and_self, if_pos rfl, List.length_append, show suf.length = 5 from rfl, Nat.add_sub_cancel, List.take_left', bytes_append]
      · rfl
      · rfl

/- Runs: the places where they begin, one behind the other. -/
def from_ (l : List It) (n q : Nat) : List Nat := (List.range' q (n - q)).filter (Dc.runB l)
theorem from_end (l : List It) (n : Nat) : from_ l n n = [] := by simp [from_]
theorem from_runs (l : List It) (n : Nat) : Dc.runsTo l n = from_ l n 0 := by
  unfold Dc.runsTo from_
  rw [List.range_eq_range', Nat.sub_zero]
theorem from_step (l : List It) (n q : Nat) (h : q < n) : from_ l n q = if Dc.runB l q then q :: from_ l n (q + 1) else from_ l n (q + 1) := by
  unfold from_
  obtain ⟨d, hd⟩ : ∃ d, n - q = d + 1 := ⟨n - q - 1, by omega⟩
  rw [hd, List.range'_succ, show n - (q + 1) = d by omega, List.filter_cons]
/-- Behind a place where a run begins: the next one. -/
theorem next (l : List It) (n : Nat) : ∀ d q, n - q = d → q ≤ n → ∃ q', q ≤ q' ∧ q' ≤ n ∧ (q' = n ∨ Dc.runB l q' = true) ∧ (∀ j, q ≤ j → j < q' → Dc.runB l j = false) ∧ from_ l n q = from_ l n q'
  | 0, q, hd, hq => ⟨q, Nat.le_refl _, hq, .inl (by omega), fun j h1 h2 => by omega, rfl⟩
  | d + 1, q, hd, hq => by
    cases h : Dc.runB l q
    · obtain ⟨q', h1, h2, h3, h4, h5⟩ := next l n d (q + 1) (by omega) (by omega)
      refine ⟨q', by omega, h2, h3, fun j j1 j2 => ?_, ?_⟩
      · by_cases hj : j = q
        · rw [hj]; exact h
        · exact h4 j (by omega) j2
      · rw [from_step l n q (by omega), h]
        exact h5
    · exact ⟨q, Nat.le_refl _, hq, .inr h, fun j h1 h2 => by omega, rfl⟩
theorem from_head (l : List It) (n q : Nat) (h : q < n) (hb : Dc.runB l q = true) : from_ l n q = q :: from_ l n (q + 1) := by
  rw [from_step l n q h, hb]; rfl

/- What a run comes to. -/
theorem turns_iff (a x : It) : Dc.turns a x = false ↔ Dc.ends a = false ∧ Dc.ends x = false ∧ diff a x = false := by
  unfold Dc.turns diff
  cases Dc.ends a <;> cases Dc.ends x <;> simp
/-- Items behind one that is no end, none of which turns: they are as it is. -/
theorem run_on (s : St) (x : It) (m : Int) (l : ByteArray) (hm : x.m = m) (hl : x.l = l) : ∀ (t : List It) (u : List UInt8) (y : It), u ≠ [] → y.m = m → y.l = l → (∀ z ∈ t, Dc.ends z = false ∧ z.m = m ∧ z.l = l) →
    ∃ y', y'.m = m ∧ y'.l = l ∧ t.foldl step { s with text := u, last := y } = { s with text := u ++ t.map It.c, last := y' }
  | [], u, y, _, h1, h2, _ => ⟨y, h1, h2, by simp⟩
  | z :: t, u, y, hu, h1, h2, h => by
    obtain ⟨g1, g2, g3⟩ := h z (by simp)
    have hs : step { s with text := u, last := y } z = { s with text := u ++ [z.c], last := z } := by
      have hd : diff y z = false := by unfold diff; rw [g2, g3, h1, h2]; simp
      unfold step
      simp [g1, hd]
    obtain ⟨y', k1, k2, k3⟩ := run_on s x m l hm hl t (u ++ [z.c]) z (by simp) g2 g3 (fun w hw => h w (by simp [hw]))
    exact ⟨y', k1, k2, by rw [List.foldl_cons, hs, k3]; simp⟩
theorem tail_same (x y : It) (u : List UInt8) (h1 : y.m = x.m) (h2 : y.l = x.l) : tail y u = tail x u := by
  unfold tail seg
  rw [h1, h2]
/-- A run behind what was: flushed it is that, flushed, and the run's tags and characters. -/
theorem run_run (s : St) (x : It) (t : List It) (he : Dc.ends x = false) (hd : s.text = [] ∨ diff s.last x = true) (ht : ∀ z ∈ t, Dc.ends z = false ∧ z.m = x.m ∧ z.l = x.l) :
    flush ((x :: t).foldl step s) = { flush s with ins := (flush s).ins ++ seg x ((x :: t).map It.c) } := by
  have hs : step s x = { flush s with text := [x.c], last := x } := by
    unfold step
    rw [if_neg (by rw [he]; decide)]
    rcases hd with h | h
    · rw [if_neg (by rw [h]; simp)]
      unfold flush
      rw [h]
      simp [tail]
    · cases hte : s.text.isEmpty
      · rw [if_pos (by rw [h]; rfl)]
      · have h' : s.text = [] := by simpa using hte
        rw [if_neg (by simp)]
        unfold flush
        rw [h']
        simp [tail]
  obtain ⟨y', k1, k2, k3⟩ := run_on (flush s) x x.m x.l rfl rfl t [x.c] x (by simp) rfl rfl ht
  rw [List.foldl_cons, hs, k3]
  show ({ flush s with ins := (flush s).ins ++ tail y' ([x.c] ++ t.map It.c), text := [], last := none } : St) = _
  rw [tail_same x y' _ k1 k2]
  rfl
theorem last_of : ∀ (l : List It) (x : It), (∃ s, run (l ++ [x]) = endB s x.m ∧ s.text = [] ∧ Dc.ends x = true) ∨ (Dc.ends x = false ∧ (run (l ++ [x])).last = x) := by
  intro l x
  rw [run_snoc]
  unfold step
  cases he : Dc.ends x
  · refine .inr ⟨rfl, ?_⟩
    simp only [Bool.false_eq_true, if_false]
    split <;> rfl
  · exact .inl ⟨_, rfl, rfl, rfl⟩
theorem run_take (l : List It) (k : Nat) (h : k < l.length) : run (l.take (k + 1)) = step (run (l.take k)) l[k] := by
  rw [List.take_succ_eq_append_getElem h, run_snoc]
/-- Where a run begins, what was is of another one. -/
theorem begins (l : List It) (q : Nat) (h : q < l.length) (hb : Dc.runB l q = true) (he : Dc.ends l[q] = false) : (run (l.take q)).text = [] ∨ diff (run (l.take q)).last l[q] = true := by
  match q, h, hb, he with
  | 0, h, hb, he => exact .inl rfl
  | j + 1, h, hb, he =>
    rw [Dc.runB_succ h] at hb
    have hj : j < l.length := by omega
    rw [List.take_succ_eq_append_getElem hj]
    rcases last_of (l.take j) l[j] with ⟨s, hs, ht, _⟩ | ⟨h1, h2⟩
    · rw [hs]; exact .inl ht
    · rw [h2]
      right
      cases hd : diff l[j] l[j + 1]
      · rw [(turns_iff _ _).2 ⟨h1, he, hd⟩] at hb; cases hb
      · rfl
theorem alike_on (l : List It) (q q' : Nat) (hq : q' ≤ l.length) (h : ∀ j, q + 1 ≤ j → j < q' → Dc.runB l j = false) (hlt : q < l.length) (he : Dc.ends l[q] = false) : ∀ d j (hj : j < l.length), j = q + d → j < q' → Dc.ends l[j] = false ∧ l[j].m = l[q].m ∧ l[j].l = l[q].l
  | 0, j, hj, e, _ => by
    obtain rfl : j = q := by omega
    exact ⟨he, rfl, rfl⟩
  | d + 1, j, hj, e, hjq => by
    obtain ⟨i, rfl⟩ : ∃ i, j = i + 1 := ⟨q + d, by omega⟩
    obtain ⟨g1, g2, g3⟩ := alike_on l q q' hq h hlt he d i (by omega) (by omega) (by omega)
    have := h (i + 1) (by omega) hjq
    rw [Dc.runB_succ hj] at this
    obtain ⟨t1, t2, t3⟩ := (turns_iff _ _).1 this
    obtain ⟨e1, e2⟩ := not_diff t3
    exact ⟨t2, by rw [e1, g2], by rw [e2, g3]⟩
/-- The run that begins at q and ends ahead of q'. -/
theorem run_at (l : List It) (q q' : Nat) (h1 : q < q') (hq : q' ≤ l.length) (h : ∀ j, q + 1 ≤ j → j < q' → Dc.runB l j = false) (hb : Dc.runB l q = true) (hlt : q < l.length) (he : Dc.ends l[q] = false) :
    flush (run (l.take q')) = { flush (run (l.take q)) with ins := (flush (run (l.take q))).ins ++ seg l[q] (((l.drop q).take (q' - q)).map It.c) } := by
  have hd : l.take q' = l.take q ++ (l.drop q).take (q' - q) := by
    have : q' = q + (q' - q) := by omega
    rw [this, List.take_add]
    simp
  obtain ⟨e, he'⟩ : ∃ e, q' - q = e + 1 := ⟨q' - q - 1, by omega⟩
  have hc : (l.drop q).take (q' - q) = l[q] :: (l.drop (q + 1)).take e := by
    rw [he', List.drop_eq_getElem_cons hlt]
    rfl
  have hr : run (l.take q') = (l[q] :: (l.drop (q + 1)).take e).foldl step (run (l.take q)) := by
    rw [hd, hc]
    unfold run
    rw [List.foldl_append]
  rw [hr, hc]
  refine run_run _ _ _ he (begins l q hlt hb he) ?_
  intro z hz
  obtain ⟨i, hi, rfl⟩ := List.mem_iff_getElem.1 hz
  simp at hi
  have hlen : q + 1 + i < l.length := by omega
  have := alike_on l q q' hq h hlt he (i + 1) (q + 1 + i) hlen (by omega) (by omega)
  simpa using this
/-- Where a block ends. -/
theorem end_at (l : List It) (q : Nat) (hlt : q < l.length) (he : Dc.ends l[q] = true) : flush (run (l.take (q + 1))) = endB (flush (run (l.take q))) l[q].m := by
  rw [run_take l q hlt]
  unfold step
  rw [if_pos he]
  show ({ endB (flush (run (l.take q))) l[q].m with ins := [] ++ tail none [], text := [], last := none } : St) = _
  rfl
end Pg
namespace Pg
/- How long a page is. -/
theorem enc1_len (c : UInt8) : (enc (.ch c)).length ≤ 6 := (Esc.enc1_pos c).2
def pend (t : List UInt8) : Nat := if t.isEmpty then 0 else 6 * t.length + 200
def weight (s : St) : Nat := (bytes s.page).length + (bytes s.ins).length + pend s.text
theorem wrap_len (b : Bool) (n : Nm) (s : List Tok) (hn : (name n).length ≤ 1) : (bytes (wrap b n s)).length ≤ (bytes s).length + 7 := by
  unfold wrap
  cases b
  · simp
  · simp only [if_true, bytes_cons, bytes_append, bytes_nil, enc, List.length_append, List.length_cons, List.length_nil]
    omega
theorem seg_len (x : It) (t : List UInt8) (hl : x.l.size ≤ 24) : (bytes (seg x t)).length ≤ 6 * t.length + 200 := by
  have h0 : (bytes (t.map Tok.ch)).length ≤ 6 * t.length := by rw [bytes_chars]; exact (Esc.wr_len t).2
  have h1 := wrap_len (decide (2 ≤ x.m)) .i (t.map .ch) (by decide)
  have h2 := wrap_len (x.m % 2 == 1) .b (wrap (decide (2 ≤ x.m)) .i (t.map .ch)) (by decide)
  have h3 : (bytes (tags x.m (t.map .ch))).length ≤ 6 * t.length + 14 := by unfold tags; omega
  unfold seg linked
  split
  · omega
  · have h4 := (Esc.wr_len x.l.data.toList).2
    have h5 : x.l.data.toList.length = x.l.size := by simp
    rw [bytes_cons, bytes_append, List.length_append, List.length_append]
    have e1 : (enc (.a x.l.data.toList)).length = 9 + ((Esc.wr x.l.data.toList).length + 2) := by simp [enc, apre]; omega
    have e2 : (bytes [.cl .a]).length = 4 := rfl
    omega
theorem flush_weight (s : St) (hl : s.text ≠ [] → s.last.l.size ≤ 24) : weight (flush s) ≤ weight s := by
  unfold weight
  show (bytes s.page).length + (bytes (s.ins ++ tail s.last s.text)).length + 0 ≤ _
  rw [bytes_append, List.length_append]
  unfold tail pend
  cases h : s.text.isEmpty
  · have h' : s.text ≠ [] := by intro e; rw [e] at h; cases h
    have := seg_len s.last s.text (hl h')
    simp only [Bool.false_eq_true, if_false]
    omega
  · simp [bytes_nil]
theorem lists_len (a b : Bool) : (bytes (lists a b)).length ≤ 5 := by cases a <;> cases b <;> decide
theorem kind_len (m : Int) : (enc (.op (kind m))).length ≤ 4 ∧ (enc (.cl (kind m))).length ≤ 5 := by
  unfold kind
  split
  · decide
  split
  · decide
  split <;> decide
theorem step_weight (s : St) (x : It) (hl : s.text ≠ [] → s.last.l.size ≤ 24) (hx : x.l.size ≤ 24) : weight (step s x) ≤ weight s + 206 ∧ ((step s x).text ≠ [] → (step s x).last.l.size ≤ 24) := by
  have hf := flush_weight s hl
  unfold step
  cases Dc.ends x
  · simp only [Bool.false_eq_true, if_false]
    cases hd : (!s.text.isEmpty && diff s.last x)
    · simp only [Bool.false_eq_true, if_false]
      refine ⟨?_, fun _ => hx⟩
      unfold weight pend
      simp only
      have : (s.text ++ [x.c]).isEmpty = false := by simp
      rw [this]
      simp only [Bool.false_eq_true, if_false, List.length_append, List.length_cons, List.length_nil]
      cases h : s.text.isEmpty
      · simp only [Bool.false_eq_true, if_false]; omega
      · have : s.text = [] := by simpa using h
        rw [this]; simp
    · simp only [if_true]
      refine ⟨?_, fun _ => hx⟩
      show weight (flush s) + 206 ≤ weight s + 206
      omega
  · simp only [if_true]
    refine ⟨?_, fun h => absurd rfl h⟩
    have e : weight (endB (flush s) x.m) = (bytes ((flush s).page ++ lists (flush s).list (x.m == 2) ++ .op (kind x.m) :: ((flush s).ins ++ [.cl (kind x.m)]))).length + 0 + 0 := rfl
    have e2 : weight (flush s) = (bytes (flush s).page).length + (bytes (flush s).ins).length + 0 := rfl
    have h1 := lists_len (flush s).list (x.m == 2)
    have h2 := kind_len x.m
    rw [e, bytes_append, bytes_append, bytes_cons, bytes_append, bytes_cons, bytes_nil]
    simp only [List.length_append, List.length_nil]
    omega
theorem fold_weight : ∀ (l : List It) (s : St), (s.text ≠ [] → s.last.l.size ≤ 24) → (∀ x ∈ l, x.l.size ≤ 24) → weight (l.foldl step s) ≤ weight s + 206 * l.length
  | [], s, _, _ => by simp
  | x :: l, s, hs, hl => by
    obtain ⟨h1, h2⟩ := step_weight s x hs (hl x (by simp))
    have := fold_weight l (step s x) h2 (fun y hy => hl y (by simp [hy]))
    rw [List.foldl_cons]
    simp only [List.length_cons]
    omega
theorem run_weight (l : List It) (hl : ∀ x ∈ l, x.l.size ≤ 24) : weight (run l) ≤ 206 * l.length := by
  have := fold_weight l st0 (fun h => absurd rfl h) hl
  have e : weight st0 = 0 := rfl
  unfold run
  omega
theorem last_short : ∀ (l : List It) (s : St), (s.text ≠ [] → s.last.l.size ≤ 24) → (∀ x ∈ l, x.l.size ≤ 24) → ((l.foldl step s).text ≠ [] → (l.foldl step s).last.l.size ≤ 24)
  | [], _, hs, _ => hs
  | x :: l, s, hs, hl => by
    rw [List.foldl_cons]
    exact last_short l _ (step_weight s x hs (hl x (by simp))).2 (fun y hy => hl y (by simp [hy]))
theorem page_len (l : List It) (hl : ∀ x ∈ l, x.l.size ≤ 24) : (page l).length ≤ 206 * l.length + 5 := by
  have h := run_weight l hl
  have h1 := lists_len (run l).list false
  unfold page toks fin
  rw [bytes_append, List.length_append]
  unfold weight at h
  omega
end Pg
end Go.Proofs.YtpcaiechaakhnabGreatDoor
