/-
  Chapter 5 on lists of bytes: that of what is written of a document the tags are its own, in order, and the texts its characters; and that what stands behind a whole tag is taken apart by itself.
-/
import Derived.Test.YtpcaiechaakhnabGreatDoorPg
import Derived.Test.YtpcaiechaakhnabGreatDoorTp0
namespace Go.Proofs.YtpcaiechaakhnabGreatDoor
open Go.RowKit
namespace Tk
open Pg (Nm Tok enc)
/-- The token of a tag. -/
def one : Tok → Tk
  | .inl (.inl n) => ⟨2, Pg.name n, [], []⟩
  | .inl (.inr n) => ⟨3, Pg.name n, [], []⟩
  | .inr (.inl l) => ⟨2, [97], [], l⟩
  | .inr (.inr c) => txt [c]
def some1 (u : List UInt8) : List Tk := if u.isEmpty then [] else [txt u]
/-- A page's tags and characters as tokens: characters that stand side by side are one. -/
def view : List UInt8 → List Tok → List Tk
  | u, [] => some1 u
  | u, .inr (.inr c) :: r => view (u ++ [c]) r
  | u, .inl (.inl n) :: r => some1 u ++ one (.op n) :: view [] r
  | u, .inl (.inr n) :: r => some1 u ++ one (.cl n) :: view [] r
  | u, .inr (.inl l) :: r => some1 u ++ one (.a l) :: view [] r
theorem toks_op (n : Nm) (r : List UInt8) : toks (enc (.op n) ++ r) = one (.op n) :: toks r := by
  obtain ⟨x, y, z⟩ := n
  cases x <;> cases y <;> cases z <;>
  · show toks (60 :: (_ ++ [62]) ++ r) = _
    rw [List.cons_append, toks_cons]
    rfl
theorem toks_cl (n : Nm) (r : List UInt8) : toks (enc (.cl n) ++ r) = one (.cl n) :: toks r := by
  obtain ⟨x, y, z⟩ := n
  cases x <;> cases y <;> cases z <;>
  · show toks (60 :: 47 :: (_ ++ [62]) ++ r) = _
    rw [List.cons_append, toks_cons]
    rfl
theorem tw' (x : UInt8) (r : List UInt8) (l : List UInt8) (h : ∀ y ∈ l, y ≠ x) : (l ++ x :: r).takeWhile (not x) = l ∧ (l ++ x :: r).dropWhile (not x) = x :: r :=
  Pg.tw (not x) x r (by simp [not]) l (fun y hy => by simpa [not] using h y hy)
theorem toks_a (l r : List UInt8) : toks (enc (.a l) ++ r) = one (.a l) :: toks r := by
  have e : enc (.a l) ++ r = 60 :: 97 :: 32 :: 104 :: 114 :: 101 :: 102 :: 61 :: 34 :: (Esc.wr l ++ 34 :: 62 :: r) := by
    show (Pg.apre ++ (Esc.wr l ++ [34, 62])) ++ r = _
    rw [List.append_assoc, List.append_assoc]
    rfl
  obtain ⟨h1, h2⟩ := tw' 34 (62 :: r) (Esc.wr l) (fun y hy => (Esc.wr_plain l y hy).2.2)
  have hv : value (61 :: 34 :: (Esc.wr l ++ 34 :: 62 :: r)) = (Esc.wr l, 62 :: r) := by
    show ((Esc.wr l ++ 34 :: 62 :: r).takeWhile (not 34), ((Esc.wr l ++ 34 :: 62 :: r).dropWhile (not 34)).drop 1) = _
    rw [h1, h2]
    rfl
  have ha : attr (32 :: 104 :: 114 :: 101 :: 102 :: 61 :: 34 :: (Esc.wr l ++ 34 :: 62 :: r)) none = some (some (Esc.wr l), r) := by
    rw [attr_cons]
    show attr (104 :: 114 :: 101 :: 102 :: 61 :: 34 :: (Esc.wr l ++ 34 :: 62 :: r)) none = _
    rw [attr_cons]
    show attr (value (61 :: 34 :: (Esc.wr l ++ 34 :: 62 :: r))).2 (some (value (61 :: 34 :: (Esc.wr l ++ 34 :: 62 :: r))).1) = _
    rw [hv, attr_cons]
    rfl
  have ht : tag false (97 :: 32 :: 104 :: 114 :: 101 :: 102 :: 61 :: 34 :: (Esc.wr l ++ 34 :: 62 :: r)) = ([one (.a l)], r) := by
    unfold tag
    show (match attr (32 :: 104 :: 114 :: 101 :: 102 :: 61 :: 34 :: (Esc.wr l ++ 34 :: 62 :: r)) none with
      | some (h, r) => ([(⟨2, [97], [], Esc.rd (h.getD [])⟩ : Tk)], r)
      | none => ([], [])) = _
    rw [ha]
    simp only [Option.getD_some, Esc.rd_wr]
    rfl
  rw [e, toks_cons]
  show (tag false (97 :: 32 :: 104 :: 114 :: 101 :: 102 :: 61 :: 34 :: (Esc.wr l ++ 34 :: 62 :: r))).1 ++ toks (tag false (97 :: 32 :: 104 :: 114 :: 101 :: 102 :: 61 :: 34 :: (Esc.wr l ++ 34 :: 62 :: r))).2 = _
  rw [ht]
  rfl
theorem all_tw (p : UInt8 → Bool) : ∀ t : List UInt8, (∀ y ∈ t, p y = true) → t.takeWhile p = t ∧ t.dropWhile p = []
  | [], _ => ⟨rfl, rfl⟩
  | x :: t, h => by
    obtain ⟨h1, h2⟩ := all_tw p t (fun y hy => h y (by simp [hy]))
    have hx := h x (by simp)
    exact ⟨by rw [List.takeWhile_cons, hx, h1]; rfl, by rw [List.dropWhile_cons, hx, h2]; rfl⟩
theorem wr_cons_ne (u : List UInt8) (h : u ≠ []) : ∃ c t, Esc.wr u = c :: t := by
  cases hw : Esc.wr u with
  | nil =>
    have := (Esc.wr_len u).1
    rw [hw] at this
    cases u with
    | nil => exact absurd rfl h
    | cons => simp at this
  | cons c t => exact ⟨c, t, rfl⟩
/-- A text, and behind it the end, or a '<'. -/
theorem toks_text (u r : List UInt8) (hr : r = [] ∨ ∃ s, r = 60 :: s) : toks (Esc.wr u ++ r) = some1 u ++ toks r := by
  by_cases hu : u = []
  · subst hu; rfl
  · obtain ⟨c, t, hw⟩ := wr_cons_ne u hu
    have hp := Esc.wr_plain u
    rw [hw] at hp
    have hc : (c == 60) = false := by simpa using (hp c (by simp)).1
    have h1 : (t ++ r).takeWhile (not 60) = t ∧ (t ++ r).dropWhile (not 60) = r := by
      rcases hr with rfl | ⟨s, rfl⟩
      · have ht : ∀ y ∈ t, not 60 y = true := fun y hy => by simpa [not] using (hp y (by simp [hy])).1
        rw [List.append_nil]
        exact all_tw (not 60) t ht
      · exact tw' 60 s t (fun y hy => (hp y (by simp [hy])).1)
    have hs : some1 u = [txt u] := by unfold some1; cases u with | nil => exact absurd rfl hu | cons => rfl
    rw [hw, List.cons_append, toks_cons]
    unfold first
    rw [hc]
    simp only [Bool.false_eq_true, if_false, h1.1, h1.2]
    rw [hs, ← hw, Esc.rd_wr]
/-- What a page is taken apart into. -/
theorem toks_bytes : ∀ (ts : List Tok) (u : List UInt8), toks (Esc.wr u ++ Pg.bytes ts) = view u ts
  | [], u => by
    rw [Pg.bytes_nil, toks_text u [] (.inl rfl), toks_nil, List.append_nil]
    rfl
  | .inr (.inr c) :: r, u => by
    have e : Esc.wr u ++ Pg.bytes (.ch c :: r) = Esc.wr (u ++ [c]) ++ Pg.bytes r := by
      rw [Pg.bytes_cons, Esc.wr_append, Esc.wr_one, List.append_assoc]
      rfl
    rw [e, toks_bytes r (u ++ [c])]
    rfl
  | .inl (.inl n) :: r, u => by
    have ih := toks_bytes r []
    rw [Esc.wr_nil, List.nil_append] at ih
    rw [Pg.bytes_cons, toks_text u (enc (.op n) ++ Pg.bytes r) (.inr ⟨_, rfl⟩), toks_op, ih]
    rfl
  | .inl (.inr n) :: r, u => by
    have ih := toks_bytes r []
    rw [Esc.wr_nil, List.nil_append] at ih
    rw [Pg.bytes_cons, toks_text u (enc (.cl n) ++ Pg.bytes r) (.inr ⟨_, rfl⟩), toks_cl, ih]
    rfl
  | .inr (.inl l) :: r, u => by
    have ih := toks_bytes r []
    rw [Esc.wr_nil, List.nil_append] at ih
    rw [Pg.bytes_cons, toks_text u (enc (.a l) ++ Pg.bytes r) (.inr ⟨_, rfl⟩), toks_a, ih]
    rfl
theorem toks_page (l : List It) : toks (Pg.page l) = view [] (Pg.toks l) := toks_bytes (Pg.toks l) []
end Tk
namespace Tk
open Pg (Nm Tok enc St)
def names : List (List UInt8) := [[112], [104, 49], [104, 50], [108, 105], [117, 108], [97], [98], [105]]
/-- Whether a tag may open where these are open. -/
def okOpen (o : List (List UInt8)) (k : Tk) : Bool := names.contains k.name && ((k.name == [97]) == !k.href.isEmpty) && (k.href.isEmpty || Lk.may k.href) && !o.contains k.name
/-- Tags that open and shut in order, and the texts: what is open, and what was read. -/
def chk : List Tk → List (List UInt8) → List UInt8 → Option (List (List UInt8) × List UInt8)
  | [], o, t => some (o, t)
  | k :: ks, o, t => if k.kind == 1 then chk ks o (t ++ k.text) else if k.kind == 2 then (if okOpen o k then chk ks (o ++ [k.name]) t else none)
      else if k.kind == 3 then (if o.getLast? == some k.name then chk ks o.dropLast t else none) else none
def chkP : List Tok → List (List UInt8) → List UInt8 → Option (List (List UInt8) × List UInt8)
  | [], o, t => some (o, t)
  | .inr (.inr c) :: r, o, t => chkP r o (t ++ [c])
  | .inl (.inl n) :: r, o, t => if okOpen o (one (.op n)) then chkP r (o ++ [Pg.name n]) t else none
  | .inl (.inr n) :: r, o, t => if o.getLast? == some (Pg.name n) then chkP r o.dropLast t else none
  | .inr (.inl l) :: r, o, t => if okOpen o (one (.a l)) then chkP r (o ++ [[97]]) t else none
theorem chk_some1 (u : List UInt8) (ks : List Tk) (o : List (List UInt8)) (t : List UInt8) : chk (some1 u ++ ks) o t = chk ks o (t ++ u) := by
  unfold some1
  cases h : u.isEmpty
  · simp [chk, txt]
  · have : u = [] := by simpa using h
    subst this
    simp
theorem chk_view : ∀ (ts : List Tok) (u : List UInt8) (o : List (List UInt8)) (t : List UInt8), chk (view u ts) o t = chkP ts o (t ++ u)
  | [], u, o, t => by
    have := chk_some1 u [] o t
    rw [List.append_nil] at this
    exact this
  | .inr (.inr c) :: r, u, o, t => by
    rw [view, chk_view r, chkP, List.append_assoc]
  | .inl (.inl n) :: r, u, o, t => by
    rw [view, chk_some1]
    show (if okOpen o (one (.op n)) then chk (view [] r) (o ++ [Pg.name n]) (t ++ u) else none) = _
    rw [chk_view r, List.append_nil]
    rfl
  | .inl (.inr n) :: r, u, o, t => by
    rw [view, chk_some1]
    show (if o.getLast? == some (Pg.name n) then chk (view [] r) o.dropLast (t ++ u) else none) = _
    rw [chk_view r, List.append_nil]
    rfl
  | .inr (.inl l) :: r, u, o, t => by
    rw [view, chk_some1]
    show (if okOpen o (one (.a l)) then chk (view [] r) (o ++ [[97]]) (t ++ u) else none) = _
    rw [chk_view r, List.append_nil]
    rfl
theorem chkP_append : ∀ (s r : List Tok) (o : List (List UInt8)) (t : List UInt8), chkP (s ++ r) o t = (chkP s o t).bind fun x => chkP r x.1 x.2
  | [], r, o, t => rfl
  | .inr (.inr c) :: s, r, o, t => by rw [List.cons_append, chkP, chkP, chkP_append s r]
  | .inl (.inl n) :: s, r, o, t => by
    rw [List.cons_append, chkP, chkP, chkP_append s r]
    split <;> rfl
  | .inl (.inr n) :: s, r, o, t => by
    rw [List.cons_append, chkP, chkP, chkP_append s r]
    split <;> rfl
  | .inr (.inl l) :: s, r, o, t => by
    rw [List.cons_append, chkP, chkP, chkP_append s r]
    split <;> rfl
theorem chkP_chars : ∀ (u : List UInt8) (o : List (List UInt8)) (t : List UInt8), chkP (u.map .ch) o t = some (o, t ++ u)
  | [], o, t => by simp [chkP]
  | c :: u, o, t => by rw [List.map_cons, chkP, chkP_chars u, List.append_assoc]; rfl
theorem ok_op (o : List (List UInt8)) (n : Nm) (hn : n ≠ .a) (h : o.contains (Pg.name n) = false) : okOpen o (one (.op n)) = true := by
  unfold okOpen
  rw [show (one (.op n)).name = Pg.name n from rfl, h]
  obtain ⟨x, y, z⟩ := n
  cases x <;> cases y <;> cases z <;> first | rfl | exact absurd rfl hn
/-- What stands between a tag that opens and one that shuts. -/
theorem chkP_wrap (n : Nm) (s : List Tok) (o : List (List UInt8)) (t u : List UInt8) (hn : n ≠ .a) (h : o.contains (Pg.name n) = false) (hs : chkP s (o ++ [Pg.name n]) t = some (o ++ [Pg.name n], t ++ u)) :
    chkP (.op n :: (s ++ [.cl n])) o t = some (o, t ++ u) := by
  rw [chkP, ok_op o n hn h, if_pos rfl, chkP_append, hs]
  show chkP [.cl n] (o ++ [Pg.name n]) (t ++ u) = _
  rw [chkP, List.getLast?_append]
  simp [chkP]
/-- None of these is a, b, i. -/
def clean (o : List (List UInt8)) : Prop := o.contains [97] = false ∧ o.contains [98] = false ∧ o.contains [105] = false
theorem has_app (o : List (List UInt8)) (x y : List UInt8) (h : o.contains x = false) (hxy : x ≠ y) : (o ++ [y]).contains x = false := by
  have h' : x ∉ o := by simpa using h
  simp [h', hxy]
theorem chkP_tags (m : Int) (h0 : 0 ≤ m) (h3 : m ≤ 3) (u : List UInt8) (o : List (List UInt8)) (t : List UInt8) (h1 : o.contains [98] = false) (h2 : o.contains [105] = false) : chkP (Pg.tags m (u.map .ch)) o t = some (o, t ++ u) := by
  have hm : m = 0 ∨ m = 1 ∨ m = 2 ∨ m = 3 := by omega
  rcases hm with rfl | rfl | rfl | rfl
  · exact chkP_chars u o t
  · exact chkP_wrap .b _ o t u (by decide) h1 (chkP_chars u _ t)
  · exact chkP_wrap .i _ o t u (by decide) h2 (chkP_chars u _ t)
  · exact chkP_wrap .b _ o t u (by decide) h1 (chkP_wrap .i _ _ t u (by decide) (has_app o _ _ h2 (by decide)) (chkP_chars u _ t))
/-- An item whose marks and link may be. -/
def Good (x : It) : Prop := 0 ≤ x.m ∧ x.m ≤ 3 ∧ (x.l.toList.isEmpty = true ∨ Lk.may x.l.data.toList = true)
theorem chkP_seg (x : It) (hx : Good x) (u : List UInt8) (o : List (List UInt8)) (t : List UInt8) (ho : clean o) : chkP (Pg.seg x u) o t = some (o, t ++ u) := by
  obtain ⟨h0, h3, hl⟩ := hx
  obtain ⟨oa, ob, oi⟩ := ho
  unfold Pg.seg Pg.linked
  cases he : x.l.toList.isEmpty
  · have hmay : Lk.may x.l.data.toList = true := by rcases hl with h | h; rw [he] at h; cases h; exact h
    have hne : x.l.data.toList.isEmpty = false := by rw [← Lib.toList_data]; exact he
    have hok : okOpen o (one (.a x.l.data.toList)) = true := by
      unfold okOpen
      show (names.contains [97] && (([97] == [97]) == !x.l.data.toList.isEmpty) && (x.l.data.toList.isEmpty || Lk.may x.l.data.toList) && !o.contains [97]) = true
      rw [hne, hmay, oa]
      rfl
    rw [if_neg (by decide), chkP, hok, if_pos rfl, chkP_append, chkP_tags x.m h0 h3 u _ t (has_app o _ _ ob (by decide)) (has_app o _ _ oi (by decide))]
    show chkP [.cl .a] (o ++ [[97]]) (t ++ u) = _
    rw [chkP, List.getLast?_append]
    simp [chkP, Pg.name]
  · rw [if_pos rfl]
    exact chkP_tags x.m h0 h3 u o t ob oi
def stk (b : Bool) : List (List UInt8) := if b then [[117, 108]] else []
theorem chkP_lists (a b : Bool) (t : List UInt8) : chkP (Pg.lists a b) (stk a) t = some (stk b, t) := by
  cases a <;> cases b <;> rfl
def chars (l : List It) : List UInt8 := (l.filter (fun x => !Dc.ends x)).map It.c
theorem chars_snoc (l : List It) (x : It) : chars (l ++ [x]) = if Dc.ends x then chars l else chars l ++ [x.c] := by
  unfold chars
  rw [List.filter_append, List.map_append]
  cases h : Dc.ends x <;> simp [h]
structure CInv (S : St) (l : List It) : Prop where
  back : ∃ T1 T2, chkP S.page [] [] = some (stk S.list, T1) ∧ (∀ o t, clean o → chkP S.ins o t = some (o, t ++ T2)) ∧ chars l = T1 ++ T2 ++ S.text
  ok : S.text ≠ [] → Good S.last
theorem CInv.flush {S : St} {l : List It} (h : CInv S l) : CInv (Pg.flush S) l := by
  obtain ⟨⟨T1, T2, h1, h2, h3⟩, h4⟩ := h
  refine ⟨⟨T1, T2 ++ S.text, h1, fun o t ho => ?_, ?_⟩, fun h => absurd rfl h⟩
  · show chkP (S.ins ++ Pg.tail S.last S.text) o t = _
    rw [chkP_append, h2 o t ho]
    show chkP (Pg.tail S.last S.text) o (t ++ T2) = _
    unfold Pg.tail
    cases ht : S.text.isEmpty
    · have hne : S.text ≠ [] := by intro e; rw [e] at ht; cases ht
      rw [if_neg (by decide), chkP_seg S.last (h4 hne) S.text o _ ho, List.append_assoc]
    · have e : S.text = [] := by simpa using ht
      rw [if_pos rfl, e, List.append_nil]
      rfl
  · rw [h3]
    show _ = T1 ++ (T2 ++ S.text) ++ []
    simp
theorem kind_clean (b : Bool) (m : Int) : clean (stk b ++ [Pg.name (Pg.kind m)]) ∧ (stk b).contains (Pg.name (Pg.kind m)) = false ∧ Pg.kind m ≠ .a := by
  unfold clean Pg.kind
  split
  · cases b <;> decide
  split
  · cases b <;> decide
  split
  · cases b <;> decide
  · cases b <;> decide
theorem CInv.step {S : St} {l : List It} {x : It} (h : CInv S l) (hx : Good x) : CInv (Pg.step S x) (l ++ [x]) := by
  unfold Pg.step
  cases he : Dc.ends x
  · simp only [Bool.false_eq_true, if_false]
    cases hd : (!S.text.isEmpty && Pg.diff S.last x)
    · simp only [Bool.false_eq_true, if_false]
      obtain ⟨⟨T1, T2, h1, h2, h3⟩, h4⟩ := h
      refine ⟨⟨T1, T2, h1, h2, ?_⟩, fun _ => hx⟩
      rw [chars_snoc, he, h3]
      simp
    · simp only [if_true]
      obtain ⟨⟨T1, T2, h1, h2, h3⟩, h4⟩ := h.flush
      refine ⟨⟨T1, T2, h1, h2, ?_⟩, fun _ => hx⟩
      rw [chars_snoc, he, h3, Pg.flush_text]
      simp
  · simp only [if_true]
    obtain ⟨⟨T1, T2, h1, h2, h3⟩, h4⟩ := h.flush
    refine ⟨⟨T1 ++ T2, [], ?_, fun o t _ => ?_, ?_⟩, fun h => absurd (Pg.flush_text S) h⟩
    · show chkP ((Pg.flush S).page ++ Pg.lists (Pg.flush S).list (x.m == 2) ++ .op (Pg.kind x.m) :: ((Pg.flush S).ins ++ [.cl (Pg.kind x.m)])) [] [] = some (stk (x.m == 2), T1 ++ T2)
      obtain ⟨k1, k2, k3⟩ := kind_clean (x.m == 2) x.m
      rw [chkP_append, chkP_append, h1]
      show ((chkP (Pg.lists (Pg.flush S).list (x.m == 2)) (stk (Pg.flush S).list) T1).bind fun z => chkP (.op (Pg.kind x.m) :: ((Pg.flush S).ins ++ [.cl (Pg.kind x.m)])) z.1 z.2) = _
      rw [chkP_lists]
      exact chkP_wrap (Pg.kind x.m) _ _ T1 T2 k3 k2 (h2 _ _ k1)
    · show chkP [] o t = _
      simp [chkP]
    · rw [chars_snoc, he, h3, Pg.flush_text]
      show _ = T1 ++ T2 ++ [] ++ (Pg.flush S).text
      rw [Pg.flush_text]
      simp
theorem cinv_fold : ∀ (l k : List It) (s : St), CInv s k → (∀ x ∈ l, Good x) → CInv (l.foldl Pg.step s) (k ++ l)
  | [], k, s, h, _ => by simpa using h
  | x :: l, k, s, h, hl => by
    rw [List.foldl_cons, show k ++ x :: l = (k ++ [x]) ++ l by simp]
    exact cinv_fold l (k ++ [x]) _ (h.step (hl x (by simp))) (fun y hy => hl y (by simp [hy]))
/-- Of what is written of a document the tags are its own, each that is opened is shut, in order, links lead where one may be led; its texts are the characters. -/
theorem safe (l : List It) (x : It) (he : Dc.ends x = true) (hl : ∀ y ∈ l ++ [x], Good y) : chk (toks (Pg.page (l ++ [x]))) [] [] = some ([], chars (l ++ [x])) := by
  have h : CInv (Pg.run (l ++ [x])) (l ++ [x]) := by
    have := cinv_fold (l ++ [x]) [] Pg.st0 ⟨⟨[], [], rfl, fun o t _ => by simp [chkP, Pg.st0], rfl⟩, fun h => absurd rfl h⟩ hl
    rw [List.nil_append] at this
    exact this
  obtain ⟨⟨T1, T2, h1, h2, h3⟩, _⟩ := h
  have hr := Pg.run_ends l x he
  rw [toks_page, chk_view, List.append_nil]
  unfold Pg.toks Pg.fin
  rw [chkP_append, h1]
  show chkP (Pg.lists (Pg.run (l ++ [x])).list false) (stk (Pg.run (l ++ [x])).list) T1 = _
  rw [chkP_lists, h3]
  have e2 : T2 = [] := by
    have := h2 [] [] ⟨rfl, rfl, rfl⟩
    rw [hr] at this
    have e : chkP (Pg.endB (Pg.flush (Pg.run l)) x.m).ins [] [] = some ([], []) := rfl
    rw [e] at this
    simpa using this.symm
  have e3 : (Pg.run (l ++ [x])).text = [] := by rw [hr]; rfl
  rw [e2, e3]
  simp [stk]
end Tk
namespace Tk
/-- It ends with a '>'. -/
def E (w : List UInt8) : Prop := w.getLast? = some 62
def qL : List UInt8 := [60, 113, 62]
theorem E_nil : ¬ E [] := by intro h; cases h
theorem E_tail {c : UInt8} {t : List UInt8} (h : E (c :: t)) (hc : c ≠ 62) : E t := by
  cases t with
  | nil => unfold E at h; simp at h; exact absurd h hc
  | cons d u => unfold E at h ⊢; rw [List.getLast?_cons_cons] at h; exact h
theorem E_app : ∀ (a : List UInt8) (c : UInt8) (b : List UInt8), E (a ++ c :: b) → E (c :: b)
  | [], _, _, h => h
  | x :: a, c, b, h => by
    refine E_app a c b ?_
    unfold E at h ⊢
    cases ha : a ++ c :: b with
    | nil => simp at ha
    | cons d u => rw [List.cons_append, ha, List.getLast?_cons_cons] at h; exact h
theorem E_drop : ∀ (n : Nat) {w : List UInt8}, E w → w.drop n = [] ∨ E (w.drop n)
  | 0, w, h => .inr h
  | n + 1, [], h => .inl rfl
  | n + 1, c :: t, h => by
    show t.drop n = [] ∨ E (t.drop n)
    cases t with
    | nil => exact .inl (by simp)
    | cons d u => exact E_drop n (by unfold E at h ⊢; rw [List.getLast?_cons_cons] at h; exact h)
theorem E_dw (p : UInt8 → Bool) (hp : p 62 = false) : ∀ {w : List UInt8}, E w → E (w.dropWhile p) ∧ ∀ X, (w ++ X).takeWhile p = w.takeWhile p ∧ (w ++ X).dropWhile p = w.dropWhile p ++ X
  | [], h => absurd h E_nil
  | c :: t, h => by
    cases hc : p c
    · refine ⟨by rw [List.dropWhile_cons, hc]; exact h, fun X => ⟨?_, ?_⟩⟩
      · rw [List.cons_append, List.takeWhile_cons, List.takeWhile_cons, hc]; rfl
      · rw [List.cons_append, List.dropWhile_cons, List.dropWhile_cons, hc]; rfl
    · obtain ⟨h1, h2⟩ := E_dw p hp (E_tail h (by intro e; rw [e, hp] at hc; cases hc))
      refine ⟨by rw [List.dropWhile_cons, hc]; exact h1, fun X => ⟨?_, ?_⟩⟩
      · rw [List.cons_append, List.takeWhile_cons, List.takeWhile_cons, hc, (h2 X).1]
      · rw [List.cons_append, List.dropWhile_cons, List.dropWhile_cons, hc, (h2 X).2]; rfl
/-- A quote: it comes, or it doesn't. -/
theorem quote (q : UInt8) : ∀ (w : List UInt8), (∃ r, w.dropWhile (not q) = q :: r ∧ ∀ X, (w ++ X).takeWhile (not q) = w.takeWhile (not q) ∧ (w ++ X).dropWhile (not q) = q :: (r ++ X)) ∨ (∀ y ∈ w, not q y = true)
  | [] => .inr (fun y hy => by simp at hy)
  | c :: t => by
    cases hc : not q c
    · have e : c = q := by simpa [not] using hc
      subst e
      refine .inl ⟨t, by rw [List.dropWhile_cons, hc]; rfl, fun X => ⟨?_, ?_⟩⟩
      · rw [List.cons_append, List.takeWhile_cons, List.takeWhile_cons, hc]; rfl
      · rw [List.cons_append, List.dropWhile_cons, hc]; rfl
    · rcases quote q t with ⟨r, h1, h2⟩ | h
      · refine .inl ⟨r, by rw [List.dropWhile_cons, hc]; exact h1, fun X => ⟨?_, ?_⟩⟩
        · rw [List.cons_append, List.takeWhile_cons, List.takeWhile_cons, hc, (h2 X).1]
        · rw [List.cons_append, List.dropWhile_cons, hc]; exact (h2 X).2
      · exact .inr (fun y hy => by rcases List.mem_cons.1 hy with rfl | hy; exact hc; exact h y hy)
/-- A value: it ends ahead of the end, or it doesn't. -/
theorem val_E {w : List UInt8} (h : E w) : (∃ v r, val w = (v, r) ∧ E r ∧ ∀ X, val (w ++ X) = (v, r ++ X)) ∨ (∃ v, val w = (v, []) ∧ ∃ v', val (w ++ qL) = (v', [])) := by
  cases w with
  | nil => exact absurd h E_nil
  | cons q r =>
    cases hq : (q == 34 || q == 39)
    · left
      obtain ⟨h1, h2⟩ := E_dw avl (by decide) h
      refine ⟨(q :: r).takeWhile avl, (q :: r).dropWhile avl, by rw [val, hq]; rfl, h1, fun X => ?_⟩
      rw [List.cons_append, val, hq]
      show ((q :: (r ++ X)).takeWhile avl, (q :: (r ++ X)).dropWhile avl) = _
      have := h2 X
      rw [List.cons_append] at this
      rw [this.1, this.2]
    · have hne : q ≠ 62 := by intro e; subst e; cases hq
      have hr := E_tail h hne
      rcases quote q r with ⟨u, h1, h2⟩ | h1
      · left
        have hu : E u := by
          have e := List.takeWhile_append_dropWhile (p := not q) (l := r)
          rw [h1] at e
          rw [← e] at hr
          exact E_tail (E_app _ _ _ hr) hne
        refine ⟨r.takeWhile (not q), u, ?_, hu, fun X => ?_⟩
        · rw [val, hq, h1]; rfl
        · rw [List.cons_append, val, hq, (h2 X).1, (h2 X).2]; rfl
      · right
        obtain ⟨a1, a2⟩ := all_tw (not q) r h1
        have hqq : q = 34 ∨ q = 39 := by simpa using hq
        have h3 : ∀ y ∈ r ++ qL, not q y = true := fun y hy => by
          rcases List.mem_append.1 hy with hy | hy
          · exact h1 y hy
          · have y1 : ∀ y ∈ qL, not 34 y = true := by decide
            have y2 : ∀ y ∈ qL, not 39 y = true := by decide
            rcases hqq with rfl | rfl
            · exact y1 y hy
            · exact y2 y hy
        obtain ⟨b1, b2⟩ := all_tw (not q) (r ++ qL) h3
        refine ⟨r, ?_, r ++ qL, ?_⟩
        · rw [val, hq, a1, a2]; rfl
        · rw [List.cons_append, val, hq, b1, b2]; rfl
theorem value_E {w : List UInt8} (h : E w) : (∃ v r, value w = (v, r) ∧ E r ∧ ∀ X, value (w ++ X) = (v, r ++ X)) ∨ (∃ v, value w = (v, []) ∧ ∃ v', value (w ++ qL) = (v', [])) := by
  obtain ⟨h1, h2⟩ := E_dw sp (by decide) h
  cases hd : w.dropWhile sp with
  | nil => rw [hd] at h1; exact absurd h1 E_nil
  | cons c r2 =>
    rw [hd] at h1 h2
    have hX : ∀ X, value (w ++ X) = if c == 61 then val ((r2 ++ X).dropWhile sp) else ([], w ++ X) := fun X => by
      unfold value
      rw [(h2 X).2]
      rfl
    have h0 : value w = if c == 61 then val (r2.dropWhile sp) else ([], w) := by
      unfold value
      rw [hd]
    cases hc : (c == 61)
    · left
      refine ⟨[], w, by rw [h0, hc]; rfl, h, fun X => by rw [hX, hc]; rfl⟩
    · have hne : c ≠ 62 := by intro e; subst e; cases hc
      obtain ⟨h3, h4⟩ := E_dw sp (by decide) (E_tail h1 hne)
      have h0' : value w = val (r2.dropWhile sp) := by rw [h0, hc]; rfl
      have hX' : ∀ X, value (w ++ X) = val (r2.dropWhile sp ++ X) := fun X => by rw [hX, hc, (h4 X).2]; rfl
      rcases val_E h3 with ⟨v, r, g1, g2, g3⟩ | ⟨v, g1, v', g2⟩
      · exact .inl ⟨v, r, by rw [h0', g1], g2, fun X => by rw [hX', g3]⟩
      · exact .inr ⟨v, by rw [h0', g1], v', by rw [hX', g2]⟩
theorem attr_E : ∀ (n : Nat) (w : List UInt8) (h : Option (List UInt8)), w.length ≤ n → E w →
    (∃ h' r, attr w h = some (h', r) ∧ (r = [] ∨ E r) ∧ ∀ X, attr (w ++ X) h = some (h', r ++ X)) ∨ (attr w h = none ∧ attr (w ++ qL) h = none)
  | _, [], _, _, he => absurd he E_nil
  | 0, _ :: _, _, hn, _ => by simp at hn
  | n + 1, c :: t, h, hn, he => by
    simp only [List.length_cons] at hn
    have hX : ∀ X, attr (c :: t ++ X) h = _ := fun X => by rw [List.cons_append, attr_cons]
    cases hc : (c == 62)
    · have hne : c ≠ 62 := by simpa using hc
      have ht := E_tail he hne
      cases hs : (sp c || c == 47)
      · obtain ⟨k1, k2⟩ := E_dw anm (by decide) ht
        have hl1 := dw_len anm t
        have hl2 := value_len (t.dropWhile anm)
        have e0 : attr (c :: t) h = attr (value (t.dropWhile anm)).2 (if Lk.small (c :: t.takeWhile anm) == hrefL && h.isNone then some (value (t.dropWhile anm)).1 else h) := by rw [attr_cons, hc, hs]; rfl
        have eX : ∀ X, attr (c :: t ++ X) h = attr (value (t.dropWhile anm ++ X)).2 (if Lk.small (c :: t.takeWhile anm) == hrefL && h.isNone then some (value (t.dropWhile anm ++ X)).1 else h) := fun X => by
          rw [hX, hc, hs, (k2 X).1, (k2 X).2]; rfl
        rcases value_E k1 with ⟨v, r, g1, g2, g3⟩ | ⟨v, g1, v', g2⟩
        · rw [g1] at e0 hl2
          simp only at e0 hl2
          rcases attr_E n r (if Lk.small (c :: t.takeWhile anm) == hrefL && h.isNone then some v else h) (by omega) g2 with ⟨h', r', f1, f2, f3⟩ | ⟨f1, f2⟩
          · exact .inl ⟨h', r', by rw [e0, f1], f2, fun X => by rw [eX, g3]; exact f3 X⟩
          · exact .inr ⟨by rw [e0, f1], by rw [eX, g3]; exact f2⟩
        · rw [g1] at e0
          exact .inr ⟨by rw [e0]; rfl, by rw [eX, g2]; rfl⟩
      · have e0 : attr (c :: t) h = attr t h := by rw [attr_cons, hc, hs]; rfl
        have eX : ∀ X, attr (c :: t ++ X) h = attr (t ++ X) h := fun X => by rw [hX, hc, hs]; rfl
        rcases attr_E n t h (by omega) ht with ⟨h', r, f1, f2, f3⟩ | ⟨f1, f2⟩
        · exact .inl ⟨h', r, by rw [e0, f1], f2, fun X => by rw [eX, f3]⟩
        · exact .inr ⟨by rw [e0, f1], by rw [eX, f2]⟩
    · left
      refine ⟨h, t, by rw [attr_cons, hc]; rfl, ?_, fun X => by rw [hX, hc]; rfl⟩
      exact E_drop 1 he
theorem tag_E (b : Bool) {u : List UInt8} (h : E u) : (∃ k r, tag b u = (k, r) ∧ (r = [] ∨ E r) ∧ ∀ X, tag b (u ++ X) = (k, r ++ X)) ∨ (tag b u = ([], []) ∧ tag b (u ++ qL) = ([], [])) := by
  obtain ⟨h1, h2⟩ := E_dw nam (by decide) h
  have eX : ∀ X, tag b (u ++ X) = match attr (u.dropWhile nam ++ X) none with
      | some (h, r) => ([⟨if b then 3 else 2, Lk.small (u.takeWhile nam), [], if b then [] else Esc.rd (h.getD [])⟩], r)
      | none => ([], []) := fun X => by
    unfold tag
    rw [(h2 X).1, (h2 X).2]
    cases attr (u.dropWhile nam ++ X) none with
    | none => rfl
    | some x => rfl
  rcases attr_E _ _ none (Nat.le_refl _) h1 with ⟨h', r, f1, f2, f3⟩ | ⟨f1, f2⟩
  · refine .inl ⟨_, r, by unfold tag; rw [f1], f2, fun X => by rw [eX, f3]⟩
  · exact .inr ⟨by unfold tag; rw [f1], by rw [eX, f2]⟩
theorem pre_app (p : List UInt8) (w X : List UInt8) (h : p.isPrefixOf w = true) : p.isPrefixOf (w ++ X) = true := by
  rw [List.isPrefixOf_iff_prefix] at h ⊢
  exact h.trans (List.prefix_append w X)
theorem after1_E : ∀ {w : List UInt8}, E w → ∃ r, after [62] w = some r ∧ (r = [] ∨ E r) ∧ ∀ X, after [62] (w ++ X) = some (r ++ X)
  | [], h => absurd h E_nil
  | c :: t, h => by
    by_cases hc : c = 62
    · subst hc
      exact ⟨t, rfl, E_drop 1 h, fun X => rfl⟩
    · obtain ⟨r, h1, h2, h3⟩ := after1_E (E_tail h hc)
      have hb : (62 == c) = false := by simpa using fun e => hc e.symm
      have hp : ∀ z : List UInt8, ([62] : List UInt8).isPrefixOf (c :: z) = false := fun z => by simp [List.isPrefixOf, hb]
      refine ⟨r, by rw [after, hp]; exact h1, h2, fun X => ?_⟩
      rw [List.cons_append, after, hp]
      exact h3 X
def dash : List UInt8 := [45, 45, 62]
theorem dash_app {w : List UInt8} (h : E w) (X : List UInt8) : dash.isPrefixOf (w ++ X) = dash.isPrefixOf w := by
  match w, h with
  | [], h => exact absurd h E_nil
  | [a], h =>
    have : a = 62 := by unfold E at h; simpa using h
    subst this; rfl
  | [a, b], h =>
    have : b = 62 := by unfold E at h; simpa using h
    subst this
    simp [dash, List.isPrefixOf]
  | a :: b :: c :: t, _ => simp [dash, List.isPrefixOf]
theorem after3_E : ∀ {w : List UInt8}, E w → (∃ r, after dash w = some r ∧ (r = [] ∨ E r) ∧ ∀ X, after dash (w ++ X) = some (r ++ X)) ∨ (after dash w = none ∧ after dash (w ++ qL) = none)
  | [], h => absurd h E_nil
  | c :: t, h => by
    have hX : ∀ X, after dash (c :: t ++ X) = if dash.isPrefixOf (c :: t) then some ((c :: t ++ X).drop 3) else after dash (t ++ X) := fun X => by
      have := dash_app h X
      rw [List.cons_append] at this ⊢
      rw [after, this]
      rfl
    cases hp : dash.isPrefixOf (c :: t)
    · have h0 : after dash (c :: t) = after dash t := by rw [after, hp]; rfl
      by_cases hc : c = 62
      · subst hc
        cases t with
        | nil => exact .inr ⟨rfl, rfl⟩
        | cons d u =>
          have ht : E (d :: u) := by unfold E at h ⊢; rw [List.getLast?_cons_cons] at h; exact h
          rcases after3_E ht with ⟨r, g1, g2, g3⟩ | ⟨g1, g2⟩
          · exact .inl ⟨r, by rw [h0, g1], g2, fun X => by rw [hX, hp]; exact g3 X⟩
          · exact .inr ⟨by rw [h0, g1], by rw [hX, hp]; exact g2⟩
      · rcases after3_E (E_tail h hc) with ⟨r, g1, g2, g3⟩ | ⟨g1, g2⟩
        · exact .inl ⟨r, by rw [h0, g1], g2, fun X => by rw [hX, hp]; exact g3 X⟩
        · exact .inr ⟨by rw [h0, g1], by rw [hX, hp]; exact g2⟩
    · have hlen : 3 ≤ (c :: t).length := Esc.prefix_le hp
      refine .inl ⟨(c :: t).drop 3, by rw [after, hp]; rfl, E_drop 3 h, fun X => ?_⟩
      rw [hX, hp, if_pos rfl, List.drop_append_of_le_length hlen]
def bang : List UInt8 := [33, 45, 45]
theorem bang_app {w : List UInt8} (h : E w) (X : List UInt8) : bang.isPrefixOf (w ++ X) = bang.isPrefixOf w := by
  match w, h with
  | [], h => exact absurd h E_nil
  | [a], h =>
    have : a = 62 := by unfold E at h; simpa using h
    subst this; rfl
  | [a, b], h =>
    have : b = 62 := by unfold E at h; simpa using h
    subst this
    simp [bang, List.isPrefixOf]
  | a :: b :: c :: t, _ => simp [bang, List.isPrefixOf]
theorem angle_E {t : List UInt8} (h : E t) : (∃ k r, angle t = (k, r) ∧ (r = [] ∨ E r) ∧ ∀ X, angle (t ++ X) = (k, r ++ X)) ∨ (∃ k, angle t = (k, []) ∧ angle (t ++ qL) = (k, [])) := by
  cases t with
  | nil => exact absurd h E_nil
  | cons d u =>
    have hX : ∀ X, angle (d :: u ++ X) = if bang.isPrefixOf (d :: u) then ([oth], (after dash ((d :: u ++ X).drop 3)).getD []) else if d == 33 || d == 63 then ([oth], (after [62] (d :: u ++ X)).getD [])
        else if d == 47 then shutAt (u ++ X) else if letter d then tag false (d :: u ++ X) else ([txt [60]], d :: u ++ X) := fun X => by
      rw [← bang_app h X]
      rfl
    have h0 : angle (d :: u) = if bang.isPrefixOf (d :: u) then ([oth], (after dash ((d :: u).drop 3)).getD []) else if d == 33 || d == 63 then ([oth], (after [62] (d :: u)).getD [])
        else if d == 47 then shutAt u else if letter d then tag false (d :: u) else ([txt [60]], d :: u) := rfl
    cases hb : bang.isPrefixOf (d :: u)
    · cases h1 : (d == 33 || d == 63)
      · cases h2 : (d == 47)
        · cases h3 : letter d
          · exact .inl ⟨[txt [60]], d :: u, by rw [h0, hb, h1, h2, h3]; rfl, .inr h, fun X => by rw [hX, hb, h1, h2, h3]; rfl⟩
          · rcases tag_E false h with ⟨k, r, g1, g2, g3⟩ | ⟨g1, g2⟩
            · exact .inl ⟨k, r, by rw [h0, hb, h1, h2, h3]; exact g1, g2, fun X => by rw [hX, hb, h1, h2, h3]; exact g3 X⟩
            · exact .inr ⟨[], by rw [h0, hb, h1, h2, h3]; exact g1, by rw [hX, hb, h1, h2, h3]; exact g2⟩
        · have hd : d = 47 := by simpa using h2
          have hu := E_tail h (by rw [hd]; decide)
          cases u with
          | nil => exact absurd hu E_nil
          | cons e v =>
            have hsX : ∀ X, shutAt (e :: v ++ X) = if letter e then tag true (e :: v ++ X) else ([txt [60]], 47 :: (e :: v ++ X)) := fun X => rfl
            cases h3 : letter e
            · refine .inl ⟨[txt [60]], d :: e :: v, ?_, .inr h, fun X => ?_⟩
              · rw [h0, hb, h1, h2, shutAt, h3, hd]; rfl
              · rw [hX, hb, h1, h2, hsX, h3, hd]; rfl
            · rcases tag_E true hu with ⟨k, r, g1, g2, g3⟩ | ⟨g1, g2⟩
              · refine .inl ⟨k, r, ?_, g2, fun X => ?_⟩
                · rw [h0, hb, h1, h2, shutAt, h3]; exact g1
                · rw [hX, hb, h1, h2, hsX, h3]; exact g3 X
              · refine .inr ⟨[], ?_, ?_⟩
                · rw [h0, hb, h1, h2, shutAt, h3]; exact g1
                · rw [hX, hb, h1, h2, hsX, h3]; exact g2
      · obtain ⟨r, g1, g2, g3⟩ := after1_E h
        refine .inl ⟨[oth], r, by rw [h0, hb, h1, g1]; rfl, g2, fun X => by rw [hX, hb, h1, g3]; rfl⟩
    · have hlen : 3 ≤ (d :: u).length := Esc.prefix_le hb
      have hE : E ((d :: u).drop 3) := by
        rcases E_drop 3 h with e | e
        · exfalso
          have hl : (d :: u).length = 3 := by
            have := congrArg List.length e
            simp only [List.length_drop, List.length_nil] at this
            omega
          have hp := List.isPrefixOf_iff_prefix.1 hb
          have := hp.eq_of_length (by rw [hl]; rfl)
          rw [← this] at h
          unfold E at h
          cases h
        · exact e
      have hdX : ∀ X, (d :: u ++ X).drop 3 = (d :: u).drop 3 ++ X := fun X => List.drop_append_of_le_length hlen
      rcases after3_E hE with ⟨r, g1, g2, g3⟩ | ⟨g1, g2⟩
      · exact .inl ⟨[oth], r, by rw [h0, hb, g1]; rfl, g2, fun X => by rw [hX, hb, hdX, g3]; rfl⟩
      · exact .inr ⟨[oth], by rw [h0, hb, g1]; rfl, by rw [hX, hb, hdX, g2]; rfl⟩
theorem tw_app (p : UInt8 → Bool) (x : UInt8) (hx : p x = false) (s : List UInt8) : ∀ t : List UInt8, (t ++ x :: s).takeWhile p = t.takeWhile p ∧ (t ++ x :: s).dropWhile p = t.dropWhile p ++ x :: s
  | [] => by simp [hx]
  | c :: t => by
    obtain ⟨h1, h2⟩ := tw_app p x hx s t
    cases hc : p c
    · exact ⟨by rw [List.cons_append, List.takeWhile_cons, List.takeWhile_cons, hc]; rfl, by rw [List.cons_append, List.dropWhile_cons, List.dropWhile_cons, hc]; rfl⟩
    · exact ⟨by rw [List.cons_append, List.takeWhile_cons, List.takeWhile_cons, hc, h1], by rw [List.cons_append, List.dropWhile_cons, List.dropWhile_cons, hc, h2]; rfl⟩
/-- A page that ends with a '>': what stands behind it, if it begins with a '<', is taken apart by itself, or the page ends within something that has no end. -/
theorem parts : ∀ (n : Nat) (a : List UInt8), a.length ≤ n → (a = [] ∨ E a) → (∀ s, toks (a ++ 60 :: s) = toks a ++ toks (60 :: s)) ∨ toks (a ++ qL) = toks a
  | _, [], _, _ => .inl (fun s => rfl)
  | 0, _ :: _, hn, _ => by simp at hn
  | n + 1, c :: t, hn, ha => by
    simp only [List.length_cons] at hn
    have he : E (c :: t) := by rcases ha with e | e; cases e; exact e
    cases hc : (c == 60)
    · have hd := dw_len (not 60) t
      have hr : t.dropWhile (not 60) = [] ∨ E (t.dropWhile (not 60)) := by
        cases hw : t.dropWhile (not 60) with
        | nil => exact .inl rfl
        | cons x r =>
          right
          have e := List.takeWhile_append_dropWhile (p := not 60) (l := t)
          rw [hw] at e
          have he' := he
          rw [← e, ← List.cons_append] at he'
          exact E_app _ _ _ he'
      have f0 : first c t = ([txt (Esc.rd (c :: t.takeWhile (not 60)))], t.dropWhile (not 60)) := by unfold first; rw [hc]; rfl
      have fX : ∀ s, first c (t ++ 60 :: s) = ([txt (Esc.rd (c :: t.takeWhile (not 60)))], t.dropWhile (not 60) ++ 60 :: s) := fun s => by
        unfold first
        obtain ⟨h1, h2⟩ := tw_app (not 60) 60 (by decide) s t
        rw [hc, h1, h2]
        rfl
      rcases parts n (t.dropWhile (not 60)) (by omega) hr with h | h
      · left
        intro s
        rw [List.cons_append, toks_cons, toks_cons c t, fX, f0, h s, List.append_assoc]
      · right
        show toks (c :: t ++ 60 :: [113, 62]) = _
        rw [List.cons_append, toks_cons, toks_cons c t, fX, f0]
        rw [show toks (t.dropWhile (not 60) ++ 60 :: [113, 62]) = toks (t.dropWhile (not 60)) from h]
    · have hcc : c = 60 := by simpa using hc
      have ht := E_tail he (by rw [hcc]; decide)
      have f0 : first c t = angle t := by unfold first; rw [hc]; rfl
      have fX : ∀ X, first c (t ++ X) = angle (t ++ X) := fun X => by unfold first; rw [hc]; rfl
      have hl := angle_len t
      rcases angle_E ht with ⟨k, r, g1, g2, g3⟩ | ⟨k, g1, g2⟩
      · rw [g1] at hl
        rcases parts n r (by simp only at hl; omega) g2 with h | h
        · left
          intro s
          rw [List.cons_append, toks_cons, toks_cons c t, fX, f0, g3, g1, h s, List.append_assoc]
        · right
          rw [List.cons_append, toks_cons, toks_cons c t, fX, f0, g3, g1, h]
      · right
        rw [List.cons_append, toks_cons, toks_cons c t, fX, f0, g2, g1]
/-- The form that TokenParts asks. -/
theorem parts_q (a b : List UInt8) (ha : a = [] ∨ E a) (h : toks (a ++ qL) = toks a ++ [⟨2, [113], [], []⟩]) : toks (a ++ qL ++ b) = toks (a ++ qL) ++ toks b := by
  rcases parts _ a (Nat.le_refl _) ha with g | g
  · have e : ∀ s, toks (60 :: 113 :: 62 :: s) = ⟨2, [113], [], []⟩ :: toks s := fun s => by rw [toks_cons]; rfl
    have e1 : a ++ qL ++ b = a ++ 60 :: (113 :: 62 :: b) := by simp [qL]
    rw [e1, g, e, h]
    simp
  · rw [h] at g
    have := congrArg List.length g
    simp at this
end Tk
end Go.Proofs.YtpcaiechaakhnabGreatDoor
