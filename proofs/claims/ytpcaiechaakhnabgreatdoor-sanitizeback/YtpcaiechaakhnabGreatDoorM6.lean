/-
  Texts of this proof, one behind the other.
-/
import Derived.Test.YtpcaiechaakhnabGreatDoorM5
import Derived.Test.YtpcaiechaakhnabGreatDoorM3
import Derived.Lib.IndexMore
import Derived.Lib.Strings
import Derived.Test.YtpcaiechaakhnabGreatDoorRows
import Derived.WalkKit
import Derived.WalkLawsBesides
import Derived.Deep.Draws
import Derived.Test.YtpcaiechaakhnabGreatDoorM1
import Derived.Deep.QuietTactic
import Derived.BigQuiet
import Derived.Handy
import Derived.Lib.BufSteps
import Derived.Laws.IdiomStrings
import Derived.Laws.BytesArg
import Derived.Test.YtpcaiechaakhnabGreatDoorM2

/-
  Chapter 6 on lists: the document that a page's tokens make; that it is one; that what is written of a document is read as itself; what is hidden; the page of a text.
-/
namespace Go.Proofs.YtpcaiechaakhnabGreatDoor
open Go.RowKit
namespace Sn
open Pg (Nm Tok St)
def blockOf (n : List UInt8) : Option Int := if n == [112] then some 0 else if n == [100, 105, 118] then some 0 else if n == [104, 49] then some 1 else if n == [108, 105] then some 2 else if n == [104, 50] then some 3 else none
def boldL : List (List UInt8) := [[98], [115, 116, 114, 111, 110, 103]]
def slantL : List (List UInt8) := [[105], [101, 109]]
def brL : List UInt8 := [98, 114]
def hiddenL : List (List UInt8) := [[115, 99, 114, 105, 112, 116], [115, 116, 121, 108, 101], [116, 101, 109, 112, 108, 97, 116, 101], [115, 118, 103], [109, 97, 116, 104], [105, 102, 114, 97, 109, 101], [116, 105, 116, 108, 101], [116, 101, 120, 116, 97, 114, 101, 97], [110, 111, 115, 99, 114, 105, 112, 116]]
/-- A page that is read. -/
structure S where
  d : List It
  bold : Int
  slant : Int
  kind : Int
  link : List UInt8
  hides : List UInt8
  opened : Bool
def endOf (m : Int) : It := ⟨10, m, B []⟩
def whole (d : List It) : Bool := match d.getLast? with
  | some x => Dc.ends x
  | none => true
def shut (s : S) : S := { s with d := if s.opened || !whole s.d then s.d ++ [endOf s.kind] else s.d, opened := false, kind := 0 }
def chr (c : UInt8) : UInt8 := if c == 9 || c == 10 || c == 13 || c == 12 then 32 else if c < 32 || 126 < c then 63 else c
def item (s : S) (c : UInt8) : It := ⟨chr c, (if 0 < s.bold then 1 else 0) + (if 0 < s.slant then 2 else 0), B s.link⟩
def one (k : Int) : Int := if k == 2 then 1 else if k == 3 then -1 else 0
def up (x : Int) : Int := if x < 0 then 0 else x
/-- A tag that begins or ends no block. -/
def other (s : S) (t : Tk) : S :=
  if boldL.contains t.name then { s with bold := up (s.bold + one t.kind) }
  else if slantL.contains t.name then { s with slant := up (s.slant + one t.kind) }
  else if t.name == [97] then { s with link := if t.kind == 2 then Lk.clean t.href else [] }
  else if t.kind == 3 then s
  else if t.name == brL then { shut { s with opened := true } with kind := s.kind }
  else if hiddenL.contains t.name then { s with hides := t.name } else s
def step (s : S) (t : Tk) : S :=
  if !s.hides.isEmpty then (if t.kind == 3 && t.name == s.hides then { s with hides := [] } else s)
  else if t.kind == 1 then { s with d := s.d ++ t.text.map (item s) }
  else if t.kind == 4 then s
  else match blockOf t.name with
    | some k => if t.kind == 2 then { shut s with opened := true, kind := k } else shut s
    | none => other s t
def run : S → List Tk → Option S
  | s, [] => some s
  | s, t :: r => if 80 < (step s t).d.length then none else run (step s t) r
def s0 : S := ⟨[], 0, 0, 0, [], [], false⟩
def all (s : S) : List It := if (shut s).d.isEmpty then [endOf 0] else (shut s).d
def fin (s : S) : Option (List It) := if 80 < (all s).length then none else some (all s)
/-- The document that a page's tokens make, or none. -/
def read (ts : List Tk) : Option (List It) := (run s0 ts).bind fin

/- Behind each token there are no fewer items. -/
theorem shut_len (s : S) : s.d.length ≤ (shut s).d.length := by
  unfold shut
  show s.d.length ≤ (if s.opened || !whole s.d then s.d ++ [endOf s.kind] else s.d).length
  split <;> simp
theorem other_len (s : S) (t : Tk) : s.d.length ≤ (other s t).d.length := by
  unfold other
  split
  · exact Nat.le_refl _
  split
  · exact Nat.le_refl _
  split
  · exact Nat.le_refl _
  split
  · exact Nat.le_refl _
  split
  · exact shut_len { s with opened := true }
  split <;> exact Nat.le_refl _
theorem step_len (s : S) (t : Tk) : s.d.length ≤ (step s t).d.length := by
  unfold step
  split
  · split <;> exact Nat.le_refl _
  split
  · simp
  split
  · exact Nat.le_refl _
  split
  · split
    · exact shut_len s
    · exact shut_len s
  · exact other_len s t
theorem fold_len : ∀ (ts : List Tk) (s : S), s.d.length ≤ (ts.foldl step s).d.length
  | [], _ => Nat.le_refl _
  | t :: r, s => Nat.le_trans (step_len s t) (fold_len r (step s t))
theorem run_ok : ∀ (ts : List Tk) (s : S), (ts.foldl step s).d.length ≤ 80 → run s ts = some (ts.foldl step s)
  | [], _, _ => rfl
  | t :: r, s, h => by
    have h1 := fold_len r (step s t)
    have h2 : (step s t).d.length ≤ 80 := Nat.le_trans h1 h
    rw [run, if_neg (by omega), run_ok r (step s t) h]
    rfl
theorem run_some : ∀ (ts : List Tk) (s s' : S), run s ts = some s' → s' = ts.foldl step s
  | [], s, s', h => by cases h; rfl
  | t :: r, s, s', h => by
    rw [run] at h
    split at h
    · cases h
    · exact run_some r _ _ h

/- What a page that is written is read as. -/
def stepP (s : S) (t : Tok) : S := step s (Tk.one t)
theorem txt_nil (s : S) : step s (Tk.txt []) = s := by
  unfold step Tk.txt
  cases h : s.hides.isEmpty
  · simp
  · simp
theorem txt_snoc (s : S) (u : List UInt8) (c : UInt8) : step (step s (Tk.txt u)) (Tk.txt [c]) = step s (Tk.txt (u ++ [c])) := by
  cases h : s.hides.isEmpty
  · have e : ∀ v, step s (Tk.txt v) = s := fun v => by unfold step Tk.txt; simp [h]
    rw [e, e, e]
  · have e : ∀ v, step s (Tk.txt v) = { s with d := s.d ++ v.map (item s) } := fun v => by unfold step Tk.txt; simp [h]
    rw [e, e]
    unfold step Tk.txt
    simp [h, item]
theorem fold_some1 (u : List UInt8) (s : S) : (Tk.some1 u).foldl step s = step s (Tk.txt u) := by
  unfold Tk.some1
  cases hu : u.isEmpty
  · rfl
  · have : u = [] := by simpa using hu
    subst this
    exact (txt_nil s).symm
theorem fold_view : ∀ (ts : List Tok) (u : List UInt8) (s : S), (Tk.view u ts).foldl step s = ts.foldl stepP (step s (Tk.txt u))
  | [], u, s => by
    exact fold_some1 u s
  | .inr (.inr c) :: r, u, s => by
    rw [Tk.view, fold_view r, List.foldl_cons]
    show _ = r.foldl stepP (step (step s (Tk.txt u)) (Tk.txt [c]))
    rw [txt_snoc]
  | .inl (.inl n) :: r, u, s => by
    rw [Tk.view, List.foldl_append, List.foldl_cons, fold_view r, txt_nil, fold_some1]
    rfl
  | .inl (.inr n) :: r, u, s => by
    rw [Tk.view, List.foldl_append, List.foldl_cons, fold_view r, txt_nil, fold_some1]
    rfl
  | .inr (.inl l) :: r, u, s => by
    rw [Tk.view, List.foldl_append, List.foldl_cons, fold_view r, txt_nil, fold_some1]
    rfl
/-- Within a block. -/
structure In (s : S) : Prop where
  bold : s.bold = 0
  slant : s.slant = 0
  link : s.link = []
  hides : s.hides = []
def plus (s : S) (d : List It) : S := { s with d := s.d ++ d }
theorem plus_nil (s : S) : plus s [] = s := by simp [plus]
theorem plus_plus (s : S) (a b : List It) : plus (plus s a) b = plus s (a ++ b) := by simp [plus]
theorem In.plus {s : S} (h : In s) (d : List It) : In (plus s d) := ⟨h.bold, h.slant, h.link, h.hides⟩
/-- Characters that may be. -/
def vis (c : UInt8) : Prop := 32 ≤ c ∧ c ≤ 126
theorem chr_vis {c : UInt8} (h : vis c) : chr c = c := by
  obtain ⟨h1, h2⟩ := h
  have g1 : ¬ c < 32 := UInt8.not_lt.2 h1
  have g2 : ¬ 126 < c := UInt8.not_lt.2 h2
  have hn : ∀ k : UInt8, k < 32 → (c == k) = false := fun k hk => by
    apply beq_eq_false_iff_ne.2
    intro e
    subst e
    exact g1 hk
  unfold chr
  rw [hn 9 (by decide), hn 10 (by decide), hn 13 (by decide), hn 12 (by decide)]
  simp [g1, g2]
theorem fold_chars (u : List UInt8) (s : S) (h : s.hides = []) : (u.map Tok.ch).foldl stepP s = { s with d := s.d ++ u.map (item s) } := by
  induction u generalizing s with
  | nil => simp
  | cons c u ih =>
    have e : stepP s (.ch c) = { s with d := s.d ++ [item s c] } := by
      unfold stepP step
      simp [h, Tk.one, Tk.txt]
    rw [List.map_cons, List.foldl_cons, e, ih { s with d := s.d ++ [item s c] } h]
    simp [item]
theorem step_seen (s : S) (t : Tk) (h : s.hides = []) : step s t = if t.kind == 1 then { s with d := s.d ++ t.text.map (item s) } else if t.kind == 4 then s else match blockOf t.name with
    | some k => if t.kind == 2 then { shut s with opened := true, kind := k } else shut s
    | none => other s t := by
  unfold step
  rw [if_neg (by rw [h]; decide)]
theorem step_bi (s : S) (h : s.hides = []) : stepP s (.op .b) = { s with bold := up (s.bold + 1) } ∧ stepP s (.cl .b) = { s with bold := up (s.bold + -1) } ∧ stepP s (.op .i) = { s with slant := up (s.slant + 1) } ∧ stepP s (.cl .i) = { s with slant := up (s.slant + -1) } := by
  unfold stepP
  rw [step_seen s _ h, step_seen s _ h, step_seen s _ h, step_seen s _ h]
  exact ⟨rfl, rfl, rfl, rfl⟩
theorem step_a (s : S) (h : s.hides = []) (l : List UInt8) : stepP s (.a l) = { s with link := Lk.clean l } ∧ stepP s (.cl .a) = { s with link := [] } := by
  unfold stepP
  rw [step_seen s _ h, step_seen s _ h]
  exact ⟨rfl, rfl⟩
def itm (b sl : Int) (l : List UInt8) (c : UInt8) : It := ⟨chr c, (if 0 < b then 1 else 0) + (if 0 < sl then 2 else 0), B l⟩
theorem fold_chars' (d : List It) (b sl k : Int) (l : List UInt8) (o : Bool) (u : List UInt8) : (u.map Tok.ch).foldl stepP ⟨d, b, sl, k, l, [], o⟩ = ⟨d ++ u.map (itm b sl l), b, sl, k, l, [], o⟩ := fold_chars u _ rfl
theorem itm_vis (b sl m : Int) (l u : List UInt8) (hu : ∀ c ∈ u, vis c) (h : (if 0 < b then (1 : Int) else 0) + (if 0 < sl then 2 else 0) = m) : u.map (itm b sl l) = u.map (Pg.mk m (B l)) := by
  apply List.map_congr_left
  intro c hc
  unfold itm Pg.mk
  rw [chr_vis (hu c hc), h]
theorem fold_tags (m : Int) (h0 : 0 ≤ m) (h3 : m ≤ 3) (u : List UInt8) (hu : ∀ c ∈ u, vis c) (d : List It) (k : Int) (l : List UInt8) (o : Bool) :
    (Pg.tags m (u.map .ch)).foldl stepP ⟨d, 0, 0, k, l, [], o⟩ = ⟨d ++ u.map (Pg.mk m (B l)), 0, 0, k, l, [], o⟩ := by
  have hm : m = 0 ∨ m = 1 ∨ m = 2 ∨ m = 3 := by omega
  rcases hm with rfl | rfl | rfl | rfl
  · show (u.map Tok.ch).foldl stepP ⟨d, 0, 0, k, l, [], o⟩ = _
    rw [fold_chars', itm_vis 0 0 0 l u hu rfl]
  · show (.op .b :: (u.map Tok.ch ++ [.cl .b])).foldl stepP ⟨d, 0, 0, k, l, [], o⟩ = _
    rw [List.foldl_cons, List.foldl_append]
    show List.foldl stepP (List.foldl stepP ⟨d, 1, 0, k, l, [], o⟩ (u.map Tok.ch)) [.cl .b] = _
    rw [fold_chars', itm_vis 1 0 1 l u hu rfl]
    rfl
  · show (.op .i :: (u.map Tok.ch ++ [.cl .i])).foldl stepP ⟨d, 0, 0, k, l, [], o⟩ = _
    rw [List.foldl_cons, List.foldl_append]
    show List.foldl stepP (List.foldl stepP ⟨d, 0, 1, k, l, [], o⟩ (u.map Tok.ch)) [.cl .i] = _
    rw [fold_chars', itm_vis 0 1 2 l u hu rfl]
    rfl
  · show (.op .b :: ((.op .i :: (u.map Tok.ch ++ [.cl .i])) ++ [.cl .b])).foldl stepP ⟨d, 0, 0, k, l, [], o⟩ = _
    rw [List.foldl_cons, List.foldl_append]
    show List.foldl stepP (List.foldl stepP ⟨d, 1, 1, k, l, [], o⟩ (u.map Tok.ch ++ [.cl .i])) [.cl .b] = _
    rw [List.foldl_append, fold_chars', itm_vis 1 1 3 l u hu rfl]
    rfl
/-- The state within a block, and between two. -/
def inn (d : List It) (k : Int) (o : Bool) : S := ⟨d, 0, 0, k, [], [], o⟩
theorem fold_seg (x : It) (hx : Tk.Good x) (u : List UInt8) (hu : ∀ c ∈ u, vis c) (d : List It) (k : Int) (o : Bool) : (Pg.seg x u).foldl stepP (inn d k o) = inn (d ++ u.map (Pg.mk x.m x.l)) k o := by
  obtain ⟨h0, h3, hl⟩ := hx
  unfold Pg.seg Pg.linked inn
  cases he : x.l.toList.isEmpty
  · have hmay : Lk.may x.l.data.toList = true := by rcases hl with g | g; rw [he] at g; cases g; exact g
    rw [if_neg (by decide), List.foldl_cons, List.foldl_append]
    show List.foldl stepP (List.foldl stepP ⟨d, 0, 0, k, Lk.clean x.l.data.toList, [], o⟩ (Pg.tags x.m (u.map Tok.ch))) [.cl .a] = _
    rw [Lk.clean_may hmay, fold_tags x.m h0 h3 u hu, B_of]
    rfl
  · have : x.l = B [] := by
      rw [Lib.toList_data] at he
      apply ext_list
      rw [B_data]
      simpa using he
    rw [if_pos rfl, fold_tags x.m h0 h3 u hu, ← this]
/-- An item of a document. -/
def Nice (x : It) : Prop := Tk.Good x ∧ (Dc.ends x = true → x.l = B []) ∧ (Dc.ends x = false → vis x.c)
structure RInv (T : St) (l : List It) : Prop where
  back : ∃ d1 d2, T.page.foldl stepP s0 = inn d1 0 false ∧ whole d1 = true ∧ (∀ d k o, T.ins.foldl stepP (inn d k o) = inn (d ++ d2) k o) ∧ l = d1 ++ d2 ++ T.text.map (Pg.mk T.last.m T.last.l)
  ok : T.text ≠ [] → Tk.Good T.last
  vis : ∀ c ∈ T.text, vis c
theorem RInv.flush {T : St} {l : List It} (h : RInv T l) : RInv (Pg.flush T) l := by
  obtain ⟨⟨d1, d2, h1, h2, h3, h4⟩, h5, h6⟩ := h
  refine ⟨⟨d1, d2 ++ T.text.map (Pg.mk T.last.m T.last.l), h1, h2, fun d k o => ?_, ?_⟩, fun h => absurd rfl h, fun c hc => by simp [Pg.flush] at hc⟩
  · show (T.ins ++ Pg.tail T.last T.text).foldl stepP (inn d k o) = _
    rw [List.foldl_append, h3]
    unfold Pg.tail
    cases ht : T.text.isEmpty
    · have hne : T.text ≠ [] := by intro e; rw [e] at ht; cases ht
      rw [if_neg (by decide), fold_seg T.last (h5 hne) T.text h6, List.append_assoc]
    · have e : T.text = [] := by simpa using ht
      rw [if_pos rfl, e]
      simp
  · rw [h4]
    show _ = d1 ++ (d2 ++ T.text.map _) ++ []
    simp
theorem fold_lists (a b : Bool) (d : List It) (k : Int) (o : Bool) : (Pg.lists a b).foldl stepP (inn d k o) = inn d k o := by
  cases a <;> cases b <;> rfl
theorem whole_snoc (d : List It) (m : Int) : whole (d ++ [endOf m]) = true := by
  unfold whole
  simp [endOf, Dc.ends]
theorem step_kind (m : Int) (h0 : 0 ≤ m) (h3 : m ≤ 3) (d : List It) : (whole d = true → stepP (inn d 0 false) (.op (Pg.kind m)) = inn d m true) ∧ stepP (inn d m true) (.cl (Pg.kind m)) = inn (d ++ [endOf m]) 0 false := by
  have hm : m = 0 ∨ m = 1 ∨ m = 2 ∨ m = 3 := by omega
  refine ⟨fun hw => ?_, ?_⟩
  · have hs : shut (inn d 0 false) = inn d 0 false := by unfold shut inn; simp [hw]
    have : ∀ k : Int, ({ shut (inn d 0 false) with opened := true, kind := k } : S) = inn d k true := fun k => by rw [hs]; rfl
    rcases hm with rfl | rfl | rfl | rfl
    · exact this 0
    · exact this 1
    · exact this 2
    · exact this 3
  · rcases hm with rfl | rfl | rfl | rfl <;> rfl
theorem RInv.step {T : St} {l : List It} {x : It} (h : RInv T l) (hx : Nice x) : RInv (Pg.step T x) (l ++ [x]) := by
  obtain ⟨x1, x2, x3⟩ := hx
  unfold Pg.step
  cases he : Dc.ends x
  · have hv := x3 he
    simp only [Bool.false_eq_true, if_false]
    cases hd : (!T.text.isEmpty && Pg.diff T.last x)
    · simp only [Bool.false_eq_true, if_false]
      obtain ⟨⟨d1, d2, h1, h2, h3, h4⟩, h5, h6⟩ := h
      refine ⟨⟨d1, d2, h1, h2, h3, ?_⟩, fun _ => x1, fun c hc => ?_⟩
      · show l ++ [x] = d1 ++ d2 ++ (T.text ++ [x.c]).map (Pg.mk x.m x.l)
        rw [List.map_append, ← List.append_assoc, h4]
        congr 2
        by_cases ht : T.text = []
        · rw [ht]; rfl
        · have : Pg.diff T.last x = false := by simpa [ht] using hd
          obtain ⟨e1, e2⟩ := Pg.not_diff this
          rw [e1, e2]
      · rcases List.mem_append.1 hc with hc | hc
        · exact h6 c hc
        · simp at hc; rw [hc]; exact hv
    · simp only [if_true]
      obtain ⟨⟨d1, d2, h1, h2, h3, h4⟩, h5, h6⟩ := h.flush
      refine ⟨⟨d1, d2, h1, h2, h3, ?_⟩, fun _ => x1, fun c hc => ?_⟩
      · rw [Pg.flush_text] at h4
        rw [h4]
        simp
        rfl
      · simp at hc; rw [hc]; exact hv
  · simp only [if_true]
    obtain ⟨⟨d1, d2, h1, h2, h3, h4⟩, h5, h6⟩ := h.flush
    refine ⟨⟨l ++ [x], [], ?_, ?_, fun d k o => ?_, ?_⟩, fun h => absurd (Pg.flush_text T) h, fun c hc => ?_⟩
    · show ((Pg.flush T).page ++ Pg.lists (Pg.flush T).list (x.m == 2) ++ Tok.op (Pg.kind x.m) :: ((Pg.flush T).ins ++ [Tok.cl (Pg.kind x.m)])).foldl stepP s0 = _
      obtain ⟨x0, x3', _⟩ := x1
      obtain ⟨k1, _⟩ := step_kind x.m x0 x3' d1
      obtain ⟨_, k2⟩ := step_kind x.m x0 x3' (d1 ++ d2)
      rw [List.foldl_append, List.foldl_append, h1, fold_lists, List.foldl_cons, k1 h2, List.foldl_append, h3]
      show stepP (inn (d1 ++ d2) x.m true) (.cl (Pg.kind x.m)) = _
      rw [k2]
      rw [Pg.flush_text] at h4
      have : x = endOf x.m := by unfold endOf; rw [← x2 he, ← Pg.ends_c he]
      rw [h4, ← this]
      simp
    · have : x = endOf x.m := by unfold endOf; rw [← x2 he, ← Pg.ends_c he]
      rw [this]
      exact whole_snoc l x.m
    · show inn d k o = _
      rw [List.append_nil]
    · show l ++ [x] = l ++ [x] ++ [] ++ (Pg.flush T).text.map _
      rw [Pg.flush_text]
      simp
    · have e : (Pg.endB (Pg.flush T) x.m).text = [] := rfl
      rw [e] at hc
      simp at hc
theorem rinv_fold : ∀ (l k : List It) (s : St), RInv s k → (∀ x ∈ l, Nice x) → RInv (l.foldl Pg.step s) (k ++ l)
  | [], k, s, h, _ => by simpa using h
  | x :: l, k, s, h, hl => by
    rw [List.foldl_cons, show k ++ x :: l = (k ++ [x]) ++ l by simp]
    exact rinv_fold l (k ++ [x]) _ (h.step (hl x (by simp))) (fun y hy => hl y (by simp [hy]))
theorem fold_page (l : List It) (x : It) (he : Dc.ends x = true) (hl : ∀ y ∈ l ++ [x], Nice y) : (Tk.toks (Pg.page (l ++ [x]))).foldl step s0 = inn (l ++ [x]) 0 false := by
  have h : RInv (Pg.run (l ++ [x])) (l ++ [x]) := by
    have := rinv_fold (l ++ [x]) [] Pg.st0 ⟨⟨[], [], rfl, rfl, fun d k o => by rw [List.append_nil]; rfl, rfl⟩, fun h => absurd rfl h, fun c hc => by simp [Pg.st0] at hc⟩ hl
    rw [List.nil_append] at this
    exact this
  obtain ⟨⟨d1, d2, h1, h2, h3, h4⟩, _, _⟩ := h
  have hr := Pg.run_ends l x he
  rw [Tk.toks_page, fold_view, txt_nil]
  unfold Pg.toks Pg.fin
  rw [List.foldl_append, h1, fold_lists]
  have e2 : d2 = [] := by
    have := h3 [] 0 false
    rw [hr] at this
    have e : (Pg.endB (Pg.flush (Pg.run l)) x.m).ins.foldl stepP (inn [] 0 false) = inn [] 0 false := rfl
    rw [e] at this
    have := congrArg S.d this
    simpa [inn] using this.symm
  have e3 : (Pg.run (l ++ [x])).text = [] := by rw [hr]; rfl
  rw [e2, e3] at h4
  rw [h4]
  simp
/-- What is written of a document is read as itself. -/
theorem read_page (l : List It) (x : It) (he : Dc.ends x = true) (hl : ∀ y ∈ l ++ [x], Nice y) (h80 : (l ++ [x]).length ≤ 80) : read (Tk.toks (Pg.page (l ++ [x]))) = some (l ++ [x]) := by
  have hf := fold_page l x he hl
  have hr := run_ok (Tk.toks (Pg.page (l ++ [x]))) s0 (by rw [hf]; exact h80)
  unfold read
  rw [hr, hf]
  show fin (inn (l ++ [x]) 0 false) = _
  have hw : whole (l ++ [x]) = true := by unfold whole; simp [he]
  have hs : (shut (inn (l ++ [x]) 0 false)).d = l ++ [x] := by unfold shut inn; simp [hw]
  have ha : all (inn (l ++ [x]) 0 false) = l ++ [x] := by unfold all; rw [hs]; simp
  unfold fin
  rw [ha, if_neg (by omega)]
end Sn
namespace Sn
/- What is made is a document. -/
theorem chr_is (c : UInt8) : vis (chr c) := by
  unfold chr vis
  split
  · decide
  split
  · decide
  · rename_i h1 h2
    simp only [Bool.or_eq_true, decide_eq_true_eq, not_or] at h2
    exact ⟨UInt8.not_lt.1 h2.1, UInt8.not_lt.1 h2.2⟩
theorem vis_ends {x : It} (h : vis x.c) : Dc.ends x = false := by
  cases he : Dc.ends x
  · rfl
  · have := Pg.ends_c he
    rw [this] at h
    exact absurd h.1 (by decide)
theorem empty_B : (B []).toList.isEmpty = true := by rw [Lib.toList_data, B_data]; rfl
structure Made (s : S) : Prop where
  nice : ∀ x ∈ s.d, Nice x
  link : s.link = [] ∨ Lk.may s.link = true
  lo : 0 ≤ s.kind
  hi : s.kind ≤ 3
theorem nice_end (m : Int) (h0 : 0 ≤ m) (h3 : m ≤ 3) : Nice (endOf m) :=
  ⟨⟨h0, h3, .inl empty_B⟩, fun _ => rfl, fun h => by simp [endOf, Dc.ends] at h⟩
theorem nice_item {s : S} (h : Made s) (c : UInt8) : Nice (item s c) := by
  have hv : vis (item s c).c := chr_is c
  refine ⟨⟨?_, ?_, ?_⟩, fun he => ?_, fun _ => hv⟩
  · show (0 : Int) ≤ (if 0 < s.bold then 1 else 0) + (if 0 < s.slant then 2 else 0)
    split <;> split <;> decide
  · show (if 0 < s.bold then (1 : Int) else 0) + (if 0 < s.slant then 2 else 0) ≤ 3
    split <;> split <;> decide
  · rcases h.link with e | e
    · left
      show (B s.link).toList.isEmpty = true
      rw [e]
      exact empty_B
    · right
      exact e
  · rw [vis_ends hv] at he
    cases he
theorem Made.shut {s : S} (h : Made s) : Made (shut s) := by
  refine ⟨fun x hx => ?_, h.link, Int.le_refl 0, (by decide : (0 : Int) ≤ 3)⟩
  change x ∈ (if s.opened || !whole s.d then s.d ++ [endOf s.kind] else s.d) at hx
  split at hx
  · rcases List.mem_append.1 hx with hx | hx
    · exact h.nice x hx
    · simp at hx; rw [hx]; exact nice_end _ h.lo h.hi
  · exact h.nice x hx
theorem clean_link (l : List UInt8) : Lk.clean l = [] ∨ Lk.may (Lk.clean l) = true := by
  by_cases h : Lk.clean l = []
  · exact .inl h
  · exact .inr (Lk.clean_some h).2
theorem Made.other {s : S} (h : Made s) (t : Tk) : Made (other s t) := by
  unfold Sn.other
  split
  · exact ⟨h.nice, h.link, h.lo, h.hi⟩
  split
  · exact ⟨h.nice, h.link, h.lo, h.hi⟩
  split
  · refine ⟨h.nice, ?_, h.lo, h.hi⟩
    show (if t.kind == 2 then Lk.clean t.href else []) = [] ∨ _
    split
    · exact clean_link _
    · exact .inl rfl
  split
  · exact h
  split
  · have h1 : Made { s with opened := true } := ⟨h.nice, h.link, h.lo, h.hi⟩
    have h2 := h1.shut
    exact ⟨h2.nice, h2.link, h.lo, h.hi⟩
  split
  · exact ⟨h.nice, h.link, h.lo, h.hi⟩
  · exact h
theorem block_kind {n : List UInt8} {k : Int} (h : blockOf n = some k) : 0 ≤ k ∧ k ≤ 3 := by
  unfold blockOf at h
  split at h
  · cases h; decide
  split at h
  · cases h; decide
  split at h
  · cases h; decide
  split at h
  · cases h; decide
  split at h
  · cases h; decide
  · cases h
theorem Made.step {s : S} (h : Made s) (t : Tk) : Made (step s t) := by
  unfold Sn.step
  split
  · split
    · exact ⟨h.nice, h.link, h.lo, h.hi⟩
    · exact h
  split
  · refine ⟨fun x hx => ?_, h.link, h.lo, h.hi⟩
    rcases List.mem_append.1 hx with hx | hx
    · exact h.nice x hx
    · obtain ⟨c, _, rfl⟩ := List.mem_map.1 hx
      exact nice_item h c
  split
  · exact h
  split
  · rename_i k hk
    obtain ⟨k0, k3⟩ := block_kind hk
    split
    · exact ⟨h.shut.nice, h.shut.link, k0, k3⟩
    · exact h.shut
  · exact h.other t
theorem made_fold : ∀ (ts : List Tk) (s : S), Made s → Made (ts.foldl step s)
  | [], _, h => h
  | t :: r, _, h => made_fold r _ (h.step t)
theorem made0 : Made s0 := ⟨fun x hx => by simp [s0] at hx, .inl rfl, by decide, by decide⟩
/-- Whatever a page is, what is made of it is a document. -/
theorem read_doc {ts : List Tk} {d : List It} (h : read ts = some d) : (∀ x ∈ d, Nice x) ∧ d.length ≤ 80 ∧ ∃ k x, d = k ++ [x] ∧ Dc.ends x = true := by
  unfold read at h
  cases hr : run s0 ts with
  | none => rw [hr] at h; cases h
  | some s =>
    rw [hr] at h
    change fin s = some d at h
    have hm : Made s := by rw [run_some ts s0 s hr]; exact made_fold ts s0 made0
    unfold fin at h
    split at h
    · cases h
    · rename_i h80
      have hd : all s = d := by cases h; rfl
      rw [hd] at h80
      unfold all at hd
      split at hd
      · subst hd
        exact ⟨fun x hx => by simp at hx; rw [hx]; exact nice_end 0 (by decide) (by decide), by omega, [], endOf 0, rfl, rfl⟩
      · rename_i he
        refine ⟨fun x hx => hm.shut.nice x (by rw [hd]; exact hx), by omega, ?_⟩
        change (if s.opened || !whole s.d then s.d ++ [endOf s.kind] else s.d) = d at hd
        split at hd
        · exact ⟨s.d, endOf s.kind, hd.symm, rfl⟩
        · rename_i hw
          have hw' : whole d = true := by rw [← hd]; simp at hw; exact hw.2
          have hne : d ≠ [] := by
            intro e
            apply he
            change (if s.opened || !whole s.d then s.d ++ [endOf s.kind] else s.d).isEmpty = true
            rw [if_neg hw, hd, e]
            rfl
          refine ⟨d.dropLast, d.getLast hne, (List.dropLast_concat_getLast hne).symm, ?_⟩
          unfold whole at hw'
          rw [List.getLast?_eq_some_getLast hne] at hw'
          exact hw'

/- What is hidden. -/
theorem run_append : ∀ (a b : List Tk) (s : S), run s (a ++ b) = (run s a).bind fun s' => run s' b
  | [], _, _ => rfl
  | t :: a, b, s => by
    rw [List.cons_append, run, run]
    split
    · rfl
    · exact run_append a b _
theorem run_few : ∀ (ts : List Tk) (s s' : S), s.d.length ≤ 80 → run s ts = some s' → s'.d.length ≤ 80
  | [], _, _, hs, h => by cases h; exact hs
  | t :: r, s, s', hs, h => by
    rw [run] at h
    split at h
    · cases h
    · exact run_few r _ _ (by omega) h
/-- Tokens that change nothing where nothing is hidden. -/
def Idle (X : List Tk) : Prop := ∀ s : S, s.hides = [] → s.d.length ≤ 80 → run s X = some s
def textOf (u : List UInt8) : List Tk := if u.isEmpty then [] else [Tk.txt (Esc.rd u)]
/-- A text without tags, and behind it a '<'. -/
theorem toks_plain (u s : List UInt8) (hu : ∀ y ∈ u, y ≠ 60) : Tk.toks (u ++ 60 :: s) = textOf u ++ Tk.toks (60 :: s) := by
  cases u with
  | nil => rfl
  | cons c t =>
    have hc : (c == 60) = false := by simpa using hu c (by simp)
    obtain ⟨h1, h2⟩ := Tk.tw' 60 s t (fun y hy => hu y (by simp [hy]))
    rw [List.cons_append, Tk.toks_cons]
    unfold Tk.first
    rw [hc]
    simp only [Bool.false_eq_true, if_false, h1, h2]
    rfl
theorem run_idle (a X b : List Tk) (hX : Idle X) (ha : ∀ s', run s0 a = some s' → s'.hides = []) : read (a ++ (X ++ b)) = read (a ++ b) := by
  unfold read
  rw [run_append, run_append]
  cases hr : run s0 a with
  | none => rfl
  | some s' =>
    show ((run s' (X ++ b)).bind fin) = ((run s' b).bind fin)
    rw [run_append, hX s' (ha s' hr) (run_few a s0 s' (by decide) hr)]
    rfl
def uT : Tk := ⟨2, [117], [], []⟩
theorem step_u (s : S) (h : s.hides = []) : step s uT = s := by rw [step_seen s uT h]; rfl
/-- Behind a text and a tag that means nothing, nothing is hidden. -/
theorem seen_u (a : List UInt8) (s' : S) (h : run s0 (textOf a ++ [uT]) = some s') : s'.hides = [] := by
  rw [run_some _ _ _ h, List.foldl_append]
  have h1 : ((textOf a).foldl step s0).hides = [] := by
    unfold textOf
    cases a.isEmpty
    · rfl
    · rfl
  show (step _ uT).hides = []
  rw [step_u _ h1]
  exact h1
theorem run_one (s : S) (t : Tk) (h : (step s t).d.length ≤ 80) : run s [t] = some (step s t) := by
  rw [run, if_neg (by omega)]
  rfl
/-- What is hidden by a name, a text in it, and its end. -/
theorem idle_hidden (n : List UInt8) (inside : List UInt8) (hs : ∀ s : S, s.hides = [] → step s ⟨2, n, [], []⟩ = { s with hides := n }) (hne : n.isEmpty = false) :
    Idle (⟨2, n, [], []⟩ :: (textOf inside ++ [⟨3, n, [], []⟩])) := by
  intro s h0 h80
  have e1 := hs s h0
  have e2 : ∀ v, step { s with hides := n } (Tk.txt v) = { s with hides := n } := fun v => by
    unfold step Tk.txt
    simp [hne]
  have e3 : step { s with hides := n } ⟨3, n, [], []⟩ = s := by
    unfold step
    simp [hne]
    rw [← h0]
  have e4 : run { s with hides := n } [⟨3, n, [], []⟩] = some s := by
    have := run_one { s with hides := n } ⟨3, n, [], []⟩ (by rw [e3]; exact h80)
    rw [this, e3]
  rw [run, e1, if_neg (show ¬ 80 < s.d.length by omega), run_append]
  unfold textOf
  cases inside.isEmpty
  · show ((run { s with hides := n } [Tk.txt (Esc.rd inside)]).bind fun s' => run s' [⟨3, n, [], []⟩]) = _
    rw [run_one _ _ (by rw [e2]; exact h80), e2]
    exact e4
  · exact e4
theorem idle_one (t : Tk) (h : ∀ s : S, s.hides = [] → step s t = s) : Idle [t] := by
  intro s h0 h80
  rw [run_one s t (by rw [h s h0]; exact h80), h s h0]
theorem idle_two (t u : Tk) (h : ∀ s : S, s.hides = [] → step s t = s) (h' : ∀ s : S, s.hides = [] → step s u = s) : Idle [t, u] := by
  intro s h0 h80
  rw [run, h s h0, if_neg (by omega)]
  exact idle_one u h' s h0 h80
/- The four that the law asks about. -/
def uL : List UInt8 := [60, 117, 62]
def scriptL : List UInt8 := [60, 115, 99, 114, 105, 112, 116, 62]
def scriptE : List UInt8 := [60, 47, 115, 99, 114, 105, 112, 116, 62]
def styleL : List UInt8 := [60, 83, 84, 89, 76, 69, 32, 120, 61, 121, 62]
def styleE : List UInt8 := [60, 47, 115, 116, 121, 108, 101, 62]
def uuL : List UInt8 := [60, 117, 62, 60, 47, 117, 62]
def spanL : List UInt8 := [60, 115, 112, 97, 110, 62]
theorem toks_u (r : List UInt8) : Tk.toks (uL ++ r) = uT :: Tk.toks r := by
  show Tk.toks (60 :: 117 :: 62 :: r) = _
  rw [Tk.toks_cons]; rfl
theorem toks_script (r : List UInt8) : Tk.toks (scriptL ++ r) = ⟨2, [115, 99, 114, 105, 112, 116], [], []⟩ :: Tk.toks r := by
  show Tk.toks (60 :: ([115, 99, 114, 105, 112, 116, 62] ++ r)) = _
  rw [Tk.toks_cons]; rfl
theorem toks_scriptE (r : List UInt8) : Tk.toks (scriptE ++ r) = ⟨3, [115, 99, 114, 105, 112, 116], [], []⟩ :: Tk.toks r := by
  show Tk.toks (60 :: ([47, 115, 99, 114, 105, 112, 116, 62] ++ r)) = _
  rw [Tk.toks_cons]; rfl
theorem toks_style (r : List UInt8) : Tk.toks (styleL ++ r) = ⟨2, [115, 116, 121, 108, 101], [], []⟩ :: Tk.toks r := by
  show Tk.toks (60 :: ([83, 84, 89, 76, 69, 32, 120, 61, 121, 62] ++ r)) = _
  rw [Tk.toks_cons]; rfl
theorem toks_styleE (r : List UInt8) : Tk.toks (styleE ++ r) = ⟨3, [115, 116, 121, 108, 101], [], []⟩ :: Tk.toks r := by
  show Tk.toks (60 :: ([47, 115, 116, 121, 108, 101, 62] ++ r)) = _
  rw [Tk.toks_cons]; rfl
theorem toks_uE (r : List UInt8) : Tk.toks ([60, 47, 117, 62] ++ r) = ⟨3, [117], [], []⟩ :: Tk.toks r := by
  show Tk.toks (60 :: ([47, 117, 62] ++ r)) = _
  rw [Tk.toks_cons]; rfl
theorem toks_span (r : List UInt8) : Tk.toks (spanL ++ r) = ⟨2, [115, 112, 97, 110], [], []⟩ :: Tk.toks r := by
  show Tk.toks (60 :: ([115, 112, 97, 110, 62] ++ r)) = _
  rw [Tk.toks_cons]; rfl
theorem toks_au (a r : List UInt8) (ha : ∀ y ∈ a, y ≠ 60) : Tk.toks (a ++ (uL ++ r)) = (textOf a ++ [uT]) ++ Tk.toks r := by
  have : a ++ (uL ++ r) = a ++ 60 :: ([117, 62] ++ r) := rfl
  rw [this, toks_plain a _ ha]
  show textOf a ++ Tk.toks (uL ++ r) = _
  rw [toks_u]
  simp
theorem hides_any (a b X : List UInt8) (ts : List Tk) (ha : ∀ y ∈ a, y ≠ 60) (hX : Tk.toks (X ++ b) = ts ++ Tk.toks b) (hi : Idle ts) : read (Tk.toks (a ++ (uL ++ (X ++ b)))) = read (Tk.toks (a ++ (uL ++ b))) := by
  rw [toks_au a _ ha, toks_au a _ ha, hX]
  exact run_idle (textOf a ++ [uT]) ts (Tk.toks b) hi (fun s' h => seen_u a s' h)
theorem hides_script (a b i : List UInt8) (ha : ∀ y ∈ a, y ≠ 60) (hin : ∀ y ∈ i, y ≠ 60) : read (Tk.toks (a ++ (uL ++ ((scriptL ++ i ++ scriptE) ++ b)))) = read (Tk.toks (a ++ (uL ++ b))) := by
  refine hides_any a b _ (⟨2, [115, 99, 114, 105, 112, 116], [], []⟩ :: (textOf i ++ [⟨3, [115, 99, 114, 105, 112, 116], [], []⟩])) ha ?_ (idle_hidden _ i (fun s h => by rw [step_seen s _ h]; rfl) rfl)
  rw [List.append_assoc, List.append_assoc, toks_script]
  have : i ++ (scriptE ++ b) = i ++ 60 :: ([47, 115, 99, 114, 105, 112, 116, 62] ++ b) := rfl
  rw [this, toks_plain i _ hin]
  show _ :: (textOf i ++ Tk.toks (scriptE ++ b)) = _
  rw [toks_scriptE]
  simp
theorem hides_style (a b i : List UInt8) (ha : ∀ y ∈ a, y ≠ 60) (hin : ∀ y ∈ i, y ≠ 60) : read (Tk.toks (a ++ (uL ++ ((styleL ++ i ++ styleE) ++ b)))) = read (Tk.toks (a ++ (uL ++ b))) := by
  refine hides_any a b _ (⟨2, [115, 116, 121, 108, 101], [], []⟩ :: (textOf i ++ [⟨3, [115, 116, 121, 108, 101], [], []⟩])) ha ?_ (idle_hidden _ i (fun s h => by rw [step_seen s _ h]; rfl) rfl)
  rw [List.append_assoc, List.append_assoc, toks_style]
  have : i ++ (styleE ++ b) = i ++ 60 :: ([47, 115, 116, 121, 108, 101, 62] ++ b) := rfl
  rw [this, toks_plain i _ hin]
  show _ :: (textOf i ++ Tk.toks (styleE ++ b)) = _
  rw [toks_styleE]
  simp
theorem hides_uu (a b : List UInt8) (ha : ∀ y ∈ a, y ≠ 60) : read (Tk.toks (a ++ (uL ++ (uuL ++ b)))) = read (Tk.toks (a ++ (uL ++ b))) := by
  refine hides_any a b _ [uT, ⟨3, [117], [], []⟩] ha ?_ (idle_two _ _ step_u (fun s h => by rw [step_seen s _ h]; rfl))
  show Tk.toks (uL ++ ([60, 47, 117, 62] ++ b)) = _
  rw [toks_u, toks_uE]
  rfl
theorem hides_span (a b : List UInt8) (ha : ∀ y ∈ a, y ≠ 60) : read (Tk.toks (a ++ (uL ++ (spanL ++ b)))) = read (Tk.toks (a ++ (uL ++ b))) := by
  refine hides_any a b _ [⟨2, [115, 112, 97, 110], [], []⟩] ha ?_ (idle_one _ (fun s h => by rw [step_seen s _ h]; rfl))
  rw [toks_span]
  rfl

/- The page of a text. -/
def divL : List UInt8 := [60, 100, 105, 118, 62]
theorem toks_wr (u : List UInt8) (h : u ≠ []) : Tk.toks (Esc.wr u) = [Tk.txt u] := by
  have := Tk.toks_text u [] (.inl rfl)
  rw [List.append_nil] at this
  rw [this, Tk.toks_nil, List.append_nil]
  unfold Tk.some1
  cases u with
  | nil => exact absurd rfl h
  | cons => rfl
theorem toks_div (r : List UInt8) : Tk.toks (divL ++ r) = ⟨2, [100, 105, 118], [], []⟩ :: Tk.toks r := by
  show Tk.toks (60 :: ([100, 105, 118, 62] ++ r)) = _
  rw [Tk.toks_cons]; rfl
theorem whole_items (u : List UInt8) (h : u ≠ []) : whole (u.map (item s0)) = false := by
  unfold whole
  rw [List.getLast?_map, List.getLast?_eq_some_getLast h]
  show Dc.ends (item s0 (u.getLast h)) = false
  exact vis_ends (chr_is _)
theorem read_text (u : List UInt8) (h : u ≠ []) (hl : u.length ≤ 79) : read (Tk.toks (Esc.wr u)) = some (u.map (item s0) ++ [endOf 0]) ∧ read (Tk.toks (divL ++ Esc.wr u)) = some (u.map (item s0) ++ [endOf 0]) := by
  rw [toks_div, toks_wr u h]
  refine ⟨?_, ?_⟩
  · have e : step s0 (Tk.txt u) = { s0 with d := u.map (item s0) } := rfl
    unfold read
    rw [run_one s0 _ (by rw [e]; simp; omega), e]
    show fin _ = _
    have hs : (shut { s0 with d := u.map (item s0) }).d = u.map (item s0) ++ [endOf 0] := by
      unfold shut
      simp only [whole_items u h]
      rfl
    have ha : all { s0 with d := u.map (item s0) } = u.map (item s0) ++ [endOf 0] := by unfold all; rw [hs]; simp
    unfold fin
    rw [ha, if_neg (by simp; omega)]
  · have e1 : step s0 ⟨2, [100, 105, 118], [], []⟩ = { s0 with opened := true } := rfl
    have e2 : step { s0 with opened := true } (Tk.txt u) = { s0 with d := u.map (item s0), opened := true } := rfl
    unfold read
    rw [run, e1, if_neg (by decide), run_one _ _ (by rw [e2]; simp; omega), e2]
    show fin _ = _
    have hs : (shut { s0 with d := u.map (item s0), opened := true }).d = u.map (item s0) ++ [endOf 0] := rfl
    have ha : all { s0 with d := u.map (item s0), opened := true } = u.map (item s0) ++ [endOf 0] := by unfold all; rw [hs]; simp
    unfold fin
    rw [ha, if_neg (by simp; omega)]
end Sn
end Go.Proofs.YtpcaiechaakhnabGreatDoor

/-
  strings.Trim at a set of ASCII characters and whatever text; link.Clean.
-/
namespace Go.Proofs.YtpcaiechaakhnabGreatDoor
open Go.RowKit

/-- In block b lies the set of the bytes cs. -/
def SetAt (b : Nat) (cs : List UInt8) (w : World) : Prop := ∀ x : UInt8, w.cell? ⟨b, x.toNat, none⟩ = some (.bool (cs.contains x))

theorem tl_step (p : UInt8 → Bool) (x : UInt8) (t : List UInt8) (h : p x = true) : Lk.tl p (x :: t) = Lk.tl p t := by simp [Lk.tl, h]
theorem tl_stop (p : UInt8 → Bool) (x : UInt8) (t : List UInt8) (h : p x = false) : Lk.tl p (x :: t) = x :: t := by simp [Lk.tl, h]

set_option maxRecDepth 100000 in
set_option maxHeartbeats 1600000 in
theorem trimL (l cs : List UInt8) (b : Nat) (w : World) (hs : l.length ≤ 9223372036854775807) (hc : SetAt b cs w) :
    Calls Tryz.prog 139 #[.string (B l), .pointer (some ⟨b, 0, none⟩)] w fun e w' => e = .returned (.string (B (Lk.tl (fun c => cs.contains c) l))) ∧ w' = w := by
  obtain ⟨r, hr⟩ : ∃ r, Lk.tl (fun c => cs.contains c) l = r := ⟨_, rfl⟩
  rw [hr]
  have HR : Hid (Lk.tl (fun c => cs.contains c) l = r) := hr
  have HC : Hid (SetAt b cs w) := hc
  clear hr hc
  go_enter Tryz.func139, Tryz.ntmps139
  go_wp2
  go_loopg [0] l.length (fun g v wx => ∃ m : List UInt8, m.length = g ∧ v = .string (B m) ∧ wx = w ∧ m.length ≤ 9223372036854775807 ∧ Lk.tl (fun c => cs.contains c) m = r)
  case atStart => exact ⟨l, rfl, rfl, rfl, hs, HR.out⟩
  case round =>
    obtain ⟨m, hmg, rfl, rfl, hml, hmr⟩ := hrel
    have HM : Hid (Lk.tl (fun c => cs.contains c) m = r) := hmr
    clear hmr HR
    have hsz := B_size m
    cases m with
    | nil =>
      have hz : ¬ ((0 : Int) < 0) := by omega
      simp only [List.length_nil] at hsz
      have hrr : r = [] := HM.out.symm
      subst hrr
      go_wp2
      go_ret
      exact ⟨rfl, rfl⟩
    | cons x t =>
      have hpos : 0 < (B (x :: t)).size := by rw [hsz]; simp
      have hix : ∀ w, (Instr.index 9 (.string (B (x :: t))) (.int .i64 0)).run Tryz.prog w = .ok (.int .u8 x.toNat) w := fun w => run_index_at (B (x :: t)) 0 hpos w
      have hsl : ∀ w, (Instr.slice 9 (.string (B (x :: t))) (some (.int .i64 1)) none none).run Tryz.prog w = .ok (.string (B t)) w := fun w => slice_from (B (x :: t)) 1 (by omega) w
      have hcx := HC.out x
      simp only [List.length_cons] at hmg hml
      have hposz : (0 : Int) < ((B (x :: t)).size : Int) := by omega
      cases hin : cs.contains x
      · rw [hin] at hcx
        have hrr : r = x :: t := by rw [← HM.out]; exact tl_stop _ x t hin
        subst hrr
        clear hsz
        generalize hB : B (x :: t) = bx at *
        go_wp2_with (go_at_call 146; refine (Tryz.asciiSet_contains _ x _ _ hcx).mono ?_; rintro e w' ⟨rfl, hw⟩; rw [hw])
        go_ret
        exact ⟨by rw [hB]; rfl, rfl⟩
      · rw [hin] at hcx
        have H2 : Hid (Lk.tl (fun c => cs.contains c) t = r) := by show _ = _; rw [← HM.out]; exact (tl_step _ x t hin).symm
        clear hsz
        generalize B (x :: t) = bx at *
        go_wp2_with (go_at_call 146; refine (Tryz.asciiSet_contains _ x _ _ hcx).mono ?_; rintro e w' ⟨rfl, hw⟩; rw [hw])
        go_roundg t.length
        case measure => omega
        case rel => exact ⟨t, rfl, rfl, rfl, by omega, H2.out⟩

theorem index_last (m : List UInt8) (x : UInt8) (w : World) : (Instr.index 9 (.string (B (m ++ [x]))) (.int .i64 m.length)).run Tryz.prog w = .ok (.int .u8 x.toNat) w := by
  have h : m.length < (B (m ++ [x])).size := by rw [B_size]; simp
  rw [run_index_at (B (m ++ [x])) m.length h w]
  have : (B (m ++ [x]))[m.length]'h = x := by
    have h1 := Lib.data_getElem? (B (m ++ [x])) m.length h
    rw [B_data, List.getElem?_append_right (Nat.le_refl _)] at h1
    simp at h1
    exact h1.symm
  rw [this]
theorem slice_last (m : List UInt8) (x : UInt8) (w : World) : (Instr.slice 9 (.string (B (m ++ [x]))) none (some (.int .i64 m.length)) none).run Tryz.prog w = .ok (.string (B m)) w := by
  rw [slice_to (B (m ++ [x])) m.length (by rw [B_size]; simp) w, B_data]
  simp

set_option maxRecDepth 100000 in
set_option maxHeartbeats 1600000 in
theorem trimR (l cs : List UInt8) (b : Nat) (w : World) (hs : l.length ≤ 9223372036854775807) (hc : SetAt b cs w) :
    Calls Tryz.prog 140 #[.string (B l), .pointer (some ⟨b, 0, none⟩)] w fun e w' => e = .returned (.string (B (Lk.tr (fun c => cs.contains c) l))) ∧ w' = w := by
  obtain ⟨r, hr⟩ : ∃ r, Lk.tr (fun c => cs.contains c) l = r := ⟨_, rfl⟩
  rw [hr]
  have HR : Hid (Lk.tr (fun c => cs.contains c) l = r) := hr
  have HC : Hid (SetAt b cs w) := hc
  clear hr hc
  go_enter Tryz.func140, Tryz.ntmps140
  go_wp2
  go_loopg [0] l.length (fun g v wx => ∃ m : List UInt8, m.length = g ∧ v = .string (B m) ∧ wx = w ∧ m.length ≤ 9223372036854775807 ∧ Lk.tr (fun c => cs.contains c) m = r)
  case atStart => exact ⟨l, rfl, rfl, rfl, hs, HR.out⟩
  case round =>
    obtain ⟨m, hmg, rfl, rfl, hml, hmr⟩ := hrel
    have HM : Hid (Lk.tr (fun c => cs.contains c) m = r) := hmr
    clear hmr HR
    have hsz := B_size m
    rcases List.eq_nil_or_concat m with rfl | ⟨t, x, rfl⟩
    · simp only [List.length_nil] at hsz
      have hrr : r = [] := HM.out.symm
      subst hrr
      go_wp2
      go_ret
      exact ⟨rfl, rfl⟩
    · simp only [List.concat_eq_append] at *
      have hix := fun w => index_last t x w
      have hsl := fun w => slice_last t x w
      have hcx := HC.out x
      have hsn := Lk.tr_snoc (fun c => cs.contains c) x t
      have hlen : (t ++ [x]).length = t.length + 1 := by simp
      rw [hlen] at hsz hmg hml
      have hposz : (0 : Int) < ((B (t ++ [x])).size : Int) := by omega
      have hszz : ((B (t ++ [x])).size : Int) - 1 = (t.length : Int) := by omega
      have hwr : IntKind.i64.wrap ((B (t ++ [x])).size - 1) = (t.length : Int) := by rw [hszz]; exact IntWalk.i64_in _ ⟨by omega, by omega⟩
      cases hin : cs.contains x
      · rw [hin] at hcx
        have hrr : r = t ++ [x] := by rw [← HM.out, hsn]; simp only [hin]; rfl
        subst hrr
        clear hsz hsn
        generalize hB : B (t ++ [x]) = bx at *
        go_wp2_with (go_at_call 146; refine (Tryz.asciiSet_contains _ x _ _ hcx).mono ?_; rintro e w' ⟨rfl, hw⟩; rw [hw])
        go_ret
        exact ⟨by rw [hB]; rfl, rfl⟩
      · rw [hin] at hcx
        have H2 : Hid (Lk.tr (fun c => cs.contains c) t = r) := by show _ = _; rw [← HM.out, hsn]; simp only [hin]; rfl
        clear hsz hsn
        generalize B (t ++ [x]) = bx at *
        go_wp2_with (go_at_call 146; refine (Tryz.asciiSet_contains _ x _ _ hcx).mono ?_; rintro e w' ⟨rfl, hw⟩; rw [hw])
        go_roundg t.length
        case measure => omega
        case rel => exact ⟨t, rfl, rfl, rfl, by omega, H2.out⟩

theorem blanks_ascii : Ascii ⟨#[32, 9, 10, 13, 12]⟩ := by
  intro j b h
  match j, h with
  | 0, h => cases h; decide
  | 1, h => cases h; decide
  | 2, h => cases h; decide
  | 3, h => cases h; decide
  | 4, h => cases h; decide
  | j + 5, h => simp at h

set_option maxRecDepth 100000 in
set_option maxHeartbeats 1600000 in
theorem trim_any (s : ByteArray) (w : World) (hs : s.size ≤ 9223372036854775807) :
    Calls Tryz.prog 124 #[.string s, .string ⟨#[32, 9, 10, 13, 12]⟩] w fun e w' => e = .returned (.string (B (Lk.trim s.data.toList))) ∧ Below w.heap.size w w' := by
  have hl := len_list s
  by_cases h0 : s.size = 0
  · have hnil : s.data.toList = [] := List.eq_nil_of_length_eq_zero (by omega)
    have hs0 : s = ⟨#[]⟩ := ext_list hnil
    subst hs0
    clear hnil hl
    go_enter Tryz.func124, Tryz.ntmps124
    go_wp2
    go_ret
    exact ⟨rfl, Below.refl _ _⟩
  · have hemp : s.toList.isEmpty = false := by
      rw [Lib.toList_data]
      cases h : s.data.toList with
      | nil => rw [h, List.length_nil] at hl; omega
      | cons _ _ => rfl
    obtain ⟨r, hr⟩ : ∃ r, Lk.trim s.data.toList = r := ⟨_, rfl⟩
    rw [hr]
    have hM := Tryz.strings_makeASCIISet (zero_of_info h116).1 ⟨#[32, 9, 10, 13, 12]⟩ w (by decide) blanks_ascii
    change Calls Tryz.prog 138 _ w fun e w' => e = .returned (.tuple #[.agg (Lib.setCells Lk.blanks), .bool true]) ∧ w' = w.alloc (.cells (Lib.setCells Lk.blanks) 193) at hM
    have hsc := Lw.store w Lk.blanks
    have hsz := Lib.setCells_size Lk.blanks
    have HB : Hid (Below w.heap.size w (Lw w Lk.blanks)) := Lw.below w _
    have hset : SetAt (w.heap.size + 1) Lk.blanks (Lw w Lk.blanks) := Lw.cell w _
    have hv := (zero_of_info h116).1
    have HR := trimR s.data.toList Lk.blanks (w.heap.size + 1) (Lw w Lk.blanks) (by omega) hset
    have HL := trimL (Lk.tr (fun c => Lk.blanks.contains c) s.data.toList) Lk.blanks (w.heap.size + 1) (Lw w Lk.blanks) (by have := Lk.tr_len (fun c => Lk.blanks.contains c) s.data.toList; omega) hset
    change Calls Tryz.prog 139 _ _ fun e w' => e = .returned (.string (B (Lk.trim s.data.toList))) ∧ w' = Lw w Lk.blanks at HL
    rw [hr] at HL
    rw [B_of] at HR
    have HRR : Hid (Calls Tryz.prog 140 #[.string s, .pointer (some ⟨w.heap.size + 1, 0, none⟩)] (Lw w Lk.blanks) fun e w' => e = .returned (.string (B (Lk.tr (fun c => Lk.blanks.contains c) s.data.toList))) ∧ w' = Lw w Lk.blanks) := HR
    have HLL : Hid (Calls Tryz.prog 139 #[.string (B (Lk.tr (fun c => Lk.blanks.contains c) s.data.toList)), .pointer (some ⟨w.heap.size + 1, 0, none⟩)] (Lw w Lk.blanks) fun e w' => e = .returned (.string (B r)) ∧ w' = Lw w Lk.blanks) := HL
    clear HR HL hr hset hl
    generalize B (Lk.tr (fun c => Lk.blanks.contains c) s.data.toList) = m at *
    go_enter Tryz.func124, Tryz.ntmps124
    go_wp2_with (go_at_call 138; refine hM.mono ?_; rintro e w' ⟨rfl, hw⟩; rw [hw])
    refine HRR.out.mono ?_
    rintro e w' ⟨rfl, hw⟩
    rw [hw]
    go_wp2_with fail
    refine HLL.out.mono ?_
    rintro e w' ⟨rfl, hw⟩
    rw [hw]
    go_wp2
    go_ret
    exact ⟨rfl, HB.out⟩

set_option maxHeartbeats 400000 in
theorem clone_any (s : ByteArray) (w : World) (hs : s.size ≤ 281474976710656) : Calls Tryz.prog 125 #[.string s] w fun e w' => e = .returned (.string s) ∧ Below w.heap.size w w' := by
  go_enter Tryz.func125, Tryz.ntmps125
  go_wp2_with fail
  refine (Tryz.stringslite_Clone s w hs).mono ?_
  rintro e w1 ⟨rfl, hb1⟩
  have H1 : Hid (Below w.heap.size w w1) := hb1
  clear hb1
  go_wp2
  go_ret
  exact ⟨rfl, H1.out⟩

set_option maxHeartbeats 400000 in
theorem clean_many (s : ByteArray) (w : World) (hs : s.size ≤ 9223372036854775807) (h : 20000 < s.size) :
    Calls Tryz.prog 111 #[.string s] w fun e w' => e = .returned (.tuple #[.string ⟨#[]⟩, .int .i64 2]) ∧ w' = w := by
  go_enter Tryz.func111, Tryz.ntmps111
  go_wp2
  go_ret2
  exact ⟨rfl, rfl⟩

set_option maxRecDepth 100000 in
set_option maxHeartbeats 800000 in
theorem clean_any (s : ByteArray) (w : World) (hs : s.size ≤ 20000) (hS : Sch w) :
    Calls Tryz.prog 111 #[.string s] w fun e w' => e = .returned (.tuple #[.string (B (Lk.clean s.data.toList)), .int .i64 0]) ∧ Below w.heap.size w w' := by
  have HS : Hid (Sch w) := hS
  clear hS
  have htl := Lk.trim_len s.data.toList
  rw [len_list] at htl
  have hT : Hid (Calls Tryz.prog 124 #[.string s, .string ⟨#[32, 9, 10, 13, 12]⟩] w fun e w' => e = .returned (.string (B (Lk.trim s.data.toList))) ∧ Below w.heap.size w w') := trim_any s w (by omega)
  have hM : Hid (∀ w, Sch w → Calls Tryz.prog 116 #[.string (B (Lk.trim s.data.toList))] w fun e w' => e = .returned (.bool (Lk.may (Lk.trim s.data.toList))) ∧ Below w.heap.size w w') := fun w h => may_any (B (Lk.trim s.data.toList)) w (by rw [B_size]; omega) h
  have hC : Hid (∀ w, Calls Tryz.prog 125 #[.string (B (Lk.trim s.data.toList))] w fun e w' => e = .returned (.string (B (Lk.trim s.data.toList))) ∧ Below w.heap.size w w') := fun w => clone_any _ w (by rw [B_size]; omega)
  cases hm : Lk.may (Lk.trim s.data.toList)
  · have hcl : Lk.clean s.data.toList = [] := by unfold Lk.clean; rw [hm]; rfl
    rw [hcl]
    rw [hm] at hM
    clear hm hcl htl
    generalize B (Lk.trim s.data.toList) = t at *
    go_enter Tryz.func111, Tryz.ntmps111
    go_wp2_with fail
    refine hT.out.mono ?_
    rintro e w1 ⟨rfl, hb1⟩
    have H1 : Hid (Below w.heap.size w w1) := hb1
    have S1 : Hid (Sch w1) := HS.out.below hb1
    clear hb1
    go_wp2_with fail
    refine (hM.out _ S1.out).mono ?_
    rintro e w2 ⟨rfl, hb2⟩
    have H2 : Hid (Below w.heap.size w w2) := H1.out.trans (hb2.mono H1.out.size)
    clear hb2
    go_wp2
    go_ret2
    exact ⟨rfl, H2.out⟩
  · have hcl : Lk.clean s.data.toList = Lk.trim s.data.toList := by unfold Lk.clean; rw [hm]; rfl
    rw [hcl]
    rw [hm] at hM
    clear hm hcl htl
    generalize B (Lk.trim s.data.toList) = t at *
    go_enter Tryz.func111, Tryz.ntmps111
    go_wp2_with fail
    refine hT.out.mono ?_
    rintro e w1 ⟨rfl, hb1⟩
    have H1 : Hid (Below w.heap.size w w1) := hb1
    have S1 : Hid (Sch w1) := HS.out.below hb1
    clear hb1
    go_wp2_with fail
    refine (hM.out _ S1.out).mono ?_
    rintro e w2 ⟨rfl, hb2⟩
    have H2 : Hid (Below w.heap.size w w2) := H1.out.trans (hb2.mono H1.out.size)
    clear hb2
    go_wp2_with fail
    refine (hC.out _).mono ?_
    rintro e w3 ⟨rfl, hb3⟩
    have H3 : Hid (Below w.heap.size w w3) := H2.out.trans (hb3.mono H2.out.size)
    clear hb3
    go_wp2
    go_ret2
    exact ⟨rfl, H3.out⟩
end Go.Proofs.YtpcaiechaakhnabGreatDoor

/-
  More of chapter 5 on lists of bytes: how the program goes by what is left of a page, how one goes by places, sets of bytes; and how many tokens there are.
-/
namespace Go.Proofs.YtpcaiechaakhnabGreatDoor
open Go.RowKit
namespace Tk
/-- What is left out ahead of an attribute. -/
def sl (c : UInt8) : Bool := sp c || c == 47
/-- What the program leaves behind an attribute's name: the spaces are taken, too. -/
def restA (r : List UInt8) : List UInt8 :=
  match r.dropWhile sp with
  | [] => []
  | c :: r2 => if c == 61 then (val (r2.dropWhile sp)).2 else c :: r2
theorem sp_ne (c : UInt8) (h : sp c = true) : (c == 62) = false := by
  unfold sp at h
  simp only [Bool.or_eq_true, beq_iff_eq] at h
  rcases h with (((h | h) | h) | h) | h <;> subst h <;> rfl
theorem sl_ne (c : UInt8) (h : sl c = true) : (c == 62) = false := by
  unfold sl at h
  rw [Bool.or_eq_true] at h
  rcases h with h | h
  · exact sp_ne c h
  · rw [beq_iff_eq] at h; subst h; rfl
theorem attr_sl1 (c : UInt8) (t : List UInt8) (h : Option (List UInt8)) (hc : sl c = true) : attr (c :: t) h = attr t h := by
  rw [attr_cons, sl_ne c hc, if_neg Bool.false_ne_true]
  unfold sl at hc
  rw [if_pos hc]
theorem attr_skip (p : UInt8 → Bool) (hp : ∀ c, p c = true → sl c = true) : ∀ (l : List UInt8) (h : Option (List UInt8)), attr (l.dropWhile p) h = attr l h
  | [], _ => rfl
  | c :: t, h => by
    cases hc : p c
    · rw [List.dropWhile_cons, hc]; rfl
    · rw [List.dropWhile_cons, hc, if_pos rfl, attr_skip p hp t h, attr_sl1 c t h (hp c hc)]
theorem attr_sp (l : List UInt8) (h : Option (List UInt8)) : attr (l.dropWhile sp) h = attr l h := attr_skip sp (fun c hc => by unfold sl; rw [hc]; rfl) l h
theorem attr_sl (l : List UInt8) (h : Option (List UInt8)) : attr (l.dropWhile sl) h = attr l h := attr_skip sl (fun _ hc => hc) l h
theorem attr_restA (r : List UInt8) (h : Option (List UInt8)) : attr (restA r) h = attr (value r).2 h := by
  unfold restA value
  cases e : r.dropWhile sp with
  | nil =>
    have := attr_sp r h
    rw [e] at this
    exact this
  | cons c r2 =>
    simp only
    split
    · rfl
    · have := attr_sp r h
      rw [e] at this
      exact this
theorem restA_len (l : List UInt8) : (restA l).length ≤ l.length := by
  unfold restA
  have h0 := dw_len sp l
  cases h : l.dropWhile sp with
  | nil => simp
  | cons c r2 =>
    rw [h] at h0
    simp only
    split
    · have h1 := val_len (r2.dropWhile sp)
      have h2 := dw_len sp r2
      simp at h0
      omega
    · exact h0
theorem restA_eq (r r2 : List UInt8) (h : r.dropWhile sp = 61 :: r2) : restA r = (val (r2.dropWhile sp)).2 ∧ (value r).1 = (val (r2.dropWhile sp)).1 ∧ (value r).2 = (val (r2.dropWhile sp)).2 := by
  unfold restA value
  rw [h]
  exact ⟨rfl, rfl, rfl⟩
theorem restA_ne (r : List UInt8) (h : ∀ r2, r.dropWhile sp ≠ 61 :: r2) : restA r = r.dropWhile sp ∧ (value r).1 = [] ∧ (value r).2 = r := by
  unfold restA value
  cases e : r.dropWhile sp with
  | nil => exact ⟨rfl, rfl, rfl⟩
  | cons c r2 =>
    have hc : (c == 61) = false := by
      rw [beq_eq_false_iff_ne]
      intro hc
      exact h r2 (by rw [e, hc])
    simp only [hc]
    exact ⟨rfl, rfl, rfl⟩
theorem val_len1 (l : List UInt8) : (val l).1.length ≤ l.length := by
  cases l with
  | nil => exact Nat.le_refl _
  | cons q r =>
    rw [val]
    split
    · have := (List.takeWhile_sublist (not q) (l := r)).length_le
      simp only [List.length_cons]
      omega
    · exact (List.takeWhile_sublist avl).length_le
theorem value_len1 (l : List UInt8) : (value l).1.length ≤ l.length := by
  unfold value
  have h0 := dw_len sp l
  cases h : l.dropWhile sp with
  | nil => simp
  | cons c r2 =>
    rw [h] at h0
    simp only
    split
    · have h1 := val_len1 (r2.dropWhile sp)
      have h2 := dw_len sp r2
      simp at h0
      omega
    · simp
/-- A tag at work: its attributes from some place on. -/
theorem attr_go (c : UInt8) (t : List UInt8) (h : Option (List UInt8)) (h1 : (c == 62) = false) (h2 : sl c = false) : attr (c :: t) h =
    attr (restA (t.dropWhile anm)) (if Lk.small (c :: t.takeWhile anm) == hrefL && h.isNone then some (value (t.dropWhile anm)).1 else h) := by
  rw [attr_cons, h1, if_neg Bool.false_ne_true, attr_restA]
  unfold sl at h2
  rw [h2, if_neg Bool.false_ne_true]
theorem after_index (p : List UInt8) (hp : p ≠ []) : ∀ l, (Lib.index l p = -1 ∧ after p l = none) ∨ (∃ k : Nat, Lib.index l p = k ∧ k + p.length ≤ l.length ∧ after p l = some (l.drop (k + p.length)))
  | [] => by
    left
    refine ⟨?_, rfl⟩
    unfold Lib.index
    cases p with
    | nil => exact absurd rfl hp
    | cons a b => rfl
  | c :: t => by
    by_cases h : p.isPrefixOf (c :: t) = true
    · right
      refine ⟨0, ?_, ?_, ?_⟩
      · unfold Lib.index; rw [if_pos h]; rfl
      · have := (List.isPrefixOf_iff_prefix.1 h).length_le; omega
      · rw [after, if_pos h, Nat.zero_add]
    · rcases after_index p hp t with ⟨h1, h2⟩ | ⟨k, h1, h2, h3⟩
      · left
        refine ⟨?_, by rw [after, if_neg h, h2]⟩
        unfold Lib.index
        rw [if_neg h, h1]
        rfl
      · right
        refine ⟨k + 1, ?_, by simp only [List.length_cons]; omega, ?_⟩
        · unfold Lib.index
          have : ((k : Int) == -1) = false := by rw [beq_eq_false_iff_ne]; omega
          rw [if_neg h, h1, this, if_neg Bool.false_ne_true]
          omega
        · rw [after, if_neg h, h3, show k + 1 + p.length = (k + p.length) + 1 by omega, List.drop_succ_cons]
theorem cut_after (p : List UInt8) (hp : p ≠ []) (l : List UInt8) : (Lib.cut l p).2.1 = (after p l).getD [] := by
  unfold Lib.cut
  rcases after_index p hp l with ⟨h1, h2⟩ | ⟨k, h1, h2, h3⟩
  · rw [h1, h2]; rfl
  · rw [h1, h3, if_pos (by omega)]
    simp
/-- Places: behind i, what p holds of is passed by until k. -/
theorem tw_of_dw {l : List UInt8} {p : UInt8 → Bool} {i k : Nat} (hi : i ≤ k) (hk : k ≤ l.length) (h : l.drop k = (l.drop i).dropWhile p) : (l.drop i).take (k - i) = (l.drop i).takeWhile p := by
  have h1 : (l.drop i).takeWhile p ++ (l.drop i).dropWhile p = l.drop i := List.takeWhile_append_dropWhile
  have h2 := congrArg List.length h1
  rw [← h, List.length_append, List.length_drop, List.length_drop] at h2
  have h3 : ((l.drop i).takeWhile p).length = k - i := by omega
  have h4 : (l.drop i).take (k - i) = ((l.drop i).takeWhile p ++ (l.drop i).dropWhile p).take (k - i) := by rw [h1]
  rw [h4, ← h3, List.take_left]
theorem dw_go {l : List UInt8} {p : UInt8 → Bool} {k : Nat} (hk : k < l.length) (h : p l[k] = true) : (l.drop (k + 1)).dropWhile p = (l.drop k).dropWhile p := by
  rw [List.drop_eq_getElem_cons hk, List.dropWhile_cons, h, if_pos rfl]
theorem dw_stop {l : List UInt8} {p : UInt8 → Bool} {k : Nat} (hk : k < l.length) (h : p l[k] = false) : (l.drop k).dropWhile p = l.drop k := by
  rw [List.drop_eq_getElem_cons hk, List.dropWhile_cons, h]
  rfl
theorem dw_end {l : List UInt8} {p : UInt8 → Bool} {k : Nat} (hk : l.length ≤ k) : (l.drop k).dropWhile p = l.drop k := by
  rw [List.drop_eq_nil_of_le hk]
  rfl
/-- Whether a byte is one of a set. -/
def inS (set : List UInt8) (c : UInt8) : Bool := decide (0 ≤ Lib.indexByte set c)
theorem all256 (f : UInt8 → Bool) (h : ∀ n : Fin 256, f (UInt8.ofNat n.val) = true) (c : UInt8) : f c = true := by
  have := h ⟨c.toNat, c.toNat_lt⟩
  simpa using this
theorem in_sp (c : UInt8) : inS [32, 9, 10, 13, 12] c = sp c := by
  have := all256 (fun c => inS [32, 9, 10, 13, 12] c == sp c) (by decide +kernel) c
  simpa using this
theorem in_sl (c : UInt8) : inS [32, 9, 10, 13, 12, 47] c = sl c := by
  have := all256 (fun c => inS [32, 9, 10, 13, 12, 47] c == sl c) (by decide +kernel) c
  simpa using this
theorem in_nam (c : UInt8) : inS [32, 9, 10, 13, 12, 47, 62] c = !nam c := by
  have := all256 (fun c => inS [32, 9, 10, 13, 12, 47, 62] c == !nam c) (by decide +kernel) c
  simpa using this
theorem in_anm (c : UInt8) : inS [32, 9, 10, 13, 12, 47, 62, 61] c = !anm c := by
  have := all256 (fun c => inS [32, 9, 10, 13, 12, 47, 62, 61] c == !anm c) (by decide +kernel) c
  simpa using this
theorem in_avl (c : UInt8) : inS [32, 9, 10, 13, 12, 62] c = !avl c := by
  have := all256 (fun c => inS [32, 9, 10, 13, 12, 62] c == !avl c) (by decide +kernel) c
  simpa using this
theorem in_one (q c : UInt8) : inS [q] c = !not q c := by
  unfold inS not Lib.indexByte Lib.indexByte
  by_cases h : q = c
  · subst h; simp
  · have h1 : (q == c) = false := by simpa using h
    have h2 : (c != q) = true := by simp; exact fun e => h e.symm
    rw [h1, h2]
    simp
theorem first_one (c : UInt8) (t : List UInt8) : (first c t).1.length ≤ 1 := by
  unfold first angle shutAt tag
  split
  · split
    · simp
    split
    · simp
    split
    · simp
    split
    · split
      · simp
      split
      · split <;> simp
      · simp
    split
    · split <;> simp
    · simp
  · simp
theorem toksN_len : ∀ (n : Nat) (l : List UInt8), (toksN n l).length ≤ n
  | 0, _ => Nat.le_refl _
  | _ + 1, [] => by simp [toksN]
  | n + 1, c :: t => by
    have h1 := first_one c t
    have h2 := toksN_len n (first c t).2
    rw [toksN, List.length_append]
    omega
theorem toks_len (l : List UInt8) : (toks l).length ≤ l.length := toksN_len _ _
theorem suf_none (q : UInt8) (r : List UInt8) (h : ∀ y ∈ r, y ≠ q) : ([q] : List UInt8).isSuffixOf r = false := by
  rw [Bool.eq_false_iff]
  intro hs
  have := (List.isSuffixOf_iff_suffix.1 hs).subset (List.mem_singleton.2 rfl)
  exact h q this rfl
/-- A value in quotes, by places. -/
theorem quote_at (q : UInt8) : ∀ r : List UInt8, (Lib.index r [q] = -1 ∧ r.takeWhile (not q) = r ∧ r.dropWhile (not q) = [] ∧ ∀ y ∈ r, y ≠ q) ∨
    ∃ k : Nat, Lib.index r [q] = k ∧ k + 1 ≤ r.length ∧ r.take k = r.takeWhile (not q) ∧ r.take (k + 1) = r.takeWhile (not q) ++ [q] ∧ r.drop (k + 1) = (r.dropWhile (not q)).drop 1
  | [] => .inl ⟨rfl, rfl, rfl, fun _ h => by cases h⟩
  | c :: t => by
    by_cases h : c = q
    · subst h
      have h1 : not c c = false := by unfold not; simp
      have h0 : ([c] : List UInt8).isPrefixOf (c :: t) = true := by simp [List.isPrefixOf]
      refine .inr ⟨0, ?_, by simp, ?_, ?_, ?_⟩
      · unfold Lib.index; rw [if_pos h0]; rfl
      · rw [List.takeWhile_cons, h1]; rfl
      · rw [List.takeWhile_cons, h1]; rfl
      · rw [List.dropWhile_cons, h1]; rfl
    · have h1 : not q c = true := by unfold not; simpa using h
      have h0 : ([q] : List UInt8).isPrefixOf (c :: t) = false := by
        have : (q == c) = false := by simpa using (fun e => h e.symm)
        simp [List.isPrefixOf, this]
      rcases quote_at q t with ⟨a, b, d, e⟩ | ⟨k, a, b, d, e, f⟩
      · refine .inl ⟨?_, ?_, ?_, ?_⟩
        · unfold Lib.index; rw [h0, a]; rfl
        · rw [List.takeWhile_cons, h1, if_pos rfl, b]
        · rw [List.dropWhile_cons, h1, if_pos rfl, d]
        · intro y hy
          rcases List.mem_cons.1 hy with rfl | hy
          · exact h
          · exact e y hy
      · refine .inr ⟨k + 1, ?_, by simp only [List.length_cons]; omega, ?_, ?_, ?_⟩
        · unfold Lib.index
          have : ((k : Int) == -1) = false := by rw [beq_eq_false_iff_ne]; omega
          rw [h0, if_neg Bool.false_ne_true, a, this, if_neg Bool.false_ne_true]
          omega
        · rw [List.take_succ_cons, List.takeWhile_cons, h1, if_pos rfl, d]
        · rw [List.take_succ_cons, List.takeWhile_cons, h1, if_pos rfl, e]; rfl
        · rw [List.drop_succ_cons, List.dropWhile_cons, h1, if_pos rfl, f]
theorem after_one (q : UInt8) (r : List UInt8) : (after [q] r).getD [] = (r.dropWhile (not q)).drop 1 := by
  rcases after_index [q] (by simp) r with ⟨h1, h2⟩ | ⟨k, h1, _, h2⟩
  · rcases quote_at q r with ⟨a, b, d, e⟩ | ⟨k, a, _⟩
    · rw [h2, d]; rfl
    · rw [a] at h1; omega
  · rcases quote_at q r with ⟨a, _⟩ | ⟨k', a, _, _, _, f⟩
    · rw [a] at h1; omega
    · rw [a] at h1
      obtain rfl : k' = k := by omega
      rw [h2, ← f]
      rfl
end Tk
end Go.Proofs.YtpcaiechaakhnabGreatDoor

/-
  Blocks of memory that a call lays and writes: what holds of them behind a store, a new block, a draw; and that all else is as it was.
-/
namespace Go.Proofs.YtpcaiechaakhnabGreatDoor
open Go.RowKit

/-- Block b holds these cells, of this type, none of them frozen. -/
def Blk (w : World) (b : Nat) (cs : List Value) (t : TypeId) : Prop := w.heap[b]? = some (.cells cs.toArray t (0, 0))

theorem Blk.lt {w : World} {b : Nat} {cs : List Value} {t : TypeId} (h : Blk w b cs t) : b < w.heap.size := (Array.getElem?_eq_some_iff.1 h).1
theorem Blk.cell {w : World} {b : Nat} {cs : List Value} {t : TypeId} (h : Blk w b cs t) (j : Nat) : w.cell? ⟨b, j, none⟩ = cs[j]? := by
  unfold Blk at h
  simp [World.cell?, h]
theorem Blk.frozen {w : World} {b : Nat} {cs : List Value} {t : TypeId} (h : Blk w b cs t) (j : Nat) : w.frozen? ⟨b, j, none⟩ = false := by
  unfold Blk at h
  simp [World.frozen?, h]
theorem Blk.new (w : World) (cs : List Value) (t : TypeId) : Blk (w.alloc (.cells cs.toArray t)) w.heap.size cs t := heap_alloc_new w _
theorem Blk.newAt (w : World) (b : Nat) (cs : List Value) (t : TypeId) (h : w.heap.size = b) : Blk (w.alloc (.cells cs.toArray t)) b cs t := h ▸ Blk.new w cs t
theorem Blk.alloc {w : World} {b : Nat} {cs : List Value} {t : TypeId} (h : Blk w b cs t) (o : Obj) : Blk (w.alloc o) b cs t := (Below.heap_alloc w o b h.lt).trans h
theorem Blk.drew {w : World} {b : Nat} {cs : List Value} {t : TypeId} (h : Blk w b cs t) : Blk w.drew b cs t := h
theorem Blk.drewN {w : World} {b : Nat} {cs : List Value} {t : TypeId} (h : Blk w b cs t) (n : Nat) : Blk (w.drewN n) b cs t := h
theorem Blk.other {w : World} {b : Nat} {cs : List Value} {t : TypeId} (h : Blk w b cs t) (a : Addr) (v : Value) (hne : b ≠ a.block) : Blk (w.setCell a v) b cs t := (Below.heap_setCell w a v b hne).trans h
theorem Blk.set {w : World} {b : Nat} {cs : List Value} {t : TypeId} (h : Blk w b cs t) (j : Nat) (v : Value) : Blk (w.setCell ⟨b, j, none⟩ v) b (cs.set j v) t := by
  unfold Blk at h ⊢
  obtain ⟨hlt, he⟩ := Array.getElem?_eq_some_iff.1 h
  simp [World.setCell, hlt, Array.getElem_modify, he]

/-- Behind w stands w': new blocks, writes to the blocks of S, draws; all else as it was. -/
structure Kept (w w' : World) (S : List Nat) : Prop where
  os : w'.os = w.os
  tape : w'.tape = w.tape
  output : w'.output = w.output
  size : w.heap.size ≤ w'.heap.size
  block : ∀ k, k < w.heap.size → k ∉ S → w'.heap[k]? = w.heap[k]?

theorem Kept.refl (w : World) (S : List Nat) : Kept w w S := ⟨rfl, rfl, rfl, Nat.le_refl _, fun _ _ _ => rfl⟩
theorem Kept.trans {a b c : World} {S : List Nat} (h : Kept a b S) (k : Kept b c S) : Kept a c S :=
  ⟨k.os.trans h.os, k.tape.trans h.tape, k.output.trans h.output, Nat.le_trans h.size k.size, fun i hi hs => (k.block i (Nat.lt_of_lt_of_le hi h.size) hs).trans (h.block i hi hs)⟩
theorem Kept.mono {a b : World} {S T : List Nat} (h : Kept a b S) (hs : ∀ x ∈ S, x ∈ T) : Kept a b T := ⟨h.os, h.tape, h.output, h.size, fun k hk hn => h.block k hk (fun hm => hn (hs k hm))⟩
/-- What was not there when a began may be written. -/
theorem Kept.trans_new {a b c : World} {S T : List Nat} (h : Kept a b S) (k : Kept b c T) (ht : ∀ x ∈ T, x ∈ S ∨ a.heap.size ≤ x) : Kept a c S :=
  ⟨k.os.trans h.os, k.tape.trans h.tape, k.output.trans h.output, Nat.le_trans h.size k.size, fun i hi hs => (k.block i (Nat.lt_of_lt_of_le hi h.size) (fun hm => by rcases ht i hm with h1 | h1; exact hs h1; omega)).trans (h.block i hi hs)⟩
theorem Kept.alloc {a w : World} {S : List Nat} (h : Kept a w S) (o : Obj) : Kept a (w.alloc o) S :=
  h.trans ⟨rfl, rfl, rfl, by simp, fun k hk _ => Below.heap_alloc w o k hk⟩
theorem Kept.drew {a w : World} {S : List Nat} (h : Kept a w S) : Kept a w.drew S := ⟨h.os, h.tape, h.output, h.size, h.block⟩
theorem Kept.drewN {a w : World} {S : List Nat} (h : Kept a w S) (n : Nat) : Kept a (w.drewN n) S := ⟨h.os, h.tape, h.output, h.size, h.block⟩
theorem Kept.setCell {a w : World} {S : List Nat} (h : Kept a w S) (p : Addr) (v : Value) (hp : p.block ∈ S ∨ a.heap.size ≤ p.block) : Kept a (w.setCell p v) S := by
  have hb := (Below.refl 0 w).setCell (p := p) (Nat.zero_le _) v
  refine ⟨hb.os.trans h.os, hb.tape.trans h.tape, hb.output.trans h.output, Nat.le_trans h.size hb.size, fun k hk hs => ?_⟩
  refine (Below.heap_setCell w p v k ?_).trans (h.block k hk hs)
  intro e
  rcases hp with h1 | h1
  · exact hs (e ▸ h1)
  · omega
theorem Kept.blk {w w' : World} {S : List Nat} (h : Kept w w' S) {b : Nat} {cs : List Value} {t : TypeId} (hb : Blk w b cs t) (hs : b ∉ S) : Blk w' b cs t := (h.block b hb.lt hs).trans hb
theorem Kept.below {w w' : World} {S : List Nat} (h : Kept w w' S) {B : Nat} (hB : B ≤ w.heap.size) (hS : ∀ x ∈ S, B ≤ x) : Below B w w' :=
  ⟨h.os, h.tape, h.output, h.size, fun k hk => h.block k (Nat.lt_of_lt_of_le hk hB) (fun hm => by have := hS k hm; omega)⟩
end Go.Proofs.YtpcaiechaakhnabGreatDoor

/-
  The variable 'pairs' of package escape, holding what its initialiser lays; bytes as cells.
-/
namespace Go.Proofs.YtpcaiechaakhnabGreatDoor
open Go.RowKit

def pcells : Array Value := #[.int .u8 38, .string ⟨#[38, 97, 109, 112, 59]⟩, .int .u8 60, .string ⟨#[38, 108, 116, 59]⟩, .int .u8 62, .string ⟨#[38, 103, 116, 59]⟩, .int .u8 34, .string ⟨#[38, 113, 117, 111, 116, 59]⟩]
/-- The variable 'pairs' (block 0) holds what its initialiser lays. -/
def Pairs (w : World) : Prop := ∃ t fr, w.heap[7]? = some (.cells pcells t fr)
/-- A byte, as a cell. -/
def b8 (b : UInt8) : Value := .int .u8 b.toNat

theorem Pairs.below {B : Nat} {w w' : World} (h : Pairs w) (hb : Below B w w') (h0 : 7 < B) : Pairs w' := by
  obtain ⟨t, fr, hg⟩ := h
  exact ⟨t, fr, (hb.block 7 h0).trans hg⟩
theorem Pairs.alloc {w : World} (h : Pairs w) (o : Obj) : Pairs (w.alloc o) := by
  obtain ⟨t, fr, hg⟩ := h
  exact ⟨t, fr, (Below.heap_alloc w o 7 (Array.getElem?_eq_some_iff.1 hg).1).trans hg⟩
theorem Pairs.pos {w : World} (h : Pairs w) : 7 < w.heap.size := by
  obtain ⟨t, fr, hg⟩ := h
  exact (Array.getElem?_eq_some_iff.1 hg).1

theorem idx0 (w : World) : (Instr.index 176 (.agg pcells) (.int .i64 0)).run Tryz.prog w = .ok (.agg #[.int .u8 38, .string ⟨#[38, 97, 109, 112, 59]⟩]) w := by kernel_rfl
theorem idx1 (w : World) : (Instr.index 176 (.agg pcells) (.int .i64 1)).run Tryz.prog w = .ok (.agg #[.int .u8 60, .string ⟨#[38, 108, 116, 59]⟩]) w := by kernel_rfl
theorem idx2 (w : World) : (Instr.index 176 (.agg pcells) (.int .i64 2)).run Tryz.prog w = .ok (.agg #[.int .u8 62, .string ⟨#[38, 103, 116, 59]⟩]) w := by kernel_rfl
theorem idx3 (w : World) : (Instr.index 176 (.agg pcells) (.int .i64 3)).run Tryz.prog w = .ok (.agg #[.int .u8 34, .string ⟨#[38, 113, 117, 111, 116, 59]⟩]) w := by kernel_rfl
theorem sz40 : (Tryz.prog.info? 176).map (·.size) = some pcells.size := by kernel_rfl
theorem Tryz.info5w : (Tryz.prog.info? 5).map (fun i => (i.zero, i.size, i.bytes)) = some (some (.int .u8 0), 1, 1) := by kernel_rfl

end Go.Proofs.YtpcaiechaakhnabGreatDoor

/-
  A buffer of bytes that a call owns, turned into a text.
-/
namespace Go.Proofs.YtpcaiechaakhnabGreatDoor
open Go.RowKit

theorem strCells_eq (s : ByteArray) : Lib.strCells s = s.data.toList.map b8 := rfl

/-- 'string(out)' of a buffer that is owned. -/
theorem conv_esc {B n : Nat} {v : Value} {l : List UInt8} {W0 w : World} (h : Lib.OwnBuf B 5 v n (l.map b8) W0 w) : (convert 22 9 v).run Tryz.prog w = .ok (.string ⟨l.toArray⟩) w := by
  obtain ⟨⟨hl, hv⟩, _, _⟩ := h
  have hn : n = l.length := by simpa using hl.symm
  subst hn
  have hown : w.ownsRowF B 5 1 v l.length (l.map b8) := ⟨hl, hv⟩
  rcases hv with ⟨rfl, h0⟩ | ⟨g, cap, cur, fz, rfl, hrest⟩
  · obtain rfl : l = [] := List.length_eq_zero_iff.1 h0
    exact run_convert_bytes_nil w 22 5 Tryz.underlying22 Tryz.underlying5 0 0 9 Tryz.underlying9
  · refine run_convert_bytes_back w 22 9 5 ⟨g, 0, none⟩ cap l Tryz.underlying22 Tryz.underlying5 Tryz.underlying9 (fun j hj => ?_)
    exact hown.cells (g := g) rfl j _ (by simp [b8, List.getElem?_eq_getElem hj])

theorem own_make {w w1 : World} {n : Nat} (h : w1.ownsRow w.heap.size 5 1 (.slice (some ⟨w.heap.size, 0, none⟩) 0 n) 0 []) (hg : w.grownBy w1 none) : Lib.OwnBuf w.heap.size 5 (.slice (some ⟨w.heap.size, 0, none⟩) 0 n) 0 [] w w1 :=
  ⟨World.ownsRowF_of h, (Below.refl _ _).grown hg (Nat.le_refl _) (fun k hk => by cases hk), hg.size⟩

theorem take_snoc (s : ByteArray) (k : Nat) (h : k < s.size) : s.data.toList.take (k + 1) = s.data.toList.take k ++ [s[k]] := by
  rw [List.take_succ_eq_append_getElem (by simpa using h)]; rfl

end Go.Proofs.YtpcaiechaakhnabGreatDoor

/-
  escape.firstRead: the character that a text which is not empty begins with when it is read, and how many bytes it takes; the variable 'pairs' holding what its initialiser lays.
-/
namespace Go.Proofs.YtpcaiechaakhnabGreatDoor
open Go.RowKit

theorem hp_is (s p : ByteArray) (w : World) (b : Bool) (h : Lib.hasPrefix s.data.toList p.data.toList = b) :
    Calls Tryz.prog 26 #[.string s, .string p] w fun e w' => e = .returned (.bool b) ∧ w' = w := by
  have := Tryz.strings_HasPrefix s p w
  rw [h] at this
  exact this

/-- What firstRead comes to. -/
def FrPost (l : List UInt8) (w : World) (e : Ending) (w' : World) : Prop :=
  e = .returned (.tuple #[.int .u8 (Esc.fst1 l).1.toNat, .int .i64 (Esc.fst1 l).2]) ∧ Below w.heap.size w w'

theorem below1 {w : World} (o1 : Obj) : Below w.heap.size w (w.alloc o1) := (Below.refl w.heap.size w).alloc (Nat.le_refl _) o1
theorem below2 {w : World} (o1 o2 : Obj) : Below w.heap.size w ((w.alloc o1).alloc o2) := (below1 o1).alloc (below1 o1).size o2
theorem below3 {w : World} (o1 o2 o3 : Obj) : Below w.heap.size w (((w.alloc o1).alloc o2).alloc o3) := (below2 o1 o2).alloc (below2 o1 o2).size o3
theorem below4 {w : World} (o1 o2 o3 o4 : Obj) : Below w.heap.size w ((((w.alloc o1).alloc o2).alloc o3).alloc o4) := (below3 o1 o2 o3).alloc (below3 o1 o2 o3).size o4

set_option maxRecDepth 100000 in
set_option maxHeartbeats 800000 in
theorem fr_0 (s : ByteArray) (w : World) (hp : Pairs w) (h0 : Lib.hasPrefix s.data.toList [38, 97, 109, 112, 59] = true) : Calls Tryz.prog 117 #[.string s] w (FrPost s.data.toList w) := by
  have hf : Esc.fst1 s.data.toList = (38, 5) := by unfold Lib.hasPrefix at h0; simp [Esc.fst1, h0]
  have HF : Hid (Esc.fst1 s.data.toList = (38, 5)) := hf
  clear hf
  have H0 : Hid (Lib.hasPrefix s.data.toList [38, 97, 109, 112, 59] = true) := h0
  clear h0
  obtain ⟨t, fr, hg⟩ := hp
  have Hg : Hid (w.heap[7]? = some (.cells pcells t fr)) := hg
  clear hg
  have i0 := idx0
  have i1 := idx1
  have i2 := idx2
  have i3 := idx3
  go_enter Tryz.func117, Tryz.ntmps117
  go_wp2_with (refine wpList_load_row rfl 176 _ rfl 7 rfl t _ fr _ Hg.out Tryz.underlying176 rfl sz40 ?_)
  refine wp_loop_rounds 5 ?_
  rw [rounds_succ]
  go_wp2_with fail
  refine (hp_is s ⟨#[38, 97, 109, 112, 59]⟩ _ true H0.out).mono ?_
  rintro e w' ⟨rfl, rfl⟩
  go_wp2_with fail
  go_quiet (fail)
  go_wp2
  go_ret2
  exact ⟨by rw [HF.out]; rfl, Go.below_drewN (below1 _) _⟩

set_option maxRecDepth 100000 in
set_option maxHeartbeats 800000 in
theorem fr_1 (s : ByteArray) (w : World) (hp : Pairs w) (h0 : Lib.hasPrefix s.data.toList [38, 97, 109, 112, 59] = false) (h1 : Lib.hasPrefix s.data.toList [38, 108, 116, 59] = true) : Calls Tryz.prog 117 #[.string s] w (FrPost s.data.toList w) := by
  have hf : Esc.fst1 s.data.toList = (60, 4) := by unfold Lib.hasPrefix at h0 h1; simp [Esc.fst1, h0, h1]
  have HF : Hid (Esc.fst1 s.data.toList = (60, 4)) := hf
  clear hf
  have H0 : Hid (Lib.hasPrefix s.data.toList [38, 97, 109, 112, 59] = false) := h0
  clear h0
  have H1 : Hid (Lib.hasPrefix s.data.toList [38, 108, 116, 59] = true) := h1
  clear h1
  obtain ⟨t, fr, hg⟩ := hp
  have Hg : Hid (w.heap[7]? = some (.cells pcells t fr)) := hg
  clear hg
  have i0 := idx0
  have i1 := idx1
  have i2 := idx2
  have i3 := idx3
  go_enter Tryz.func117, Tryz.ntmps117
  go_wp2_with (refine wpList_load_row rfl 176 _ rfl 7 rfl t _ fr _ Hg.out Tryz.underlying176 rfl sz40 ?_)
  refine wp_loop_rounds 5 ?_
  rw [rounds_succ]
  go_wp2_with fail
  refine (hp_is s ⟨#[38, 97, 109, 112, 59]⟩ _ false H0.out).mono ?_
  rintro e w' ⟨rfl, rfl⟩
  go_wp2_with fail
  rw [rounds_succ]
  go_wp2_with fail
  refine (hp_is s ⟨#[38, 108, 116, 59]⟩ _ true H1.out).mono ?_
  rintro e w' ⟨rfl, rfl⟩
  go_wp2_with fail
  go_quiet (fail)
  go_wp2
  go_ret2
  exact ⟨by rw [HF.out]; rfl, Go.below_drewN (below2 _ _) _⟩

set_option maxRecDepth 100000 in
set_option maxHeartbeats 800000 in
theorem fr_2 (s : ByteArray) (w : World) (hp : Pairs w) (h0 : Lib.hasPrefix s.data.toList [38, 97, 109, 112, 59] = false) (h1 : Lib.hasPrefix s.data.toList [38, 108, 116, 59] = false) (h2 : Lib.hasPrefix s.data.toList [38, 103, 116, 59] = true) : Calls Tryz.prog 117 #[.string s] w (FrPost s.data.toList w) := by
  have hf : Esc.fst1 s.data.toList = (62, 4) := by unfold Lib.hasPrefix at h0 h1 h2; simp [Esc.fst1, h0, h1, h2]
  have HF : Hid (Esc.fst1 s.data.toList = (62, 4)) := hf
  clear hf
  have H0 : Hid (Lib.hasPrefix s.data.toList [38, 97, 109, 112, 59] = false) := h0
  clear h0
  have H1 : Hid (Lib.hasPrefix s.data.toList [38, 108, 116, 59] = false) := h1
  clear h1
  have H2 : Hid (Lib.hasPrefix s.data.toList [38, 103, 116, 59] = true) := h2
  clear h2
  obtain ⟨t, fr, hg⟩ := hp
  have Hg : Hid (w.heap[7]? = some (.cells pcells t fr)) := hg
  clear hg
  have i0 := idx0
  have i1 := idx1
  have i2 := idx2
  have i3 := idx3
  go_enter Tryz.func117, Tryz.ntmps117
  go_wp2_with (refine wpList_load_row rfl 176 _ rfl 7 rfl t _ fr _ Hg.out Tryz.underlying176 rfl sz40 ?_)
  refine wp_loop_rounds 5 ?_
  rw [rounds_succ]
  go_wp2_with fail
  refine (hp_is s ⟨#[38, 97, 109, 112, 59]⟩ _ false H0.out).mono ?_
  rintro e w' ⟨rfl, rfl⟩
  go_wp2_with fail
  rw [rounds_succ]
  go_wp2_with fail
  refine (hp_is s ⟨#[38, 108, 116, 59]⟩ _ false H1.out).mono ?_
  rintro e w' ⟨rfl, rfl⟩
  go_wp2_with fail
  rw [rounds_succ]
  go_wp2_with fail
  refine (hp_is s ⟨#[38, 103, 116, 59]⟩ _ true H2.out).mono ?_
  rintro e w' ⟨rfl, rfl⟩
  go_wp2_with fail
  go_quiet (fail)
  go_wp2
  go_ret2
  exact ⟨by rw [HF.out]; rfl, Go.below_drewN (below3 _ _ _) _⟩

set_option maxRecDepth 100000 in
set_option maxHeartbeats 800000 in
theorem fr_3 (s : ByteArray) (w : World) (hp : Pairs w) (h0 : Lib.hasPrefix s.data.toList [38, 97, 109, 112, 59] = false) (h1 : Lib.hasPrefix s.data.toList [38, 108, 116, 59] = false) (h2 : Lib.hasPrefix s.data.toList [38, 103, 116, 59] = false) (h3 : Lib.hasPrefix s.data.toList [38, 113, 117, 111, 116, 59] = true) : Calls Tryz.prog 117 #[.string s] w (FrPost s.data.toList w) := by
  have hf : Esc.fst1 s.data.toList = (34, 6) := by unfold Lib.hasPrefix at h0 h1 h2 h3; simp [Esc.fst1, h0, h1, h2, h3]
  have HF : Hid (Esc.fst1 s.data.toList = (34, 6)) := hf
  clear hf
  have H0 : Hid (Lib.hasPrefix s.data.toList [38, 97, 109, 112, 59] = false) := h0
  clear h0
  have H1 : Hid (Lib.hasPrefix s.data.toList [38, 108, 116, 59] = false) := h1
  clear h1
  have H2 : Hid (Lib.hasPrefix s.data.toList [38, 103, 116, 59] = false) := h2
  clear h2
  have H3 : Hid (Lib.hasPrefix s.data.toList [38, 113, 117, 111, 116, 59] = true) := h3
  clear h3
  obtain ⟨t, fr, hg⟩ := hp
  have Hg : Hid (w.heap[7]? = some (.cells pcells t fr)) := hg
  clear hg
  have i0 := idx0
  have i1 := idx1
  have i2 := idx2
  have i3 := idx3
  go_enter Tryz.func117, Tryz.ntmps117
  go_wp2_with (refine wpList_load_row rfl 176 _ rfl 7 rfl t _ fr _ Hg.out Tryz.underlying176 rfl sz40 ?_)
  refine wp_loop_rounds 5 ?_
  rw [rounds_succ]
  go_wp2_with fail
  refine (hp_is s ⟨#[38, 97, 109, 112, 59]⟩ _ false H0.out).mono ?_
  rintro e w' ⟨rfl, rfl⟩
  go_wp2_with fail
  rw [rounds_succ]
  go_wp2_with fail
  refine (hp_is s ⟨#[38, 108, 116, 59]⟩ _ false H1.out).mono ?_
  rintro e w' ⟨rfl, rfl⟩
  go_wp2_with fail
  rw [rounds_succ]
  go_wp2_with fail
  refine (hp_is s ⟨#[38, 103, 116, 59]⟩ _ false H2.out).mono ?_
  rintro e w' ⟨rfl, rfl⟩
  go_wp2_with fail
  rw [rounds_succ]
  go_wp2_with fail
  refine (hp_is s ⟨#[38, 113, 117, 111, 116, 59]⟩ _ true H3.out).mono ?_
  rintro e w' ⟨rfl, rfl⟩
  go_wp2_with fail
  go_quiet (fail)
  go_wp2
  go_ret2
  exact ⟨by rw [HF.out]; rfl, Go.below_drewN (below4 _ _ _ _) _⟩

set_option maxRecDepth 100000 in
set_option maxHeartbeats 800000 in
theorem fr_4 (s : ByteArray) (w : World) (hp : Pairs w) (h0 : Lib.hasPrefix s.data.toList [38, 97, 109, 112, 59] = false) (h1 : Lib.hasPrefix s.data.toList [38, 108, 116, 59] = false) (h2 : Lib.hasPrefix s.data.toList [38, 103, 116, 59] = false) (h3 : Lib.hasPrefix s.data.toList [38, 113, 117, 111, 116, 59] = false) (hs : 0 < s.size) : Calls Tryz.prog 117 #[.string s] w (FrPost s.data.toList w) := by
  have hf : Esc.fst1 s.data.toList = (s[0], 1) := by
    unfold Lib.hasPrefix at h0 h1 h2 h3
    simp [Esc.fst1, h0, h1, h2, h3, List.headD_eq_head?_getD, List.head?_eq_getElem?, List.getElem?_eq_getElem (show 0 < s.data.toList.length by simpa using hs)]
    rfl
  have HF : Hid (Esc.fst1 s.data.toList = (s[0], 1)) := hf
  clear hf
  have H0 : Hid (Lib.hasPrefix s.data.toList [38, 97, 109, 112, 59] = false) := h0
  clear h0
  have H1 : Hid (Lib.hasPrefix s.data.toList [38, 108, 116, 59] = false) := h1
  clear h1
  have H2 : Hid (Lib.hasPrefix s.data.toList [38, 103, 116, 59] = false) := h2
  clear h2
  have H3 : Hid (Lib.hasPrefix s.data.toList [38, 113, 117, 111, 116, 59] = false) := h3
  clear h3
  obtain ⟨t, fr, hg⟩ := hp
  have Hg : Hid (w.heap[7]? = some (.cells pcells t fr)) := hg
  clear hg
  have i0 := idx0
  have i1 := idx1
  have i2 := idx2
  have i3 := idx3
  go_enter Tryz.func117, Tryz.ntmps117
  go_wp2_with (refine wpList_load_row rfl 176 _ rfl 7 rfl t _ fr _ Hg.out Tryz.underlying176 rfl sz40 ?_)
  refine wp_loop_rounds 5 ?_
  rw [rounds_succ]
  go_wp2_with fail
  refine (hp_is s ⟨#[38, 97, 109, 112, 59]⟩ _ false H0.out).mono ?_
  rintro e w' ⟨rfl, rfl⟩
  go_wp2_with fail
  rw [rounds_succ]
  go_wp2_with fail
  refine (hp_is s ⟨#[38, 108, 116, 59]⟩ _ false H1.out).mono ?_
  rintro e w' ⟨rfl, rfl⟩
  go_wp2_with fail
  rw [rounds_succ]
  go_wp2_with fail
  refine (hp_is s ⟨#[38, 103, 116, 59]⟩ _ false H2.out).mono ?_
  rintro e w' ⟨rfl, rfl⟩
  go_wp2_with fail
  rw [rounds_succ]
  go_wp2_with fail
  refine (hp_is s ⟨#[38, 113, 117, 111, 116, 59]⟩ _ false H3.out).mono ?_
  rintro e w' ⟨rfl, rfl⟩
  go_wp2_with fail
  rw [rounds_succ]
  go_wp2
  go_ret2
  exact ⟨by rw [HF.out]; rfl, below4 _ _ _ _⟩

theorem fr_any (s : ByteArray) (w : World) (hp : Pairs w) (hs : 0 < s.size) : Calls Tryz.prog 117 #[.string s] w (FrPost s.data.toList w) := by
  cases h0 : Lib.hasPrefix s.data.toList [38, 97, 109, 112, 59]
  · cases h1 : Lib.hasPrefix s.data.toList [38, 108, 116, 59]
    · cases h2 : Lib.hasPrefix s.data.toList [38, 103, 116, 59]
      · cases h3 : Lib.hasPrefix s.data.toList [38, 113, 117, 111, 116, 59]
        · exact fr_4 s w hp h0 h1 h2 h3 hs
        · exact fr_3 s w hp h0 h1 h2 h3
      · exact fr_2 s w hp h0 h1 h2
    · exact fr_1 s w hp h0 h1
  · exact fr_0 s w hp h0
end Go.Proofs.YtpcaiechaakhnabGreatDoor

/-
  escape.Read: what it comes to at every text, the variable 'pairs' holding what its initialiser lays.
-/
namespace Go.Proofs.YtpcaiechaakhnabGreatDoor
open Go.RowKit

theorem ownBuf_below {B n : Nat} {v : Value} {xs : List Value} {W0 w w' : World} (h : Lib.OwnBuf B 5 v n xs W0 w) (hb : Below w.heap.size w w') : Lib.OwnBuf B 5 v n xs W0 w' := by
  obtain ⟨⟨hl, hv⟩, hW, hB⟩ := h
  refine ⟨⟨hl, ?_⟩, hW.trans (hb.mono hB), Nat.le_trans hB hb.size⟩
  rcases hv with hv | ⟨g, cap, cur, fz, hv, hg0, hg, hrest⟩
  · exact .inl hv
  · exact .inr ⟨g, cap, cur, fz, hv, hg0, (hb.block g (Array.getElem?_eq_some_iff.1 hg).1).trans hg, hrest⟩

set_option maxHeartbeats 400000 in
theorem read_many (s : ByteArray) (w : World) (hs : s.size ≤ maxLen) (h : 120000 < s.size) :
    Calls Tryz.prog 102 #[.string s] w fun e w' => e = .returned (.tuple #[.string ⟨#[]⟩, .int .i64 2]) ∧ w' = w := by
  unfold maxLen at hs
  go_enter Tryz.func102, Tryz.ntmps102
  go_wp2
  go_ret2
  exact ⟨rfl, rfl⟩

theorem rd_drop (l : List UInt8) (k : Nat) (pre : List UInt8) (hk : k < l.length) (h : pre ++ Esc.rd (l.drop k) = Esc.rd l) :
    (pre ++ [(Esc.fst1 (l.drop k)).1]) ++ Esc.rd (l.drop (k + (Esc.fst1 (l.drop k)).2)) = Esc.rd l := by
  rw [← h, Esc.rd_step (l.drop k) (by intro e; have := congrArg List.length e; simp at this; omega), List.drop_drop]
  simp

set_option maxRecDepth 100000 in
set_option maxHeartbeats 1600000 in
theorem read_ok (s : ByteArray) (w : World) (hp : Pairs w) (hs : s.size ≤ 120000) :
    Calls Tryz.prog 102 #[.string s] w fun e w' => e = .returned (.tuple #[.string ⟨(Esc.rd s.data.toList).toArray⟩, .int .i64 0]) ∧ Below w.heap.size w w' := by
  have HP : Hid (Pairs w) := hp
  have hpos := hp.pos
  clear hp
  obtain ⟨i5, hi, hz0, hz1, hz2⟩ := info_parts Tryz.info5w
  go_enter Tryz.func102, Tryz.ntmps102
  go_wp2_with (at_make; refine wpList_make_own _ rfl _ _ 22 rfl w.heap.size 5 i5 (.int .u8 0) 1 Tryz.underlying22 hi hz0 hz1 _ _ _ s.size rfl rfl (by omega) ?_ ?_ ?_ ?_)
  · rw [hz2]; omega
  · unfold maxLen; omega
  · exact Nat.le_refl _
  intro w1 hown hgrow
  have hob := own_make hown hgrow
  have HO : Hid (Lib.OwnBuf w.heap.size 5 (.slice (some ⟨w.heap.size, 0, none⟩) 0 s.size) 0 [] w w1) := hob
  clear hown hgrow hob
  go_wp2
  go_loopw [4, 5] (fun v i wr => ∃ (k : Nat) (pre : List UInt8), k ≤ s.size ∧ i = .int .i64 k ∧ pre.length ≤ k ∧ pre ++ Esc.rd (s.data.toList.drop k) = Esc.rd s.data.toList ∧ Lib.OwnBuf w.heap.size 5 v pre.length (pre.map b8) w wr) (fun _ i _ => s.size - (intOf i).toNat)
  case atStart => exact ⟨0, [], Nat.zero_le _, rfl, Nat.le_refl _, by simp, HO.out⟩
  case round =>
    obtain ⟨k, pre, hk, rfl, hpk, hpre, hob⟩ := hrel
    have HR : Hid (Lib.OwnBuf w.heap.size 5 u4 pre.length (pre.map b8) w wr) := hob
    have HE : Hid (pre ++ Esc.rd (s.data.toList.drop k) = Esc.rd s.data.toList) := hpre
    clear hob hpre
    by_cases hlt : k < s.size
    · obtain ⟨c, n, hcn⟩ : ∃ c n, Esc.fst1 (s.data.toList.drop k) = (c, n) := ⟨_, _, rfl⟩
      have hll : s.data.toList.length = s.size := by simp
      have hne : s.data.toList.drop k ≠ [] := by intro e; have := congrArg List.length e; simp at this; omega
      have hn1 : 1 ≤ n ∧ n ≤ 6 := by have := Esc.fst1_pos (s.data.toList.drop k); rw [hcn] at this; exact this
      have hn2 : k + n ≤ s.size := by have := Esc.fst1_le _ hne; rw [hcn, List.length_drop, hll] at this; simp at this; omega
      have hnext := rd_drop s.data.toList k pre (by omega) HE.out
      rw [hcn] at hnext
      have hfr := fr_any (s.extract k s.size) wr (HP.out.below HR.out.2.1 hpos) (by simp; omega)
      unfold FrPost at hfr
      rw [Lib.extract_to_end, hcn] at hfr
      have HF : Hid (Calls Tryz.prog 117 #[.string (s.extract k s.size)] wr fun e w' => e = .returned (.tuple #[.int .u8 c.toNat, .int .i64 n]) ∧ Below wr.heap.size wr w') := hfr
      have HN : Hid ((pre ++ [c]) ++ Esc.rd (s.data.toList.drop (k + n)) = Esc.rd s.data.toList) := hnext
      clear hfr hnext hcn hne hll
      obtain ⟨hn1, hn6⟩ := hn1
      go_wp2_with fail
      refine HF.out.mono ?_
      rintro e w2 ⟨rfl, hb2⟩
      have HB : Hid (Lib.OwnBuf w.heap.size 5 u4 pre.length (pre.map b8) w w2) := ownBuf_below HR.out hb2
      clear hb2
      go_wp2_with (at_builtin; refine Lib.wpList_append_byte rfl (.tmp 25) (.tmp 27) 22 rfl w.heap.size 5 i5 Tryz.underlying22 hi hz0 hz1 hz2 u4 pre.length (pre.map b8) rfl w _ c.toNat HB.out rfl ?_ ?_)
      · omega
      · intro v' w3 hb3
        have H3 : Hid (Lib.OwnBuf w.heap.size 5 v' (pre ++ [c]).length ((pre ++ [c]).map b8) w w3) := by
          rw [List.length_append, List.map_append]; exact hb3
        clear hb3
        go_wp2
        go_roundw
        case rel => exact ⟨k + n, pre ++ [c], hn2, by go_num, by simp; omega, HN.out, H3.out⟩
        case measure => simp [intOf]; omega
    · have hkk : s.data.toList.drop k = [] := List.drop_of_length_le (by simp; omega)
      have hcv := conv_esc HR.out
      have hfin : pre = Esc.rd s.data.toList := by have := HE.out; rw [hkk, Esc.rd_nil] at this; simpa using this
      rw [hfin] at hcv
      clear hkk hfin
      go_wp2
      go_ret2
      exact ⟨rfl, HR.out.2.1⟩
end Go.Proofs.YtpcaiechaakhnabGreatDoor
