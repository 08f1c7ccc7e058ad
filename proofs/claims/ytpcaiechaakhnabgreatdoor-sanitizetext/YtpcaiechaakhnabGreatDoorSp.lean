/-
  Chapter 6 on lists: the document that a page's tokens make; that it is one; that what is written of a document is read as itself; what is hidden; the page of a text.
-/
import Derived.Test.YtpcaiechaakhnabGreatDoorTp
import Derived.Test.YtpcaiechaakhnabGreatDoorLq
namespace Go.Proofs.YtpcaiechaakhnabGreatDoor
open Go.RowKit
namespace Sn
open Pg (Nm Tok St)
def blockOf (n : List UInt8) : Option Int := if n == [112] then some 0 else if n == [100, 105, 118] then some 0 else if n == [104, 49] then some 1 else if n == [108, 105] then some 2 else if n == [104, 50] then some 3 else none
def boldL : List (List UInt8) := [[98], [115, 116, 114, 111, 110, 103]]
def slantL : List (List UInt8) := [[105], [101, 109]]
def brL : List UInt8 := [98, 114]
def hiddenL : List (List UInt8) := [[115, 99, 114, 105, 112, 116], [115, 116, 121, 108, 101], [116, 101, 109, 112, 108, 97, 116, 101], [115, 118, 103], [109, 97, 116, 104], [105, 102, 114, 97, 109, 101], [116, 105, 116, 108, 101], [116, 101, 120, 116, 97, 114, 101, 97], [110, 111, 115, 99, 114, 105, 112, 116]]
/-- A page that is read. -/
structure S where
  d : List It
  bold : Int
  slant : Int
  kind : Int
  link : List UInt8
  hides : List UInt8
  opened : Bool
def endOf (m : Int) : It := ⟨10, m, B []⟩
def whole (d : List It) : Bool := match d.getLast? with
  | some x => Dc.ends x
  | none => true
def shut (s : S) : S := { s with d := if s.opened || !whole s.d then s.d ++ [endOf s.kind] else s.d, opened := false, kind := 0 }
def chr (c : UInt8) : UInt8 := if c == 9 || c == 10 || c == 13 || c == 12 then 32 else if c < 32 || 126 < c then 63 else c
def item (s : S) (c : UInt8) : It := ⟨chr c, (if 0 < s.bold then 1 else 0) + (if 0 < s.slant then 2 else 0), B s.link⟩
def one (k : Int) : Int := if k == 2 then 1 else if k == 3 then -1 else 0
def up (x : Int) : Int := if x < 0 then 0 else x
/-- A tag that begins or ends no block. -/
def other (s : S) (t : Tk) : S :=
  if boldL.contains t.name then { s with bold := up (s.bold + one t.kind) }
  else if slantL.contains t.name then { s with slant := up (s.slant + one t.kind) }
  else if t.name == [97] then { s with link := if t.kind == 2 then Lk.clean t.href else [] }
  else if t.kind == 3 then s
  else if t.name == brL then { shut { s with opened := true } with kind := s.kind }
  else if hiddenL.contains t.name then { s with hides := t.name } else s
def step (s : S) (t : Tk) : S :=
  if !s.hides.isEmpty then (if t.kind == 3 && t.name == s.hides then { s with hides := [] } else s)
  else if t.kind == 1 then { s with d := s.d ++ t.text.map (item s) }
  else if t.kind == 4 then s
  else match blockOf t.name with
    | some k => if t.kind == 2 then { shut s with opened := true, kind := k } else shut s
    | none => other s t
def run : S → List Tk → Option S
  | s, [] => some s
  | s, t :: r => if 80 < (step s t).d.length then none else run (step s t) r
def s0 : S := ⟨[], 0, 0, 0, [], [], false⟩
def all (s : S) : List It := if (shut s).d.isEmpty then [endOf 0] else (shut s).d
def fin (s : S) : Option (List It) := if 80 < (all s).length then none else some (all s)
/-- The document that a page's tokens make, or none. -/
def read (ts : List Tk) : Option (List It) := (run s0 ts).bind fin

/- Behind each token there are no fewer items. -/
theorem shut_len (s : S) : s.d.length ≤ (shut s).d.length := by
  unfold shut
  show s.d.length ≤ (if s.opened || !whole s.d then s.d ++ [endOf s.kind] else s.d).length
  split <;> simp
theorem other_len (s : S) (t : Tk) : s.d.length ≤ (other s t).d.length := by
  unfold other
  split
  · exact Nat.le_refl _
  split
  · exact Nat.le_refl _
  split
  · exact Nat.le_refl _
  split
  · exact Nat.le_refl _
  split
  · exact shut_len { s with opened := true }
  split <;> exact Nat.le_refl _
theorem step_len (s : S) (t : Tk) : s.d.length ≤ (step s t).d.length := by
  unfold step
  split
  · split <;> exact Nat.le_refl _
  split
  · simp
  split
  · exact Nat.le_refl _
  split
  · split
    · exact shut_len s
    · exact shut_len s
  · exact other_len s t
theorem fold_len : ∀ (ts : List Tk) (s : S), s.d.length ≤ (ts.foldl step s).d.length
  | [], _ => Nat.le_refl _
  | t :: r, s => Nat.le_trans (step_len s t) (fold_len r (step s t))
theorem run_ok : ∀ (ts : List Tk) (s : S), (ts.foldl step s).d.length ≤ 80 → run s ts = some (ts.foldl step s)
  | [], _, _ => rfl
  | t :: r, s, h => by
    have h1 := fold_len r (step s t)
    have h2 : (step s t).d.length ≤ 80 := Nat.le_trans h1 h
    rw [run, if_neg (by omega), run_ok r (step s t) h]
    rfl
theorem run_some : ∀ (ts : List Tk) (s s' : S), run s ts = some s' → s' = ts.foldl step s
  | [], s, s', h => by cases h; rfl
  | t :: r, s, s', h => by
    rw [run] at h
    split at h
    · cases h
    · exact run_some r _ _ h

/- What a page that is written is read as. -/
def stepP (s : S) (t : Tok) : S := step s (Tk.one t)
theorem txt_nil (s : S) : step s (Tk.txt []) = s := by
  unfold step Tk.txt
  cases h : s.hides.isEmpty
  · simp
  · simp
theorem txt_snoc (s : S) (u : List UInt8) (c : UInt8) : step (step s (Tk.txt u)) (Tk.txt [c]) = step s (Tk.txt (u ++ [c])) := by
  cases h : s.hides.isEmpty
  · have e : ∀ v, step s (Tk.txt v) = s := fun v => by unfold step Tk.txt; simp [h]
    rw [e, e, e]
  · have e : ∀ v, step s (Tk.txt v) = { s with d := s.d ++ v.map (item s) } := fun v => by unfold step Tk.txt; simp [h]
    rw [e, e]
    unfold step Tk.txt
    simp [h, item]
theorem fold_some1 (u : List UInt8) (s : S) : (Tk.some1 u).foldl step s = step s (Tk.txt u) := by
  unfold Tk.some1
  cases hu : u.isEmpty
  · rfl
  · have : u = [] := by simpa using hu
    subst this
    exact (txt_nil s).symm
theorem fold_view : ∀ (ts : List Tok) (u : List UInt8) (s : S), (Tk.view u ts).foldl step s = ts.foldl stepP (step s (Tk.txt u))
  | [], u, s => by
    exact fold_some1 u s
  | .inr (.inr c) :: r, u, s => by
    rw [Tk.view, fold_view r, List.foldl_cons]
    show _ = r.foldl stepP (step (step s (Tk.txt u)) (Tk.txt [c]))
    rw [txt_snoc]
  | .inl (.inl n) :: r, u, s => by
    rw [Tk.view, List.foldl_append, List.foldl_cons, fold_view r, txt_nil, fold_some1]
    rfl
  | .inl (.inr n) :: r, u, s => by
    rw [Tk.view, List.foldl_append, List.foldl_cons, fold_view r, txt_nil, fold_some1]
    rfl
  | .inr (.inl l) :: r, u, s => by
    rw [Tk.view, List.foldl_append, List.foldl_cons, fold_view r, txt_nil, fold_some1]
    rfl
/-- Within a block. -/
structure In (s : S) : Prop where
  bold : s.bold = 0
  slant : s.slant = 0
  link : s.link = []
  hides : s.hides = []
def plus (s : S) (d : List It) : S := { s with d := s.d ++ d }
theorem plus_nil (s : S) : plus s [] = s := by simp [plus]
theorem plus_plus (s : S) (a b : List It) : plus (plus s a) b = plus s (a ++ b) := by simp [plus]
theorem In.plus {s : S} (h : In s) (d : List It) : In (plus s d) := ⟨h.bold, h.slant, h.link, h.hides⟩
/-- Characters that may be. -/
def vis (c : UInt8) : Prop := 32 ≤ c ∧ c ≤ 126
theorem chr_vis {c : UInt8} (h : vis c) : chr c = c := by
  obtain ⟨h1, h2⟩ := h
  have g1 : ¬ c < 32 := UInt8.not_lt.2 h1
  have g2 : ¬ 126 < c := UInt8.not_lt.2 h2
  have hn : ∀ k : UInt8, k < 32 → (c == k) = false := fun k hk => by
    apply beq_eq_false_iff_ne.2
    intro e
    subst e
    exact g1 hk
  unfold chr
  rw [hn 9 (by decide), hn 10 (by decide), hn 13 (by decide), hn 12 (by decide)]
  simp [g1, g2]
theorem fold_chars (u : List UInt8) (s : S) (h : s.hides = []) : (u.map Tok.ch).foldl stepP s = { s with d := s.d ++ u.map (item s) } := by
  induction u generalizing s with
  | nil => simp
  | cons c u ih =>
    have e : stepP s (.ch c) = { s with d := s.d ++ [item s c] } := by
      unfold stepP step
      simp [h, Tk.one, Tk.txt]
    rw [List.map_cons, List.foldl_cons, e, ih { s with d := s.d ++ [item s c] } h]
    simp [item]
theorem step_seen (s : S) (t : Tk) (h : s.hides = []) : step s t = if t.kind == 1 then { s with d := s.d ++ t.text.map (item s) } else if t.kind == 4 then s else match blockOf t.name with
    | some k => if t.kind == 2 then { shut s with opened := true, kind := k } else shut s
    | none => other s t := by
  unfold step
  rw [if_neg (by rw [h]; decide)]
theorem step_bi (s : S) (h : s.hides = []) : stepP s (.op .b) = { s with bold := up (s.bold + 1) } ∧ stepP s (.cl .b) = { s with bold := up (s.bold + -1) } ∧ stepP s (.op .i) = { s with slant := up (s.slant + 1) } ∧ stepP s (.cl .i) = { s with slant := up (s.slant + -1) } := by
  unfold stepP
  rw [step_seen s _ h, step_seen s _ h, step_seen s _ h, step_seen s _ h]
  exact ⟨rfl, rfl, rfl, rfl⟩
theorem step_a (s : S) (h : s.hides = []) (l : List UInt8) : stepP s (.a l) = { s with link := Lk.clean l } ∧ stepP s (.cl .a) = { s with link := [] } := by
  unfold stepP
  rw [step_seen s _ h, step_seen s _ h]
  exact ⟨rfl, rfl⟩
def itm (b sl : Int) (l : List UInt8) (c : UInt8) : It := ⟨chr c, (if 0 < b then 1 else 0) + (if 0 < sl then 2 else 0), B l⟩
theorem fold_chars' (d : List It) (b sl k : Int) (l : List UInt8) (o : Bool) (u : List UInt8) : (u.map Tok.ch).foldl stepP ⟨d, b, sl, k, l, [], o⟩ = ⟨d ++ u.map (itm b sl l), b, sl, k, l, [], o⟩ := fold_chars u _ rfl
theorem itm_vis (b sl m : Int) (l u : List UInt8) (hu : ∀ c ∈ u, vis c) (h : (if 0 < b then (1 : Int) else 0) + (if 0 < sl then 2 else 0) = m) : u.map (itm b sl l) = u.map (Pg.mk m (B l)) := by
  apply List.map_congr_left
  intro c hc
  unfold itm Pg.mk
  rw [chr_vis (hu c hc), h]
theorem fold_tags (m : Int) (h0 : 0 ≤ m) (h3 : m ≤ 3) (u : List UInt8) (hu : ∀ c ∈ u, vis c) (d : List It) (k : Int) (l : List UInt8) (o : Bool) :
    (Pg.tags m (u.map .ch)).foldl stepP ⟨d, 0, 0, k, l, [], o⟩ = ⟨d ++ u.map (Pg.mk m (B l)), 0, 0, k, l, [], o⟩ := by
  have hm : m = 0 ∨ m = 1 ∨ m = 2 ∨ m = 3 := by omega
  rcases hm with rfl | rfl | rfl | rfl
  · show (u.map Tok.ch).foldl stepP ⟨d, 0, 0, k, l, [], o⟩ = _
    rw [fold_chars', itm_vis 0 0 0 l u hu rfl]
  · show (.op .b :: (u.map Tok.ch ++ [.cl .b])).foldl stepP ⟨d, 0, 0, k, l, [], o⟩ = _
    rw [List.foldl_cons, List.foldl_append]
    show List.foldl stepP (List.foldl stepP ⟨d, 1, 0, k, l, [], o⟩ (u.map Tok.ch)) [.cl .b] = _
    rw [fold_chars', itm_vis 1 0 1 l u hu rfl]
    rfl
  · show (.op .i :: (u.map Tok.ch ++ [.cl .i])).foldl stepP ⟨d, 0, 0, k, l, [], o⟩ = _
    rw [List.foldl_cons, List.foldl_append]
    show List.foldl stepP (List.foldl stepP ⟨d, 0, 1, k, l, [], o⟩ (u.map Tok.ch)) [.cl .i] = _
    rw [fold_chars', itm_vis 0 1 2 l u hu rfl]
    rfl
  · show (.op .b :: ((.op .i :: (u.map Tok.ch ++ [.cl .i])) ++ [.cl .b])).foldl stepP ⟨d, 0, 0, k, l, [], o⟩ = _
    rw [List.foldl_cons, List.foldl_append]
    show List.foldl stepP (List.foldl stepP ⟨d, 1, 1, k, l, [], o⟩ (u.map Tok.ch ++ [.cl .i])) [.cl .b] = _
    rw [List.foldl_append, fold_chars', itm_vis 1 1 3 l u hu rfl]
    rfl
/-- The state within a block, and between two. -/
def inn (d : List It) (k : Int) (o : Bool) : S := ⟨d, 0, 0, k, [], [], o⟩
theorem fold_seg (x : It) (hx : Tk.Good x) (u : List UInt8) (hu : ∀ c ∈ u, vis c) (d : List It) (k : Int) (o : Bool) : (Pg.seg x u).foldl stepP (inn d k o) = inn (d ++ u.map (Pg.mk x.m x.l)) k o := by
  obtain ⟨h0, h3, hl⟩ := hx
  unfold Pg.seg Pg.linked inn
  cases he : x.l.toList.isEmpty
  · have hmay : Lk.may x.l.data.toList = true := by rcases hl with g | g; rw [he] at g; cases g; exact g
    rw [if_neg (by decide), List.foldl_cons, List.foldl_append]
    show List.foldl stepP (List.foldl stepP ⟨d, 0, 0, k, Lk.clean x.l.data.toList, [], o⟩ (Pg.tags x.m (u.map Tok.ch))) [.cl .a] = _
    rw [Lk.clean_may hmay, fold_tags x.m h0 h3 u hu, B_of]
    rfl
  · have : x.l = B [] := by
      rw [Lib.toList_data] at he
      apply ext_list
      rw [B_data]
      simpa using he
    rw [if_pos rfl, fold_tags x.m h0 h3 u hu, ← this]
/-- An item of a document. -/
def Nice (x : It) : Prop := Tk.Good x ∧ (Dc.ends x = true → x.l = B []) ∧ (Dc.ends x = false → vis x.c)
structure RInv (T : St) (l : List It) : Prop where
  back : ∃ d1 d2, T.page.foldl stepP s0 = inn d1 0 false ∧ whole d1 = true ∧ (∀ d k o, T.ins.foldl stepP (inn d k o) = inn (d ++ d2) k o) ∧ l = d1 ++ d2 ++ T.text.map (Pg.mk T.last.m T.last.l)
  ok : T.text ≠ [] → Tk.Good T.last
  vis : ∀ c ∈ T.text, vis c
theorem RInv.flush {T : St} {l : List It} (h : RInv T l) : RInv (Pg.flush T) l := by
  obtain ⟨⟨d1, d2, h1, h2, h3, h4⟩, h5, h6⟩ := h
  refine ⟨⟨d1, d2 ++ T.text.map (Pg.mk T.last.m T.last.l), h1, h2, fun d k o => ?_, ?_⟩, fun h => absurd rfl h, fun c hc => by simp [Pg.flush] at hc⟩
  · show (T.ins ++ Pg.tail T.last T.text).foldl stepP (inn d k o) = _
    rw [List.foldl_append, h3]
    unfold Pg.tail
    cases ht : T.text.isEmpty
    · have hne : T.text ≠ [] := by intro e; rw [e] at ht; cases ht
      rw [if_neg (by decide), fold_seg T.last (h5 hne) T.text h6, List.append_assoc]
    · have e : T.text = [] := by simpa using ht
      rw [if_pos rfl, e]
      simp
  · rw [h4]
    show _ = d1 ++ (d2 ++ T.text.map _) ++ []
    simp
theorem fold_lists (a b : Bool) (d : List It) (k : Int) (o : Bool) : (Pg.lists a b).foldl stepP (inn d k o) = inn d k o := by
  cases a <;> cases b <;> rfl
theorem whole_snoc (d : List It) (m : Int) : whole (d ++ [endOf m]) = true := by
  unfold whole
  simp [endOf, Dc.ends]
theorem step_kind (m : Int) (h0 : 0 ≤ m) (h3 : m ≤ 3) (d : List It) : (whole d = true → stepP (inn d 0 false) (.op (Pg.kind m)) = inn d m true) ∧ stepP (inn d m true) (.cl (Pg.kind m)) = inn (d ++ [endOf m]) 0 false := by
  have hm : m = 0 ∨ m = 1 ∨ m = 2 ∨ m = 3 := by omega
  refine ⟨fun hw => ?_, ?_⟩
  · have hs : shut (inn d 0 false) = inn d 0 false := by unfold shut inn; simp [hw]
    have : ∀ k : Int, ({ shut (inn d 0 false) with opened := true, kind := k } : S) = inn d k true := fun k => by rw [hs]; rfl
    rcases hm with rfl | rfl | rfl | rfl
    · exact this 0
    · exact this 1
    · exact this 2
    · exact this 3
  · rcases hm with rfl | rfl | rfl | rfl <;> rfl
theorem RInv.step {T : St} {l : List It} {x : It} (h : RInv T l) (hx : Nice x) : RInv (Pg.step T x) (l ++ [x]) := by
  obtain ⟨x1, x2, x3⟩ := hx
  unfold Pg.step
  cases he : Dc.ends x
  · have hv := x3 he
    simp only [Bool.false_eq_true, if_false]
    cases hd : (!T.text.isEmpty && Pg.diff T.last x)
    · simp only [Bool.false_eq_true, if_false]
      obtain ⟨⟨d1, d2, h1, h2, h3, h4⟩, h5, h6⟩ := h
      refine ⟨⟨d1, d2, h1, h2, h3, ?_⟩, fun _ => x1, fun c hc => ?_⟩
      · show l ++ [x] = d1 ++ d2 ++ (T.text ++ [x.c]).map (Pg.mk x.m x.l)
        rw [List.map_append, ← List.append_assoc, h4]
        congr 2
        by_cases ht : T.text = []
        · rw [ht]; rfl
        · have : Pg.diff T.last x = false := by simpa [ht] using hd
          obtain ⟨e1, e2⟩ := Pg.not_diff this
          rw [e1, e2]
      · rcases List.mem_append.1 hc with hc | hc
        · exact h6 c hc
        · simp at hc; rw [hc]; exact hv
    · simp only [if_true]
      obtain ⟨⟨d1, d2, h1, h2, h3, h4⟩, h5, h6⟩ := h.flush
      refine ⟨⟨d1, d2, h1, h2, h3, ?_⟩, fun _ => x1, fun c hc => ?_⟩
      · rw [Pg.flush_text] at h4
        rw [h4]
        simp
        rfl
      · simp at hc; rw [hc]; exact hv
  · simp only [if_true]
    obtain ⟨⟨d1, d2, h1, h2, h3, h4⟩, h5, h6⟩ := h.flush
    refine ⟨⟨l ++ [x], [], ?_, ?_, fun d k o => ?_, ?_⟩, fun h => absurd (Pg.flush_text T) h, fun c hc => ?_⟩
    · show ((Pg.flush T).page ++ Pg.lists (Pg.flush T).list (x.m == 2) ++ Tok.op (Pg.kind x.m) :: ((Pg.flush T).ins ++ [Tok.cl (Pg.kind x.m)])).foldl stepP s0 = _
      obtain ⟨x0, x3', _⟩ := x1
      obtain ⟨k1, _⟩ := step_kind x.m x0 x3' d1
      obtain ⟨_, k2⟩ := step_kind x.m x0 x3' (d1 ++ d2)
      rw [List.foldl_append, List.foldl_append, h1, fold_lists, List.foldl_cons, k1 h2, List.foldl_append, h3]
      show stepP (inn (d1 ++ d2) x.m true) (.cl (Pg.kind x.m)) = _
      rw [k2]
      rw [Pg.flush_text] at h4
      have : x = endOf x.m := by unfold endOf; rw [← x2 he, ← Pg.ends_c he]
      rw [h4, ← this]
      simp
    · have : x = endOf x.m := by unfold endOf; rw [← x2 he, ← Pg.ends_c he]
      rw [this]
      exact whole_snoc l x.m
    · show inn d k o = _
      rw [List.append_nil]
    · show l ++ [x] = l ++ [x] ++ [] ++ (Pg.flush T).text.map _
      rw [Pg.flush_text]
      simp
    · have e : (Pg.endB (Pg.flush T) x.m).text = [] := rfl
      rw [e] at hc
      simp at hc
theorem rinv_fold : ∀ (l k : List It) (s : St), RInv s k → (∀ x ∈ l, Nice x) → RInv (l.foldl Pg.step s) (k ++ l)
  | [], k, s, h, _ => by simpa using h
  | x :: l, k, s, h, hl => by
    rw [List.foldl_cons, show k ++ x :: l = (k ++ [x]) ++ l by simp]
    exact rinv_fold l (k ++ [x]) _ (h.step (hl x (by simp))) (fun y hy => hl y (by simp [hy]))
theorem fold_page (l : List It) (x : It) (he : Dc.ends x = true) (hl : ∀ y ∈ l ++ [x], Nice y) : (Tk.toks (Pg.page (l ++ [x]))).foldl step s0 = inn (l ++ [x]) 0 false := by
  have h : RInv (Pg.run (l ++ [x])) (l ++ [x]) := by
    have := rinv_fold (l ++ [x]) [] Pg.st0 ⟨⟨[], [], rfl, rfl, fun d k o => by rw [List.append_nil]; rfl, rfl⟩, fun h => absurd rfl h, fun c hc => by simp [Pg.st0] at hc⟩ hl
    rw [List.nil_append] at this
    exact this
  obtain ⟨⟨d1, d2, h1, h2, h3, h4⟩, _, _⟩ := h
  have hr := Pg.run_ends l x he
  rw [Tk.toks_page, fold_view, txt_nil]
  unfold Pg.toks Pg.fin
  rw [List.foldl_append, h1, fold_lists]
  have e2 : d2 = [] := by
    have := h3 [] 0 false
    rw [hr] at this
    have e : (Pg.endB (Pg.flush (Pg.run l)) x.m).ins.foldl stepP (inn [] 0 false) = inn [] 0 false := rfl
    rw [e] at this
    have := congrArg S.d this
    simpa [inn] using this.symm
  have e3 : (Pg.run (l ++ [x])).text = [] := by rw [hr]; rfl
  rw [e2, e3] at h4
  rw [h4]
  simp
/-- What is written of a document is read as itself. -/
theorem read_page (l : List It) (x : It) (he : Dc.ends x = true) (hl : ∀ y ∈ l ++ [x], Nice y) (h80 : (l ++ [x]).length ≤ 80) : read (Tk.toks (Pg.page (l ++ [x]))) = some (l ++ [x]) := by
  have hf := fold_page l x he hl
  have hr := run_ok (Tk.toks (Pg.page (l ++ [x]))) s0 (by rw [hf]; exact h80)
  unfold read
  rw [hr, hf]
  show fin (inn (l ++ [x]) 0 false) = _
  have hw : whole (l ++ [x]) = true := by unfold whole; simp [he]
  have hs : (shut (inn (l ++ [x]) 0 false)).d = l ++ [x] := by unfold shut inn; simp [hw]
  have ha : all (inn (l ++ [x]) 0 false) = l ++ [x] := by unfold all; rw [hs]; simp
  unfold fin
  rw [ha, if_neg (by omega)]
end Sn
namespace Sn
/- What is made is a document. -/
theorem chr_is (c : UInt8) : vis (chr c) := by
  unfold chr vis
  split
  · decide
  split
  · decide
  · rename_i h1 h2
    simp only [Bool.or_eq_true, decide_eq_true_eq, not_or] at h2
    exact ⟨UInt8.not_lt.1 h2.1, UInt8.not_lt.1 h2.2⟩
theorem vis_ends {x : It} (h : vis x.c) : Dc.ends x = false := by
  cases he : Dc.ends x
  · rfl
  · have := Pg.ends_c he
    rw [this] at h
    exact absurd h.1 (by decide)
theorem empty_B : (B []).toList.isEmpty = true := by rw [Lib.toList_data, B_data]; rfl
structure Made (s : S) : Prop where
  nice : ∀ x ∈ s.d, Nice x
  link : s.link = [] ∨ Lk.may s.link = true
  lo : 0 ≤ s.kind
  hi : s.kind ≤ 3
theorem nice_end (m : Int) (h0 : 0 ≤ m) (h3 : m ≤ 3) : Nice (endOf m) :=
  ⟨⟨h0, h3, .inl empty_B⟩, fun _ => rfl, fun h => by simp [endOf, Dc.ends] at h⟩
theorem nice_item {s : S} (h : Made s) (c : UInt8) : Nice (item s c) := by
  have hv : vis (item s c).c := chr_is c
  refine ⟨⟨?_, ?_, ?_⟩, fun he => ?_, fun _ => hv⟩
  · show (0 : Int) ≤ (if 0 < s.bold then 1 else 0) + (if 0 < s.slant then 2 else 0)
    split <;> split <;> decide
  · show (if 0 < s.bold then (1 : Int) else 0) + (if 0 < s.slant then 2 else 0) ≤ 3
    split <;> split <;> decide
  · rcases h.link with e | e
    · left
      show (B s.link).toList.isEmpty = true
      rw [e]
      exact empty_B
    · right
      exact e
  · rw [vis_ends hv] at he
    cases he
theorem Made.shut {s : S} (h : Made s) : Made (shut s) := by
  refine ⟨fun x hx => ?_, h.link, Int.le_refl 0, (by decide : (0 : Int) ≤ 3)⟩
  change x ∈ (if s.opened || !whole s.d then s.d ++ [endOf s.kind] else s.d) at hx
  split at hx
  · rcases List.mem_append.1 hx with hx | hx
    · exact h.nice x hx
    · simp at hx; rw [hx]; exact nice_end _ h.lo h.hi
  · exact h.nice x hx
theorem clean_link (l : List UInt8) : Lk.clean l = [] ∨ Lk.may (Lk.clean l) = true := by
  by_cases h : Lk.clean l = []
  · exact .inl h
  · exact .inr (Lk.clean_some h).2
theorem Made.other {s : S} (h : Made s) (t : Tk) : Made (other s t) := by
  unfold Sn.other
  split
  · exact ⟨h.nice, h.link, h.lo, h.hi⟩
  split
  · exact ⟨h.nice, h.link, h.lo, h.hi⟩
  split
  · refine ⟨h.nice, ?_, h.lo, h.hi⟩
    show (if t.kind == 2 then Lk.clean t.href else []) = [] ∨ _
    split
    · exact clean_link _
    · exact .inl rfl
  split
  · exact h
  split
  · have h1 : Made { s with opened := true } := ⟨h.nice, h.link, h.lo, h.hi⟩
    have h2 := h1.shut
    exact ⟨h2.nice, h2.link, h.lo, h.hi⟩
  split
  · exact ⟨h.nice, h.link, h.lo, h.hi⟩
  · exact h
theorem block_kind {n : List UInt8} {k : Int} (h : blockOf n = some k) : 0 ≤ k ∧ k ≤ 3 := by
  unfold blockOf at h
  split at h
  · cases h; decide
  split at h
  · cases h; decide
  split at h
  · cases h; decide
  split at h
  · cases h; decide
  split at h
  · cases h; decide
  · cases h
theorem Made.step {s : S} (h : Made s) (t : Tk) : Made (step s t) := by
  unfold Sn.step
  split
  · split
    · exact ⟨h.nice, h.link, h.lo, h.hi⟩
    · exact h
  split
  · refine ⟨fun x hx => ?_, h.link, h.lo, h.hi⟩
    rcases List.mem_append.1 hx with hx | hx
    · exact h.nice x hx
    · obtain ⟨c, _, rfl⟩ := List.mem_map.1 hx
      exact nice_item h c
  split
  · exact h
  split
  · rename_i k hk
    obtain ⟨k0, k3⟩ := block_kind hk
    split
    · exact ⟨h.shut.nice, h.shut.link, k0, k3⟩
    · exact h.shut
  · exact h.other t
theorem made_fold : ∀ (ts : List Tk) (s : S), Made s → Made (ts.foldl step s)
  | [], _, h => h
  | t :: r, _, h => made_fold r _ (h.step t)
theorem made0 : Made s0 := ⟨fun x hx => by simp [s0] at hx, .inl rfl, by decide, by decide⟩
/-- Whatever a page is, what is made of it is a document. -/
theorem read_doc {ts : List Tk} {d : List It} (h : read ts = some d) : (∀ x ∈ d, Nice x) ∧ d.length ≤ 80 ∧ ∃ k x, d = k ++ [x] ∧ Dc.ends x = true := by
  unfold read at h
  cases hr : run s0 ts with
  | none => rw [hr] at h; cases h
  | some s =>
    rw [hr] at h
    change fin s = some d at h
    have hm : Made s := by rw [run_some ts s0 s hr]; exact made_fold ts s0 made0
    unfold fin at h
    split at h
    · cases h
    · rename_i h80
      have hd : all s = d := by cases h; rfl
      rw [hd] at h80
      unfold all at hd
      split at hd
      · subst hd
        exact ⟨fun x hx => by simp at hx; rw [hx]; exact nice_end 0 (by decide) (by decide), by omega, [], endOf 0, rfl, rfl⟩
      · rename_i he
        refine ⟨fun x hx => hm.shut.nice x (by rw [hd]; exact hx), by omega, ?_⟩
        change (if s.opened || !whole s.d then s.d ++ [endOf s.kind] else s.d) = d at hd
        split at hd
        · exact ⟨s.d, endOf s.kind, hd.symm, rfl⟩
        · rename_i hw
          have hw' : whole d = true := by rw [← hd]; simp at hw; exact hw.2
          have hne : d ≠ [] := by
            intro e
            apply he
            change (if s.opened || !whole s.d then s.d ++ [endOf s.kind] else s.d).isEmpty = true
            rw [if_neg hw, hd, e]
            rfl
          refine ⟨d.dropLast, d.getLast hne, (List.dropLast_concat_getLast hne).symm, ?_⟩
          unfold whole at hw'
          rw [List.getLast?_eq_some_getLast hne] at hw'
          exact hw'

/- What is hidden. -/
theorem run_append : ∀ (a b : List Tk) (s : S), run s (a ++ b) = (run s a).bind fun s' => run s' b
  | [], _, _ => rfl
  | t :: a, b, s => by
    rw [List.cons_append, run, run]
    split
    · rfl
    · exact run_append a b _
theorem run_few : ∀ (ts : List Tk) (s s' : S), s.d.length ≤ 80 → run s ts = some s' → s'.d.length ≤ 80
  | [], _, _, hs, h => by cases h; exact hs
  | t :: r, s, s', hs, h => by
    rw [run] at h
    split at h
    · cases h
    · exact run_few r _ _ (by omega) h
/-- Tokens that change nothing where nothing is hidden. -/
def Idle (X : List Tk) : Prop := ∀ s : S, s.hides = [] → s.d.length ≤ 80 → run s X = some s
def textOf (u : List UInt8) : List Tk := if u.isEmpty then [] else [Tk.txt (Esc.rd u)]
/-- A text without tags, and behind it a '<'. -/
theorem toks_plain (u s : List UInt8) (hu : ∀ y ∈ u, y ≠ 60) : Tk.toks (u ++ 60 :: s) = textOf u ++ Tk.toks (60 :: s) := by
  cases u with
  | nil => rfl
  | cons c t =>
    have hc : (c == 60) = false := by simpa using hu c (by simp)
    obtain ⟨h1, h2⟩ := Tk.tw' 60 s t (fun y hy => hu y (by simp [hy]))
    rw [List.cons_append, Tk.toks_cons]
    unfold Tk.first
    rw [hc]
    simp only [Bool.false_eq_true, if_false, h1, h2]
    rfl
theorem run_idle (a X b : List Tk) (hX : Idle X) (ha : ∀ s', run s0 a = some s' → s'.hides = []) : read (a ++ (X ++ b)) = read (a ++ b) := by
  unfold read
  rw [run_append, run_append]
  cases hr : run s0 a with
  | none => rfl
  | some s' =>
    show ((run s' (X ++ b)).bind fin) = ((run s' b).bind fin)
    rw [run_append, hX s' (ha s' hr) (run_few a s0 s' (by decide) hr)]
    rfl
def uT : Tk := ⟨2, [117], [], []⟩
theorem step_u (s : S) (h : s.hides = []) : step s uT = s := by rw [step_seen s uT h]; rfl
/-- Behind a text and a tag that means nothing, nothing is hidden. -/
theorem seen_u (a : List UInt8) (s' : S) (h : run s0 (textOf a ++ [uT]) = some s') : s'.hides = [] := by
  rw [run_some _ _ _ h, List.foldl_append]
  have h1 : ((textOf a).foldl step s0).hides = [] := by
    unfold textOf
    cases a.isEmpty
    · rfl
    · rfl
  show (step _ uT).hides = []
  rw [step_u _ h1]
  exact h1
theorem run_one (s : S) (t : Tk) (h : (step s t).d.length ≤ 80) : run s [t] = some (step s t) := by
  rw [run, if_neg (by omega)]
  rfl
/-- What is hidden by a name, a text in it, and its end. -/
theorem idle_hidden (n : List UInt8) (inside : List UInt8) (hs : ∀ s : S, s.hides = [] → step s ⟨2, n, [], []⟩ = { s with hides := n }) (hne : n.isEmpty = false) :
    Idle (⟨2, n, [], []⟩ :: (textOf inside ++ [⟨3, n, [], []⟩])) := by
  intro s h0 h80
  have e1 := hs s h0
  have e2 : ∀ v, step { s with hides := n } (Tk.txt v) = { s with hides := n } := fun v => by
    unfold step Tk.txt
    simp [hne]
  have e3 : step { s with hides := n } ⟨3, n, [], []⟩ = s := by
    unfold step
    simp [hne]
    rw [← h0]
  have e4 : run { s with hides := n } [⟨3, n, [], []⟩] = some s := by
    have := run_one { s with hides := n } ⟨3, n, [], []⟩ (by rw [e3]; exact h80)
    rw [this, e3]
  rw [run, e1, if_neg (show ¬ 80 < s.d.length by omega), run_append]
  unfold textOf
  cases inside.isEmpty
  · show ((run { s with hides := n } [Tk.txt (Esc.rd inside)]).bind fun s' => run s' [⟨3, n, [], []⟩]) = _
    rw [run_one _ _ (by rw [e2]; exact h80), e2]
    exact e4
  · exact e4
theorem idle_one (t : Tk) (h : ∀ s : S, s.hides = [] → step s t = s) : Idle [t] := by
  intro s h0 h80
  rw [run_one s t (by rw [h s h0]; exact h80), h s h0]
theorem idle_two (t u : Tk) (h : ∀ s : S, s.hides = [] → step s t = s) (h' : ∀ s : S, s.hides = [] → step s u = s) : Idle [t, u] := by
  intro s h0 h80
  rw [run, h s h0, if_neg (by omega)]
  exact idle_one u h' s h0 h80
/- The four that the law asks about. -/
def uL : List UInt8 := [60, 117, 62]
def scriptL : List UInt8 := [60, 115, 99, 114, 105, 112, 116, 62]
def scriptE : List UInt8 := [60, 47, 115, 99, 114, 105, 112, 116, 62]
def styleL : List UInt8 := [60, 83, 84, 89, 76, 69, 32, 120, 61, 121, 62]
def styleE : List UInt8 := [60, 47, 115, 116, 121, 108, 101, 62]
def uuL : List UInt8 := [60, 117, 62, 60, 47, 117, 62]
def spanL : List UInt8 := [60, 115, 112, 97, 110, 62]
theorem toks_u (r : List UInt8) : Tk.toks (uL ++ r) = uT :: Tk.toks r := by
  show Tk.toks (60 :: 117 :: 62 :: r) = _
  rw [Tk.toks_cons]; rfl
theorem toks_script (r : List UInt8) : Tk.toks (scriptL ++ r) = ⟨2, [115, 99, 114, 105, 112, 116], [], []⟩ :: Tk.toks r := by
  show Tk.toks (60 :: ([115, 99, 114, 105, 112, 116, 62] ++ r)) = _
  rw [Tk.toks_cons]; rfl
theorem toks_scriptE (r : List UInt8) : Tk.toks (scriptE ++ r) = ⟨3, [115, 99, 114, 105, 112, 116], [], []⟩ :: Tk.toks r := by
  show Tk.toks (60 :: ([47, 115, 99, 114, 105, 112, 116, 62] ++ r)) = _
  rw [Tk.toks_cons]; rfl
theorem toks_style (r : List UInt8) : Tk.toks (styleL ++ r) = ⟨2, [115, 116, 121, 108, 101], [], []⟩ :: Tk.toks r := by
  show Tk.toks (60 :: ([83, 84, 89, 76, 69, 32, 120, 61, 121, 62] ++ r)) = _
  rw [Tk.toks_cons]; rfl
theorem toks_styleE (r : List UInt8) : Tk.toks (styleE ++ r) = ⟨3, [115, 116, 121, 108, 101], [], []⟩ :: Tk.toks r := by
  show Tk.toks (60 :: ([47, 115, 116, 121, 108, 101, 62] ++ r)) = _
  rw [Tk.toks_cons]; rfl
theorem toks_uE (r : List UInt8) : Tk.toks ([60, 47, 117, 62] ++ r) = ⟨3, [117], [], []⟩ :: Tk.toks r := by
  show Tk.toks (60 :: ([47, 117, 62] ++ r)) = _
  rw [Tk.toks_cons]; rfl
theorem toks_span (r : List UInt8) : Tk.toks (spanL ++ r) = ⟨2, [115, 112, 97, 110], [], []⟩ :: Tk.toks r := by
  show Tk.toks (60 :: ([115, 112, 97, 110, 62] ++ r)) = _
  rw [Tk.toks_cons]; rfl
theorem toks_au (a r : List UInt8) (ha : ∀ y ∈ a, y ≠ 60) : Tk.toks (a ++ (uL ++ r)) = (textOf a ++ [uT]) ++ Tk.toks r := by
  have : a ++ (uL ++ r) = a ++ 60 :: ([117, 62] ++ r) := rfl
  rw [this, toks_plain a _ ha]
  show textOf a ++ Tk.toks (uL ++ r) = _
  rw [toks_u]
  simp
theorem hides_any (a b X : List UInt8) (ts : List Tk) (ha : ∀ y ∈ a, y ≠ 60) (hX : Tk.toks (X ++ b) = ts ++ Tk.toks b) (hi : Idle ts) : read (Tk.toks (a ++ (uL ++ (X ++ b)))) = read (Tk.toks (a ++ (uL ++ b))) := by
  rw [toks_au a _ ha, toks_au a _ ha, hX]
  exact run_idle (textOf a ++ [uT]) ts (Tk.toks b) hi (fun s' h => seen_u a s' h)
theorem hides_script (a b i : List UInt8) (ha : ∀ y ∈ a, y ≠ 60) (hin : ∀ y ∈ i, y ≠ 60) : read (Tk.toks (a ++ (uL ++ ((scriptL ++ i ++ scriptE) ++ b)))) = read (Tk.toks (a ++ (uL ++ b))) := by
  refine hides_any a b _ (⟨2, [115, 99, 114, 105, 112, 116], [], []⟩ :: (textOf i ++ [⟨3, [115, 99, 114, 105, 112, 116], [], []⟩])) ha ?_ (idle_hidden _ i (fun s h => by rw [step_seen s _ h]; rfl) rfl)
  rw [List.append_assoc, List.append_assoc, toks_script]
  have : i ++ (scriptE ++ b) = i ++ 60 :: ([47, 115, 99, 114, 105, 112, 116, 62] ++ b) := rfl
  rw [this, toks_plain i _ hin]
  show _ :: (textOf i ++ Tk.toks (scriptE ++ b)) = _
  rw [toks_scriptE]
  simp
theorem hides_style (a b i : List UInt8) (ha : ∀ y ∈ a, y ≠ 60) (hin : ∀ y ∈ i, y ≠ 60) : read (Tk.toks (a ++ (uL ++ ((styleL ++ i ++ styleE) ++ b)))) = read (Tk.toks (a ++ (uL ++ b))) := by
  refine hides_any a b _ (⟨2, [115, 116, 121, 108, 101], [], []⟩ :: (textOf i ++ [⟨3, [115, 116, 121, 108, 101], [], []⟩])) ha ?_ (idle_hidden _ i (fun s h => by rw [step_seen s _ h]; rfl) rfl)
  rw [List.append_assoc, List.append_assoc, toks_style]
  have : i ++ (styleE ++ b) = i ++ 60 :: ([47, 115, 116, 121, 108, 101, 62] ++ b) := rfl
  rw [this, toks_plain i _ hin]
  show _ :: (textOf i ++ Tk.toks (styleE ++ b)) = _
  rw [toks_styleE]
  simp
theorem hides_uu (a b : List UInt8) (ha : ∀ y ∈ a, y ≠ 60) : read (Tk.toks (a ++ (uL ++ (uuL ++ b)))) = read (Tk.toks (a ++ (uL ++ b))) := by
  refine hides_any a b _ [uT, ⟨3, [117], [], []⟩] ha ?_ (idle_two _ _ step_u (fun s h => by rw [step_seen s _ h]; rfl))
  show Tk.toks (uL ++ ([60, 47, 117, 62] ++ b)) = _
  rw [toks_u, toks_uE]
  rfl
theorem hides_span (a b : List UInt8) (ha : ∀ y ∈ a, y ≠ 60) : read (Tk.toks (a ++ (uL ++ (spanL ++ b)))) = read (Tk.toks (a ++ (uL ++ b))) := by
  refine hides_any a b _ [⟨2, [115, 112, 97, 110], [], []⟩] ha ?_ (idle_one _ (fun s h => by rw [step_seen s _ h]; rfl))
  rw [toks_span]
  rfl

/- The page of a text. -/
def divL : List UInt8 := [60, 100, 105, 118, 62]
theorem toks_wr (u : List UInt8) (h : u ≠ []) : Tk.toks (Esc.wr u) = [Tk.txt u] := by
  have := Tk.toks_text u [] (.inl rfl)
  rw [List.append_nil] at this
  rw [this, Tk.toks_nil, List.append_nil]
  unfold Tk.some1
  cases u with
  | nil => exact absurd rfl h
  | cons => rfl
theorem toks_div (r : List UInt8) : Tk.toks (divL ++ r) = ⟨2, [100, 105, 118], [], []⟩ :: Tk.toks r := by
  show Tk.toks (60 :: ([100, 105, 118, 62] ++ r)) = _
  rw [Tk.toks_cons]; rfl
theorem whole_items (u : List UInt8) (h : u ≠ []) : whole (u.map (item s0)) = false := by
  unfold whole
  rw [List.getLast?_map, List.getLast?_eq_some_getLast h]
  show Dc.ends (item s0 (u.getLast h)) = false
  exact vis_ends (chr_is _)
theorem read_text (u : List UInt8) (h : u ≠ []) (hl : u.length ≤ 79) : read (Tk.toks (Esc.wr u)) = some (u.map (item s0) ++ [endOf 0]) ∧ read (Tk.toks (divL ++ Esc.wr u)) = some (u.map (item s0) ++ [endOf 0]) := by
  rw [toks_div, toks_wr u h]
  refine ⟨?_, ?_⟩
  · have e : step s0 (Tk.txt u) = { s0 with d := u.map (item s0) } := rfl
    unfold read
    rw [run_one s0 _ (by rw [e]; simp; omega), e]
    show fin _ = _
    have hs : (shut { s0 with d := u.map (item s0) }).d = u.map (item s0) ++ [endOf 0] := by
      unfold shut
      simp only [whole_items u h]
      rfl
    have ha : all { s0 with d := u.map (item s0) } = u.map (item s0) ++ [endOf 0] := by unfold all; rw [hs]; simp
    unfold fin
    rw [ha, if_neg (by simp; omega)]
  · have e1 : step s0 ⟨2, [100, 105, 118], [], []⟩ = { s0 with opened := true } := rfl
    have e2 : step { s0 with opened := true } (Tk.txt u) = { s0 with d := u.map (item s0), opened := true } := rfl
    unfold read
    rw [run, e1, if_neg (by decide), run_one _ _ (by rw [e2]; simp; omega), e2]
    show fin _ = _
    have hs : (shut { s0 with d := u.map (item s0), opened := true }).d = u.map (item s0) ++ [endOf 0] := rfl
    have ha : all { s0 with d := u.map (item s0), opened := true } = u.map (item s0) ++ [endOf 0] := by unfold all; rw [hs]; simp
    unfold fin
    rw [ha, if_neg (by simp; omega)]
end Sn
end Go.Proofs.YtpcaiechaakhnabGreatDoor
