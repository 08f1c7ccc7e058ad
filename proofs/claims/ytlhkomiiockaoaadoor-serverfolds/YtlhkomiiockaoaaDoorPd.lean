/-
  Chapter 7's promises on parts: what an operation makes of a document is one; made tidy it does the same, and is a right one, and made tidy again the same.
-/
import Derived.Test.YtlhkomiiockaoaaDoorOj
import Derived.Test.YtlhkomiiockaoaaDoorPc
namespace Go.Proofs.YtlhkomiiockaoaaDoor
open Go.RowKit
theorem it_alike {x y : It} : Dc.alike x y = true ↔ x = y := by
  constructor
  · intro h
    unfold Dc.alike at h
    simp only [Bool.and_eq_true] at h
    obtain ⟨h1, h2, h3⟩ := h
    have e1 : x.c = y.c := UInt8.toNat_inj.1 (by have : (x.c.toNat : Int) = (y.c.toNat : Int) := by simpa using h1
                                                 omega)
    have e2 : x.m = y.m := by simpa using h2
    have e3 : x.l = y.l := ext_list (by rw [← Lib.toList_data, ← Lib.toList_data]; simpa using h3)
    obtain ⟨a, b, c⟩ := x
    obtain ⟨a', b', c'⟩ := y
    simp only at e1 e2 e3
    rw [e1, e2, e3]
  · rintro rfl
    unfold Dc.alike
    simp
theorem its_same : ∀ (l l' : List It), Dc.same l l' = true ↔ l = l'
  | [], [] => by simp [Dc.same]
  | [], _ :: _ => by simp [Dc.same]
  | _ :: _, [] => by simp [Dc.same]
  | x :: s, y :: t => by
    rw [Dc.same, Bool.and_eq_true, it_alike, its_same s t]
    simp
namespace Ac
theorem says_self (p : Pt) : says p p = true := by unfold says; simp
theorem same1_self (p : Pt) : same1 p p = true := by
  unfold same1
  rw [(its_same _ _).2 rfl, says_self]
  simp
theorem sameO_self : ∀ o : List Pt, sameO o o = true
  | [] => rfl
  | p :: o => by rw [sameO, same1_self, sameO_self o]; rfl
theorem says_eq {p q : Pt} : says p q = true ↔ chOf p = chOf q := by
  unfold says
  simp only [Bool.and_eq_true, beq_iff_eq]
  constructor
  · rintro ⟨h1, h2, h3, h4⟩
    have e : p.link = q.link := ext_list (by rw [← Lib.toList_data, ← Lib.toList_data]; exact h4)
    unfold chOf
    rw [h1, h2, h3, e]
  · intro h
    unfold chOf at h
    simp only [Ch.mk.injEq] at h
    obtain ⟨h1, h2, h3, h4⟩ := h
    exact ⟨h1, h2, h3, by rw [h4]⟩
theorem same1_eq {p q : Pt} : same1 p q = true ↔ p = q := by
  constructor
  · intro h
    unfold same1 at h
    simp only [Bool.and_eq_true, beq_iff_eq] at h
    obtain ⟨h1, h2, h3, h4⟩ := h
    have h3 := (its_same _ _).1 h3
    have h4 := says_eq.1 h4
    unfold chOf at h4
    simp only [Ch.mk.injEq] at h4
    obtain ⟨a1, a2, a3, a4, a5, a6, a7⟩ := p
    obtain ⟨b1, b2, b3, b4, b5, b6, b7⟩ := q
    simp only at h1 h2 h3 h4
    obtain ⟨h5, h6, h7, h8⟩ := h4
    rw [h1, h2, h3, h5, h6, h7, h8]
  · rintro rfl
    exact same1_self p
theorem likeK_eq {p : Pt} {c : Ch} : likeK p c = true ↔ p.kind = 1 ∧ chOf p = c := by
  constructor
  · exact likeK_ch
  · rintro ⟨h1, rfl⟩
    unfold likeK chOf
    simp [h1]
theorem addK_snoc : ∀ (o : List Pt) (q : Pt) (c : Ch), addK (o ++ [q]) c = if likeK q c then o ++ [{ q with n := q.n + 1 }] else o ++ [q] ++ [keepP c 1]
  | [], q, c => by
    show addK [q] c = _
    rw [addK]
    split <;> rfl
  | [p], q, c => by
    show addK (p :: q :: []) c = _
    rw [addK]
    have := addK_snoc [] q c
    rw [List.nil_append] at this
    rw [this]
    split <;> rfl
  | p :: p' :: o, q, c => by
    show addK (p :: p' :: (o ++ [q])) c = _
    rw [addK]
    have := addK_snoc (p' :: o) q c
    rw [List.cons_append] at this
    rw [this]
    split <;> rfl
/-- Many items more are kept. -/
def addKs (o : List Pt) (c : Ch) : Nat → List Pt
  | 0 => o
  | k + 1 => addKs (addK o c) c k
theorem addKs_like : ∀ (k : Nat) (o : List Pt) (q : Pt) (c : Ch), likeK q c = true → addKs (o ++ [q]) c k = o ++ [{ q with n := q.n + k }]
  | 0, o, q, c, _ => by simp [addKs]
  | k + 1, o, q, c, h => by
    have h2 : likeK { q with n := q.n + 1 } c = true := h
    rw [addKs, addK_snoc, if_pos h, addKs_like k o _ c h2]
    congr 2
    simp only
    congr 1
    omega
theorem keepP_like (c : Ch) (n : Int) : likeK (keepP c n) c = true := likeK_eq.2 ⟨rfl, rfl⟩
theorem tdy_keeps (c : Ch) : ∀ (k : Nat) (out : List Pt) (r : List A), tdy out [] 0 (List.replicate k (A.keep c) ++ r) = tdy (addKs out c k) [] 0 r
  | 0, out, r => rfl
  | k + 1, out, r => by
    rw [List.replicate_succ, List.cons_append, tdy, addKs]
    have : flushP ([] : List It) 0 = [] := rfl
    rw [this, List.append_nil, tdy_keeps c k]
theorem keep_items {p : Pt} (h : err1 p = 0) (hk : p.kind = 1) : p.items = [] := by
  have hs := (same1_eq.1 (err1_0 h).2)
  unfold usedP at hs
  rw [if_pos hk] at hs
  exact (congrArg Pt.items hs).trans rfl
theorem keep_is {p : Pt} (h : err1 p = 0) (hk : p.kind = 1) : p = keepP (chOf p) p.n := by
  have hi := keep_items h hk
  obtain ⟨a1, a2, a3, a4, a5, a6, a7⟩ := p
  simp only at hk hi
  subst hk hi
  rfl
theorem withK_adds {o : List Pt} {p : Pt} (h : err1 p = 0) (hk : p.kind = 1) {k : Nat} (hn : p.n = (k : Int) + 1) : addKs o (chOf p) (k + 1) = withK o p := by
  have hu : usedP p = keepP (chOf p) ((k : Int) + 1) := by
    have := keep_is h hk
    unfold usedP
    rw [if_pos hk]
    obtain ⟨a1, a2, a3, a4, a5, a6, a7⟩ := p
    simp only at hk hn
    subst hk hn
    rfl
  rcases List.eq_nil_or_concat o with e | ⟨o', q, e⟩
  · rw [e, withK_nil, hu, addKs]
    have e2 : addK [] (chOf p) = [] ++ [keepP (chOf p) 1] := rfl
    rw [e2, addKs_like k [] _ _ (keepP_like _ _)]
    show [keepP (chOf p) ((1 : Int) + k)] = _
    rw [Int.add_comm]
  · rw [List.concat_eq_append] at e
    rw [e, withK_snoc]
    by_cases hq : q.kind = 1 ∧ says q p = true
    · rw [if_pos hq, addKs_like _ _ _ _ (likeK_eq.2 ⟨hq.1, says_eq.1 hq.2⟩), hn]
      rfl
    · have hl : likeK q (chOf p) = false := by
        cases hc : likeK q (chOf p)
        · rfl
        · have := likeK_eq.1 hc
          exact absurd ⟨this.1, says_eq.2 this.2⟩ hq
      rw [if_neg hq, addKs, addK_snoc, if_neg (by rw [hl]; exact Bool.false_ne_true), addKs_like k _ _ _ (keepP_like _ _), hu]
      show _ ++ [keepP (chOf p) ((1 : Int) + k)] = _
      rw [Int.add_comm]
theorem tdy_part {p : Pt} (h : err1 p = 0) (s : TS) (r : List A) : tdy s.out s.put s.cut (acts1 p ++ r) = tdy (tS s p).out (tS s p).put (tS s p).cut r := by
  unfold tS
  rcases kind_of h with k | k | k
  · rw [if_pos k]
    obtain ⟨_, _, hn1, hn2⟩ := keep_m4 h k
    obtain ⟨m, hm⟩ : ∃ m : Nat, p.n = (m : Int) + 1 := ⟨(p.n - 1).toNat, by omega⟩
    have ha : acts1 p = List.replicate (m + 1) (A.keep (chOf p)) := by
      unfold acts1
      rw [if_neg (by omega), if_pos k]
      congr 1
      omega
    rw [ha, List.replicate_succ, List.cons_append, tdy, tdy_keeps]
    simp only
    rw [← withK_adds h k hm]
    rfl
  · rw [if_neg (by omega), if_pos k]
    have ha : acts1 p = p.items.map A.put := by unfold acts1; rw [if_pos k]
    rw [ha, tdy_puts]
  · rw [if_neg (by omega), if_neg (by omega)]
    have ha : acts1 p = List.replicate p.n.toNat A.cut := by unfold acts1; rw [if_neg (by omega), if_neg (by omega)]
    rw [ha, tdy_cuts]
theorem tdy_fold : ∀ (o : List Pt) (s : TS) (r : List A), (∀ p ∈ o, err1 p = 0) → tdy s.out s.put s.cut (acts o ++ r) = tdy (o.foldl tS s).out (o.foldl tS s).put (o.foldl tS s).cut r
  | [], s, r, _ => rfl
  | p :: o, s, r, h => by
    rw [acts_cons, List.append_assoc, tdy_part (h p (List.mem_cons_self ..)), List.foldl_cons]
    exact tdy_fold o (tS s p) r (fun q hq => h q (List.mem_cons_of_mem _ hq))
theorem ts_last {o : List Pt} (h : Right o) : (ts o).put = [] ∧ (ts o).cut = 0 ∧ ∃ o' p, (ts o).out = withK o' p ∧ p.kind = 1 ∧ err1 p = 0 := by
  obtain ⟨o', p, e, hk⟩ := h.last
  have hp := h.ok p (by rw [e]; simp)
  have : ts o = tS (ts o') p := by unfold ts; rw [e, List.foldl_append]; rfl
  rw [this]
  unfold tS
  rw [if_pos hk]
  exact ⟨rfl, rfl, _, p, rfl, hk, hp⟩
/-- Made tidy part by part it is what its acts are made. -/
theorem ts_tidy {o : List Pt} (h : Right o) : (ts o).out = tidy o := by
  have := tdy_fold o ⟨[], [], 0⟩ [] h.ok
  rw [List.append_nil] at this
  unfold tidy
  rw [show tdy [] [] 0 (acts o) = _ from this]
  obtain ⟨h1, h2, _⟩ := ts_last h
  show _ = tdy (ts o).out (ts o).put (ts o).cut []
  rw [h1, h2, tdy]
  show _ = _ ++ []
  rw [List.append_nil]
theorem need_app : ∀ (a b : List A), need (a ++ b) = need a + need b
  | [], b => by simp [need]
  | some (.inl c) :: a, b => by rw [List.cons_append, need, need, need_app a b]; omega
  | some (.inr x) :: a, b => by rw [List.cons_append, need, need, need_app a b]
  | none :: a, b => by rw [List.cons_append, need, need, need_app a b]; omega
theorem leave_app : ∀ (a b : List A), leave (a ++ b) = leave a + leave b
  | [], b => by simp [leave]
  | some (.inl c) :: a, b => by rw [List.cons_append, leave, leave, leave_app a b]; omega
  | some (.inr x) :: a, b => by rw [List.cons_append, leave, leave, leave_app a b]; omega
  | none :: a, b => by rw [List.cons_append, leave, leave, leave_app a b]
theorem need_keeps (c : Ch) : ∀ n : Nat, need (List.replicate n (A.keep c)) = n ∧ leave (List.replicate n (A.keep c)) = n
  | 0 => ⟨rfl, rfl⟩
  | n + 1 => by rw [List.replicate_succ, need, leave, (need_keeps c n).1, (need_keeps c n).2]; exact ⟨rfl, rfl⟩
theorem need_cuts : ∀ n : Nat, need (List.replicate n A.cut) = n ∧ leave (List.replicate n A.cut) = 0
  | 0 => ⟨rfl, rfl⟩
  | n + 1 => by rw [List.replicate_succ, need, leave, (need_cuts n).1, (need_cuts n).2]; exact ⟨rfl, rfl⟩
theorem need_puts : ∀ l : List It, need (l.map A.put) = 0 ∧ leave (l.map A.put) = l.length
  | [] => ⟨rfl, rfl⟩
  | x :: l => by rw [List.map_cons, need, leave, (need_puts l).1, (need_puts l).2]; exact ⟨rfl, rfl⟩
theorem need_part {p : Pt} (h : p.kind = 1 ∨ p.kind = 2 ∨ p.kind = 3) : need (acts1 p) = nd1 p ∧ leave (acts1 p) = lv1 p := by
  unfold acts1 nd1 lv1
  rcases h with k | k | k
  · rw [if_neg (by omega), if_pos k, if_neg (by omega), if_pos k]; exact need_keeps _ _
  · rw [if_pos k, if_pos k, if_neg (by omega), if_pos k]; exact need_puts _
  · rw [if_neg (by omega), if_neg (by omega), if_neg (by omega), if_neg (by omega), if_neg (by omega)]; exact need_cuts _
theorem need_acts : ∀ {o : List Pt}, (∀ p ∈ o, p.kind = 1 ∨ p.kind = 2 ∨ p.kind = 3) → need (acts o) = nd o ∧ leave (acts o) = lv o
  | [], _ => ⟨rfl, rfl⟩
  | p :: o, h => by
    have h1 := need_part (h p (List.mem_cons_self ..))
    have h2 := need_acts (fun q hq => h q (List.mem_cons_of_mem _ hq))
    rw [acts_cons, need_app, leave_app, nd_cons, lv_cons, h1.1, h1.2, h2.1, h2.2]
    exact ⟨rfl, rfl⟩
theorem kinds_of {o : List Pt} (h : ∀ p ∈ o, err1 p = 0) : ∀ p ∈ o, p.kind = 1 ∨ p.kind = 2 ∨ p.kind = 3 := fun p hp => kind_of (h p hp)
/-- A part that is right but perhaps for its size. -/
def Gd (z : Pt) : Prop := (z.kind = 1 ∧ marksBad z.set z.clr = false ∧ linkBad z.goes z.link = false ∧ z.items = [] ∧ 1 ≤ z.n) ∨ (∃ ps, z = putP ps ∧ ps ≠ [] ∧ ∀ x ∈ ps, Dc.err x = 0) ∨ (∃ n, z = cutP n ∧ 0 < n)
theorem gd_kind {z : Pt} (h : Gd z) : z.kind = 1 ∨ z.kind = 2 ∨ z.kind = 3 := by
  rcases h with h | ⟨ps, rfl, _⟩ | ⟨n, rfl, _⟩
  · exact .inl h.1
  · exact .inr (.inl rfl)
  · exact .inr (.inr rfl)
theorem gd_right {z : Pt} (h : Gd z) (h1 : nd1 z ≤ 80) (h2 : lv1 z ≤ 80) : err1 z = 0 := by
  have key : err0 z = 0 → same1 z (usedP z) = true → err1 z = 0 := fun a b => by unfold err1; rw [if_pos a, if_pos b]
  rcases h with ⟨k, hm, hl, hi, hn⟩ | ⟨ps, rfl, hne, he⟩ | ⟨n, rfl, hn⟩
  · refine key ?_ (same1_eq.2 ?_)
    · unfold nd1 at h1
      rw [if_neg (by omega)] at h1
      unfold err0 errK
      rw [if_pos k, hm, hl]
      show errN z.n = 0
      unfold errN
      rw [if_neg (by omega)]
    · unfold usedP
      rw [if_pos k]
      obtain ⟨a1, a2, a3, a4, a5, a6, a7⟩ := z
      simp only at hi
      subst hi
      rfl
  · refine key ?_ (same1_eq.2 rfl)
    show errPut ps = 0
    have h2 : ps.length ≤ 80 := h2
    have : ps.length ≠ 0 := fun e => hne (List.length_eq_zero_iff.1 e)
    unfold errPut
    rw [if_neg (by omega)]
    exact errs_of he
  · refine key ?_ (same1_eq.2 rfl)
    show errN (n : Int) = 0
    have h1 : ((n : Int)).toNat ≤ 80 := h1
    unfold errN
    rw [if_neg (by omega)]
theorem err1_gd {p : Pt} (h : err1 p = 0) (hk : p.kind = 1) : Gd p := by
  rcases err0_kind (err1_0 h).1 with ⟨_, he⟩ | ⟨h2, _⟩ | ⟨h3, _⟩
  · obtain ⟨h1, h2, h3⟩ := errK_0 he
    exact .inl ⟨hk, h1, h2, keep_items h hk, (errN_0 h3).1⟩
  · omega
  · omega
theorem gd_withK {o : List Pt} {p : Pt} (ho : ∀ z ∈ o, Gd z) (h : err1 p = 0) (hk : p.kind = 1) : ∀ z ∈ withK o p, Gd z := by
  have hp := err1_gd h hk
  have hu : usedP p = p := (same1_eq.1 (err1_0 h).2).symm
  rcases List.eq_nil_or_concat o with e | ⟨o', q, e⟩
  · rw [e, withK_nil, hu]
    intro z hz
    rw [List.mem_singleton.1 hz]
    exact hp
  · rw [List.concat_eq_append] at e
    rw [e] at ho ⊢
    rw [withK_snoc]
    by_cases hq : q.kind = 1 ∧ says q p = true
    · rw [if_pos hq]
      intro z hz
      rcases List.mem_append.1 hz with hz | hz
      · exact ho z (List.mem_append_left _ hz)
      · rw [List.mem_singleton.1 hz]
        have hn := (keep_m4 h hk).2.2.1
        rcases ho q (by simp) with ⟨k, a, b, c, d⟩ | ⟨ps, rfl, _⟩ | ⟨n, rfl, _⟩
        · exact .inl ⟨k, a, b, c, by simp only; omega⟩
        · exact absurd hq.1 (show ¬ (2 : Int) = 1 by decide)
        · exact absurd hq.1 (show ¬ (3 : Int) = 1 by decide)
    · rw [if_neg hq, hu]
      intro z hz
      rcases List.mem_append.1 hz with hz | hz
      · exact ho z hz
      · rw [List.mem_singleton.1 hz]; exact hp
theorem gd_flush {ps : List It} {n : Nat} (h : ∀ x ∈ ps, Dc.err x = 0) : ∀ z ∈ flushP ps n, Gd z := by
  intro z hz
  unfold flushP at hz
  rcases List.mem_append.1 hz with hz | hz
  · split at hz
    · cases hz
    · rename_i hne
      rw [List.mem_singleton.1 hz]
      exact .inr (.inl ⟨ps, rfl, fun e => hne (by rw [e]; rfl), h⟩)
  · split at hz
    · cases hz
    · rename_i hne
      rw [List.mem_singleton.1 hz]
      exact .inr (.inr ⟨n, rfl, Nat.pos_of_ne_zero hne⟩)
theorem gd_fold : ∀ (o : List Pt) (s : TS), (∀ z ∈ s.out, Gd z) → (∀ x ∈ s.put, Dc.err x = 0) → (∀ p ∈ o, err1 p = 0) → (∀ z ∈ (o.foldl tS s).out, Gd z)
  | [], s, h, _, _ => h
  | p :: o, s, h, h2, hp => by
    have he := hp p (List.mem_cons_self ..)
    rw [List.foldl_cons]
    refine gd_fold o (tS s p) ?_ ?_ (fun q hq => hp q (List.mem_cons_of_mem _ hq))
    · unfold tS
      rcases kind_of he with k | k | k
      · rw [if_pos k]
        refine gd_withK (fun z hz => ?_) he k
        rcases List.mem_append.1 hz with hz | hz
        · exact h z hz
        · exact gd_flush h2 z hz
      · rw [if_neg (by omega), if_pos k]; exact h
      · rw [if_neg (by omega), if_neg (by omega)]; exact h
    · unfold tS
      rcases kind_of he with k | k | k
      · rw [if_pos k]; intro x hx; cases hx
      · rw [if_neg (by omega), if_pos k]
        intro x hx
        rcases List.mem_append.1 hx with hx | hx
        · exact h2 x hx
        · exact errs_all (put_len he k).2.2 x hx
      · rw [if_neg (by omega), if_neg (by omega)]; exact h2
theorem withK_last (o : List Pt) (p : Pt) (hk : p.kind = 1) : ∃ o' q, withK o p = o' ++ [q] ∧ q.kind = 1 := by
  have hu : (usedP p).kind = 1 := by unfold usedP; rw [if_pos hk]; exact hk
  rcases List.eq_nil_or_concat o with e | ⟨o', q, e⟩
  · rw [e, withK_nil]; exact ⟨[], _, rfl, hu⟩
  · rw [List.concat_eq_append] at e
    rw [e, withK_snoc]
    by_cases hq : q.kind = 1 ∧ says q p = true
    · rw [if_pos hq]; exact ⟨o', _, rfl, hq.1⟩
    · rw [if_neg hq]; exact ⟨_, _, rfl, hu⟩
theorem nd_mem : ∀ {o : List Pt} {z : Pt}, z ∈ o → nd1 z ≤ nd o ∧ lv1 z ≤ lv o
  | p :: o, z, h => by
    rw [nd_cons, lv_cons]
    rcases List.mem_cons.1 h with rfl | h
    · exact ⟨by omega, by omega⟩
    · have := nd_mem h; exact ⟨by omega, by omega⟩
/-- Made tidy, a right operation that leaves few enough is one. -/
theorem tidy_right {o : List Pt} (h : Right o) (hl : lv o ≤ 80) : Right (tidy o) ∧ nd (tidy o) = nd o ∧ lv (tidy o) = lv o := by
  have hg : ∀ z ∈ tidy o, Gd z := by
    rw [← ts_tidy h]
    exact gd_fold o ⟨[], [], 0⟩ (fun z hz => by cases hz) (fun x hx => by cases hx) h.ok
  have h1 := need_acts (fun z hz => gd_kind (hg z hz))
  have h2 := need_acts (kinds_of h.ok)
  rw [acts_tidy, need_nf, leave_nf] at h1
  have en : nd (tidy o) = nd o := h1.1.symm.trans h2.1
  have el : lv (tidy o) = lv o := h1.2.symm.trans h2.2
  have hb := (ts_bound h.ok).len
  obtain ⟨_, _, o', p, e, hk, _⟩ := ts_last h
  rw [ts_tidy h] at e hb
  obtain ⟨o2, q, e2, hq⟩ := withK_last o' p hk
  rw [e2] at e
  have hs := h.sum
  have hf := h.few
  refine ⟨⟨by rw [e]; simp, by omega, fun z hz => ?_, by omega, o2, q, e, hq⟩, en, el⟩
  have := nd_mem hz
  exact gd_right (hg z hz) (by omega) (by omega)
theorem mk_some {d : List It} {o : List Pt} (h : Right o) (hn : nd o = d.length) : ap (acts o) d = some (mk d o).1 := by
  have := mk_ap d o ([], 0) (by simpa using hn) (kinds_of h.ok)
  simpa [mk] using this
/-- Made tidy it does the same. -/
theorem tidy_mk {d : List It} {o : List Pt} (h : Right o) (hn : nd o = d.length) (hl : lv o ≤ 80) : (mk d (tidy o)).1 = (mk d o).1 := by
  obtain ⟨hr, e1, _⟩ := tidy_right h hl
  have h1 := mk_some hr (e1.trans hn)
  rw [acts_tidy, ap_nf, mk_some h hn] at h1
  exact (Option.some.inj h1).symm
/-- Acts whose items and changes are right. -/
def OkE (a : A) : Prop := match a with
  | some (.inl c) => ChOk c ∧ linkBad c.goes c.link = false ∧ True
  | some (.inr x) => Dc.err x = 0
  | none => True
theorem err_of {x : It} (h1 : Dc.ends x = true ∨ Dc.isChar x = true) (h2 : m4 x.m) (h3 : Dc.link x = true) : Dc.err x = 0 := by
  rw [err_rest h1]
  have : Dc.marks x = true := by unfold Dc.marks; simp only [Bool.and_eq_true, decide_eq_true_eq]; exact h2
  rw [this, h3]
  rfl
theorem link_change {x : It} {c : Ch} (hx : Dc.link x = true) (hc : linkBad c.goes c.link = false) : Dc.link (change x c) = true := by
  unfold Dc.link at hx ⊢
  have e1 : Dc.ends (change x c) = Dc.ends x := rfl
  rw [e1]
  cases he : Dc.ends x
  · cases hg : c.goes
    · have e2 : (change x c).l = x.l := by unfold change; rw [hg]; rfl
      rw [e2]
      rw [he] at hx
      exact hx
    · have e2 : (change x c).l = c.link := by unfold change; rw [hg, he]; rfl
      rw [e2]
      unfold linkBad at hc
      rw [hg] at hc
      cases h1 : c.link.toList.isEmpty
      · rw [h1] at hc
        cases h2 : Lk.may c.link.data.toList
        · rw [h2] at hc; cases hc
        · rfl
      · rfl
  · have e2 : (change x c).l = x.l := by unfold change; rw [he]; simp
    rw [e2]
    rw [he] at hx
    exact hx
theorem ap_err : ∀ (l : List A) (d p : List It), (∀ a ∈ l, OkE a) → (∀ x ∈ d, Dc.err x = 0) → ap l d = some p → ∀ x ∈ p, Dc.err x = 0
  | [], d, p, _, _, h => by rw [(ap_nil_some h).2]; intro x hx; simp at hx
  | some (.inr x) :: r, d, p, ho, hd, h => by
    obtain ⟨p', rfl, h'⟩ := ap_put_some h
    have ih := ap_err r d p' (fun a ha => ho a (List.mem_cons_of_mem _ ha)) hd h'
    intro y hy
    rcases List.mem_cons.1 hy with rfl | hy
    · exact ho _ (List.mem_cons_self ..)
    · exact ih y hy
  | some (.inl c) :: r, d, p, ho, hd, h => by
    obtain ⟨z, d', p', rfl, rfl, h'⟩ := ap_keep_some h
    have ih := ap_err r d' p' (fun a ha => ho a (List.mem_cons_of_mem _ ha)) (fun x hx => hd x (List.mem_cons_of_mem _ hx)) h'
    have hc : OkE (some (.inl c)) := ho _ (List.mem_cons_self ..)
    obtain ⟨hc1, hc2, -⟩ := hc
    obtain ⟨e1, e2, e3⟩ := err_parts (hd z (List.mem_cons_self ..))
    intro y hy
    rcases List.mem_cons.1 hy with rfl | hy
    · exact err_of e1 (mark_m4 e2 hc1.clr hc1.set) (link_change e3 hc2)
    · exact ih y hy
  | none :: r, d, p, ho, hd, h => by
    obtain ⟨z, d', rfl, h'⟩ := ap_cut_some h
    exact ap_err r d' p (fun a ha => ho a (List.mem_cons_of_mem _ ha)) (fun x hx => hd x (List.mem_cons_of_mem _ hx)) h'
theorem ap_last : ∀ (l : List A) (c : Ch) (d p : List It), ap (l ++ [A.keep c]) d = some p → ∃ d' x p', d = d' ++ [x] ∧ p = p' ++ [change x c]
  | [], c, d, p, h => by
    obtain ⟨z, d', p', rfl, rfl, h'⟩ := ap_keep_some h
    obtain ⟨rfl, rfl⟩ := ap_nil_some h'
    exact ⟨[], z, [], rfl, rfl⟩
  | some (.inr x) :: r, c, d, p, h => by
    obtain ⟨p', rfl, h'⟩ := ap_put_some h
    obtain ⟨d1, y, p1, rfl, rfl⟩ := ap_last r c d p' h'
    exact ⟨d1, y, x :: p1, rfl, rfl⟩
  | some (.inl e) :: r, c, d, p, h => by
    obtain ⟨z, d', p', rfl, rfl, h'⟩ := ap_keep_some h
    obtain ⟨d1, y, p1, rfl, rfl⟩ := ap_last r c d' p' h'
    exact ⟨z :: d1, y, change z e :: p1, rfl, rfl⟩
  | none :: r, c, d, p, h => by
    obtain ⟨z, d', rfl, h'⟩ := ap_cut_some h
    obtain ⟨d1, y, p1, rfl, rfl⟩ := ap_last r c d' p h'
    exact ⟨z :: d1, y, p1, rfl, rfl⟩
theorem acts_ok {o : List Pt} (h : ∀ p ∈ o, err1 p = 0) : ∀ a ∈ acts o, OkE a := by
  intro a ha
  obtain ⟨p, hp, ha⟩ := List.mem_flatMap.1 ha
  have he := h p hp
  unfold acts1 at ha
  rcases kind_of he with k | k | k
  · rw [if_neg (by omega), if_pos k] at ha
    rw [(List.mem_replicate.1 ha).2]
    obtain ⟨h1, h2, _, _⟩ := keep_m4 he k
    rcases err0_kind (err1_0 he).1 with ⟨_, hk⟩ | ⟨h2, _⟩ | ⟨h3, _⟩
    · exact ⟨⟨h1, h2⟩, (errK_0 hk).2.1, trivial⟩
    · omega
    · omega
  · rw [if_pos k] at ha
    obtain ⟨x, hx, rfl⟩ := List.mem_map.1 ha
    exact errs_all (put_len he k).2.2 x hx
  · rw [if_neg (by omega), if_neg (by omega)] at ha
    rw [(List.mem_replicate.1 ha).2]
    trivial
theorem check_of {l : List It} (h1 : l.length ≤ 80) (h2 : Dc.errs l = 0) {l' : List It} {x : It} (e : l = l' ++ [x]) (hx : Dc.ends x = true) : Dc.check l = 0 := by
  have hl : l'.length < l.length := by rw [e]; simp
  rw [Dc.check_last (by omega) h2 hl (by rw [e]; simp)]
  have e2 : l[l'.length] = x := by simp [e]
  rw [e2, hx]
  rfl
/-- What an operation makes of a document is one, with the same last character. -/
theorem made_doc {d : List It} {o : List Pt} (hd : Dc.check d = 0) (h : Right o) (hn : nd o = d.length) (hl : lv o ≤ 80) :
    Dc.check (mk d o).1 = 0 ∧ (mk d o).1.length = lv o ∧ ∃ d' x p' y, d = d' ++ [x] ∧ (mk d o).1 = p' ++ [y] ∧ x.c = y.c := by
  have hs := mk_some h hn
  have hlen : (mk d o).1.length = lv o := by
    have := mk_len d o ([], 0) (by simp; omega)
    simpa [mk] using this
  obtain ⟨h80, he, d0, x0, e0, hx0⟩ := check_0 hd
  obtain ⟨o', p, e, hk⟩ := h.last
  have hp := h.ok p (by rw [e]; simp)
  obtain ⟨_, _, hn1, _⟩ := keep_m4 hp hk
  obtain ⟨m, hm⟩ : ∃ m : Nat, p.n.toNat = m + 1 := ⟨p.n.toNat - 1, by omega⟩
  have ha : acts o = (acts o' ++ List.replicate m (A.keep (chOf p))) ++ [A.keep (chOf p)] := by
    rw [e, acts_app, acts_cons, acts_nil, List.append_nil, List.append_assoc]
    congr 1
    unfold acts1
    rw [if_neg (by omega), if_pos hk, hm, List.replicate_succ']
  have hs2 := hs
  rw [ha] at hs2
  obtain ⟨d', x, p', e1, e2⟩ := ap_last _ _ _ _ hs2
  have hxe : x = x0 := by
    have := e1.symm.trans e0
    have := List.append_inj' this rfl
    simpa using this.2
  refine ⟨check_of (by omega) (errs_of (ap_err _ _ _ (acts_ok h.ok) (errs_all he) hs)) e2 (by rw [ends_change, hxe]; exact hx0), hlen, d', x, p', _, e1, e2, rfl⟩
/-- Who keeps all. -/
theorem keep_right {n : Nat} (h1 : 1 ≤ n) (h2 : n ≤ 80) : Right [keepP nop n] := by
  have hg : Gd (keepP nop n) := .inl ⟨rfl, (by decide +kernel : marksBad 0 0 = false), (by decide +kernel : linkBad false ⟨#[]⟩ = false), rfl, by show (1 : Int) ≤ n; omega⟩
  have e1 : nd1 (keepP nop n) = n := by show ((n : Int)).toNat = n; omega
  have e2 : lv1 (keepP nop n) = n := by show ((n : Int)).toNat = n; omega
  refine ⟨by simp, by simp, fun p hp => ?_, by simp [nd, e1]; omega, [], _, rfl, rfl⟩
  rw [List.mem_singleton.1 hp]
  exact gd_right hg (by omega) (by omega)
theorem keep_all {d : List It} (h : Dc.check d = 0) : fitE d [keepP nop d.length] = 0 ∧ (mk d [keepP nop d.length]).1 = d := by
  obtain ⟨h80, _, d', x, e, _⟩ := check_0 h
  have h1 : 1 ≤ d.length := by rw [e]; simp
  have e1 : nd1 (keepP nop d.length) = d.length := by show ((d.length : Int)).toNat = d.length; omega
  have e2 : lv1 (keepP nop d.length) = d.length := by show ((d.length : Int)).toNat = d.length; omega
  refine ⟨fit_of h (keep_right h1 h80) (by simp [nd, e1]) (by simp [lv, e2]; omega), ?_⟩
  show [] ++ ((d.drop 0).take ((d.length : Int)).toNat).map (fun x => change x nop) = d
  rw [List.nil_append, List.drop_zero, Int.toNat_natCast, List.take_length]
  have hm := check_m4 h
  exact (List.map_congr_left (g := id) (fun x hx => change_nop (hm x hx))).trans (List.map_id d)
end Ac
end Go.Proofs.YtlhkomiiockaoaaDoor
