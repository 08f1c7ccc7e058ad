/-
  Chapter 8 on acts: what is turned, and joined, is right but perhaps for its size; what it is for, and leaves; and that it ends with a Keep.
-/
import Derived.Test.YtaigleblmbblcaaGreatDoorUk
namespace Go.Proofs.YtaigleblmbblcaaGreatDoor
open Go.RowKit
namespace Ac
theorem turn_ind {P : List A → List A → List A → List A → Prop} (h0 : P [] [] [] []) (hp : ∀ x a b u v, P a b u v → P (.put x :: a) b (.put x :: u) (.keep nop :: v))
    (hq : ∀ y a b u v, (∀ x a', a ≠ .put x :: a') → P a b u v → P a (.put y :: b) (.keep nop :: u) (.put y :: v)) (hkk : ∀ c d a b u v, P a b u v → P (.keep c :: a) (.keep d :: b) (.keep c :: u) (.keep (behind d c) :: v))
    (hck : ∀ d a b u v, P a b u v → P (.cut :: a) (.keep d :: b) (.cut :: u) v) (hkc : ∀ c a b u v, P a b u v → P (.keep c :: a) (.cut :: b) u (.cut :: v)) (hcc : ∀ a b u v, P a b u v → P (.cut :: a) (.cut :: b) u v) :
    ∀ (n : Nat) (a b : List A), a.length + b.length ≤ n → need a = need b → P a b (turn a b).1 (turn a b).2 := by
  intro n
  induction n with
  | zero =>
    intro a b hn h
    have ha : a = [] := List.length_eq_zero_iff.1 (by omega)
    have hb : b = [] := List.length_eq_zero_iff.1 (by omega)
    subst ha hb
    exact h0
  | succ n ih =>
    intro a b hn h
    rcases a with _ | ⟨k, a⟩
    · rcases b with _ | ⟨e, b⟩
      · exact h0
      · rcases e with _ | (d | y)
        · simp [need] at h
        · simp [need] at h
        · rw [turn_np]
          exact hq y _ _ _ _ (fun x a' e => by cases e) (ih [] b (by simp at hn ⊢; omega) h)
    · rcases k with _ | (c | x)
      · rcases b with _ | ⟨e, b⟩
        · simp [need] at h
        · rcases e with _ | (d | y)
          · rw [turn_cc]
            exact hcc _ _ _ _ (ih a b (by simp at hn; omega) (by simpa [need] using h))
          · rw [turn_ck]
            exact hck _ _ _ _ _ (ih a b (by simp at hn; omega) (by simpa [need] using h))
          · rw [turn_cp]
            exact hq y _ _ _ _ (fun x a' e => by cases e) (ih (.cut :: a) b (by simp at hn ⊢; omega) h)
      · rcases b with _ | ⟨e, b⟩
        · simp [need] at h
        · rcases e with _ | (d | y)
          · rw [turn_kc]
            exact hkc _ _ _ _ _ (ih a b (by simp at hn; omega) (by simpa [need] using h))
          · rw [turn_kk]
            exact hkk _ _ _ _ _ _ (ih a b (by simp at hn; omega) (by simpa [need] using h))
          · rw [turn_kp]
            exact hq y _ _ _ _ (fun x a' e => by cases e) (ih (.keep c :: a) b (by simp at hn ⊢; omega) h)
      · rw [turn_put]
        exact hp x _ _ _ _ (ih a b (by simp at hn; omega) h)
theorem join_ind {P : List A → List A → List A → Prop} (h0 : P [] [] []) (hc : ∀ a b u, P a b u → P (.cut :: a) b (.cut :: u))
    (hq : ∀ y a b u, (∀ a', a ≠ .cut :: a') → P a b u → P a (.put y :: b) (.put y :: u)) (hkk : ∀ c e a b u, P a b u → P (.keep c :: a) (.keep e :: b) (.keep (thenCh c e) :: u))
    (hkc : ∀ c a b u, P a b u → P (.keep c :: a) (.cut :: b) (.cut :: u)) (hpk : ∀ x e a b u, P a b u → P (.put x :: a) (.keep e :: b) (.put (change x e) :: u)) (hpc : ∀ x a b u, P a b u → P (.put x :: a) (.cut :: b) u) :
    ∀ (n : Nat) (a b : List A), a.length + b.length ≤ n → leave a = need b → P a b (join a b) := by
  intro n
  induction n with
  | zero =>
    intro a b hn h
    have ha : a = [] := List.length_eq_zero_iff.1 (by omega)
    have hb : b = [] := List.length_eq_zero_iff.1 (by omega)
    subst ha hb
    exact h0
  | succ n ih =>
    intro a b hn h
    rcases a with _ | ⟨k, a⟩
    · rcases b with _ | ⟨e, b⟩
      · exact h0
      · rcases e with _ | (d | y)
        · simp [need, leave] at h
        · simp [need, leave] at h
        · rw [join_np]
          exact hq y _ _ _ (fun a' e => by cases e) (ih [] b (by simp at hn ⊢; omega) h)
    · rcases k with _ | (c | x)
      · rw [join_cut]
        exact hc _ _ _ (ih a b (by simp at hn; omega) h)
      · rcases b with _ | ⟨e, b⟩
        · simp [need, leave] at h
        · rcases e with _ | (d | y)
          · rw [join_kc]
            exact hkc _ _ _ _ (ih a b (by simp at hn; omega) (by simpa [need, leave] using h))
          · rw [join_kk]
            exact hkk _ _ _ _ _ (ih a b (by simp at hn; omega) (by simpa [need, leave] using h))
          · rw [join_kp]
            exact hq y _ _ _ (fun a' e => by cases e) (ih (.keep c :: a) b (by simp at hn ⊢; omega) h)
      · rcases b with _ | ⟨e, b⟩
        · simp [need, leave] at h
        · rcases e with _ | (d | y)
          · rw [join_pc]
            exact hpc _ _ _ _ (ih a b (by simp at hn; omega) (by simpa [need, leave] using h))
          · rw [join_pk]
            exact hpk _ _ _ _ _ (ih a b (by simp at hn; omega) (by simpa [need, leave] using h))
          · rw [join_pp]
            exact hq y _ _ _ (fun a' e => by cases e) (ih (.put x :: a) b (by simp at hn ⊢; omega) h)
/-- Acts that are right. -/
def OkM (a : A) : Prop := match a with
  | some (.inl c) => marksBad c.set c.clr = false ∧ linkBad c.goes c.link = false
  | some (.inr x) => Dc.err x = 0
  | none => True
def OkL (l : List A) : Prop := ∀ a ∈ l, OkM a
theorem OkL.nil : OkL [] := fun a ha => by cases ha
theorem OkL.cons {a : A} {l : List A} (h : OkM a) (hl : OkL l) : OkL (a :: l) := fun b hb => by
  rcases List.mem_cons.1 hb with rfl | hb
  · exact h
  · exact hl b hb
theorem OkL.head {a : A} {l : List A} (h : OkL (a :: l)) : OkM a := h a (List.mem_cons_self ..)
theorem OkL.tail {a : A} {l : List A} (h : OkL (a :: l)) : OkL l := fun b hb => h b (List.mem_cons_of_mem _ hb)
theorem okm_nop : OkM (.keep nop) := ⟨by decide +kernel, by decide +kernel⟩
theorem link_behind {c d : Ch} (h : linkBad d.goes d.link = false) : linkBad (behind d c).goes (behind d c).link = false := by
  show linkBad (d.goes && !c.goes) (if c.goes then ⟨#[]⟩ else d.link) = false
  cases c.goes
  · rw [Bool.not_false, Bool.and_true]; exact h
  · exact linkBad_nil _
theorem link_then {c d : Ch} (hc : linkBad c.goes c.link = false) (h : linkBad d.goes d.link = false) : linkBad (thenCh c d).goes (thenCh c d).link = false := by
  show linkBad (c.goes || d.goes) (if d.goes then d.link else c.link) = false
  cases hg : d.goes
  · rw [Bool.or_false]; exact hc
  · rw [hg] at h; rw [Bool.or_true]; exact h
theorem err_change {x : It} {c : Ch} (hx : Dc.err x = 0) (hc : OkM (.keep c)) : Dc.err (change x c) = 0 := by
  obtain ⟨e1, e2, e3⟩ := err_parts hx
  obtain ⟨m1, m2, _⟩ := marks_of hc.1
  exact err_of e1 (mark_m4 e2 m2 m1) (link_change e3 hc.2)
theorem turn_okl {a b : List A} (h : need a = need b) (ha : OkL a) (hb : OkL b) : OkL (turn a b).1 ∧ OkL (turn a b).2 := by
  refine turn_ind (P := fun a b u v => OkL a → OkL b → OkL u ∧ OkL v) (fun _ _ => ⟨OkL.nil, OkL.nil⟩) ?_ ?_ ?_ ?_ ?_ ?_ _ a b (Nat.le_refl _) h ha hb
  · intro x a b u v ih ha hb
    obtain ⟨h1, h2⟩ := ih ha.tail hb
    exact ⟨h1.cons ha.head, h2.cons okm_nop⟩
  · intro y a b u v _ ih ha hb
    obtain ⟨h1, h2⟩ := ih ha hb.tail
    exact ⟨h1.cons okm_nop, h2.cons hb.head⟩
  · intro c d a b u v ih ha hb
    obtain ⟨h1, h2⟩ := ih ha.tail hb.tail
    exact ⟨h1.cons ha.head, h2.cons ⟨yield_marks hb.head.1 ha.head.1, link_behind hb.head.2⟩⟩
  · intro d a b u v ih ha hb
    obtain ⟨h1, h2⟩ := ih ha.tail hb.tail
    exact ⟨h1.cons trivial, h2⟩
  · intro c a b u v ih ha hb
    obtain ⟨h1, h2⟩ := ih ha.tail hb.tail
    exact ⟨h1, h2.cons trivial⟩
  · intro a b u v ih ha hb
    exact ih ha.tail hb.tail
theorem join_okl {a b : List A} (h : leave a = need b) (ha : OkL a) (hb : OkL b) : OkL (join a b) := by
  refine join_ind (P := fun a b u => OkL a → OkL b → OkL u) (fun _ _ => OkL.nil) ?_ ?_ ?_ ?_ ?_ ?_ _ a b (Nat.le_refl _) h ha hb
  · intro a b u ih ha hb
    exact (ih ha.tail hb).cons trivial
  · intro y a b u _ ih ha hb
    exact (ih ha hb.tail).cons hb.head
  · intro c e a b u ih ha hb
    exact (ih ha.tail hb.tail).cons ⟨one_marks ha.head.1 hb.head.1, link_then ha.head.2 hb.head.2⟩
  · intro c a b u ih ha hb
    exact (ih ha.tail hb.tail).cons trivial
  · intro x e a b u ih ha hb
    exact (ih ha.tail hb.tail).cons (err_change ha.head hb.head)
  · intro x a b u ih ha hb
    exact ih ha.tail hb.tail
theorem turn_snoc {a b : List A} (h : need a = need b) (c d : Ch) : turn (a ++ [.keep c]) (b ++ [.keep d]) = ((turn a b).1 ++ [.keep c], (turn a b).2 ++ [.keep (behind d c)]) := by
  refine turn_ind (P := fun a b u v => turn (a ++ [.keep c]) (b ++ [.keep d]) = (u ++ [.keep c], v ++ [.keep (behind d c)])) rfl ?_ ?_ ?_ ?_ ?_ ?_ _ a b (Nat.le_refl _) h
  · intro x a b u v ih
    rw [List.cons_append, turn_put, ih]; rfl
  · intro y a b u v ha ih
    rw [List.cons_append]
    rcases a with _ | ⟨_ | (e | x), a⟩
    · rw [List.nil_append, turn_kp]; rw [List.nil_append] at ih; rw [ih]; rfl
    · rw [List.cons_append, turn_cp]; rw [List.cons_append] at ih; rw [ih]; rfl
    · rw [List.cons_append, turn_kp]; rw [List.cons_append] at ih; rw [ih]; rfl
    · exact absurd rfl (ha x a)
  · intro e f a b u v ih
    rw [List.cons_append, List.cons_append, turn_kk, ih]; rfl
  · intro e a b u v ih
    rw [List.cons_append, List.cons_append, turn_ck, ih]; rfl
  · intro e a b u v ih
    rw [List.cons_append, List.cons_append, turn_kc, ih]; rfl
  · intro a b u v ih
    rw [List.cons_append, List.cons_append, turn_cc, ih]
theorem join_snoc {a b : List A} (h : leave a = need b) (c d : Ch) : join (a ++ [.keep c]) (b ++ [.keep d]) = join a b ++ [.keep (thenCh c d)] := by
  refine join_ind (P := fun a b u => join (a ++ [.keep c]) (b ++ [.keep d]) = u ++ [.keep (thenCh c d)]) rfl ?_ ?_ ?_ ?_ ?_ ?_ _ a b (Nat.le_refl _) h
  · intro a b u ih
    rw [List.cons_append, join_cut, ih]; rfl
  · intro y a b u ha ih
    rw [List.cons_append, join_put _ _ y (fun a' e => by
      rcases a with _ | ⟨_ | (e1 | x), a⟩
      · cases e
      · exact ha a rfl
      · cases e
      · cases e), ih]; rfl
  · intro e f a b u ih
    rw [List.cons_append, List.cons_append, join_kk, ih]; rfl
  · intro e a b u ih
    rw [List.cons_append, List.cons_append, join_kc, ih]; rfl
  · intro x e a b u ih
    rw [List.cons_append, List.cons_append, join_pk, ih]; rfl
  · intro x a b u ih
    rw [List.cons_append, List.cons_append, join_pc, ih]
/-- How many items are put. -/
def pn : List A → Nat
  | [] => 0
  | some (.inr _) :: r => pn r + 1
  | some (.inl _) :: r => pn r
  | none :: r => pn r
theorem pn_app : ∀ (a b : List A), pn (a ++ b) = pn a + pn b
  | [], b => by simp [pn]
  | some (.inl c) :: a, b => by rw [List.cons_append, pn, pn, pn_app a b]
  | some (.inr x) :: a, b => by rw [List.cons_append, pn, pn, pn_app a b]; omega
  | none :: a, b => by rw [List.cons_append, pn, pn, pn_app a b]
theorem pn_leave : ∀ a : List A, pn a ≤ leave a
  | [] => Nat.le_refl _
  | some (.inl c) :: a => by rw [pn, leave]; have := pn_leave a; omega
  | some (.inr x) :: a => by rw [pn, leave]; have := pn_leave a; omega
  | none :: a => by rw [pn, leave]; exact pn_leave a
theorem turn_pn {a b : List A} (h : need a = need b) : pn (turn a b).1 = pn a ∧ pn (turn a b).2 = pn b := by
  refine turn_ind (P := fun a b u v => pn u = pn a ∧ pn v = pn b) ⟨rfl, rfl⟩ ?_ ?_ ?_ ?_ ?_ ?_ _ a b (Nat.le_refl _) h
  · intro x a b u v ih
    exact ⟨congrArg (· + 1) ih.1, ih.2⟩
  · intro y a b u v _ ih
    exact ⟨ih.1, congrArg (· + 1) ih.2⟩
  · intro c d a b u v ih
    exact ih
  · intro d a b u v ih
    exact ih
  · intro c a b u v ih
    exact ih
  · intro a b u v ih
    exact ih
theorem pn_puts : ∀ l : List It, pn (l.map A.put) = l.length
  | [] => rfl
  | x :: l => by rw [List.map_cons, pn, pn_puts l]; rfl
theorem pn_cuts : ∀ n : Nat, pn (List.replicate n A.cut) = 0
  | 0 => rfl
  | n + 1 => by rw [List.replicate_succ, pn, pn_cuts n]
theorem pn_norm : ∀ (l : List A) (ps : List It) (n : Nat), pn (norm ps n l) = ps.length + pn l
  | [], ps, n => by rw [norm, group, pn_app, pn_puts, pn_cuts]; rfl
  | some (.inr x) :: r, ps, n => by rw [norm, pn_norm r, pn]; simp; omega
  | none :: r, ps, n => by rw [norm, pn_norm r, pn]
  | some (.inl c) :: r, ps, n => by rw [norm, group, pn_app, pn_app, pn_puts, pn_cuts, pn, pn_norm r, pn]; simp
theorem pn_mem : ∀ {o : List Pt} {z : Pt}, z ∈ o → z.kind = 2 → z.items.length ≤ pn (acts o)
  | p :: o, z, h, k => by
    rw [acts_cons, pn_app]
    rcases List.mem_cons.1 h with rfl | h
    · rw [acts1_p k, pn_puts]; omega
    · have := pn_mem h k; omega
theorem acts_tA (l : List A) : acts (tA l) = nf l := by
  unfold tA
  rw [acts_tdy _ _ _ _ (fun p hp => by cases hp), acts_nil]
  rfl
theorem tdy_snoc (c : Ch) : ∀ (l : List A) (out : List Pt) (ps : List It) (n : Nat), tdy out ps n (l ++ [.keep c]) = addK (tdy out ps n l) c
  | [], out, ps, n => by
    show tdy (addK (out ++ flushP ps n) c) [] 0 [] = _
    rw [tdy, tdy]
    show _ ++ [] = _
    rw [List.append_nil]
  | some (.inr x) :: r, out, ps, n => by rw [List.cons_append, tdy, tdy_snoc c r, tdy]
  | none :: r, out, ps, n => by rw [List.cons_append, tdy, tdy_snoc c r, tdy]
  | some (.inl e) :: r, out, ps, n => by rw [List.cons_append, tdy, tdy_snoc c r, tdy]
theorem addK_last (o : List Pt) (c : Ch) : ∃ o' q, addK o c = o' ++ [q] ∧ q.kind = 1 := by
  rcases List.eq_nil_or_concat o with e | ⟨o', q, e⟩
  · rw [e]; exact ⟨[], _, rfl, rfl⟩
  · rw [List.concat_eq_append] at e
    rw [e, addK_snoc]
    by_cases h : likeK q c = true
    · rw [if_pos h]; exact ⟨o', _, rfl, (likeK_ch h).1⟩
    · rw [if_neg h]; exact ⟨_, _, rfl, rfl⟩
theorem gd_addK {o : List Pt} {c : Ch} (ho : ∀ z ∈ o, Gd z) (hc : OkM (.keep c)) : ∀ z ∈ addK o c, Gd z := by
  have hk : Gd (keepP c 1) := .inl ⟨rfl, hc.1, hc.2, rfl, Int.le_refl _⟩
  rcases List.eq_nil_or_concat o with e | ⟨o', q, e⟩
  · rw [e]
    intro z hz
    rw [List.mem_singleton.1 hz]
    exact hk
  · rw [List.concat_eq_append] at e
    rw [e] at ho ⊢
    rw [addK_snoc]
    by_cases h : likeK q c = true
    · rw [if_pos h]
      intro z hz
      rcases List.mem_append.1 hz with hz | hz
      · exact ho z (List.mem_append_left _ hz)
      · rw [List.mem_singleton.1 hz]
        rcases ho q (by simp) with ⟨k, a, b, i, d⟩ | ⟨ps, e2, _⟩ | ⟨n, e2, _⟩
        · exact .inl ⟨k, a, b, i, by simp only; omega⟩
        · have := (likeK_ch h).1; rw [e2] at this; cases this
        · have := (likeK_ch h).1; rw [e2] at this; cases this
    · rw [if_neg h]
      intro z hz
      rcases List.mem_append.1 hz with hz | hz
      · exact ho z hz
      · rw [List.mem_singleton.1 hz]; exact hk
theorem gd_tdy : ∀ (l : List A) (out : List Pt) (ps : List It) (n : Nat), (∀ z ∈ out, Gd z) → (∀ x ∈ ps, Dc.err x = 0) → OkL l → ∀ z ∈ tdy out ps n l, Gd z
  | [], out, ps, n, ho, hp, _ => by
    rw [tdy]
    intro z hz
    rcases List.mem_append.1 hz with hz | hz
    · exact ho z hz
    · exact gd_flush hp z hz
  | some (.inr x) :: r, out, ps, n, ho, hp, hl => by
    rw [tdy]
    refine gd_tdy r out _ n ho (fun y hy => ?_) hl.tail
    rcases List.mem_append.1 hy with hy | hy
    · exact hp y hy
    · rw [List.mem_singleton.1 hy]; exact hl.head
  | none :: r, out, ps, n, ho, hp, hl => by
    rw [tdy]
    exact gd_tdy r out ps _ ho hp hl.tail
  | some (.inl c) :: r, out, ps, n, ho, hp, hl => by
    rw [tdy]
    refine gd_tdy r _ [] 0 (gd_addK (fun z hz => ?_) hl.head) (fun y hy => by cases hy) hl.tail
    rcases List.mem_append.1 hz with hz | hz
    · exact ho z hz
    · exact gd_flush hp z hz
theorem gd_tA {l : List A} (h : OkL l) : ∀ z ∈ tA l, Gd z := gd_tdy l [] [] 0 (fun z hz => by cases hz) (fun x hx => by cases hx) h
/-- Tidied, it is for as many, and leaves as many. -/
theorem long_tA {l : List A} (h : OkL l) : nd (tA l) = need l ∧ lv (tA l) = leave l := by
  have h1 := need_acts (fun z hz => gd_kind (gd_tA h z hz))
  rw [acts_tA, need_nf, leave_nf] at h1
  exact ⟨h1.1.symm, h1.2.symm⟩
/-- Tidied, it is right, but perhaps for how many parts it has. -/
theorem chk_tA {l : List A} (h : OkL l) {l' : List A} {c : Ch} (hl : l = l' ++ [.keep c]) (hn : need l ≤ 80) (hp : pn l ≤ 80) : chk (tA l) = 0 ∨ chk (tA l) = 2 := by
  have hlast : ∃ o' q, tA l = o' ++ [q] ∧ q.kind = 1 := by
    unfold tA
    rw [hl, tdy_snoc]
    exact addK_last _ _
  obtain ⟨o', q, e, hq⟩ := hlast
  have hg := gd_tA h
  have hL := long_tA h
  have hok : ∀ z ∈ tA l, err1 z = 0 := fun z hz => by
    have h1 := nd_mem hz
    refine gd_right (hg z hz) (by omega) ?_
    rcases hg z hz with ⟨k, _⟩ | ⟨ps, e2, _⟩ | ⟨n, e2, _⟩
    · have e3 : lv1 z = nd1 z := by unfold lv1 nd1; rw [if_pos k, if_neg (by omega)]
      omega
    · have k2 : z.kind = 2 := by rw [e2]; rfl
      have h2 := pn_mem hz k2
      rw [acts_tA] at h2
      have h3 := pn_norm l [] 0
      unfold nf at h2
      rw [h3] at h2
      have e3 : lv1 z = z.items.length := by unfold lv1; rw [if_neg (by omega), if_pos k2]
      simp at h2
      omega
    · have e3 : lv1 z = 0 := by rw [e2]; rfl
      omega
  by_cases h40 : 40 < (tA l).length
  · right
    unfold chk
    rw [if_pos (.inr h40)]
  · left
    refine chk_right.2 ⟨by rw [e]; simp, by omega, hok, by omega, o', q, e, hq⟩
theorem Right.okl {o : List Pt} (h : Right o) : OkL (acts o) := by
  intro a ha
  obtain ⟨p, hp, ha⟩ := List.mem_flatMap.1 ha
  have he := h.ok p hp
  unfold acts1 at ha
  rcases gd_of he with ⟨k, hm, hl, _⟩ | ⟨ps, e, hne, hx⟩ | ⟨n, e, _⟩
  · rw [if_neg (by omega), if_pos k] at ha
    rw [(List.mem_replicate.1 ha).2]
    exact ⟨hm, hl⟩
  · rw [if_pos (by rw [e]; rfl)] at ha
    obtain ⟨x, hx2, rfl⟩ := List.mem_map.1 ha
    exact hx x (by rw [e] at hx2; exact hx2)
  · have k : p.kind = 3 := by rw [e]; rfl
    rw [if_neg (by omega), if_neg (by omega)] at ha
    rw [(List.mem_replicate.1 ha).2]
    trivial
theorem Right.snoc {o : List Pt} (h : Right o) : ∃ l c, acts o = l ++ [.keep c] := by
  obtain ⟨o', p, e, hk⟩ := h.last
  obtain ⟨_, _, h1, _⟩ := keep_m4 (h.ok p (by rw [e]; simp)) hk
  obtain ⟨m, hm⟩ : ∃ m : Nat, p.n.toNat = m + 1 := ⟨p.n.toNat - 1, by omega⟩
  refine ⟨acts o' ++ List.replicate m (A.keep (chOf p)), chOf p, ?_⟩
  rw [e, acts_app, acts_one, List.append_assoc]
  congr 1
  unfold acts1
  rw [if_neg (by omega), if_pos hk, hm, List.replicate_succ']
theorem Right.need {o : List Pt} (h : Right o) : Ac.need (acts o) = nd o ∧ leave (acts o) = lv o := need_acts (kinds_of h.ok)
theorem okl_ok {l : List A} (h : OkL l) : Ok l := fun a ha => by
  have := h a ha
  rcases a with _ | (c | x)
  · trivial
  · exact ⟨(marks_of this.1).1, (marks_of this.1).2.1⟩
  · exact (err_parts this).2.1
theorem snoc_need (l : List A) (c : Ch) : need (l ++ [.keep c]) = need l + 1 ∧ leave (l ++ [.keep c]) = leave l + 1 := by
  rw [need_app, leave_app]
  exact ⟨rfl, rfl⟩
end Ac
end Go.Proofs.YtaigleblmbblcaaGreatDoor
