/-
  Chapter 8 on parts: what is left of an operation, pieces of its parts; two gone through together, part by part, are turned, and joined, as their acts are.
-/
import Derived.Test.YtlhkomiiockaoaaDoorPd
namespace Go.Proofs.YtlhkomiiockaoaaDoor
open Go.RowKit
namespace Ac
/-- How many acts a part has. -/
def lg (p : Pt) : Nat := if p.kind = 2 then p.items.length else p.n.toNat
theorem acts1_len (p : Pt) : (acts1 p).length = lg p := by
  unfold acts1 lg
  split <;> simp
/-- n items of a part, behind g. -/
def piece (p : Pt) (g n : Nat) : Pt := if p.kind = 2 then { p with items := (p.items.drop g).take n } else { p with n := n }
theorem piece_kind (p : Pt) (g n : Nat) : (piece p g n).kind = p.kind := by unfold piece; split <;> rfl
theorem piece_ch (p : Pt) (g n : Nat) : chOf (piece p g n) = chOf p := by unfold piece; split <;> rfl
theorem piece_put {p : Pt} (k : p.kind = 2) (g n : Nat) : piece p g n = { p with items := (p.items.drop g).take n } := if_pos k
theorem piece_not {p : Pt} (k : ¬ p.kind = 2) (g n : Nat) : piece p g n = { p with n := n } := if_neg k
theorem acts1_piece (p : Pt) (g n : Nat) (h : g + n ≤ lg p) : acts1 (piece p g n) = ((acts1 p).drop g).take n := by
  by_cases k : p.kind = 2
  · rw [piece_put k]
    unfold acts1
    simp only [if_pos k]
    rw [List.map_take, List.map_drop]
  · rw [piece_not k]
    unfold lg at h
    rw [if_neg k] at h
    unfold acts1
    simp only [if_neg k]
    rw [List.drop_replicate, List.take_replicate]
    congr 1
    omega
theorem gd_of {p : Pt} (h : err1 p = 0) : Gd p := by
  have hu := same1_eq.1 (err1_0 h).2
  rcases kind_of h with k | k | k
  · exact err1_gd h k
  · have e : p = putP p.items := by
      unfold usedP at hu
      rw [if_neg (by omega), if_pos k] at hu
      rw [k] at hu
      exact hu
    obtain ⟨h1, h2, h3⟩ := put_len h k
    exact .inr (.inl ⟨p.items, e, fun e => by rw [e] at h1; simp at h1, errs_all h3⟩)
  · obtain ⟨h1, h2⟩ := cut_n h k
    have e : p = cutP p.n.toNat := by
      unfold usedP at hu
      rw [if_neg (by omega), if_neg (by omega)] at hu
      rw [k] at hu
      rw [hu]
      show (⟨3, p.n, [], 0, 0, false, ⟨#[]⟩⟩ : Pt) = ⟨3, ((p.n.toNat : Nat) : Int), [], 0, 0, false, ⟨#[]⟩⟩
      rw [show ((p.n.toNat : Nat) : Int) = p.n by omega]
    exact .inr (.inr ⟨p.n.toNat, e, by omega⟩)
theorem lg_bd {p : Pt} (h : err1 p = 0) : 1 ≤ lg p ∧ lg p ≤ 80 := by
  unfold lg
  rcases kind_of h with k | k | k
  · obtain ⟨_, _, h1, h2⟩ := keep_m4 h k
    rw [if_neg (by omega)]
    omega
  · obtain ⟨h1, h2, _⟩ := put_len h k
    rw [if_pos k]
    omega
  · obtain ⟨h1, h2⟩ := cut_n h k
    rw [if_neg (by omega)]
    omega
theorem piece_err {p : Pt} (h : err1 p = 0) {g n : Nat} (hn : 1 ≤ n) (hl : g + n ≤ lg p) : err1 (piece p g n) = 0 := by
  have hb := lg_bd h
  unfold lg at hl hb
  by_cases k : p.kind = 2
  · rw [if_pos k] at hl hb
    have hln : ((p.items.drop g).take n).length = n := by simp; omega
    rcases gd_of h with ⟨k1, _⟩ | ⟨ps, e, hne, he⟩ | ⟨m, e, _⟩
    · omega
    · rw [piece_put k]
      refine gd_right (.inr (.inl ⟨(p.items.drop g).take n, by rw [e]; rfl, fun e => by rw [e] at hln; simp at hln; omega, fun x hx => he x ?_⟩)) ?_ ?_
      · rw [e] at hx
        exact List.mem_of_mem_drop (List.mem_of_mem_take hx)
      · unfold nd1; simp only [if_pos k]; omega
      · unfold lv1; simp only [if_pos k]; rw [if_neg (by omega)]; omega
    · rw [e] at k; cases k
  · rw [if_neg k] at hl hb
    have h1 : nd1 { p with n := (n : Int) } ≤ 80 := by unfold nd1; simp only [if_neg k]; omega
    have h2 : lv1 { p with n := (n : Int) } ≤ 80 := by
      unfold lv1
      simp only [if_neg k]
      split <;> omega
    rw [piece_not k]
    rcases gd_of h with ⟨k1, a, b, c, d⟩ | ⟨ps, e, hne, he⟩ | ⟨m, e, _⟩
    · exact gd_right (.inl ⟨k1, a, b, c, by simp only; omega⟩) h1 h2
    · rw [e] at k; exact absurd rfl k
    · refine gd_right (.inr (.inr ⟨n, by rw [e]; rfl, by omega⟩)) h1 h2
theorem keepP_err {c : Ch} {n : Nat} (h1 : 1 ≤ n) (h2 : n ≤ 80) (hm : marksBad c.set c.clr = false) (hl : linkBad c.goes c.link = false) : err1 (keepP c n) = 0 :=
  gd_right (.inl ⟨rfl, hm, hl, rfl, by show (1 : Int) ≤ n; omega⟩) (by show ((n : Int)).toNat ≤ 80; omega) (by show ((n : Int)).toNat ≤ 80; omega)
theorem nop_err {n : Nat} (h1 : 1 ≤ n) (h2 : n ≤ 80) : err1 (keepP nop n) = 0 := keepP_err h1 h2 (by decide +kernel) (by decide +kernel)

/-- The acts that are left. -/
def ra (ps : List Pt) (g : Nat) : List A := (acts ps).drop g
structure Rv (ps : List Pt) (g : Nat) : Prop where
  ok : ∀ p ∈ ps, err1 p = 0
  lt : ∀ p t, ps = p :: t → g < lg p
  nil : ps = [] → g = 0
  last : ps ≠ [] → ∃ o' p, ps = o' ++ [p] ∧ p.kind = 1
theorem Right.rv {o : List Pt} (h : Right o) : Rv o 0 :=
  ⟨h.ok, fun p t e => (lg_bd (h.ok p (by rw [e]; exact List.mem_cons_self ..))).1, fun _ => rfl, fun _ => h.last⟩
/-- What is left behind n more items. -/
def nxtP (p : Pt) (t : List Pt) (g n : Nat) : List Pt := if g + n = lg p then t else p :: t
def nxtG (p : Pt) (g n : Nat) : Nat := if g + n = lg p then 0 else g + n
theorem ra_nxt (p : Pt) (t : List Pt) (g n : Nat) : ra (nxtP p t g n) (nxtG p g n) = (acts (p :: t)).drop (g + n) := by
  unfold ra nxtP nxtG
  by_cases h : g + n = lg p
  · rw [if_pos h, if_pos h, List.drop_zero, acts_cons, h, ← acts1_len, List.drop_left]
  · rw [if_neg h, if_neg h]
theorem ra_split (p : Pt) (t : List Pt) (g n : Nat) (h : g + n ≤ lg p) : ra (p :: t) g = acts1 (piece p g n) ++ ra (nxtP p t g n) (nxtG p g n) := by
  rw [ra_nxt, acts1_piece p g n h]
  have e : ((acts1 p).drop g).take n = ((acts (p :: t)).drop g).take n := by
    rw [acts_cons, List.drop_append_of_le_length (by rw [acts1_len]; omega), List.take_append_of_le_length (by rw [List.length_drop, acts1_len]; omega)]
  rw [e, ← List.drop_drop, List.take_append_drop]
  rfl
theorem Rv.nxt {p : Pt} {t : List Pt} {g n : Nat} (h : Rv (p :: t) g) (hl : g + n ≤ lg p) : Rv (nxtP p t g n) (nxtG p g n) := by
  unfold nxtP nxtG
  by_cases e : g + n = lg p
  · rw [if_pos e, if_pos e]
    refine ⟨fun q hq => h.ok q (List.mem_cons_of_mem _ hq), fun q u eq => (lg_bd (h.ok q (by rw [eq]; simp))).1, fun _ => rfl, fun hne => ?_⟩
    obtain ⟨o', q, e2, hq⟩ := h.last (by simp)
    rcases o' with _ | ⟨r, o'⟩
    · simp at e2
      exact absurd e2.2 hne
    · simp at e2
      exact ⟨o', q, e2.2, hq⟩
  · rw [if_neg e, if_neg e]
    refine ⟨h.ok, fun q u eq => ?_, fun h0 => (by cases h0), fun _ => h.last (by simp)⟩
    simp at eq
    rw [← eq.1]
    omega
theorem nxtP_len (p : Pt) (t : List Pt) (g n : Nat) : (nxtP p t g n).length ≤ t.length + 1 := by
  unfold nxtP
  split <;> simp
theorem nxtP_end {p : Pt} {t : List Pt} {g n : Nat} (h : g + n = lg p) : nxtP p t g n = t := if_pos h
theorem nxtG_end {p : Pt} {g n : Nat} (h : g + n = lg p) : nxtG p g n = 0 := if_pos h
/-- What is left ends with a Keep. -/
theorem Rv.some {ps : List Pt} {g : Nat} (h : Rv ps g) (hne : ps ≠ []) : 1 ≤ need (ra ps g) ∧ 1 ≤ leave (ra ps g) := by
  obtain ⟨o', q, e, hq⟩ := h.last hne
  have hqe := h.ok q (by rw [e]; simp)
  have hb := lg_bd hqe
  have hlg : lg q = q.n.toNat := if_neg (by omega)
  obtain ⟨m, hm⟩ : ∃ m, q.n.toNat = m + 1 := ⟨q.n.toNat - 1, by omega⟩
  have ha : acts ps = (acts o' ++ List.replicate m (A.keep (chOf q))) ++ [A.keep (chOf q)] := by
    rw [e, acts_app, acts_cons, acts_nil, List.append_nil, List.append_assoc]
    congr 1
    unfold acts1
    rw [if_neg (by omega), if_pos hq, hm, List.replicate_succ']
  have hg : g ≤ (acts o' ++ List.replicate m (A.keep (chOf q))).length := by
    rw [List.length_append, List.length_replicate]
    rcases o' with _ | ⟨r, o'⟩
    · have := h.lt q [] (by rw [e]; rfl)
      rw [acts_nil, List.length_nil]
      omega
    · have := h.lt r (o' ++ [q]) (by rw [e]; rfl)
      rw [acts_cons, List.length_append, acts1_len]
      omega
  unfold ra
  rw [ha, List.drop_append_of_le_length hg, need_app, leave_app]
  exact ⟨Nat.le_add_left _ _, Nat.le_add_left _ _⟩

/- Turned, many at once. -/
theorem turn_puts (b : List A) : ∀ (xs : List It) (a : List A), turn (xs.map A.put ++ a) b = (xs.map A.put ++ (turn a b).1, List.replicate xs.length (A.keep nop) ++ (turn a b).2)
  | [], a => rfl
  | x :: xs, a => by
    rw [List.map_cons, List.cons_append, turn_put, turn_puts b xs a]
    rfl
theorem turn_puts_r (a : List A) (b : List A) (h : (∃ c a', a = A.keep c :: a') ∨ ∃ a', a = A.cut :: a') : ∀ ys : List It, turn a (ys.map A.put ++ b) = (List.replicate ys.length (A.keep nop) ++ (turn a b).1, ys.map A.put ++ (turn a b).2)
  | [] => rfl
  | y :: ys => by
    have ih := turn_puts_r a b h ys
    rcases h with ⟨c, a', rfl⟩ | ⟨a', rfl⟩
    · rw [List.map_cons, List.cons_append, turn_kp, ih]
      rfl
    · rw [List.map_cons, List.cons_append, turn_cp, ih]
      rfl
theorem turn_kks (c d : Ch) (a b : List A) : ∀ n : Nat, turn (List.replicate n (A.keep c) ++ a) (List.replicate n (A.keep d) ++ b) = (List.replicate n (A.keep c) ++ (turn a b).1, List.replicate n (A.keep (behind d c)) ++ (turn a b).2)
  | 0 => rfl
  | n + 1 => by
    rw [List.replicate_succ, List.cons_append, List.replicate_succ, List.cons_append, turn_kk, turn_kks c d a b n]
    rfl
theorem turn_cks (d : Ch) (a b : List A) : ∀ n : Nat, turn (List.replicate n A.cut ++ a) (List.replicate n (A.keep d) ++ b) = (List.replicate n A.cut ++ (turn a b).1, (turn a b).2)
  | 0 => rfl
  | n + 1 => by
    rw [List.replicate_succ, List.cons_append, List.replicate_succ, List.cons_append, turn_ck, turn_cks d a b n]
    rfl
theorem turn_kcs (c : Ch) (a b : List A) : ∀ n : Nat, turn (List.replicate n (A.keep c) ++ a) (List.replicate n A.cut ++ b) = ((turn a b).1, List.replicate n A.cut ++ (turn a b).2)
  | 0 => rfl
  | n + 1 => by
    rw [List.replicate_succ, List.cons_append, List.replicate_succ, List.cons_append, turn_kc, turn_kcs c a b n]
    rfl
theorem turn_ccs (a b : List A) : ∀ n : Nat, turn (List.replicate n A.cut ++ a) (List.replicate n A.cut ++ b) = turn a b
  | 0 => rfl
  | n + 1 => by rw [List.replicate_succ, List.cons_append, List.cons_append, turn_cc, turn_ccs a b n]
theorem join_cuts (a b : List A) : ∀ n : Nat, join (List.replicate n A.cut ++ a) b = List.replicate n A.cut ++ join a b
  | 0 => rfl
  | n + 1 => by rw [List.replicate_succ, List.cons_append, join_cut, join_cuts a b n]; rfl
theorem join_puts_r (a b : List A) (h : ∀ a', a ≠ .cut :: a') : ∀ ys : List It, join a (ys.map A.put ++ b) = ys.map A.put ++ join a b
  | [] => rfl
  | y :: ys => by rw [List.map_cons, List.cons_append, join_put a _ y h, join_puts_r a b h ys]; rfl
theorem join_kks (c d : Ch) (a b : List A) : ∀ n : Nat, join (List.replicate n (A.keep c) ++ a) (List.replicate n (A.keep d) ++ b) = List.replicate n (A.keep (thenCh c d)) ++ join a b
  | 0 => rfl
  | n + 1 => by rw [List.replicate_succ, List.cons_append, List.replicate_succ, List.cons_append, join_kk, join_kks c d a b n]; rfl
theorem join_kcs (c : Ch) (a b : List A) : ∀ n : Nat, join (List.replicate n (A.keep c) ++ a) (List.replicate n A.cut ++ b) = List.replicate n A.cut ++ join a b
  | 0 => rfl
  | n + 1 => by rw [List.replicate_succ, List.cons_append, List.replicate_succ, List.cons_append, join_kc, join_kcs c a b n]; rfl
theorem join_pks (d : Ch) (a b : List A) : ∀ xs : List It, join (xs.map A.put ++ a) (List.replicate xs.length (A.keep d) ++ b) = (xs.map fun x => change x d).map A.put ++ join a b
  | [] => rfl
  | x :: xs => by rw [List.map_cons, List.cons_append, List.length_cons, List.replicate_succ, List.cons_append, join_pk, join_pks d a b xs]; rfl
theorem join_pcs (a b : List A) : ∀ xs : List It, join (xs.map A.put ++ a) (List.replicate xs.length A.cut ++ b) = join a b
  | [] => rfl
  | x :: xs => by rw [List.map_cons, List.cons_append, List.length_cons, List.replicate_succ, List.cons_append, join_pc, join_pcs a b xs]
end Ac
end Go.Proofs.YtlhkomiiockaoaaDoor
