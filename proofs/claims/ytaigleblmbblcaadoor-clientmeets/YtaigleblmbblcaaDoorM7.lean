/-
  Texts of this proof, one behind the other.
-/
import Derived.Test.YtaigleblmbblcaaDoorM6

/-
  The laws' closed fact of one operation; Apply and Tidy, in one form each.
-/
namespace Go.Proofs.YtaigleblmbblcaaDoor
open Go.RowKit

theorem apply_any (ao ao' : Option Addr) (n cap n' cap' : Nat) (l : List It) (vs : List PV) (w : World) (hD : Doc w ao n cap l) (hO : Ops w ao' n' cap' vs) (hS : Sch w) :
    Calls Tryd.prog 7 #[.slice ao n cap, .slice ao' n' cap'] w fun e w' => (∃ a c, e = .returned (.tuple #[.slice a (Ac.done l (vs.map PV.pt)).length c, .int .i64 (Ac.fitE l (vs.map PV.pt))]) ∧ Doc w' a (Ac.done l (vs.map PV.pt)).length c (Ac.done l (vs.map PV.pt))) ∧ Below w.heap.size w w' := by
  unfold Ac.done
  by_cases h : Ac.fitE l (vs.map PV.pt) = 0
  · rw [if_pos h, h]
    exact apply_ok ao ao' n cap n' cap' l vs w hD hO hS h
  · rw [if_neg h]
    refine (apply_bad ao ao' n cap n' cap' l vs w hD hO hS h).mono ?_
    rintro e w' ⟨he, hb⟩
    exact ⟨⟨none, 0, he, doc_none w'⟩, hb⟩
/-- What an operation is when it is made tidy; nothing where it is none. -/
def Ac.tid (o : List Ac.Pt) : List Ac.Pt := if Ac.chk o = 0 then (Ac.ts o).out else []
theorem ops_nil (w : World) : Ops w none 0 0 [] := ⟨Row.nil w 7, fun v hv => absurd hv (by simp)⟩
theorem Ac.ts_all {o : List Ac.Pt} (h : ∀ p ∈ o, Ac.err1 p = 0) : (Ac.ts o).out ++ Ac.flushP (Ac.ts o).put (Ac.ts o).cut = Ac.tidy o := by
  have := Ac.tdy_fold o ⟨[], [], 0⟩ [] h
  rw [List.append_nil] at this
  unfold Ac.tidy
  rw [show Ac.tdy [] [] 0 (Ac.acts o) = _ from this]
  rfl
/-- Parts that are made tidy, unchecked. -/
theorem made_tidy (ao : Option Addr) (n cap : Nat) (vs : List PV) (w : World) (hO : Ops w ao n cap vs) (hok : ∀ v ∈ vs, Ac.err1 v.pt = 0) (hfew : vs.length ≤ 100) :
    Calls Tryd.prog 30 #[.slice ao n cap] w fun e w' => (∃ tv us, e = .returned tv ∧ Tide w' w.heap.size tv us ∧ us.map PV.pt = Ac.tidy (vs.map PV.pt)) ∧ Below w.heap.size w w' := by
  have hOKL : ∀ p ∈ vs.map PV.pt, Ac.err1 p = 0 := fun p hp => by
    obtain ⟨v, hv, rfl⟩ := List.mem_map.1 hp
    exact hok v hv
  have := tidied0_any ao n cap vs w hO hok hfew
  rw [Ac.ts_all hOKL] at this
  exact this
theorem eql_items (x y : It) (w : World) : (binOp .eql 62 (.agg #[.int .u8 x.c.toNat, .int .i64 x.m, .string x.l]) (.agg #[.int .u8 y.c.toNat, .int .i64 y.m, .string y.l])).run Tryd.prog w = .ok (.bool (Dc.alike x y)) w := by
  rw [run_eql_struct, run_equalIn_agg w 9999 62 _ _ under36 held36]
  have hu := Tryd.underlying62
  simp [go_sem, hu, Program.fieldsOf]
  unfold Dc.alike
  by_cases h1 : (x.c.toNat : Int) = (y.c.toNat : Int)
  · by_cases h2 : x.m = y.m
    · by_cases h3 : x.l.toList = y.l.toList
      · simp [h1, h2, h3]
      · simp [h1, h2, h3]
    · simp [h1, h2]
  · simp [h1]

/-- The operation of the closed fact. -/
def o1V (g : Nat) : List PV := [⟨1, 1, none, 0, 0, [], 2, 1, true, ⟨#[104, 116, 116, 112, 58, 120]⟩⟩, ⟨3, 1, none, 0, 0, [], 0, 0, false, ⟨#[]⟩⟩, ⟨2, 0, some ⟨g, 0, none⟩, 1, 1, [⟨122, 0, ⟨#[]⟩⟩], 0, 0, false, ⟨#[]⟩⟩, ⟨1, 3, none, 0, 0, [], 0, 0, false, ⟨#[]⟩⟩]
def o1P : List Ac.Pt := [⟨1, 1, [], 2, 1, true, ⟨#[104, 116, 116, 112, 58, 120]⟩⟩, ⟨3, 1, [], 0, 0, false, ⟨#[]⟩⟩, ⟨2, 0, [⟨122, 0, ⟨#[]⟩⟩], 0, 0, false, ⟨#[]⟩⟩, ⟨1, 3, [], 0, 0, false, ⟨#[]⟩⟩]
theorem o1_pt (g : Nat) : (o1V g).map PV.pt = o1P := rfl
theorem o1_fit : Ac.fitE smallDoc o1P = 0 := by decide +kernel
theorem o1_chk : Ac.chk o1P = 0 := by decide +kernel
theorem o1_long : Ac.lf o1P = 5 ∧ Ac.lt o1P = 5 := by decide +kernel
theorem o1_made : Ac.done smallDoc o1P = [⟨97, 2, ⟨#[104, 116, 116, 112, 58, 120]⟩⟩, ⟨122, 0, ⟨#[]⟩⟩, ⟨10, 1, ⟨#[]⟩⟩, ⟨60, 0, ⟨#[104, 116, 116, 112, 58, 38]⟩⟩, ⟨10, 2, ⟨#[]⟩⟩] := (its_same _ _).1 (by decide +kernel)
theorem o1_tid : (Ac.tid o1P).map (fun p => p.kind) = [1, 2, 3, 1] := by decide +kernel
/-- Where the closed fact's operation is laid. -/
def o1W (w : World) : World := (w.alloc (.cells #[.int .u8 122, .int .i64 0, .string ⟨#[]⟩] 62)).alloc (.cells #[.int .i64 1, .int .i64 1, .slice none 0 0, .int .i64 2, .int .i64 1, .bool true, .string ⟨#[104, 116, 116, 112, 58, 120]⟩, .int .i64 3, .int .i64 1, .slice none 0 0, .int .i64 0, .int .i64 0, .bool false, .string ⟨#[]⟩, .int .i64 2, .int .i64 0, .slice (some ⟨w.heap.size, 0, none⟩) 1 1, .int .i64 0, .int .i64 0, .bool false, .string ⟨#[]⟩, .int .i64 1, .int .i64 3, .slice none 0 0, .int .i64 0, .int .i64 0, .bool false, .string ⟨#[]⟩] 55)
theorem o1_below (w : World) : Below w.heap.size w (o1W w) := ((Below.refl _ _).alloc (Nat.le_refl _) _).alloc (by simp) _
theorem o1_ops (w : World) : Ops (o1W w) (some ⟨w.heap.size + 1, 0, none⟩) 4 4 (o1V w.heap.size) := by
  have h1 : Blk (w.alloc (.cells #[.int .u8 122, .int .i64 0, .string ⟨#[]⟩] 62)) w.heap.size (itCells [⟨122, 0, ⟨#[]⟩⟩]) 62 := Blk.new w _ _
  have hP : Blk (o1W w) (w.heap.size + 1) (pvCells (o1V w.heap.size)) 55 := Blk.newAt _ _ _ _ (World.size_alloc ..)
  have hI : Blk (o1W w) w.heap.size (itCells [⟨122, 0, ⟨#[]⟩⟩]) 62 := h1.alloc _
  have hA : At (o1W w) w.heap.size 0 [⟨122, 0, ⟨#[]⟩⟩] := at_block hI
  refine ⟨⟨rfl, Nat.le_refl _, by decide, fun _ => ⟨_, 0, rfl, fun j u hu => ?_⟩⟩, fun v hv => ?_⟩
  · rw [Nat.zero_add]
    exact (hP.cell j).trans hu
  · simp only [o1V, List.mem_cons, List.not_mem_nil, or_false] at hv
    rcases hv with rfl | rfl | rfl | rfl
    · exact ⟨doc_none _, by decide⟩
    · exact ⟨doc_none _, by decide⟩
    · exact ⟨⟨fun x hx => by rw [List.mem_singleton.1 hx]; decide, rfl, Nat.le_refl _, (by decide : 1 ≤ 9223372036854775807), fun _ => ⟨_, 0, rfl, hA⟩⟩, Nat.zero_le _⟩
    · exact ⟨doc_none _, by decide⟩

end Go.Proofs.YtaigleblmbblcaaDoor

/-
  Chapter 8 on parts: what is left of an operation, pieces of its parts; two gone through together, part by part, are turned, and joined, as their acts are.
-/
namespace Go.Proofs.YtaigleblmbblcaaDoor
open Go.RowKit
namespace Ac
/-- How many acts a part has. -/
def lg (p : Pt) : Nat := if p.kind = 2 then p.items.length else p.n.toNat
theorem acts1_len (p : Pt) : (acts1 p).length = lg p := by
  unfold acts1 lg
  split <;> simp
/-- n items of a part, behind g. -/
def piece (p : Pt) (g n : Nat) : Pt := if p.kind = 2 then { p with items := (p.items.drop g).take n } else { p with n := n }
theorem piece_kind (p : Pt) (g n : Nat) : (piece p g n).kind = p.kind := by unfold piece; split <;> rfl
theorem piece_ch (p : Pt) (g n : Nat) : chOf (piece p g n) = chOf p := by unfold piece; split <;> rfl
theorem piece_put {p : Pt} (k : p.kind = 2) (g n : Nat) : piece p g n = { p with items := (p.items.drop g).take n } := if_pos k
theorem piece_not {p : Pt} (k : ¬ p.kind = 2) (g n : Nat) : piece p g n = { p with n := n } := if_neg k
theorem acts1_piece (p : Pt) (g n : Nat) (h : g + n ≤ lg p) : acts1 (piece p g n) = ((acts1 p).drop g).take n := by
  by_cases k : p.kind = 2
  · rw [piece_put k]
    unfold acts1
    simp only [if_pos k]
    rw [List.map_take, List.map_drop]
  · rw [piece_not k]
    unfold lg at h
    rw [if_neg k] at h
    unfold acts1
    simp only [if_neg k]
    rw [List.drop_replicate, List.take_replicate]
    congr 1
    omega
theorem gd_of {p : Pt} (h : err1 p = 0) : Gd p := by
  have hu := same1_eq.1 (err1_0 h).2
  rcases kind_of h with k | k | k
  · exact err1_gd h k
  · have e : p = putP p.items := by
      unfold usedP at hu
      rw [if_neg (by omega), if_pos k] at hu
      rw [k] at hu
      exact hu
    obtain ⟨h1, h2, h3⟩ := put_len h k
    exact .inr (.inl ⟨p.items, e, fun e => by rw [e] at h1; simp at h1, errs_all h3⟩)
  · obtain ⟨h1, h2⟩ := cut_n h k
    have e : p = cutP p.n.toNat := by
      unfold usedP at hu
      rw [if_neg (by omega), if_neg (by omega)] at hu
      rw [k] at hu
      rw [hu]
      show (⟨3, p.n, [], 0, 0, false, ⟨#[]⟩⟩ : Pt) = ⟨3, ((p.n.toNat : Nat) : Int), [], 0, 0, false, ⟨#[]⟩⟩
      rw [show ((p.n.toNat : Nat) : Int) = p.n by omega]
    exact .inr (.inr ⟨p.n.toNat, e, by omega⟩)
theorem lg_bd {p : Pt} (h : err1 p = 0) : 1 ≤ lg p ∧ lg p ≤ 80 := by
  unfold lg
  rcases kind_of h with k | k | k
  · obtain ⟨_, _, h1, h2⟩ := keep_m4 h k
    rw [if_neg (by omega)]
    omega
  · obtain ⟨h1, h2, _⟩ := put_len h k
    rw [if_pos k]
    omega
  · obtain ⟨h1, h2⟩ := cut_n h k
    rw [if_neg (by omega)]
    omega
theorem piece_err {p : Pt} (h : err1 p = 0) {g n : Nat} (hn : 1 ≤ n) (hl : g + n ≤ lg p) : err1 (piece p g n) = 0 := by
  have hb := lg_bd h
  unfold lg at hl hb
  by_cases k : p.kind = 2
  · rw [if_pos k] at hl hb
    have hln : ((p.items.drop g).take n).length = n := by simp; omega
    rcases gd_of h with ⟨k1, _⟩ | ⟨ps, e, hne, he⟩ | ⟨m, e, _⟩
    · omega
    · rw [piece_put k]
      refine gd_right (.inr (.inl ⟨(p.items.drop g).take n, by rw [e]; rfl, fun e => by rw [e] at hln; simp at hln; omega, fun x hx => he x ?_⟩)) ?_ ?_
      · rw [e] at hx
        exact List.mem_of_mem_drop (List.mem_of_mem_take hx)
      · unfold nd1; simp only [if_pos k]; omega
      · unfold lv1; simp only [if_pos k]; rw [if_neg (by omega)]; omega
    · rw [e] at k; cases k
  · rw [if_neg k] at hl hb
    have h1 : nd1 { p with n := (n : Int) } ≤ 80 := by unfold nd1; simp only [if_neg k]; omega
    have h2 : lv1 { p with n := (n : Int) } ≤ 80 := by
      unfold lv1
      simp only [if_neg k]
      split <;> omega
    rw [piece_not k]
    rcases gd_of h with ⟨k1, a, b, c, d⟩ | ⟨ps, e, hne, he⟩ | ⟨m, e, _⟩
    · exact gd_right (.inl ⟨k1, a, b, c, by simp only; omega⟩) h1 h2
    · rw [e] at k; exact absurd rfl k
    · refine gd_right (.inr (.inr ⟨n, by rw [e]; rfl, by omega⟩)) h1 h2
theorem keepP_err {c : Ch} {n : Nat} (h1 : 1 ≤ n) (h2 : n ≤ 80) (hm : marksBad c.set c.clr = false) (hl : linkBad c.goes c.link = false) : err1 (keepP c n) = 0 :=
  gd_right (.inl ⟨rfl, hm, hl, rfl, by show (1 : Int) ≤ n; omega⟩) (by show ((n : Int)).toNat ≤ 80; omega) (by show ((n : Int)).toNat ≤ 80; omega)
theorem nop_err {n : Nat} (h1 : 1 ≤ n) (h2 : n ≤ 80) : err1 (keepP nop n) = 0 := keepP_err h1 h2 (by decide +kernel) (by decide +kernel)

/-- The acts that are left. -/
def ra (ps : List Pt) (g : Nat) : List A := (acts ps).drop g
structure Rv (ps : List Pt) (g : Nat) : Prop where
  ok : ∀ p ∈ ps, err1 p = 0
  lt : ∀ p t, ps = p :: t → g < lg p
  nil : ps = [] → g = 0
  last : ps ≠ [] → ∃ o' p, ps = o' ++ [p] ∧ p.kind = 1
theorem Right.rv {o : List Pt} (h : Right o) : Rv o 0 :=
  ⟨h.ok, fun p t e => (lg_bd (h.ok p (by rw [e]; exact List.mem_cons_self ..))).1, fun _ => rfl, fun _ => h.last⟩
/-- What is left behind n more items. -/
def nxtP (p : Pt) (t : List Pt) (g n : Nat) : List Pt := if g + n = lg p then t else p :: t
def nxtG (p : Pt) (g n : Nat) : Nat := if g + n = lg p then 0 else g + n
theorem ra_nxt (p : Pt) (t : List Pt) (g n : Nat) : ra (nxtP p t g n) (nxtG p g n) = (acts (p :: t)).drop (g + n) := by
  unfold ra nxtP nxtG
  by_cases h : g + n = lg p
  · rw [if_pos h, if_pos h, List.drop_zero, acts_cons, h, ← acts1_len, List.drop_left]
  · rw [if_neg h, if_neg h]
theorem ra_split (p : Pt) (t : List Pt) (g n : Nat) (h : g + n ≤ lg p) : ra (p :: t) g = acts1 (piece p g n) ++ ra (nxtP p t g n) (nxtG p g n) := by
  rw [ra_nxt, acts1_piece p g n h]
  have e : ((acts1 p).drop g).take n = ((acts (p :: t)).drop g).take n := by
    rw [acts_cons, List.drop_append_of_le_length (by rw [acts1_len]; omega), List.take_append_of_le_length (by rw [List.length_drop, acts1_len]; omega)]
  rw [e, ← List.drop_drop, List.take_append_drop]
  rfl
theorem Rv.nxt {p : Pt} {t : List Pt} {g n : Nat} (h : Rv (p :: t) g) (hl : g + n ≤ lg p) : Rv (nxtP p t g n) (nxtG p g n) := by
  unfold nxtP nxtG
  by_cases e : g + n = lg p
  · rw [if_pos e, if_pos e]
    refine ⟨fun q hq => h.ok q (List.mem_cons_of_mem _ hq), fun q u eq => (lg_bd (h.ok q (by rw [eq]; simp))).1, fun _ => rfl, fun hne => ?_⟩
    obtain ⟨o', q, e2, hq⟩ := h.last (by simp)
    rcases o' with _ | ⟨r, o'⟩
    · simp at e2
      exact absurd e2.2 hne
    · simp at e2
      exact ⟨o', q, e2.2, hq⟩
  · rw [if_neg e, if_neg e]
    refine ⟨h.ok, fun q u eq => ?_, fun h0 => (by cases h0), fun _ => h.last (by simp)⟩
    simp at eq
    rw [← eq.1]
    omega
theorem nxtP_len (p : Pt) (t : List Pt) (g n : Nat) : (nxtP p t g n).length ≤ t.length + 1 := by
  unfold nxtP
  split <;> simp
theorem nxtP_end {p : Pt} {t : List Pt} {g n : Nat} (h : g + n = lg p) : nxtP p t g n = t := if_pos h
theorem nxtG_end {p : Pt} {g n : Nat} (h : g + n = lg p) : nxtG p g n = 0 := if_pos h
/-- What is left ends with a Keep. -/
theorem Rv.some {ps : List Pt} {g : Nat} (h : Rv ps g) (hne : ps ≠ []) : 1 ≤ need (ra ps g) ∧ 1 ≤ leave (ra ps g) := by
  obtain ⟨o', q, e, hq⟩ := h.last hne
  have hqe := h.ok q (by rw [e]; simp)
  have hb := lg_bd hqe
  have hlg : lg q = q.n.toNat := if_neg (by omega)
  obtain ⟨m, hm⟩ : ∃ m, q.n.toNat = m + 1 := ⟨q.n.toNat - 1, by omega⟩
  have ha : acts ps = (acts o' ++ List.replicate m (A.keep (chOf q))) ++ [A.keep (chOf q)] := by
    rw [e, acts_app, acts_cons, acts_nil, List.append_nil, List.append_assoc]
    congr 1
    unfold acts1
    rw [if_neg (by omega), if_pos hq, hm, List.replicate_succ']
  have hg : g ≤ (acts o' ++ List.replicate m (A.keep (chOf q))).length := by
    rw [List.length_append, List.length_replicate]
    rcases o' with _ | ⟨r, o'⟩
    · have := h.lt q [] (by rw [e]; rfl)
      rw [acts_nil, List.length_nil]
      omega
    · have := h.lt r (o' ++ [q]) (by rw [e]; rfl)
      rw [acts_cons, List.length_append, acts1_len]
      omega
  unfold ra
  rw [ha, List.drop_append_of_le_length hg, need_app, leave_app]
  exact ⟨Nat.le_add_left _ _, Nat.le_add_left _ _⟩

/- Turned, many at once. -/
theorem turn_puts (b : List A) : ∀ (xs : List It) (a : List A), turn (xs.map A.put ++ a) b = (xs.map A.put ++ (turn a b).1, List.replicate xs.length (A.keep nop) ++ (turn a b).2)
  | [], a => rfl
  | x :: xs, a => by
    rw [List.map_cons, List.cons_append, turn_put, turn_puts b xs a]
    rfl
theorem turn_puts_r (a : List A) (b : List A) (h : (∃ c a', a = A.keep c :: a') ∨ ∃ a', a = A.cut :: a') : ∀ ys : List It, turn a (ys.map A.put ++ b) = (List.replicate ys.length (A.keep nop) ++ (turn a b).1, ys.map A.put ++ (turn a b).2)
  | [] => rfl
  | y :: ys => by
    have ih := turn_puts_r a b h ys
    rcases h with ⟨c, a', rfl⟩ | ⟨a', rfl⟩
    · rw [List.map_cons, List.cons_append, turn_kp, ih]
      rfl
    · rw [List.map_cons, List.cons_append, turn_cp, ih]
      rfl
theorem turn_kks (c d : Ch) (a b : List A) : ∀ n : Nat, turn (List.replicate n (A.keep c) ++ a) (List.replicate n (A.keep d) ++ b) = (List.replicate n (A.keep c) ++ (turn a b).1, List.replicate n (A.keep (behind d c)) ++ (turn a b).2)
  | 0 => rfl
  | n + 1 => by
    rw [List.replicate_succ, List.cons_append, List.replicate_succ, List.cons_append, turn_kk, turn_kks c d a b n]
    rfl
theorem turn_cks (d : Ch) (a b : List A) : ∀ n : Nat, turn (List.replicate n A.cut ++ a) (List.replicate n (A.keep d) ++ b) = (List.replicate n A.cut ++ (turn a b).1, (turn a b).2)
  | 0 => rfl
  | n + 1 => by
    rw [List.replicate_succ, List.cons_append, List.replicate_succ, List.cons_append, turn_ck, turn_cks d a b n]
    rfl
theorem turn_kcs (c : Ch) (a b : List A) : ∀ n : Nat, turn (List.replicate n (A.keep c) ++ a) (List.replicate n A.cut ++ b) = ((turn a b).1, List.replicate n A.cut ++ (turn a b).2)
  | 0 => rfl
  | n + 1 => by
    rw [List.replicate_succ, List.cons_append, List.replicate_succ, List.cons_append, turn_kc, turn_kcs c a b n]
    rfl
theorem turn_ccs (a b : List A) : ∀ n : Nat, turn (List.replicate n A.cut ++ a) (List.replicate n A.cut ++ b) = turn a b
  | 0 => rfl
  | n + 1 => by rw [List.replicate_succ, List.cons_append, List.cons_append, turn_cc, turn_ccs a b n]
theorem join_cuts (a b : List A) : ∀ n : Nat, join (List.replicate n A.cut ++ a) b = List.replicate n A.cut ++ join a b
  | 0 => rfl
  | n + 1 => by rw [List.replicate_succ, List.cons_append, join_cut, join_cuts a b n]; rfl
theorem join_puts_r (a b : List A) (h : ∀ a', a ≠ .cut :: a') : ∀ ys : List It, join a (ys.map A.put ++ b) = ys.map A.put ++ join a b
  | [] => rfl
  | y :: ys => by rw [List.map_cons, List.cons_append, join_put a _ y h, join_puts_r a b h ys]; rfl
theorem join_kks (c d : Ch) (a b : List A) : ∀ n : Nat, join (List.replicate n (A.keep c) ++ a) (List.replicate n (A.keep d) ++ b) = List.replicate n (A.keep (thenCh c d)) ++ join a b
  | 0 => rfl
  | n + 1 => by rw [List.replicate_succ, List.cons_append, List.replicate_succ, List.cons_append, join_kk, join_kks c d a b n]; rfl
theorem join_kcs (c : Ch) (a b : List A) : ∀ n : Nat, join (List.replicate n (A.keep c) ++ a) (List.replicate n A.cut ++ b) = List.replicate n A.cut ++ join a b
  | 0 => rfl
  | n + 1 => by rw [List.replicate_succ, List.cons_append, List.replicate_succ, List.cons_append, join_kc, join_kcs c a b n]; rfl
theorem join_pks (d : Ch) (a b : List A) : ∀ xs : List It, join (xs.map A.put ++ a) (List.replicate xs.length (A.keep d) ++ b) = (xs.map fun x => change x d).map A.put ++ join a b
  | [] => rfl
  | x :: xs => by rw [List.map_cons, List.cons_append, List.length_cons, List.replicate_succ, List.cons_append, join_pk, join_pks d a b xs]; rfl
theorem join_pcs (a b : List A) : ∀ xs : List It, join (xs.map A.put ++ a) (List.replicate xs.length A.cut ++ b) = join a b
  | [] => rfl
  | x :: xs => by rw [List.map_cons, List.cons_append, List.length_cons, List.replicate_succ, List.cons_append, join_pc, join_pcs a b xs]
end Ac
end Go.Proofs.YtaigleblmbblcaaDoor

/-
  Chapter 8 on parts: Turn and Join, step by step.
-/
namespace Go.Proofs.YtaigleblmbblcaaDoor
open Go.RowKit
namespace Ac
/-- A Keep without what another one has a say in. -/
def yieldP (p f : Pt) : Pt := { p with set := less p.set (both f.set f.clr), clr := less p.clr (both f.set f.clr), goes := p.goes && !f.goes, link := if f.goes then ⟨#[]⟩ else p.link }
theorem yield_ch (p f : Pt) : chOf (yieldP p f) = behind (chOf p) (chOf f) := rfl
/-- A Keep that does one, and then another one. -/
def oneP (f p : Pt) : Pt := { f with set := both (less f.set p.clr) p.set, clr := both (less f.clr p.set) p.clr, goes := f.goes || p.goes, link := if p.goes then p.link else f.link }
theorem one_ch (f p : Pt) : chOf (oneP f p) = thenCh (chOf f) (chOf p) := rfl
theorem marks_of {s c : Int} (h : marksBad s c = false) : m4 s ∧ m4 c ∧ s.toNat &&& c.toNat = 0 := by
  unfold marksBad areM at h
  simp only [Bool.or_eq_false_iff, Bool.not_eq_false', Bool.and_eq_true, decide_eq_true_eq, bne_eq_false_iff_eq] at h
  exact ⟨h.1, h.2.1, h.2.2⟩
theorem of_marks {s c : Int} (h1 : m4 s) (h2 : m4 c) (h3 : s.toNat &&& c.toNat = 0) : marksBad s c = false := by
  unfold marksBad areM
  simp only [Bool.or_eq_false_iff, Bool.not_eq_false', Bool.and_eq_true, decide_eq_true_eq, bne_eq_false_iff_eq]
  exact ⟨h1, h2, h3⟩
theorem yield_marks {s c s' c' : Int} (h : marksBad s c = false) (h' : marksBad s' c' = false) : marksBad (less s (both s' c')) (less c (both s' c')) = false := by
  obtain ⟨a1, a2, a3⟩ := marks_of h
  obtain ⟨b1, b2, _⟩ := marks_of h'
  refine of_marks (less_m4 a1 (both_m4 b1 b2)) (less_m4 a2 (both_m4 b1 b2)) ?_
  obtain ⟨x, hx, rfl⟩ := m4_nat a1
  obtain ⟨y, hy, rfl⟩ := m4_nat a2
  obtain ⟨u, hu, rfl⟩ := m4_nat b1
  obtain ⟨v, hv, rfl⟩ := m4_nat b2
  have key : ∀ x < 4, ∀ y < 4, ∀ u < 4, ∀ v < 4, x &&& y = 0 → (x - (x &&& (u ||| v))) &&& (y - (y &&& (u ||| v))) = 0 := by decide +kernel
  exact key x hx y hy u hu v hv a3
theorem one_marks {s c s' c' : Int} (h : marksBad s c = false) (h' : marksBad s' c' = false) : marksBad (both (less s c') s') (both (less c s') c') = false := by
  obtain ⟨a1, a2, a3⟩ := marks_of h
  obtain ⟨b1, b2, b3⟩ := marks_of h'
  refine of_marks (both_m4 (less_m4 a1 b2) b1) (both_m4 (less_m4 a2 b1) b2) ?_
  obtain ⟨x, hx, rfl⟩ := m4_nat a1
  obtain ⟨y, hy, rfl⟩ := m4_nat a2
  obtain ⟨u, hu, rfl⟩ := m4_nat b1
  obtain ⟨v, hv, rfl⟩ := m4_nat b2
  have key : ∀ x < 4, ∀ y < 4, ∀ u < 4, ∀ v < 4, (x &&& y = 0 ∧ u &&& v = 0) → ((x - (x &&& v)) ||| u) &&& ((y - (y &&& u)) ||| v) = 0 := by decide +kernel
  exact key x hx y hy u hu v hv ⟨a3, b3⟩
theorem linkBad_nil (g : Bool) : linkBad g ⟨#[]⟩ = false := by cases g <;> decide +kernel
theorem keep_err {p : Pt} (h : err1 p = 0) (k : p.kind = 1) {q : Pt} (kq : q.kind = 1) (hn : q.n = p.n) (hi : q.items = []) (hm : marksBad q.set q.clr = false) (hl : linkBad q.goes q.link = false) : err1 q = 0 := by
  obtain ⟨_, _, h1, h2⟩ := keep_m4 h k
  refine gd_right (.inl ⟨kq, hm, hl, hi, by omega⟩) ?_ ?_
  · unfold nd1; rw [if_neg (by omega), hn]; omega
  · unfold lv1; rw [if_pos kq, hn]; omega
theorem yield_err {p f : Pt} (h : err1 p = 0) (k : p.kind = 1) (hf : err1 f = 0) (kf : f.kind = 1) : err1 (yieldP p f) = 0 := by
  rcases gd_of h with ⟨_, hm, hl, hi, _⟩ | ⟨ps, e, _⟩ | ⟨m, e, _⟩
  · rcases gd_of hf with ⟨_, fm, fl, _, _⟩ | ⟨ps, e, _⟩ | ⟨m, e, _⟩
    · refine keep_err h k (q := yieldP p f) k rfl hi (yield_marks hm fm) ?_
      show linkBad (p.goes && !f.goes) (if f.goes then ⟨#[]⟩ else p.link) = false
      cases f.goes
      · rw [Bool.not_false, Bool.and_true]; exact hl
      · exact linkBad_nil _
    · rw [e] at kf; cases kf
    · rw [e] at kf; cases kf
  · rw [e] at k; cases k
  · rw [e] at k; cases k
theorem one_err {f p : Pt} (hf : err1 f = 0) (kf : f.kind = 1) (h : err1 p = 0) (k : p.kind = 1) : err1 (oneP f p) = 0 := by
  rcases gd_of h with ⟨_, hm, hl, _, _⟩ | ⟨ps, e, _⟩ | ⟨m, e, _⟩
  · rcases gd_of hf with ⟨_, fm, fl, fi, _⟩ | ⟨ps, e, _⟩ | ⟨m, e, _⟩
    · refine keep_err hf kf (q := oneP f p) kf rfl fi (one_marks fm hm) ?_
      show linkBad (f.goes || p.goes) (if p.goes then p.link else f.link) = false
      cases hg : p.goes
      · rw [Bool.or_false]; exact fl
      · rw [hg] at hl
        rw [Bool.or_true]
        exact hl
    · rw [e] at kf; cases kf
    · rw [e] at kf; cases kf
  · rw [e] at k; cases k
  · rw [e] at k; cases k
theorem changed_err {p q : Pt} (h : err1 p = 0) (k : p.kind = 2) (hq : err1 q = 0) (kq : q.kind = 1) : err1 (putP (p.items.map fun x => change x (chOf q))) = 0 := by
  obtain ⟨h1, h2, h3⟩ := put_len h k
  have hc := acts_ok (o := [q]) (fun z hz => by rw [List.mem_singleton.1 hz]; exact hq) (A.keep (chOf q)) (by
    have hb := lg_bd hq
    have hlg : lg q = q.n.toNat := if_neg (by omega)
    obtain ⟨m, hm⟩ : ∃ m, q.n.toNat = m + 1 := ⟨q.n.toNat - 1, by omega⟩
    rw [acts_cons, acts_nil, List.append_nil]
    unfold acts1
    rw [if_neg (by omega), if_pos kq, hm]
    exact List.mem_cons_self ..)
  obtain ⟨hc1, hc2, -⟩ := hc
  refine gd_right (.inr (.inl ⟨_, rfl, fun e => ?_, fun x hx => ?_⟩)) (Nat.zero_le _) ?_
  · have := congrArg List.length e
    rw [List.length_map] at this
    simp at this
    rw [this] at h1
    simp at h1
  · obtain ⟨y, hy, rfl⟩ := List.mem_map.1 hx
    obtain ⟨e1, e2, e3⟩ := err_parts (errs_all h3 y hy)
    exact err_of e1 (mark_m4 e2 hc1.clr hc1.set) (link_change e3 hc2)
  · show (p.items.map fun x => change x (chOf q)).length ≤ 80
    rw [List.length_map]
    exact h2
theorem acts1_k {p : Pt} (k : p.kind = 1) {n : Nat} (hn : p.n = n) : acts1 p = List.replicate n (A.keep (chOf p)) := by unfold acts1; rw [if_neg (by omega), if_pos k, hn]; rfl
theorem acts1_c {p : Pt} (k : p.kind = 3) {n : Nat} (hn : p.n = n) : acts1 p = List.replicate n A.cut := by unfold acts1; rw [if_neg (by omega), if_neg (by omega), hn]; rfl
theorem acts1_p {p : Pt} (k : p.kind = 2) : acts1 p = p.items.map A.put := by unfold acts1; rw [if_pos k]
theorem piece_n {p : Pt} (k : ¬ p.kind = 2) (g n : Nat) : (piece p g n).n = n := by rw [piece_not k]
theorem acts_one (p : Pt) : acts [p] = acts1 p := by rw [acts_cons, acts_nil, List.append_nil]
theorem ok_snoc {x : List Pt} {p : Pt} (h : ∀ z ∈ x, err1 z = 0) (hp : err1 p = 0) : ∀ z ∈ x ++ [p], err1 z = 0 := fun z hz => by
  rcases List.mem_append.1 hz with hz | hz
  · exact h z hz
  · rw [List.mem_singleton.1 hz]; exact hp
/-- What is left to do of two parts for the same items, each behind the other one. -/
def behX (p q : Pt) : List Pt := if q.kind = 1 then [p] else []
def behY (p q : Pt) : List Pt := if p.kind = 1 then (if q.kind = 1 then [yieldP q p] else [q]) else []
/-- Two that are turned: what is left of both, and what is made. -/
structure TurnI (a b ps : List Pt) (g : Nat) (qs : List Pt) (h : Nat) (x y : List Pt) : Prop where
  rp : Rv ps g
  rq : Rv qs h
  eq : turn (acts a) (acts b) = (acts x ++ (turn (ra ps g) (ra qs h)).1, acts y ++ (turn (ra ps g) (ra qs h)).2)
  need : need (ra ps g) = need (ra qs h)
  okx : ∀ p ∈ x, err1 p = 0
  oky : ∀ p ∈ y, err1 p = 0
  lx : x.length + ps.length + qs.length ≤ a.length + b.length
  ly : y.length + ps.length + qs.length ≤ a.length + b.length
theorem TurnI.start {a b : List Pt} (ha : Right a) (hb : Right b) (hn : nd a = nd b) : TurnI a b a 0 b 0 [] [] := by
  refine ⟨ha.rv, hb.rv, ?_, ?_, fun p hp => absurd hp (by simp), fun p hp => absurd hp (by simp), by simp, by simp⟩
  · unfold ra
    rw [List.drop_zero, List.drop_zero, acts_nil, List.nil_append, List.nil_append]
  · unfold ra
    rw [List.drop_zero, List.drop_zero, (need_acts (kinds_of ha.ok)).1, (need_acts (kinds_of hb.ok)).1, hn]
theorem TurnI.left {a b ps : List Pt} {g : Nat} {qs : List Pt} {h : Nat} {x y : List Pt} (I : TurnI a b ps g qs h x y) : ps = [] ↔ qs = [] := by
  constructor
  · intro e
    cases hq : qs with
    | nil => rfl
    | cons q u =>
      have h1 := (I.rq.some (by rw [hq]; simp)).1
      have h2 := I.need
      rw [e, I.rp.nil e] at h2
      rw [← h2] at h1
      exact absurd h1 (by decide)
  · intro e
    cases hq : ps with
    | nil => rfl
    | cons q u =>
      have h1 := (I.rp.some (by rw [hq]; simp)).1
      have h2 := I.need
      rw [e, I.rq.nil e] at h2
      rw [h2] at h1
      exact absurd h1 (by decide)
theorem TurnI.done {a b : List Pt} {g : Nat} {qs : List Pt} {h : Nat} {x y : List Pt} (I : TurnI a b [] g qs h x y) : turn (acts a) (acts b) = (acts x, acts y) := by
  have e := I.left.1 rfl
  have h1 := I.eq
  subst e
  rw [I.rp.nil rfl, I.rq.nil rfl] at h1
  rw [h1]
  show (acts x ++ [], acts y ++ []) = _
  rw [List.append_nil, List.append_nil]
theorem piece_items {p : Pt} (k : p.kind = 2) {g n : Nat} (h : g + n ≤ lg p) : (piece p g n).items.length = n := by
  unfold lg at h
  rw [if_pos k] at h
  rw [piece_put k]
  simp
  omega
theorem TurnI.putA {a b : List Pt} {p : Pt} {t : List Pt} {g : Nat} {qs : List Pt} {h : Nat} {x y : List Pt} (I : TurnI a b (p :: t) g qs h x y) (k : p.kind = 2) :
    TurnI a b t 0 qs h (x ++ [piece p g (lg p - g)]) (y ++ [keepP nop ((lg p - g : Nat) : Int)]) := by
  have hg := I.rp.lt p t rfl
  have hpe := I.rp.ok p (List.mem_cons_self ..)
  have hb := lg_bd hpe
  have hle : g + (lg p - g) ≤ lg p := by omega
  have hE : g + (lg p - g) = lg p := by omega
  have hs := ra_split p t g (lg p - g) hle
  have hk2 : (piece p g (lg p - g)).kind = 2 := (piece_kind ..).trans k
  rw [nxtP_end hE, nxtG_end hE, acts1_p hk2] at hs
  have hI := I.eq
  have hn := I.need
  have hil := piece_items k hle
  rw [hs, turn_puts, hil] at hI
  rw [hs, need_app, (need_puts _).1, Nat.zero_add] at hn
  have hr := I.rp.nxt hle
  rw [nxtP_end hE, nxtG_end hE] at hr
  have l1 := I.lx
  have l2 := I.ly
  rw [List.length_cons] at l1 l2
  refine ⟨hr, I.rq, ?_, hn, ok_snoc I.okx (piece_err hpe (by omega) hle), ok_snoc I.oky (nop_err (by omega) (by omega)), by simp; omega, by simp; omega⟩
  rw [hI, acts_app, acts_app, acts_one, acts_one, acts1_p hk2, acts1_keep, Int.toNat_natCast, List.append_assoc, List.append_assoc]
theorem ra_head {p : Pt} {t : List Pt} {g : Nat} (h : Rv (p :: t) g) (k : ¬ p.kind = 2) : (∃ c a', ra (p :: t) g = A.keep c :: a') ∨ ∃ a', ra (p :: t) g = A.cut :: a' := by
  have hg := h.lt p t rfl
  have hs := ra_split p t g 1 (by omega)
  rw [hs]
  have hn : (piece p g 1).n = ((1 : Nat) : Int) := piece_n k g 1
  rcases kind_of (h.ok p (List.mem_cons_self ..)) with k1 | k1 | k1
  · rw [acts1_k ((piece_kind ..).trans k1) hn]
    exact .inl ⟨_, _, rfl⟩
  · exact absurd k1 k
  · rw [acts1_c ((piece_kind ..).trans k1) hn]
    exact .inr ⟨_, rfl⟩
theorem TurnI.putB {a b : List Pt} {p : Pt} {t : List Pt} {g : Nat} {q : Pt} {u : List Pt} {h : Nat} {x y : List Pt} (I : TurnI a b (p :: t) g (q :: u) h x y) (k : ¬ p.kind = 2) (kq : q.kind = 2) :
    TurnI a b (p :: t) g u 0 (x ++ [keepP nop ((lg q - h : Nat) : Int)]) (y ++ [piece q h (lg q - h)]) := by
  have hg := I.rq.lt q u rfl
  have hqe := I.rq.ok q (List.mem_cons_self ..)
  have hb := lg_bd hqe
  have hle : h + (lg q - h) ≤ lg q := by omega
  have hE : h + (lg q - h) = lg q := by omega
  have hs := ra_split q u h (lg q - h) hle
  have hk2 : (piece q h (lg q - h)).kind = 2 := (piece_kind ..).trans kq
  rw [nxtP_end hE, nxtG_end hE, acts1_p hk2] at hs
  have hI := I.eq
  have hn := I.need
  have hil := piece_items kq hle
  rw [hs, turn_puts_r _ _ (ra_head I.rp k), hil] at hI
  rw [hs, need_app, (need_puts _).1, Nat.zero_add] at hn
  have hr := I.rq.nxt hle
  rw [nxtP_end hE, nxtG_end hE] at hr
  have l1 := I.lx
  have l2 := I.ly
  simp only [List.length_cons] at l1 l2
  refine ⟨I.rp, hr, ?_, hn, ok_snoc I.okx (nop_err (by omega) (by omega)), ok_snoc I.oky (piece_err hqe (by omega) hle), by simp; omega, by simp; omega⟩
  rw [hI, acts_app, acts_app, acts_one, acts_one, acts1_p hk2, acts1_keep, Int.toNat_natCast, List.append_assoc, List.append_assoc]
theorem nxt_less {p q : Pt} {t u : List Pt} {g h n : Nat} (e : g + n = lg p ∨ h + n = lg q) : (nxtP p t g n).length + (nxtP q u h n).length ≤ t.length + u.length + 1 := by
  have h1 := nxtP_len p t g n
  have h2 := nxtP_len q u h n
  rcases e with e | e
  · rw [nxtP_end e] at h1 ⊢; omega
  · rw [nxtP_end e] at h2 ⊢; omega
theorem TurnI.both {a b : List Pt} {p : Pt} {t : List Pt} {g : Nat} {q : Pt} {u : List Pt} {h : Nat} {x y : List Pt} (I : TurnI a b (p :: t) g (q :: u) h x y) (k : ¬ p.kind = 2) (kq : ¬ q.kind = 2) {n : Nat} (hn : n = min (lg p - g) (lg q - h)) :
    TurnI a b (nxtP p t g n) (nxtG p g n) (nxtP q u h n) (nxtG q h n) (x ++ behX (piece p g n) (piece q h n)) (y ++ behY (piece p g n) (piece q h n)) := by
  have hg := I.rp.lt p t rfl
  have hh := I.rq.lt q u rfl
  have hpe := I.rp.ok p (List.mem_cons_self ..)
  have hqe := I.rq.ok q (List.mem_cons_self ..)
  have hl1 : g + n ≤ lg p := by omega
  have hl2 : h + n ≤ lg q := by omega
  have hE : g + n = lg p ∨ h + n = lg q := by omega
  have h1n : 1 ≤ n := by omega
  have e1 := piece_err hpe h1n hl1
  have e2 := piece_err hqe h1n hl2
  have hs1 := ra_split p t g n hl1
  have hs2 := ra_split q u h n hl2
  have n1 : (piece p g n).n = n := piece_n k g n
  have n2 : (piece q h n).n = n := piece_n kq h n
  have hI := I.eq
  have hN := I.need
  rw [hs1, hs2] at hI
  rw [hs1, hs2, need_app, need_app] at hN
  have l1 := I.lx
  have l2 := I.ly
  simp only [List.length_cons] at l1 l2
  have hless := nxt_less (t := t) (u := u) hE
  have r1 := I.rp.nxt hl1
  have r2 := I.rq.nxt hl2
  have hpk : (piece p g n).kind = p.kind := piece_kind ..
  have hqk : (piece q h n).kind = q.kind := piece_kind ..
  generalize piece p g n = P at *
  generalize piece q h n = Q at *
  have ka := kind_of e1
  have kb := kind_of e2
  rw [hpk] at ka
  rw [hqk] at kb
  rcases ka with ka | ka | ka
  · rcases kb with kb | kb | kb
    · have kP := hpk.trans ka
      have kQ := hqk.trans kb
      have bx : behX P Q = [P] := if_pos kQ
      have byy : behY P Q = [yieldP Q P] := (if_pos kP).trans (if_pos kQ)
      rw [acts1_k kP n1, acts1_k kQ n2, turn_kks] at hI
      rw [acts1_k kP n1, acts1_k kQ n2, (need_keeps _ _).1, (need_keeps _ _).1] at hN
      rw [bx, byy]
      refine ⟨r1, r2, ?_, by omega, ok_snoc I.okx e1, ok_snoc I.oky (yield_err e2 kQ e1 kP), by simp; omega, by simp; omega⟩
      rw [hI, acts_app, acts_app, acts_one, acts_one, acts1_k kP n1, acts1_k (p := yieldP Q P) kQ (n := n) n2, yield_ch, List.append_assoc, List.append_assoc]
    · exact absurd kb kq
    · have kP := hpk.trans ka
      have kQ := hqk.trans kb
      have bx : behX P Q = [] := if_neg (by omega)
      have byy : behY P Q = [Q] := (if_pos kP).trans (if_neg (by omega))
      rw [acts1_k kP n1, acts1_c kQ n2, turn_kcs] at hI
      rw [acts1_k kP n1, acts1_c kQ n2, (need_keeps _ _).1, (need_cuts _).1] at hN
      rw [bx, byy, List.append_nil]
      refine ⟨r1, r2, ?_, by omega, I.okx, ok_snoc I.oky e2, by omega, by simp; omega⟩
      rw [hI, acts_app, acts_one, acts1_c kQ n2, List.append_assoc]
  · exact absurd ka k
  · rcases kb with kb | kb | kb
    · have kP := hpk.trans ka
      have kQ := hqk.trans kb
      have bx : behX P Q = [P] := if_pos kQ
      have byy : behY P Q = [] := if_neg (by omega)
      rw [acts1_c kP n1, acts1_k kQ n2, turn_cks] at hI
      rw [acts1_c kP n1, acts1_k kQ n2, (need_cuts _).1, (need_keeps _ _).1] at hN
      rw [bx, byy, List.append_nil]
      refine ⟨r1, r2, ?_, by omega, ok_snoc I.okx e1, I.oky, by simp; omega, by omega⟩
      rw [hI, acts_app, acts_one, acts1_c kP n1, List.append_assoc]
    · exact absurd kb kq
    · have kP := hpk.trans ka
      have kQ := hqk.trans kb
      have bx : behX P Q = [] := if_neg (by omega)
      have byy : behY P Q = [] := if_neg (by omega)
      rw [acts1_c kP n1, acts1_c kQ n2, turn_ccs] at hI
      rw [acts1_c kP n1, acts1_c kQ n2, (need_cuts _).1] at hN
      rw [bx, byy, List.append_nil, List.append_nil]
      exact ⟨r1, r2, hI, by omega, I.okx, I.oky, by omega, by omega⟩
/-- Two that are joined. -/
structure JoinI (a b ps : List Pt) (g : Nat) (qs : List Pt) (h : Nat) (x : List Pt) : Prop where
  rp : Rv ps g
  rq : Rv qs h
  eq : join (acts a) (acts b) = acts x ++ join (ra ps g) (ra qs h)
  need : leave (ra ps g) = Ac.need (ra qs h)
  okx : ∀ p ∈ x, err1 p = 0
  lx : x.length + ps.length + qs.length ≤ a.length + b.length
theorem JoinI.start {a b : List Pt} (ha : Right a) (hb : Right b) (hn : lv a = nd b) : JoinI a b a 0 b 0 [] := by
  refine ⟨ha.rv, hb.rv, ?_, ?_, fun p hp => absurd hp (by simp), by simp⟩
  · unfold ra
    rw [List.drop_zero, List.drop_zero, acts_nil, List.nil_append]
  · unfold ra
    rw [List.drop_zero, List.drop_zero, (need_acts (kinds_of ha.ok)).2, (need_acts (kinds_of hb.ok)).1, hn]
theorem JoinI.left {a b ps : List Pt} {g : Nat} {qs : List Pt} {h : Nat} {x : List Pt} (I : JoinI a b ps g qs h x) : ps = [] ↔ qs = [] := by
  constructor
  · intro e
    cases hq : qs with
    | nil => rfl
    | cons q u =>
      have h1 := (I.rq.some (by rw [hq]; simp)).1
      have h2 := I.need
      rw [e, I.rp.nil e] at h2
      rw [← h2] at h1
      exact absurd h1 (by decide)
  · intro e
    cases hq : ps with
    | nil => rfl
    | cons q u =>
      have h1 := (I.rp.some (by rw [hq]; simp)).2
      have h2 := I.need
      rw [e, I.rq.nil e] at h2
      rw [h2] at h1
      exact absurd h1 (by decide)
theorem JoinI.done {a b : List Pt} {g : Nat} {qs : List Pt} {h : Nat} {x : List Pt} (I : JoinI a b [] g qs h x) : join (acts a) (acts b) = acts x := by
  have e := I.left.1 rfl
  have h1 := I.eq
  subst e
  rw [I.rp.nil rfl, I.rq.nil rfl] at h1
  rw [h1]
  show acts x ++ [] = _
  rw [List.append_nil]
theorem JoinI.cutA {a b : List Pt} {p : Pt} {t : List Pt} {g : Nat} {qs : List Pt} {h : Nat} {x : List Pt} (I : JoinI a b (p :: t) g qs h x) (k : p.kind = 3) :
    JoinI a b t 0 qs h (x ++ [piece p g (lg p - g)]) := by
  have hg := I.rp.lt p t rfl
  have hpe := I.rp.ok p (List.mem_cons_self ..)
  have hle : g + (lg p - g) ≤ lg p := by omega
  have hE : g + (lg p - g) = lg p := by omega
  have hs := ra_split p t g (lg p - g) hle
  have hk3 : (piece p g (lg p - g)).kind = 3 := (piece_kind ..).trans k
  have hn3 : (piece p g (lg p - g)).n = ((lg p - g : Nat) : Int) := piece_n (by omega) g _
  rw [nxtP_end hE, nxtG_end hE, acts1_c hk3 hn3] at hs
  have hI := I.eq
  have hn := I.need
  rw [hs, join_cuts] at hI
  rw [hs, leave_app, (need_cuts _).2, Nat.zero_add] at hn
  have hr := I.rp.nxt hle
  rw [nxtP_end hE, nxtG_end hE] at hr
  have l1 := I.lx
  rw [List.length_cons] at l1
  refine ⟨hr, I.rq, ?_, hn, ok_snoc I.okx (piece_err hpe (by omega) hle), by simp; omega⟩
  rw [hI, acts_app, acts_one, acts1_c hk3 hn3, List.append_assoc]
theorem ra_nocut {p : Pt} {t : List Pt} {g : Nat} (h : Rv (p :: t) g) (k : ¬ p.kind = 3) : ∀ a', ra (p :: t) g ≠ .cut :: a' := by
  have hg := h.lt p t rfl
  have hs := ra_split p t g 1 (by omega)
  rw [hs]
  rcases kind_of (h.ok p (List.mem_cons_self ..)) with k1 | k1 | k1
  · rw [acts1_k ((piece_kind ..).trans k1) (piece_n (by omega) g 1)]
    intro a' e
    cases e
  · have hil := piece_items k1 (g := g) (n := 1) (by omega)
    rw [acts1_p ((piece_kind ..).trans k1)]
    obtain ⟨z, hz⟩ := List.length_eq_one_iff.1 hil
    rw [hz]
    intro a' e
    cases e
  · exact absurd k1 k
theorem JoinI.putB {a b : List Pt} {p : Pt} {t : List Pt} {g : Nat} {q : Pt} {u : List Pt} {h : Nat} {x : List Pt} (I : JoinI a b (p :: t) g (q :: u) h x) (k : ¬ p.kind = 3) (kq : q.kind = 2) :
    JoinI a b (p :: t) g u 0 (x ++ [piece q h (lg q - h)]) := by
  have hg := I.rq.lt q u rfl
  have hqe := I.rq.ok q (List.mem_cons_self ..)
  have hle : h + (lg q - h) ≤ lg q := by omega
  have hE : h + (lg q - h) = lg q := by omega
  have hs := ra_split q u h (lg q - h) hle
  have hk2 : (piece q h (lg q - h)).kind = 2 := (piece_kind ..).trans kq
  rw [nxtP_end hE, nxtG_end hE, acts1_p hk2] at hs
  have hI := I.eq
  have hn := I.need
  rw [hs, join_puts_r _ _ (ra_nocut I.rp k)] at hI
  rw [hs, need_app, (need_puts _).1, Nat.zero_add] at hn
  have hr := I.rq.nxt hle
  rw [nxtP_end hE, nxtG_end hE] at hr
  have l1 := I.lx
  simp only [List.length_cons] at l1
  refine ⟨I.rp, hr, ?_, hn, ok_snoc I.okx (piece_err hqe (by omega) hle), by simp; omega⟩
  rw [hI, acts_app, acts_one, acts1_p hk2, List.append_assoc]
/-- What does the same as two parts, the other one for what the first one leaves. -/
def oneX (p q : Pt) : List Pt := if q.kind = 1 then (if p.kind = 1 then [oneP p q] else [putP (p.items.map fun x => change x (chOf q))]) else if p.kind = 1 then [q] else []
theorem JoinI.both {a b : List Pt} {p : Pt} {t : List Pt} {g : Nat} {q : Pt} {u : List Pt} {h : Nat} {x : List Pt} (I : JoinI a b (p :: t) g (q :: u) h x) (k : ¬ p.kind = 3) (kq : ¬ q.kind = 2) {n : Nat} (hn : n = min (lg p - g) (lg q - h)) :
    JoinI a b (nxtP p t g n) (nxtG p g n) (nxtP q u h n) (nxtG q h n) (x ++ oneX (piece p g n) (piece q h n)) := by
  have hg := I.rp.lt p t rfl
  have hh := I.rq.lt q u rfl
  have hpe := I.rp.ok p (List.mem_cons_self ..)
  have hqe := I.rq.ok q (List.mem_cons_self ..)
  have hl1 : g + n ≤ lg p := by omega
  have hl2 : h + n ≤ lg q := by omega
  have hE : g + n = lg p ∨ h + n = lg q := by omega
  have h1n : 1 ≤ n := by omega
  have e1 := piece_err hpe h1n hl1
  have e2 := piece_err hqe h1n hl2
  have hs1 := ra_split p t g n hl1
  have hs2 := ra_split q u h n hl2
  have n1 : ¬ p.kind = 2 → (piece p g n).n = n := fun k => piece_n k g n
  have n2 : (piece q h n).n = n := piece_n kq h n
  have m1 : p.kind = 2 → (piece p g n).items.length = n := fun k => piece_items k hl1
  have hI := I.eq
  have hN := I.need
  rw [hs1, hs2] at hI
  rw [hs1, hs2, need_app, leave_app] at hN
  have l1 := I.lx
  simp only [List.length_cons] at l1
  have hless := nxt_less (t := t) (u := u) hE
  have r1 := I.rp.nxt hl1
  have r2 := I.rq.nxt hl2
  have hpk : (piece p g n).kind = p.kind := piece_kind ..
  have hqk : (piece q h n).kind = q.kind := piece_kind ..
  generalize piece p g n = P at *
  generalize piece q h n = Q at *
  have ka := kind_of e1
  have kb := kind_of e2
  rw [hpk] at ka
  rw [hqk] at kb
  rcases ka with ka | ka | ka
  · have kP := hpk.trans ka
    have n1 := n1 (by omega)
    rcases kb with kb | kb | kb
    · have kQ := hqk.trans kb
      have bx : oneX P Q = [oneP P Q] := (if_pos kQ).trans (if_pos kP)
      rw [acts1_k kP n1, acts1_k kQ n2, join_kks] at hI
      rw [acts1_k kP n1, acts1_k kQ n2, (need_keeps _ _).2, (need_keeps _ _).1] at hN
      rw [bx]
      refine ⟨r1, r2, ?_, by omega, ok_snoc I.okx (one_err e1 kP e2 kQ), by simp; omega⟩
      rw [hI, acts_app, acts_one, acts1_k (p := oneP P Q) kP (n := n) n1, one_ch, List.append_assoc]
    · exact absurd kb kq
    · have kQ := hqk.trans kb
      have bx : oneX P Q = [Q] := (if_neg (by omega)).trans (if_pos kP)
      rw [acts1_k kP n1, acts1_c kQ n2, join_kcs] at hI
      rw [acts1_k kP n1, acts1_c kQ n2, (need_keeps _ _).2, (need_cuts _).1] at hN
      rw [bx]
      refine ⟨r1, r2, ?_, by omega, ok_snoc I.okx e2, by simp; omega⟩
      rw [hI, acts_app, acts_one, acts1_c kQ n2, List.append_assoc]
  · have kP := hpk.trans ka
    have m1 := m1 ka
    rcases kb with kb | kb | kb
    · have kQ := hqk.trans kb
      have bx : oneX P Q = [putP (P.items.map fun x => change x (chOf Q))] := (if_pos kQ).trans (if_neg (by omega))
      have hj := join_pks (chOf Q) (ra (nxtP p t g n) (nxtG p g n)) (ra (nxtP q u h n) (nxtG q h n)) P.items
      rw [m1] at hj
      rw [acts1_p kP, acts1_k kQ n2, hj] at hI
      rw [acts1_p kP, acts1_k kQ n2, (need_puts _).2, (need_keeps _ _).1, m1] at hN
      rw [bx]
      refine ⟨r1, r2, ?_, by omega, ok_snoc I.okx (changed_err e1 kP e2 kQ), by simp; omega⟩
      rw [hI, acts_app, acts_one, acts1_put, List.append_assoc]
    · exact absurd kb kq
    · have kQ := hqk.trans kb
      have bx : oneX P Q = [] := (if_neg (by omega)).trans (if_neg (by omega))
      have hj := join_pcs (ra (nxtP p t g n) (nxtG p g n)) (ra (nxtP q u h n) (nxtG q h n)) P.items
      rw [m1] at hj
      rw [acts1_p kP, acts1_c kQ n2, hj] at hI
      rw [acts1_p kP, acts1_c kQ n2, (need_puts _).2, (need_cuts _).1, m1] at hN
      rw [bx, List.append_nil]
      exact ⟨r1, r2, hI, by omega, I.okx, by omega⟩
  · exact absurd ka k
end Ac
end Go.Proofs.YtaigleblmbblcaaDoor

/-
  Package ot, its small functions: how long a part is, which one is at hand, how much of it is left.
-/
namespace Go.Proofs.YtaigleblmbblcaaDoor
open Go.RowKit

def lgV (v : PV) : Int := if v.kind = 2 then (v.m : Int) else v.n
set_option maxRecDepth 100000 in
set_option maxHeartbeats 1600000 in
theorem longp_any (v : PV) (w : World) : Calls Tryd.prog 70 #[.agg #[.int .i64 v.kind, .int .i64 v.n, .slice v.ao v.m v.cap, .int .i64 v.set, .int .i64 v.clr, .bool v.goes, .string v.link]] w fun e w' => e = .returned (.int .i64 (lgV v)) ∧ Below w.heap.size w w' := by
  have H1 : Hid (Below w.heap.size w (boxp v w)) := boxp_below v w
  obtain ⟨r, hr⟩ : ∃ r, lgV v = r := ⟨_, rfl⟩
  rw [hr]
  unfold lgV at hr
  by_cases h2 : v.kind = 2
  · rw [if_pos h2] at hr
    subst hr
    have hk : (v.kind == 2) = true := by simp [h2]
    clear h2
    go_enter Tryd.func70, Tryd.ntmps70
    go_wp2
    go_ret
    exact ⟨rfl, H1.out⟩
  · rw [if_neg h2] at hr
    subst hr
    have hk : (v.kind == 2) = false := by simp [h2]
    clear h2
    go_enter Tryd.func70, Tryd.ntmps70
    go_wp2
    go_ret
    exact ⟨rfl, H1.out⟩
/-- Whether the part at hand is of that kind. -/
def atK (vs : List PV) (k : Int) : Bool := match vs with
  | [] => false
  | v :: _ => v.kind == k
theorem Ops.head {w : World} {ao : Option Addr} {n cap : Nat} {v : PV} {t : List PV} (h : Ops w ao n cap (v :: t)) : ∃ b off, ao = some ⟨b, off, none⟩ ∧ Seven w b off v ∧ 0 < n ∧ n = t.length + 1 := by
  have hl := h.len
  rw [List.length_cons] at hl
  obtain ⟨b, off, e, hG⟩ := h.get (by omega)
  have := hG 0 (by simp)
  rw [Nat.zero_mul, Nat.add_zero] at this
  exact ⟨b, off, e, this, by omega, hl.symm⟩
set_option maxRecDepth 100000 in
set_option maxHeartbeats 1600000 in
theorem isAt_any (b off : Nat) (ao : Option Addr) (n cap : Nat) (vs : List PV) (k : Int) (w : World) (h0 : w.cell? ⟨b, off, none⟩ = some (.slice ao n cap)) (hO : Ops w ao n cap vs) :
    Calls Tryd.prog 59 #[.pointer (some ⟨b, off, none⟩), .int .i64 k] w fun e w' => e = .returned (.bool (atK vs k)) ∧ w' = w := by
  cases vs with
  | nil =>
    have hn : n = 0 := hO.len.symm
    subst hn
    clear hO
    go_enter Tryd.func59, Tryd.ntmps59
    go_wp2
    go_ret
    exact ⟨rfl, rfl⟩
  | cons v t =>
    obtain ⟨pb, po, rfl, hsv, hn, -⟩ := hO.head
    have c0 := hsv.c0
    have hn' : (0 : Int) < (n : Int) := by omega
    have hd : decide (0 < n) = true := by simp [hn]
    have hbig := hO.row.big
    have hroom := hO.row.room
    clear hO hsv
    unfold atK
    simp only
    generalize v.kind = q at *
    go_enter Tryd.func59, Tryd.ntmps59
    go_wp2
    go_ret
    exact ⟨rfl, rfl⟩

set_option maxRecDepth 100000 in
set_option maxHeartbeats 1600000 in
theorem left_any (b off : Nat) (ao : Option Addr) (n cap : Nat) (v : PV) (t : List PV) (g : Nat) (w : World) (h0 : w.cell? ⟨b, off, none⟩ = some (.slice ao n cap)) (h1 : w.cell? ⟨b, off + 1, none⟩ = some (.int .i64 g)) (hO : Ops w ao n cap (v :: t)) (hg : (g : Int) ≤ lgV v) (hl : lgV v ≤ 1000) :
    Calls Tryd.prog 61 #[.pointer (some ⟨b, off, none⟩)] w fun e w' => e = .returned (.int .i64 (lgV v - g)) ∧ Below w.heap.size w w' := by
  obtain ⟨pb, po, rfl, hsv, hn, -⟩ := hO.head
  obtain ⟨c0, c1, c2, c3, c4, c5, c6⟩ := hsv
  have hn' : (0 : Int) < (n : Int) := by omega
  have hbig := hO.row.big
  have hroom := hO.row.room
  have CL : Hid (∀ w', Calls Tryd.prog 70 #[.agg #[.int .i64 v.kind, .int .i64 v.n, .slice v.ao v.m v.cap, .int .i64 v.set, .int .i64 v.clr, .bool v.goes, .string v.link]] w' fun e w'' => e = .returned (.int .i64 (lgV v)) ∧ Below w'.heap.size w' w'') := fun w' => longp_any v w'
  have HB : Hid (∀ w', Below w.heap.size w.drew w' → w'.cell? ⟨b, off + 1, none⟩ = some (.int .i64 g)) := fun w' hb => (hb.cell (p := ⟨b, off + 1, none⟩) (cell_lt h1)).trans h1
  have HF : Hid (∀ w', Below w.heap.size w.drew w' → Below w.heap.size w w') := fun w' hb => (Below.refl _ _).drew.trans hb
  clear hO
  have hwr : wrap64 (lgV v - g) = lgV v - g := by unfold wrap64; omega
  have hwi : IntKind.i64.wrap (lgV v - g) = lgV v - g := IntWalk.i64_in _ ⟨by omega, by omega⟩
  generalize lgV v = L at *
  go_enter Tryd.func61, Tryd.ntmps61
  go_upto_region 1 with fail
  go_region_with ((go_at_call 70; refine (CL.out _).mono ?_; rintro e w1 ⟨rfl, hb⟩; have hq := HB.out _ hb; have HFF := HF.out _ hb; clear hb))
  all_goals
    go_wp2
    go_ret
    exact ⟨rfl, by assumption⟩
end Go.Proofs.YtaigleblmbblcaaDoor

/-
  Package ot: the next items of the next part, taken.
-/
namespace Go.Proofs.YtaigleblmbblcaaDoor
open Go.RowKit

/-- What is left of an operation, in memory. -/
structure RV where
  ao : Option Addr
  n : Nat
  cap : Nat
  vs : List PV
  g : Nat
/-- A pair of them, in a block of its own. -/
def prC (r s : RV) : List Value := [.slice r.ao r.n r.cap, .int .i64 r.g, .slice s.ao s.n s.cap, .int .i64 s.g]
def RV.ok (w : World) (r : RV) : Prop := Ops w r.ao r.n r.cap r.vs
def pieceV (v : PV) (g q : Nat) : PV := if v.kind = 2 then { v with ao := v.ao.map (fun a => a.add (g * 3)), m := q, cap := v.cap - g, items := (v.items.drop g).take q } else { v with n := q }
theorem pieceV_pt (v : PV) (g q : Nat) : (pieceV v g q).pt = Ac.piece v.pt g q := by
  unfold pieceV Ac.piece PV.pt
  split
  · rfl
  · rfl
def tailA (ao : Option Addr) (cap : Nat) : Option Addr := if cap = 1 then ao else ao.map (fun a => a.add 7)
def RV.next (r : RV) (v : PV) (t : List PV) (q : Nat) : RV := if ((r.g + q : Nat) : Int) = lgV v then ⟨tailA r.ao r.cap, r.n - 1, r.cap - 1, t, 0⟩ else ⟨r.ao, r.n, r.cap, v :: t, r.g + q⟩
theorem add_off (b off k : Nat) : (⟨b, off, none⟩ : Addr).add k = ⟨b, off + k, none⟩ := by unfold Addr.add; split <;> simp_all
theorem Pvt.piece {w : World} {v : PV} (h : Pvt w v) {g q : Nat} (h1 : 1 ≤ q) (hl : v.kind = 2 → g + q ≤ v.m) : Pvt w (pieceV v g q) := by
  unfold pieceV
  by_cases k : v.kind = 2
  · rw [if_pos k]
    have hl := hl k
    obtain ⟨ib, io, e, hA⟩ := h.doc.lies (by omega)
    have hr := h.doc.room
    have hb := h.doc.big
    have hlen := h.doc.len
    refine ⟨⟨fun x hx => h.doc.fit x (List.mem_of_mem_drop (List.mem_of_mem_take hx)), by simp; omega, by simp only; omega, by simp only; omega, fun _ => ⟨ib, io + g * 3, ?_, hA.part g q⟩⟩, h.fit⟩
    simp only
    rw [e, Option.map_some, add_off]
  · rw [if_neg k]
    exact ⟨h.doc, h.fit⟩
theorem Ops.tail {w : World} {ao : Option Addr} {n cap : Nat} {v : PV} {t : List PV} (h : Ops w ao n cap (v :: t)) : Ops w (tailA ao cap) (n - 1) (cap - 1) t := by
  have hl := h.len
  rw [List.length_cons] at hl
  have hr := h.row.room
  have hb := h.row.big
  refine ⟨⟨by rw [pvCells_len]; congr 1; omega, by omega, by omega, fun hn => ?_⟩, fun u hu => h.pts u (List.mem_cons_of_mem _ hu)⟩
  obtain ⟨b, off, e, hc⟩ := h.row.lies (by omega)
  refine ⟨b, off + 7, ?_, fun j u hj => ?_⟩
  · unfold tailA
    rw [if_neg (by omega), e, Option.map_some, add_off]
  · have := hc (7 + j) u (by rw [pvCells_cons, show 7 + j = j + 1 + 1 + 1 + 1 + 1 + 1 + 1 by omega]; exact hj)
    rw [← Nat.add_assoc] at this
    exact this
theorem RV.next_ok {w : World} {r : RV} {v : PV} {t : List PV} (h : Ops w r.ao r.n r.cap (v :: t)) (q : Nat) : RV.ok w (r.next v t q) := by
  unfold RV.next RV.ok
  split
  · exact h.tail
  · exact h
theorem wrap_add {g q gq : Nat} (h : g + q = gq) (hb : gq ≤ 1000) : wrap64 ((g : Int) + (q : Int)) = (gq : Int) ∧ IntKind.i64.wrap ((g : Int) + (q : Int)) = (gq : Int) := by
  rw [show (g : Int) + (q : Int) = (gq : Int) by omega]
  exact ⟨by unfold wrap64; omega, IntWalk.i64_in _ ⟨by omega, by omega⟩⟩
theorem elemLP : Tryd.prog.elem 24 = 55 := by kernel_rfl
theorem under_lp : Tryd.prog.underlying 24 = some (.slice (Tryd.prog.elem 24)) := by kernel_rfl
theorem elemLI : Tryd.prog.elem 22 = 62 := by kernel_rfl
theorem under_li : Tryd.prog.underlying 22 = some (.slice (Tryd.prog.elem 22)) := by kernel_rfl
theorem slice_tail (b off n cap : Nat) (hn : 0 < n) (w : World) : (Instr.slice 24 (.slice (some ⟨b, off, none⟩) n cap) (some (.int .i64 1)) none none).run Tryd.prog w = .ok (.slice (tailA (some ⟨b, off, none⟩) cap) (n - 1) (cap - 1)) w := by
  rw [run_slice_l (P := Tryd.prog) (w := w) 24 _ n cap under_lp .i64 (1 : Int) (by omega) (by omega), elemLP, Tryd.sizeOf55 w]
  rfl
theorem slice_li (b off n cap i k : Nat) (hi : i < k) (hk : k ≤ n) (hc : n ≤ cap) (w : World) : (Instr.slice 22 (.slice (some ⟨b, off, none⟩) n cap) (some (.int .i64 i)) (some (.int .i64 k)) none).run Tryd.prog w = .ok (.slice (some ⟨b, off + i * 3, none⟩) (k - i) (cap - i)) w := by
  rw [run_slice_lh (P := Tryd.prog) (w := w) 22 _ n cap under_li .i64 .i64 (i : Int) (k : Int) (by omega) (by omega) (by omega), elemLI, Tryd.sizeOf62 w]
  simp only [Result.andThen, Int.toNat_natCast]
  congr 1
  unfold sliced
  rw [if_neg (by omega)]
  simp only [Option.map_some, add_off]
/-- A part that is taken: its result's block, its own, the pair's. -/
structure Tk3 (w0 w : World) (b : Nat) (cs : List Value) (u : PV) : Prop where
  rb : Blk w w0.heap.size (pvC pv0) 55
  pb : Blk w (w0.heap.size + 1) (pvC u) 55
  cb : Blk w b cs 75
  kept : Kept w0 w [b]
theorem Tk3.start {w : World} {b : Nat} {cs : List Value} (h : Blk w b cs 75) (v : PV) : Tk3 w (boxp v (boxp pv0 w)) b cs v :=
  ⟨(boxp_blk pv0 w).alloc _, by have := boxp_blk v (boxp pv0 w); rw [boxp_size] at this; exact this, (h.alloc _).alloc _, ((Kept.refl w [b]).alloc _).alloc _⟩
theorem Tk3.own {w0 w : World} {b : Nat} {cs : List Value} {u : PV} (h : Tk3 w0 w b cs u) (hb : b < w0.heap.size) (j : Nat) (x : Value) {u' : PV} (e : (pvC u).set j x = pvC u') : Tk3 w0 (w.setCell ⟨w0.heap.size + 1, j, none⟩ x) b cs u' :=
  ⟨h.rb.other _ _ (by simp), by have := h.pb.set j x; rw [e] at this; exact this, h.cb.other _ _ (by simp; omega), h.kept.setCell _ _ (.inr (by simp))⟩
theorem Tk3.pair {w0 w : World} {b : Nat} {cs : List Value} {u : PV} (h : Tk3 w0 w b cs u) (hb : b < w0.heap.size) (j : Nat) (x : Value) : Tk3 w0 (w.setCell ⟨b, j, none⟩ x) b (cs.set j x) u :=
  ⟨h.rb.other _ _ (by simp; omega), h.pb.other _ _ (by simp; omega), h.cb.set j x, h.kept.setCell _ _ (.inl (by simp))⟩
theorem Tk3.drew {w0 w : World} {b : Nat} {cs : List Value} {u : PV} (h : Tk3 w0 w b cs u) : Tk3 w0 w.drew b cs u := ⟨h.rb, h.pb, h.cb, h.kept.drew⟩
theorem Tk3.under {w0 w w' : World} {b : Nat} {cs : List Value} {u : PV} (h : Tk3 w0 w b cs u) (hb : Below w.heap.size w w') : Tk3 w0 w' b cs u :=
  ⟨(hb.block _ h.rb.lt).trans h.rb, (hb.block _ h.pb.lt).trans h.pb, (hb.block _ h.cb.lt).trans h.cb, h.kept.trans ((kept_of_below hb).mono (fun x hx => by cases hx))⟩
theorem putP_kept (w : World) (g : Nat) (k : PV) (S : List Nat) (h : g ∈ S) : Kept w (putP w g k) S := by
  unfold putP
  exact (((((((Kept.refl w S).setCell _ _ (.inl h)).setCell _ _ (.inl h)).setCell _ _ (.inl h)).setCell _ _ (.inl h)).setCell _ _ (.inl h)).setCell _ _ (.inl h)).setCell _ _ (.inl h)
theorem Tk3.done {w0 w : World} {b : Nat} {cs : List Value} {u : PV} (h : Tk3 w0 w b cs u) (hb : b < w0.heap.size) (k : PV) : Blk (putP w w0.heap.size k) w0.heap.size (pvC k) 55 ∧ Blk (putP w w0.heap.size k) b cs 75 ∧ Kept w0 (putP w w0.heap.size k) [b] := by
  refine ⟨putP_blk h.rb, ?_, h.kept.trans_new (putP_kept w _ k [w0.heap.size] (by simp)) (fun x hx => by rw [List.mem_singleton.1 hx]; exact .inr (Nat.le_refl _))⟩
  exact (putP_kept w w0.heap.size k [w0.heap.size] (by simp)).blk h.cb (by simp; omega)
end Go.Proofs.YtaigleblmbblcaaDoor

/-
  Package ot: the next items of the next part, taken: of the first one of a pair.
-/
namespace Go.Proofs.YtaigleblmbblcaaDoor
open Go.RowKit

set_option maxRecDepth 100000 in
set_option maxHeartbeats 3200000 in
theorem take0pe (b : Nat) (r s : RV) (v : PV) (t : List PV) (q : Nat) (w : World) (hB : Blk w b (prC r s) 75) (hO : Ops w r.ao r.n r.cap (v :: t)) (hfb : ∀ a, r.ao = some a → a.block ≠ b) (hq : 1 ≤ q) (hl : ((r.g + q : Nat) : Int) ≤ lgV v) (hbd : lgV v ≤ 1000)
    (hk : v.kind = 2) (hf : ((r.g + q : Nat) : Int) = lgV v) :
    Calls Tryd.prog 60 #[.pointer (some ⟨b, 0, none⟩), .int .i64 q] w fun e w' => e = .returned (.agg #[.int .i64 (pieceV v r.g q).kind, .int .i64 (pieceV v r.g q).n, .slice (pieceV v r.g q).ao (pieceV v r.g q).m (pieceV v r.g q).cap, .int .i64 (pieceV v r.g q).set, .int .i64 (pieceV v r.g q).clr, .bool (pieceV v r.g q).goes, .string (pieceV v r.g q).link]) ∧ Blk w' b (prC (r.next v t q) s) 75 ∧ Kept w w' [b] := by
  have hgb : r.g + q ≤ 1000 := by omega
  obtain ⟨pb, po, hao, hsv, hn, -⟩ := hO.head
  have hpv := hO.pts v (List.mem_cons_self ..)
  have hpb : pb ≠ b := hfb _ hao
  have hplt : pb < w.heap.size := cell_lt hsv.c0
  have hblt : b < w.heap.size := hB.lt
  have hbig := hO.row.big
  have hroom := hO.row.room
  have HT : Hid (Tk3 w (boxp v (boxp pv0 w)) b (prC r s) v) := Tk3.start hB v
  have CL : Hid (∀ w', Calls Tryd.prog 70 #[.agg #[.int .i64 v.kind, .int .i64 v.n, .slice v.ao v.m v.cap, .int .i64 v.set, .int .i64 v.clr, .bool v.goes, .string v.link]] w' fun e w'' => e = .returned (.int .i64 (lgV v)) ∧ Below w'.heap.size w' w'') := fun w' => longp_any v w'
  have HSV : Hid (∀ w' : World, Kept w w' [b] → Seven w' pb po v) := fun w' hk => hsv.same (hk.block pb hplt (by simp; exact hpb))
  have HSV0 : Hid (Seven w pb po v) := hsv
  obtain ⟨L, hL⟩ : ∃ L, lgV v = L := ⟨_, rfl⟩
  have HL : Hid (lgV v = L) := hL
  rw [hL] at CL hl hbd hf
  have hL0 := hL
  unfold lgV at hL0
  rw [if_pos hk] at hL0
  have hkb : (v.kind == 2) = true := by simp [hk]
  have hm0 : r.g + q ≤ v.m := by omega
  obtain ⟨ib, io, hvao, -⟩ := hpv.doc.lies (by omega)
  have hsl := slice_li ib io v.m v.cap r.g (r.g + q) (by omega) hm0 hpv.doc.room
  rw [Nat.add_sub_cancel_left] at hsl
  have hU : pieceV v r.g q = ⟨v.kind, v.n, some ⟨ib, io + r.g * 3, none⟩, q, v.cap - r.g, (v.items.drop r.g).take q, v.set, v.clr, v.goes, v.link⟩ := by
    unfold pieceV
    rw [if_pos hk, hvao, Option.map_some, add_off]
  have HU : Hid ((pvC v).set 2 (.slice (some ⟨ib, io + r.g * 3, none⟩) q (v.cap - r.g)) = pvC (pieceV v r.g q)) := by show _ = _; rw [hU]; rfl
  rw [hU] at HU ⊢
  have HN : Hid (r.next v t q = ⟨tailA (some ⟨pb, po, none⟩) r.cap, r.n - 1, r.cap - 1, t, 0⟩) := by
    show _ = _
    unfold RV.next
    rw [hL, if_pos hf, hao]
  obtain ⟨rao, rn, rcap, rvs, g⟩ := r
  obtain ⟨sao, sn, scap, svs, h⟩ := s
  simp only at *
  subst hao
  obtain ⟨gq, hgq⟩ : ∃ gq, g + q = gq := ⟨_, rfl⟩
  have hs0 : (0 : Int) ≤ (g : Int) := Int.natCast_nonneg _
  have hs1 : (g : Int) ≤ (gq : Int) := by omega
  have hs2 : (gq : Int) ≤ (v.cap : Int) := by have := hpv.doc.room; omega
  rw [hgq] at hgb
  obtain ⟨hw1, hw2⟩ := wrap_add hgq hgb
  rw [hgq] at hsl hf
  have hfe : ((gq : Int) == L) = true := by simp [hf]
  have HG : Hid (g + q = gq) := hgq
  have hst := slice_tail pb po rn rcap hn
  obtain ⟨kind, vn, vao, m, vcap, items, st, cl, gs, lk⟩ := v
  simp only at *
  subst hvao
  obtain ⟨e0, e1, e2, e3, e4, e5, e6⟩ := HSV0.out
  have b0 : w.cell? ⟨b, 0, none⟩ = some (.slice (some ⟨pb, po, none⟩) rn rcap) := hB.cell 0
  have b1 : w.cell? ⟨b, 0 + 1, none⟩ = some (.int .i64 g) := hB.cell 1
  have hn' : (0 : Int) < (rn : Int) := by omega
  clear hO hfb hgq hU hL hL0 hk hf hsv hB hpv hm0 HSV0
  go_enter Tryd.func60, Tryd.ntmps60
  go_upto_region 2 with fail
  change Code.wp Tryd.prog _ _ _ (boxp ⟨kind, vn, some ⟨ib, io, none⟩, m, vcap, items, st, cl, gs, lk⟩ (boxp pv0 w))
  generalize boxp ⟨kind, vn, some ⟨ib, io, none⟩, m, vcap, items, st, cl, gs, lk⟩ (boxp pv0 w) = W2 at *
  clear b0 b1 e0 e1 e2 e3 e4 e5 e6
  have p0 : W2.cell? ⟨w.heap.size + 1, 0, none⟩ = some (.int .i64 kind) := HT.out.pb.cell 0
  have p2 : W2.cell? ⟨w.heap.size + 1, 2, none⟩ = some (.slice (some ⟨ib, io, none⟩) m vcap) := HT.out.pb.cell 2
  have b1 : W2.cell? ⟨b, 0 + 1, none⟩ = some (.int .i64 g) := HT.out.cb.cell 1
  have f2 := HT.out.pb.frozen 2
  go_upto_region 3 with fail
  go_region
  change Exit.then _ _ Exit.normal _ (W2.drew.setCell ⟨w.heap.size + 1, 2, none⟩ (.slice (some ⟨ib, io + g * 3, none⟩) q (vcap - g)))
  have HT3 := HT.out.drew.own hblt 2 _ HU.out
  generalize W2.drew.setCell ⟨w.heap.size + 1, 2, none⟩ (.slice (some ⟨ib, io + g * 3, none⟩) q (vcap - g)) = W3 at *
  clear p0 p2 b1 f2 HT
  have HT3 : Hid _ := HT3
  have b1 : W3.cell? ⟨b, 0 + 1, none⟩ = some (.int .i64 g) := HT3.out.cb.cell 1
  have f1 := HT3.out.cb.frozen 1
  go_upto_region 6 with fail
  change Code.wp Tryd.prog _ _ _ (W3.setCell ⟨b, 1, none⟩ (.int .i64 gq))
  have HT4 := HT3.out.pair hblt 1 (.int .i64 gq)
  generalize W3.setCell ⟨b, 1, none⟩ (.int .i64 gq) = W4 at *
  have HT4 : Hid _ := HT4
  clear b1 f1 HT3
  have b0 : W4.cell? ⟨b, 0, none⟩ = some (.slice (some ⟨pb, po, none⟩) rn rcap) := HT4.out.cb.cell 0
  have b1 : W4.cell? ⟨b, 0 + 1, none⟩ = some (.int .i64 gq) := HT4.out.cb.cell 1
  obtain ⟨e0, e1, e2, e3, e4, e5, e6⟩ := HSV.out W4 HT4.out.kept
  go_region_with ((go_at_call 70; refine (CL.out _).mono ?_; rintro e w5 ⟨rfl, hb⟩; have HT5 := HT4.out.drew.under hb; have b2 : w5.cell? ⟨b, 0, none⟩ = some (.slice (some ⟨pb, po, none⟩) rn rcap) := HT5.cb.cell 0; have b3 : w5.cell? ⟨b, 0 + 1, none⟩ = some (.int .i64 gq) := HT5.cb.cell 1; clear hb))
  all_goals
    have HT5 : Hid _ := HT5
    clear b0 b1 e0 e1 e2 e3 e4 e5 e6 HT4
    have f0 := HT5.out.cb.frozen 0
    have f1 := HT5.out.cb.frozen 1
    go_upto_region 8 with fail
    change Code.wp Tryd.prog _ _ _ ((w5.setCell ⟨b, 0, none⟩ (.slice (tailA (some ⟨pb, po, none⟩) rcap) (rn - 1) (rcap - 1))).setCell ⟨b, 1, none⟩ (.int .i64 0))
    have HT6 := (HT5.out.pair hblt 0 (.slice (tailA (some ⟨pb, po, none⟩) rcap) (rn - 1) (rcap - 1))).pair hblt 1 (.int .i64 0)
    generalize (w5.setCell ⟨b, 0, none⟩ (.slice (tailA (some ⟨pb, po, none⟩) rcap) (rn - 1) (rcap - 1))).setCell ⟨b, 1, none⟩ (.int .i64 0) = W6 at *
    clear f0 f1
    have HT6 : Hid _ := HT6
    clear b2 b3 HT5
    have p0 : W6.cell? ⟨w.heap.size + 1, 0, none⟩ = some (.int .i64 kind) := HT6.out.pb.cell 0
    have p1 : W6.cell? ⟨w.heap.size + 1, 1, none⟩ = some (.int .i64 vn) := HT6.out.pb.cell 1
    have p2 : W6.cell? ⟨w.heap.size + 1, 2, none⟩ = some (.slice (some ⟨ib, io + g * 3, none⟩) q (vcap - g)) := HT6.out.pb.cell 2
    have p3 : W6.cell? ⟨w.heap.size + 1, 3, none⟩ = some (.int .i64 st) := HT6.out.pb.cell 3
    have p4 : W6.cell? ⟨w.heap.size + 1, 4, none⟩ = some (.int .i64 cl) := HT6.out.pb.cell 4
    have p5 : W6.cell? ⟨w.heap.size + 1, 5, none⟩ = some (.bool gs) := HT6.out.pb.cell 5
    have p6 : W6.cell? ⟨w.heap.size + 1, 6, none⟩ = some (.string lk) := HT6.out.pb.cell 6
    have r0 : W6.cell? ⟨w.heap.size, 0, none⟩ = some (.int .i64 0) := HT6.out.rb.cell 0
    have r1 : W6.cell? ⟨w.heap.size, 1, none⟩ = some (.int .i64 0) := HT6.out.rb.cell 1
    have r2 : W6.cell? ⟨w.heap.size, 2, none⟩ = some (.slice none 0 0) := HT6.out.rb.cell 2
    have r3 : W6.cell? ⟨w.heap.size, 3, none⟩ = some (.int .i64 0) := HT6.out.rb.cell 3
    have r4 : W6.cell? ⟨w.heap.size, 4, none⟩ = some (.int .i64 0) := HT6.out.rb.cell 4
    have r5 : W6.cell? ⟨w.heap.size, 5, none⟩ = some (.bool false) := HT6.out.rb.cell 5
    have r6 : W6.cell? ⟨w.heap.size, 6, none⟩ = some (.string ⟨#[]⟩) := HT6.out.rb.cell 6
    have g0 := HT6.out.rb.frozen 0
    have g1 := HT6.out.rb.frozen 1
    have g2 := HT6.out.rb.frozen 2
    have g3 := HT6.out.rb.frozen 3
    have g4 := HT6.out.rb.frozen 4
    have g5 := HT6.out.rb.frozen 5
    have g6 := HT6.out.rb.frozen 6
    go_wp2
    change bodyPost Tryd.prog _ _ Exit.ret _ (putP W6 w.heap.size ⟨kind, vn, some ⟨ib, io + g * 3, none⟩, q, vcap - g, (items.drop g).take q, st, cl, gs, lk⟩)
    obtain ⟨d1, d2, d3⟩ := HT6.out.done hblt ⟨kind, vn, some ⟨ib, io + g * 3, none⟩, q, vcap - g, (items.drop g).take q, st, cl, gs, lk⟩
    exact bodyPost_ret (ret_part (k := ⟨kind, vn, some ⟨ib, io + g * 3, none⟩, q, vcap - g, (items.drop g).take q, st, cl, gs, lk⟩) rfl _ rfl d1) rfl ⟨rfl, by rw [HN.out]; exact d2, d3⟩

set_option maxRecDepth 100000 in
set_option maxHeartbeats 3200000 in
theorem take0pm (b : Nat) (r s : RV) (v : PV) (t : List PV) (q : Nat) (w : World) (hB : Blk w b (prC r s) 75) (hO : Ops w r.ao r.n r.cap (v :: t)) (hfb : ∀ a, r.ao = some a → a.block ≠ b) (hq : 1 ≤ q) (hl : ((r.g + q : Nat) : Int) ≤ lgV v) (hbd : lgV v ≤ 1000)
    (hk : v.kind = 2) (hf : ¬ ((r.g + q : Nat) : Int) = lgV v) :
    Calls Tryd.prog 60 #[.pointer (some ⟨b, 0, none⟩), .int .i64 q] w fun e w' => e = .returned (.agg #[.int .i64 (pieceV v r.g q).kind, .int .i64 (pieceV v r.g q).n, .slice (pieceV v r.g q).ao (pieceV v r.g q).m (pieceV v r.g q).cap, .int .i64 (pieceV v r.g q).set, .int .i64 (pieceV v r.g q).clr, .bool (pieceV v r.g q).goes, .string (pieceV v r.g q).link]) ∧ Blk w' b (prC (r.next v t q) s) 75 ∧ Kept w w' [b] := by
  have hgb : r.g + q ≤ 1000 := by omega
  obtain ⟨pb, po, hao, hsv, hn, -⟩ := hO.head
  have hpv := hO.pts v (List.mem_cons_self ..)
  have hpb : pb ≠ b := hfb _ hao
  have hplt : pb < w.heap.size := cell_lt hsv.c0
  have hblt : b < w.heap.size := hB.lt
  have hbig := hO.row.big
  have hroom := hO.row.room
  have HT : Hid (Tk3 w (boxp v (boxp pv0 w)) b (prC r s) v) := Tk3.start hB v
  have CL : Hid (∀ w', Calls Tryd.prog 70 #[.agg #[.int .i64 v.kind, .int .i64 v.n, .slice v.ao v.m v.cap, .int .i64 v.set, .int .i64 v.clr, .bool v.goes, .string v.link]] w' fun e w'' => e = .returned (.int .i64 (lgV v)) ∧ Below w'.heap.size w' w'') := fun w' => longp_any v w'
  have HSV : Hid (∀ w' : World, Kept w w' [b] → Seven w' pb po v) := fun w' hk => hsv.same (hk.block pb hplt (by simp; exact hpb))
  have HSV0 : Hid (Seven w pb po v) := hsv
  obtain ⟨L, hL⟩ : ∃ L, lgV v = L := ⟨_, rfl⟩
  have HL : Hid (lgV v = L) := hL
  rw [hL] at CL hl hbd hf
  have hL0 := hL
  unfold lgV at hL0
  rw [if_pos hk] at hL0
  have hkb : (v.kind == 2) = true := by simp [hk]
  have hm0 : r.g + q ≤ v.m := by omega
  obtain ⟨ib, io, hvao, -⟩ := hpv.doc.lies (by omega)
  have hsl := slice_li ib io v.m v.cap r.g (r.g + q) (by omega) hm0 hpv.doc.room
  rw [Nat.add_sub_cancel_left] at hsl
  have hU : pieceV v r.g q = ⟨v.kind, v.n, some ⟨ib, io + r.g * 3, none⟩, q, v.cap - r.g, (v.items.drop r.g).take q, v.set, v.clr, v.goes, v.link⟩ := by
    unfold pieceV
    rw [if_pos hk, hvao, Option.map_some, add_off]
  have HU : Hid ((pvC v).set 2 (.slice (some ⟨ib, io + r.g * 3, none⟩) q (v.cap - r.g)) = pvC (pieceV v r.g q)) := by show _ = _; rw [hU]; rfl
  rw [hU] at HU ⊢
  have HN : Hid (r.next v t q = ⟨some ⟨pb, po, none⟩, r.n, r.cap, v :: t, r.g + q⟩) := by
    show _ = _
    unfold RV.next
    rw [hL, if_neg hf, hao]
  obtain ⟨rao, rn, rcap, rvs, g⟩ := r
  obtain ⟨sao, sn, scap, svs, h⟩ := s
  simp only at *
  subst hao
  obtain ⟨gq, hgq⟩ : ∃ gq, g + q = gq := ⟨_, rfl⟩
  have hs0 : (0 : Int) ≤ (g : Int) := Int.natCast_nonneg _
  have hs1 : (g : Int) ≤ (gq : Int) := by omega
  have hs2 : (gq : Int) ≤ (v.cap : Int) := by have := hpv.doc.room; omega
  rw [hgq] at hgb
  obtain ⟨hw1, hw2⟩ := wrap_add hgq hgb
  rw [hgq] at hsl HN hf
  have hfe : ((gq : Int) == L) = false := by simp [hf]
  have HG : Hid (g + q = gq) := hgq
  have hst := slice_tail pb po rn rcap hn
  obtain ⟨kind, vn, vao, m, vcap, items, st, cl, gs, lk⟩ := v
  simp only at *
  subst hvao
  obtain ⟨e0, e1, e2, e3, e4, e5, e6⟩ := HSV0.out
  have b0 : w.cell? ⟨b, 0, none⟩ = some (.slice (some ⟨pb, po, none⟩) rn rcap) := hB.cell 0
  have b1 : w.cell? ⟨b, 0 + 1, none⟩ = some (.int .i64 g) := hB.cell 1
  have hn' : (0 : Int) < (rn : Int) := by omega
  clear hO hfb hgq hU hL hL0 hk hf hsv hB hpv hm0 HSV0
  go_enter Tryd.func60, Tryd.ntmps60
  go_upto_region 2 with fail
  change Code.wp Tryd.prog _ _ _ (boxp ⟨kind, vn, some ⟨ib, io, none⟩, m, vcap, items, st, cl, gs, lk⟩ (boxp pv0 w))
  generalize boxp ⟨kind, vn, some ⟨ib, io, none⟩, m, vcap, items, st, cl, gs, lk⟩ (boxp pv0 w) = W2 at *
  clear b0 b1 e0 e1 e2 e3 e4 e5 e6
  have p0 : W2.cell? ⟨w.heap.size + 1, 0, none⟩ = some (.int .i64 kind) := HT.out.pb.cell 0
  have p2 : W2.cell? ⟨w.heap.size + 1, 2, none⟩ = some (.slice (some ⟨ib, io, none⟩) m vcap) := HT.out.pb.cell 2
  have b1 : W2.cell? ⟨b, 0 + 1, none⟩ = some (.int .i64 g) := HT.out.cb.cell 1
  have f2 := HT.out.pb.frozen 2
  go_upto_region 3 with fail
  go_region
  change Exit.then _ _ Exit.normal _ (W2.drew.setCell ⟨w.heap.size + 1, 2, none⟩ (.slice (some ⟨ib, io + g * 3, none⟩) q (vcap - g)))
  have HT3 := HT.out.drew.own hblt 2 _ HU.out
  generalize W2.drew.setCell ⟨w.heap.size + 1, 2, none⟩ (.slice (some ⟨ib, io + g * 3, none⟩) q (vcap - g)) = W3 at *
  clear p0 p2 b1 f2 HT
  have HT3 : Hid _ := HT3
  have b1 : W3.cell? ⟨b, 0 + 1, none⟩ = some (.int .i64 g) := HT3.out.cb.cell 1
  have f1 := HT3.out.cb.frozen 1
  go_upto_region 6 with fail
  change Code.wp Tryd.prog _ _ _ (W3.setCell ⟨b, 1, none⟩ (.int .i64 gq))
  have HT4 := HT3.out.pair hblt 1 (.int .i64 gq)
  generalize W3.setCell ⟨b, 1, none⟩ (.int .i64 gq) = W4 at *
  have HT4 : Hid _ := HT4
  clear b1 f1 HT3
  have b0 : W4.cell? ⟨b, 0, none⟩ = some (.slice (some ⟨pb, po, none⟩) rn rcap) := HT4.out.cb.cell 0
  have b1 : W4.cell? ⟨b, 0 + 1, none⟩ = some (.int .i64 gq) := HT4.out.cb.cell 1
  obtain ⟨e0, e1, e2, e3, e4, e5, e6⟩ := HSV.out W4 HT4.out.kept
  go_region_with ((go_at_call 70; refine (CL.out _).mono ?_; rintro e w5 ⟨rfl, hb⟩; have HT5 := HT4.out.drew.under hb; have b2 : w5.cell? ⟨b, 0, none⟩ = some (.slice (some ⟨pb, po, none⟩) rn rcap) := HT5.cb.cell 0; have b3 : w5.cell? ⟨b, 0 + 1, none⟩ = some (.int .i64 gq) := HT5.cb.cell 1; clear hb))
  all_goals
    have HT5 : Hid _ := HT5
    clear b0 b1 e0 e1 e2 e3 e4 e5 e6 HT4
    go_upto_region 8 with fail
    have HT6 := HT5.out
    generalize w5 = W6 at *
    have HT6 : Hid _ := HT6
    clear b2 b3 HT5
    have p0 : W6.cell? ⟨w.heap.size + 1, 0, none⟩ = some (.int .i64 kind) := HT6.out.pb.cell 0
    have p1 : W6.cell? ⟨w.heap.size + 1, 1, none⟩ = some (.int .i64 vn) := HT6.out.pb.cell 1
    have p2 : W6.cell? ⟨w.heap.size + 1, 2, none⟩ = some (.slice (some ⟨ib, io + g * 3, none⟩) q (vcap - g)) := HT6.out.pb.cell 2
    have p3 : W6.cell? ⟨w.heap.size + 1, 3, none⟩ = some (.int .i64 st) := HT6.out.pb.cell 3
    have p4 : W6.cell? ⟨w.heap.size + 1, 4, none⟩ = some (.int .i64 cl) := HT6.out.pb.cell 4
    have p5 : W6.cell? ⟨w.heap.size + 1, 5, none⟩ = some (.bool gs) := HT6.out.pb.cell 5
    have p6 : W6.cell? ⟨w.heap.size + 1, 6, none⟩ = some (.string lk) := HT6.out.pb.cell 6
    have r0 : W6.cell? ⟨w.heap.size, 0, none⟩ = some (.int .i64 0) := HT6.out.rb.cell 0
    have r1 : W6.cell? ⟨w.heap.size, 1, none⟩ = some (.int .i64 0) := HT6.out.rb.cell 1
    have r2 : W6.cell? ⟨w.heap.size, 2, none⟩ = some (.slice none 0 0) := HT6.out.rb.cell 2
    have r3 : W6.cell? ⟨w.heap.size, 3, none⟩ = some (.int .i64 0) := HT6.out.rb.cell 3
    have r4 : W6.cell? ⟨w.heap.size, 4, none⟩ = some (.int .i64 0) := HT6.out.rb.cell 4
    have r5 : W6.cell? ⟨w.heap.size, 5, none⟩ = some (.bool false) := HT6.out.rb.cell 5
    have r6 : W6.cell? ⟨w.heap.size, 6, none⟩ = some (.string ⟨#[]⟩) := HT6.out.rb.cell 6
    have g0 := HT6.out.rb.frozen 0
    have g1 := HT6.out.rb.frozen 1
    have g2 := HT6.out.rb.frozen 2
    have g3 := HT6.out.rb.frozen 3
    have g4 := HT6.out.rb.frozen 4
    have g5 := HT6.out.rb.frozen 5
    have g6 := HT6.out.rb.frozen 6
    go_wp2
    change bodyPost Tryd.prog _ _ Exit.ret _ (putP W6 w.heap.size ⟨kind, vn, some ⟨ib, io + g * 3, none⟩, q, vcap - g, (items.drop g).take q, st, cl, gs, lk⟩)
    obtain ⟨d1, d2, d3⟩ := HT6.out.done hblt ⟨kind, vn, some ⟨ib, io + g * 3, none⟩, q, vcap - g, (items.drop g).take q, st, cl, gs, lk⟩
    exact bodyPost_ret (ret_part (k := ⟨kind, vn, some ⟨ib, io + g * 3, none⟩, q, vcap - g, (items.drop g).take q, st, cl, gs, lk⟩) rfl _ rfl d1) rfl ⟨rfl, by rw [HN.out]; exact d2, d3⟩

set_option maxRecDepth 100000 in
set_option maxHeartbeats 3200000 in
theorem take0ne (b : Nat) (r s : RV) (v : PV) (t : List PV) (q : Nat) (w : World) (hB : Blk w b (prC r s) 75) (hO : Ops w r.ao r.n r.cap (v :: t)) (hfb : ∀ a, r.ao = some a → a.block ≠ b) (_hq : 1 ≤ q) (hl : ((r.g + q : Nat) : Int) ≤ lgV v) (hbd : lgV v ≤ 1000)
    (hk : ¬ v.kind = 2) (hf : ((r.g + q : Nat) : Int) = lgV v) :
    Calls Tryd.prog 60 #[.pointer (some ⟨b, 0, none⟩), .int .i64 q] w fun e w' => e = .returned (.agg #[.int .i64 (pieceV v r.g q).kind, .int .i64 (pieceV v r.g q).n, .slice (pieceV v r.g q).ao (pieceV v r.g q).m (pieceV v r.g q).cap, .int .i64 (pieceV v r.g q).set, .int .i64 (pieceV v r.g q).clr, .bool (pieceV v r.g q).goes, .string (pieceV v r.g q).link]) ∧ Blk w' b (prC (r.next v t q) s) 75 ∧ Kept w w' [b] := by
  have hgb : r.g + q ≤ 1000 := by omega
  obtain ⟨pb, po, hao, hsv, hn, -⟩ := hO.head
  have hpv := hO.pts v (List.mem_cons_self ..)
  have hpb : pb ≠ b := hfb _ hao
  have hplt : pb < w.heap.size := cell_lt hsv.c0
  have hblt : b < w.heap.size := hB.lt
  have hbig := hO.row.big
  have hroom := hO.row.room
  have HT : Hid (Tk3 w (boxp v (boxp pv0 w)) b (prC r s) v) := Tk3.start hB v
  have CL : Hid (∀ w', Calls Tryd.prog 70 #[.agg #[.int .i64 v.kind, .int .i64 v.n, .slice v.ao v.m v.cap, .int .i64 v.set, .int .i64 v.clr, .bool v.goes, .string v.link]] w' fun e w'' => e = .returned (.int .i64 (lgV v)) ∧ Below w'.heap.size w' w'') := fun w' => longp_any v w'
  have HSV : Hid (∀ w' : World, Kept w w' [b] → Seven w' pb po v) := fun w' hk => hsv.same (hk.block pb hplt (by simp; exact hpb))
  have HSV0 : Hid (Seven w pb po v) := hsv
  obtain ⟨L, hL⟩ : ∃ L, lgV v = L := ⟨_, rfl⟩
  have HL : Hid (lgV v = L) := hL
  rw [hL] at CL hl hbd hf
  have hL0 := hL
  unfold lgV at hL0
  rw [if_neg hk] at hL0
  have hkb : (v.kind == 2) = false := by simp [hk]
  have hU : pieceV v r.g q = ⟨v.kind, q, v.ao, v.m, v.cap, v.items, v.set, v.clr, v.goes, v.link⟩ := by
    unfold pieceV
    rw [if_neg hk]
  have HU : Hid ((pvC v).set 1 (.int .i64 q) = pvC (pieceV v r.g q)) := by show _ = _; rw [hU]; rfl
  rw [hU] at HU ⊢
  have HN : Hid (r.next v t q = ⟨tailA (some ⟨pb, po, none⟩) r.cap, r.n - 1, r.cap - 1, t, 0⟩) := by
    show _ = _
    unfold RV.next
    rw [hL, if_pos hf, hao]
  obtain ⟨rao, rn, rcap, rvs, g⟩ := r
  obtain ⟨sao, sn, scap, svs, h⟩ := s
  simp only at *
  subst hao
  obtain ⟨gq, hgq⟩ : ∃ gq, g + q = gq := ⟨_, rfl⟩
  rw [hgq] at hgb
  obtain ⟨hw1, hw2⟩ := wrap_add hgq hgb
  rw [hgq] at hf
  have hfe : ((gq : Int) == L) = true := by simp [hf]
  have HG : Hid (g + q = gq) := hgq
  have hst := slice_tail pb po rn rcap hn
  obtain ⟨kind, vn, vao, m, vcap, items, st, cl, gs, lk⟩ := v
  simp only at *
  skip
  obtain ⟨e0, e1, e2, e3, e4, e5, e6⟩ := HSV0.out
  have b0 : w.cell? ⟨b, 0, none⟩ = some (.slice (some ⟨pb, po, none⟩) rn rcap) := hB.cell 0
  have b1 : w.cell? ⟨b, 0 + 1, none⟩ = some (.int .i64 g) := hB.cell 1
  have hn' : (0 : Int) < (rn : Int) := by omega
  clear hO hfb hgq hU hL hL0 hk hf hsv hB hpv HSV0
  go_enter Tryd.func60, Tryd.ntmps60
  go_upto_region 2 with fail
  change Code.wp Tryd.prog _ _ _ (boxp ⟨kind, vn, vao, m, vcap, items, st, cl, gs, lk⟩ (boxp pv0 w))
  generalize boxp ⟨kind, vn, vao, m, vcap, items, st, cl, gs, lk⟩ (boxp pv0 w) = W2 at *
  clear b0 b1 e0 e1 e2 e3 e4 e5 e6
  have p0 : W2.cell? ⟨w.heap.size + 1, 0, none⟩ = some (.int .i64 kind) := HT.out.pb.cell 0
  have p1 : W2.cell? ⟨w.heap.size + 1, 1, none⟩ = some (.int .i64 vn) := HT.out.pb.cell 1
  have f1 := HT.out.pb.frozen 1
  go_upto_region 5 with fail
  change Code.wp Tryd.prog _ _ _ (W2.setCell ⟨w.heap.size + 1, 1, none⟩ (.int .i64 q))
  have HT3 := HT.out.own hblt 1 _ HU.out
  generalize W2.setCell ⟨w.heap.size + 1, 1, none⟩ (.int .i64 q) = W3 at *
  clear p0 p1 f1 HT
  have HT3 : Hid _ := HT3
  have b1 : W3.cell? ⟨b, 0 + 1, none⟩ = some (.int .i64 g) := HT3.out.cb.cell 1
  have f1 := HT3.out.cb.frozen 1
  go_upto_region 6 with fail
  change Code.wp Tryd.prog _ _ _ (W3.setCell ⟨b, 1, none⟩ (.int .i64 gq))
  have HT4 := HT3.out.pair hblt 1 (.int .i64 gq)
  generalize W3.setCell ⟨b, 1, none⟩ (.int .i64 gq) = W4 at *
  have HT4 : Hid _ := HT4
  clear b1 f1 HT3
  have b0 : W4.cell? ⟨b, 0, none⟩ = some (.slice (some ⟨pb, po, none⟩) rn rcap) := HT4.out.cb.cell 0
  have b1 : W4.cell? ⟨b, 0 + 1, none⟩ = some (.int .i64 gq) := HT4.out.cb.cell 1
  obtain ⟨e0, e1, e2, e3, e4, e5, e6⟩ := HSV.out W4 HT4.out.kept
  go_region_with ((go_at_call 70; refine (CL.out _).mono ?_; rintro e w5 ⟨rfl, hb⟩; have HT5 := HT4.out.drew.under hb; have b2 : w5.cell? ⟨b, 0, none⟩ = some (.slice (some ⟨pb, po, none⟩) rn rcap) := HT5.cb.cell 0; have b3 : w5.cell? ⟨b, 0 + 1, none⟩ = some (.int .i64 gq) := HT5.cb.cell 1; clear hb))
  all_goals
    have HT5 : Hid _ := HT5
    clear b0 b1 e0 e1 e2 e3 e4 e5 e6 HT4
    have f0 := HT5.out.cb.frozen 0
    have f1 := HT5.out.cb.frozen 1
    go_upto_region 8 with fail
    change Code.wp Tryd.prog _ _ _ ((w5.setCell ⟨b, 0, none⟩ (.slice (tailA (some ⟨pb, po, none⟩) rcap) (rn - 1) (rcap - 1))).setCell ⟨b, 1, none⟩ (.int .i64 0))
    have HT6 := (HT5.out.pair hblt 0 (.slice (tailA (some ⟨pb, po, none⟩) rcap) (rn - 1) (rcap - 1))).pair hblt 1 (.int .i64 0)
    generalize (w5.setCell ⟨b, 0, none⟩ (.slice (tailA (some ⟨pb, po, none⟩) rcap) (rn - 1) (rcap - 1))).setCell ⟨b, 1, none⟩ (.int .i64 0) = W6 at *
    clear f0 f1
    have HT6 : Hid _ := HT6
    clear b2 b3 HT5
    have p0 : W6.cell? ⟨w.heap.size + 1, 0, none⟩ = some (.int .i64 kind) := HT6.out.pb.cell 0
    have p1 : W6.cell? ⟨w.heap.size + 1, 1, none⟩ = some (.int .i64 q) := HT6.out.pb.cell 1
    have p2 : W6.cell? ⟨w.heap.size + 1, 2, none⟩ = some (.slice vao m vcap) := HT6.out.pb.cell 2
    have p3 : W6.cell? ⟨w.heap.size + 1, 3, none⟩ = some (.int .i64 st) := HT6.out.pb.cell 3
    have p4 : W6.cell? ⟨w.heap.size + 1, 4, none⟩ = some (.int .i64 cl) := HT6.out.pb.cell 4
    have p5 : W6.cell? ⟨w.heap.size + 1, 5, none⟩ = some (.bool gs) := HT6.out.pb.cell 5
    have p6 : W6.cell? ⟨w.heap.size + 1, 6, none⟩ = some (.string lk) := HT6.out.pb.cell 6
    have r0 : W6.cell? ⟨w.heap.size, 0, none⟩ = some (.int .i64 0) := HT6.out.rb.cell 0
    have r1 : W6.cell? ⟨w.heap.size, 1, none⟩ = some (.int .i64 0) := HT6.out.rb.cell 1
    have r2 : W6.cell? ⟨w.heap.size, 2, none⟩ = some (.slice none 0 0) := HT6.out.rb.cell 2
    have r3 : W6.cell? ⟨w.heap.size, 3, none⟩ = some (.int .i64 0) := HT6.out.rb.cell 3
    have r4 : W6.cell? ⟨w.heap.size, 4, none⟩ = some (.int .i64 0) := HT6.out.rb.cell 4
    have r5 : W6.cell? ⟨w.heap.size, 5, none⟩ = some (.bool false) := HT6.out.rb.cell 5
    have r6 : W6.cell? ⟨w.heap.size, 6, none⟩ = some (.string ⟨#[]⟩) := HT6.out.rb.cell 6
    have g0 := HT6.out.rb.frozen 0
    have g1 := HT6.out.rb.frozen 1
    have g2 := HT6.out.rb.frozen 2
    have g3 := HT6.out.rb.frozen 3
    have g4 := HT6.out.rb.frozen 4
    have g5 := HT6.out.rb.frozen 5
    have g6 := HT6.out.rb.frozen 6
    go_wp2
    change bodyPost Tryd.prog _ _ Exit.ret _ (putP W6 w.heap.size ⟨kind, q, vao, m, vcap, items, st, cl, gs, lk⟩)
    obtain ⟨d1, d2, d3⟩ := HT6.out.done hblt ⟨kind, q, vao, m, vcap, items, st, cl, gs, lk⟩
    exact bodyPost_ret (ret_part (k := ⟨kind, q, vao, m, vcap, items, st, cl, gs, lk⟩) rfl _ rfl d1) rfl ⟨rfl, by rw [HN.out]; exact d2, d3⟩

set_option maxRecDepth 100000 in
set_option maxHeartbeats 3200000 in
theorem take0nm (b : Nat) (r s : RV) (v : PV) (t : List PV) (q : Nat) (w : World) (hB : Blk w b (prC r s) 75) (hO : Ops w r.ao r.n r.cap (v :: t)) (hfb : ∀ a, r.ao = some a → a.block ≠ b) (_hq : 1 ≤ q) (hl : ((r.g + q : Nat) : Int) ≤ lgV v) (hbd : lgV v ≤ 1000)
    (hk : ¬ v.kind = 2) (hf : ¬ ((r.g + q : Nat) : Int) = lgV v) :
    Calls Tryd.prog 60 #[.pointer (some ⟨b, 0, none⟩), .int .i64 q] w fun e w' => e = .returned (.agg #[.int .i64 (pieceV v r.g q).kind, .int .i64 (pieceV v r.g q).n, .slice (pieceV v r.g q).ao (pieceV v r.g q).m (pieceV v r.g q).cap, .int .i64 (pieceV v r.g q).set, .int .i64 (pieceV v r.g q).clr, .bool (pieceV v r.g q).goes, .string (pieceV v r.g q).link]) ∧ Blk w' b (prC (r.next v t q) s) 75 ∧ Kept w w' [b] := by
  have hgb : r.g + q ≤ 1000 := by omega
  obtain ⟨pb, po, hao, hsv, hn, -⟩ := hO.head
  have hpv := hO.pts v (List.mem_cons_self ..)
  have hpb : pb ≠ b := hfb _ hao
  have hplt : pb < w.heap.size := cell_lt hsv.c0
  have hblt : b < w.heap.size := hB.lt
  have hbig := hO.row.big
  have hroom := hO.row.room
  have HT : Hid (Tk3 w (boxp v (boxp pv0 w)) b (prC r s) v) := Tk3.start hB v
  have CL : Hid (∀ w', Calls Tryd.prog 70 #[.agg #[.int .i64 v.kind, .int .i64 v.n, .slice v.ao v.m v.cap, .int .i64 v.set, .int .i64 v.clr, .bool v.goes, .string v.link]] w' fun e w'' => e = .returned (.int .i64 (lgV v)) ∧ Below w'.heap.size w' w'') := fun w' => longp_any v w'
  have HSV : Hid (∀ w' : World, Kept w w' [b] → Seven w' pb po v) := fun w' hk => hsv.same (hk.block pb hplt (by simp; exact hpb))
  have HSV0 : Hid (Seven w pb po v) := hsv
  obtain ⟨L, hL⟩ : ∃ L, lgV v = L := ⟨_, rfl⟩
  have HL : Hid (lgV v = L) := hL
  rw [hL] at CL hl hbd hf
  have hL0 := hL
  unfold lgV at hL0
  rw [if_neg hk] at hL0
  have hkb : (v.kind == 2) = false := by simp [hk]
  have hU : pieceV v r.g q = ⟨v.kind, q, v.ao, v.m, v.cap, v.items, v.set, v.clr, v.goes, v.link⟩ := by
    unfold pieceV
    rw [if_neg hk]
  have HU : Hid ((pvC v).set 1 (.int .i64 q) = pvC (pieceV v r.g q)) := by show _ = _; rw [hU]; rfl
  rw [hU] at HU ⊢
  have HN : Hid (r.next v t q = ⟨some ⟨pb, po, none⟩, r.n, r.cap, v :: t, r.g + q⟩) := by
    show _ = _
    unfold RV.next
    rw [hL, if_neg hf, hao]
  obtain ⟨rao, rn, rcap, rvs, g⟩ := r
  obtain ⟨sao, sn, scap, svs, h⟩ := s
  simp only at *
  subst hao
  obtain ⟨gq, hgq⟩ : ∃ gq, g + q = gq := ⟨_, rfl⟩
  rw [hgq] at hgb
  obtain ⟨hw1, hw2⟩ := wrap_add hgq hgb
  rw [hgq] at HN hf
  have hfe : ((gq : Int) == L) = false := by simp [hf]
  have HG : Hid (g + q = gq) := hgq
  have hst := slice_tail pb po rn rcap hn
  obtain ⟨kind, vn, vao, m, vcap, items, st, cl, gs, lk⟩ := v
  simp only at *
  skip
  obtain ⟨e0, e1, e2, e3, e4, e5, e6⟩ := HSV0.out
  have b0 : w.cell? ⟨b, 0, none⟩ = some (.slice (some ⟨pb, po, none⟩) rn rcap) := hB.cell 0
  have b1 : w.cell? ⟨b, 0 + 1, none⟩ = some (.int .i64 g) := hB.cell 1
  have hn' : (0 : Int) < (rn : Int) := by omega
  clear hO hfb hgq hU hL hL0 hk hf hsv hB hpv HSV0
  go_enter Tryd.func60, Tryd.ntmps60
  go_upto_region 2 with fail
  change Code.wp Tryd.prog _ _ _ (boxp ⟨kind, vn, vao, m, vcap, items, st, cl, gs, lk⟩ (boxp pv0 w))
  generalize boxp ⟨kind, vn, vao, m, vcap, items, st, cl, gs, lk⟩ (boxp pv0 w) = W2 at *
  clear b0 b1 e0 e1 e2 e3 e4 e5 e6
  have p0 : W2.cell? ⟨w.heap.size + 1, 0, none⟩ = some (.int .i64 kind) := HT.out.pb.cell 0
  have p1 : W2.cell? ⟨w.heap.size + 1, 1, none⟩ = some (.int .i64 vn) := HT.out.pb.cell 1
  have f1 := HT.out.pb.frozen 1
  go_upto_region 5 with fail
  change Code.wp Tryd.prog _ _ _ (W2.setCell ⟨w.heap.size + 1, 1, none⟩ (.int .i64 q))
  have HT3 := HT.out.own hblt 1 _ HU.out
  generalize W2.setCell ⟨w.heap.size + 1, 1, none⟩ (.int .i64 q) = W3 at *
  clear p0 p1 f1 HT
  have HT3 : Hid _ := HT3
  have b1 : W3.cell? ⟨b, 0 + 1, none⟩ = some (.int .i64 g) := HT3.out.cb.cell 1
  have f1 := HT3.out.cb.frozen 1
  go_upto_region 6 with fail
  change Code.wp Tryd.prog _ _ _ (W3.setCell ⟨b, 1, none⟩ (.int .i64 gq))
  have HT4 := HT3.out.pair hblt 1 (.int .i64 gq)
  generalize W3.setCell ⟨b, 1, none⟩ (.int .i64 gq) = W4 at *
  have HT4 : Hid _ := HT4
  clear b1 f1 HT3
  have b0 : W4.cell? ⟨b, 0, none⟩ = some (.slice (some ⟨pb, po, none⟩) rn rcap) := HT4.out.cb.cell 0
  have b1 : W4.cell? ⟨b, 0 + 1, none⟩ = some (.int .i64 gq) := HT4.out.cb.cell 1
  obtain ⟨e0, e1, e2, e3, e4, e5, e6⟩ := HSV.out W4 HT4.out.kept
  go_region_with ((go_at_call 70; refine (CL.out _).mono ?_; rintro e w5 ⟨rfl, hb⟩; have HT5 := HT4.out.drew.under hb; have b2 : w5.cell? ⟨b, 0, none⟩ = some (.slice (some ⟨pb, po, none⟩) rn rcap) := HT5.cb.cell 0; have b3 : w5.cell? ⟨b, 0 + 1, none⟩ = some (.int .i64 gq) := HT5.cb.cell 1; clear hb))
  all_goals
    have HT5 : Hid _ := HT5
    clear b0 b1 e0 e1 e2 e3 e4 e5 e6 HT4
    go_upto_region 8 with fail
    have HT6 := HT5.out
    generalize w5 = W6 at *
    have HT6 : Hid _ := HT6
    clear b2 b3 HT5
    have p0 : W6.cell? ⟨w.heap.size + 1, 0, none⟩ = some (.int .i64 kind) := HT6.out.pb.cell 0
    have p1 : W6.cell? ⟨w.heap.size + 1, 1, none⟩ = some (.int .i64 q) := HT6.out.pb.cell 1
    have p2 : W6.cell? ⟨w.heap.size + 1, 2, none⟩ = some (.slice vao m vcap) := HT6.out.pb.cell 2
    have p3 : W6.cell? ⟨w.heap.size + 1, 3, none⟩ = some (.int .i64 st) := HT6.out.pb.cell 3
    have p4 : W6.cell? ⟨w.heap.size + 1, 4, none⟩ = some (.int .i64 cl) := HT6.out.pb.cell 4
    have p5 : W6.cell? ⟨w.heap.size + 1, 5, none⟩ = some (.bool gs) := HT6.out.pb.cell 5
    have p6 : W6.cell? ⟨w.heap.size + 1, 6, none⟩ = some (.string lk) := HT6.out.pb.cell 6
    have r0 : W6.cell? ⟨w.heap.size, 0, none⟩ = some (.int .i64 0) := HT6.out.rb.cell 0
    have r1 : W6.cell? ⟨w.heap.size, 1, none⟩ = some (.int .i64 0) := HT6.out.rb.cell 1
    have r2 : W6.cell? ⟨w.heap.size, 2, none⟩ = some (.slice none 0 0) := HT6.out.rb.cell 2
    have r3 : W6.cell? ⟨w.heap.size, 3, none⟩ = some (.int .i64 0) := HT6.out.rb.cell 3
    have r4 : W6.cell? ⟨w.heap.size, 4, none⟩ = some (.int .i64 0) := HT6.out.rb.cell 4
    have r5 : W6.cell? ⟨w.heap.size, 5, none⟩ = some (.bool false) := HT6.out.rb.cell 5
    have r6 : W6.cell? ⟨w.heap.size, 6, none⟩ = some (.string ⟨#[]⟩) := HT6.out.rb.cell 6
    have g0 := HT6.out.rb.frozen 0
    have g1 := HT6.out.rb.frozen 1
    have g2 := HT6.out.rb.frozen 2
    have g3 := HT6.out.rb.frozen 3
    have g4 := HT6.out.rb.frozen 4
    have g5 := HT6.out.rb.frozen 5
    have g6 := HT6.out.rb.frozen 6
    go_wp2
    change bodyPost Tryd.prog _ _ Exit.ret _ (putP W6 w.heap.size ⟨kind, q, vao, m, vcap, items, st, cl, gs, lk⟩)
    obtain ⟨d1, d2, d3⟩ := HT6.out.done hblt ⟨kind, q, vao, m, vcap, items, st, cl, gs, lk⟩
    exact bodyPost_ret (ret_part (k := ⟨kind, q, vao, m, vcap, items, st, cl, gs, lk⟩) rfl _ rfl d1) rfl ⟨rfl, by rw [HN.out]; exact d2, d3⟩

theorem take0_any (b : Nat) (r s : RV) (v : PV) (t : List PV) (q : Nat) (w : World) (hB : Blk w b (prC r s) 75) (hO : Ops w r.ao r.n r.cap (v :: t)) (hfb : ∀ a, r.ao = some a → a.block ≠ b) (hq : 1 ≤ q) (hl : ((r.g + q : Nat) : Int) ≤ lgV v) (hbd : lgV v ≤ 1000) :
    Calls Tryd.prog 60 #[.pointer (some ⟨b, 0, none⟩), .int .i64 q] w fun e w' => e = .returned (.agg #[.int .i64 (pieceV v r.g q).kind, .int .i64 (pieceV v r.g q).n, .slice (pieceV v r.g q).ao (pieceV v r.g q).m (pieceV v r.g q).cap, .int .i64 (pieceV v r.g q).set, .int .i64 (pieceV v r.g q).clr, .bool (pieceV v r.g q).goes, .string (pieceV v r.g q).link]) ∧ Blk w' b (prC (r.next v t q) s) 75 ∧ Kept w w' [b] := by
  by_cases hk : v.kind = 2
  · by_cases hf : ((r.g + q : Nat) : Int) = lgV v
    · exact take0pe b r s v t q w hB hO hfb hq hl hbd hk hf
    · exact take0pm b r s v t q w hB hO hfb hq hl hbd hk hf
  · by_cases hf : ((r.g + q : Nat) : Int) = lgV v
    · exact take0ne b r s v t q w hB hO hfb hq hl hbd hk hf
    · exact take0nm b r s v t q w hB hO hfb hq hl hbd hk hf
end Go.Proofs.YtaigleblmbblcaaDoor
