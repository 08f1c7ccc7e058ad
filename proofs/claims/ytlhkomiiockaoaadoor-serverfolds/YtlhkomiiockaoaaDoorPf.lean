/-
  Chapter 8 on parts: Turn and Join, step by step.
-/
import Derived.Test.YtlhkomiiockaoaaDoorPe
namespace Go.Proofs.YtlhkomiiockaoaaDoor
open Go.RowKit
namespace Ac
/-- A Keep without what another one has a say in. -/
def yieldP (p f : Pt) : Pt := { p with set := less p.set (both f.set f.clr), clr := less p.clr (both f.set f.clr), goes := p.goes && !f.goes, link := if f.goes then ⟨#[]⟩ else p.link }
theorem yield_ch (p f : Pt) : chOf (yieldP p f) = behind (chOf p) (chOf f) := rfl
/-- A Keep that does one, and then another one. -/
def oneP (f p : Pt) : Pt := { f with set := both (less f.set p.clr) p.set, clr := both (less f.clr p.set) p.clr, goes := f.goes || p.goes, link := if p.goes then p.link else f.link }
theorem one_ch (f p : Pt) : chOf (oneP f p) = thenCh (chOf f) (chOf p) := rfl
theorem marks_of {s c : Int} (h : marksBad s c = false) : m4 s ∧ m4 c ∧ s.toNat &&& c.toNat = 0 := by
  unfold marksBad areM at h
  simp only [Bool.or_eq_false_iff, Bool.not_eq_false', Bool.and_eq_true, decide_eq_true_eq, bne_eq_false_iff_eq] at h
  exact ⟨h.1, h.2.1, h.2.2⟩
theorem of_marks {s c : Int} (h1 : m4 s) (h2 : m4 c) (h3 : s.toNat &&& c.toNat = 0) : marksBad s c = false := by
  unfold marksBad areM
  simp only [Bool.or_eq_false_iff, Bool.not_eq_false', Bool.and_eq_true, decide_eq_true_eq, bne_eq_false_iff_eq]
  exact ⟨h1, h2, h3⟩
theorem yield_marks {s c s' c' : Int} (h : marksBad s c = false) (h' : marksBad s' c' = false) : marksBad (less s (both s' c')) (less c (both s' c')) = false := by
  obtain ⟨a1, a2, a3⟩ := marks_of h
  obtain ⟨b1, b2, _⟩ := marks_of h'
  refine of_marks (less_m4 a1 (both_m4 b1 b2)) (less_m4 a2 (both_m4 b1 b2)) ?_
  obtain ⟨x, hx, rfl⟩ := m4_nat a1
  obtain ⟨y, hy, rfl⟩ := m4_nat a2
  obtain ⟨u, hu, rfl⟩ := m4_nat b1
  obtain ⟨v, hv, rfl⟩ := m4_nat b2
  have key : ∀ x < 4, ∀ y < 4, ∀ u < 4, ∀ v < 4, x &&& y = 0 → (x - (x &&& (u ||| v))) &&& (y - (y &&& (u ||| v))) = 0 := by decide +kernel
  exact key x hx y hy u hu v hv a3
theorem one_marks {s c s' c' : Int} (h : marksBad s c = false) (h' : marksBad s' c' = false) : marksBad (both (less s c') s') (both (less c s') c') = false := by
  obtain ⟨a1, a2, a3⟩ := marks_of h
  obtain ⟨b1, b2, b3⟩ := marks_of h'
  refine of_marks (both_m4 (less_m4 a1 b2) b1) (both_m4 (less_m4 a2 b1) b2) ?_
  obtain ⟨x, hx, rfl⟩ := m4_nat a1
  obtain ⟨y, hy, rfl⟩ := m4_nat a2
  obtain ⟨u, hu, rfl⟩ := m4_nat b1
  obtain ⟨v, hv, rfl⟩ := m4_nat b2
  have key : ∀ x < 4, ∀ y < 4, ∀ u < 4, ∀ v < 4, (x &&& y = 0 ∧ u &&& v = 0) → ((x - (x &&& v)) ||| u) &&& ((y - (y &&& u)) ||| v) = 0 := by decide +kernel
  exact key x hx y hy u hu v hv ⟨a3, b3⟩
theorem linkBad_nil (g : Bool) : linkBad g ⟨#[]⟩ = false := by cases g <;> decide +kernel
theorem keep_err {p : Pt} (h : err1 p = 0) (k : p.kind = 1) {q : Pt} (kq : q.kind = 1) (hn : q.n = p.n) (hi : q.items = []) (hm : marksBad q.set q.clr = false) (hl : linkBad q.goes q.link = false) : err1 q = 0 := by
  obtain ⟨_, _, h1, h2⟩ := keep_m4 h k
  refine gd_right (.inl ⟨kq, hm, hl, hi, by omega⟩) ?_ ?_
  · unfold nd1; rw [if_neg (by omega), hn]; omega
  · unfold lv1; rw [if_pos kq, hn]; omega
theorem yield_err {p f : Pt} (h : err1 p = 0) (k : p.kind = 1) (hf : err1 f = 0) (kf : f.kind = 1) : err1 (yieldP p f) = 0 := by
  rcases gd_of h with ⟨_, hm, hl, hi, _⟩ | ⟨ps, e, _⟩ | ⟨m, e, _⟩
  · rcases gd_of hf with ⟨_, fm, fl, _, _⟩ | ⟨ps, e, _⟩ | ⟨m, e, _⟩
    · refine keep_err h k (q := yieldP p f) k rfl hi (yield_marks hm fm) ?_
      show linkBad (p.goes && !f.goes) (if f.goes then ⟨#[]⟩ else p.link) = false
      cases f.goes
      · rw [Bool.not_false, Bool.and_true]; exact hl
      · exact linkBad_nil _
    · rw [e] at kf; cases kf
    · rw [e] at kf; cases kf
  · rw [e] at k; cases k
  · rw [e] at k; cases k
theorem one_err {f p : Pt} (hf : err1 f = 0) (kf : f.kind = 1) (h : err1 p = 0) (k : p.kind = 1) : err1 (oneP f p) = 0 := by
  rcases gd_of h with ⟨_, hm, hl, _, _⟩ | ⟨ps, e, _⟩ | ⟨m, e, _⟩
  · rcases gd_of hf with ⟨_, fm, fl, fi, _⟩ | ⟨ps, e, _⟩ | ⟨m, e, _⟩
    · refine keep_err hf kf (q := oneP f p) kf rfl fi (one_marks fm hm) ?_
      show linkBad (f.goes || p.goes) (if p.goes then p.link else f.link) = false
      cases hg : p.goes
      · rw [Bool.or_false]; exact fl
      · rw [hg] at hl
        rw [Bool.or_true]
        exact hl
    · rw [e] at kf; cases kf
    · rw [e] at kf; cases kf
  · rw [e] at k; cases k
  · rw [e] at k; cases k
theorem changed_err {p q : Pt} (h : err1 p = 0) (k : p.kind = 2) (hq : err1 q = 0) (kq : q.kind = 1) : err1 (putP (p.items.map fun x => change x (chOf q))) = 0 := by
  obtain ⟨h1, h2, h3⟩ := put_len h k
  have hc := acts_ok (o := [q]) (fun z hz => by rw [List.mem_singleton.1 hz]; exact hq) (A.keep (chOf q)) (by
    have hb := lg_bd hq
    have hlg : lg q = q.n.toNat := if_neg (by omega)
    obtain ⟨m, hm⟩ : ∃ m, q.n.toNat = m + 1 := ⟨q.n.toNat - 1, by omega⟩
    rw [acts_cons, acts_nil, List.append_nil]
    unfold acts1
    rw [if_neg (by omega), if_pos kq, hm]
    exact List.mem_cons_self ..)
  obtain ⟨hc1, hc2, -⟩ := hc
  refine gd_right (.inr (.inl ⟨_, rfl, fun e => ?_, fun x hx => ?_⟩)) (Nat.zero_le _) ?_
  · have := congrArg List.length e
    rw [List.length_map] at this
    simp at this
    rw [this] at h1
    simp at h1
  · obtain ⟨y, hy, rfl⟩ := List.mem_map.1 hx
    obtain ⟨e1, e2, e3⟩ := err_parts (errs_all h3 y hy)
    exact err_of e1 (mark_m4 e2 hc1.clr hc1.set) (link_change e3 hc2)
  · show (p.items.map fun x => change x (chOf q)).length ≤ 80
    rw [List.length_map]
    exact h2
theorem acts1_k {p : Pt} (k : p.kind = 1) {n : Nat} (hn : p.n = n) : acts1 p = List.replicate n (A.keep (chOf p)) := by unfold acts1; rw [if_neg (by omega), if_pos k, hn]; rfl
theorem acts1_c {p : Pt} (k : p.kind = 3) {n : Nat} (hn : p.n = n) : acts1 p = List.replicate n A.cut := by unfold acts1; rw [if_neg (by omega), if_neg (by omega), hn]; rfl
theorem acts1_p {p : Pt} (k : p.kind = 2) : acts1 p = p.items.map A.put := by unfold acts1; rw [if_pos k]
theorem piece_n {p : Pt} (k : ¬ p.kind = 2) (g n : Nat) : (piece p g n).n = n := by rw [piece_not k]
theorem acts_one (p : Pt) : acts [p] = acts1 p := by rw [acts_cons, acts_nil, List.append_nil]
theorem ok_snoc {x : List Pt} {p : Pt} (h : ∀ z ∈ x, err1 z = 0) (hp : err1 p = 0) : ∀ z ∈ x ++ [p], err1 z = 0 := fun z hz => by
  rcases List.mem_append.1 hz with hz | hz
  · exact h z hz
  · rw [List.mem_singleton.1 hz]; exact hp
/-- What is left to do of two parts for the same items, each behind the other one. -/
def behX (p q : Pt) : List Pt := if q.kind = 1 then [p] else []
def behY (p q : Pt) : List Pt := if p.kind = 1 then (if q.kind = 1 then [yieldP q p] else [q]) else []
/-- Two that are turned: what is left of both, and what is made. -/
structure TurnI (a b ps : List Pt) (g : Nat) (qs : List Pt) (h : Nat) (x y : List Pt) : Prop where
  rp : Rv ps g
  rq : Rv qs h
  eq : turn (acts a) (acts b) = (acts x ++ (turn (ra ps g) (ra qs h)).1, acts y ++ (turn (ra ps g) (ra qs h)).2)
  need : need (ra ps g) = need (ra qs h)
  okx : ∀ p ∈ x, err1 p = 0
  oky : ∀ p ∈ y, err1 p = 0
  lx : x.length + ps.length + qs.length ≤ a.length + b.length
  ly : y.length + ps.length + qs.length ≤ a.length + b.length
theorem TurnI.start {a b : List Pt} (ha : Right a) (hb : Right b) (hn : nd a = nd b) : TurnI a b a 0 b 0 [] [] := by
  refine ⟨ha.rv, hb.rv, ?_, ?_, fun p hp => absurd hp (by simp), fun p hp => absurd hp (by simp), by simp, by simp⟩
  · unfold ra
    rw [List.drop_zero, List.drop_zero, acts_nil, List.nil_append, List.nil_append]
  · unfold ra
    rw [List.drop_zero, List.drop_zero, (need_acts (kinds_of ha.ok)).1, (need_acts (kinds_of hb.ok)).1, hn]
theorem TurnI.left {a b ps : List Pt} {g : Nat} {qs : List Pt} {h : Nat} {x y : List Pt} (I : TurnI a b ps g qs h x y) : ps = [] ↔ qs = [] := by
  constructor
  · intro e
    cases hq : qs with
    | nil => rfl
    | cons q u =>
      have h1 := (I.rq.some (by rw [hq]; simp)).1
      have h2 := I.need
      rw [e, I.rp.nil e] at h2
      rw [← h2] at h1
      exact absurd h1 (by decide)
  · intro e
    cases hq : ps with
    | nil => rfl
    | cons q u =>
      have h1 := (I.rp.some (by rw [hq]; simp)).1
      have h2 := I.need
      rw [e, I.rq.nil e] at h2
      rw [h2] at h1
      exact absurd h1 (by decide)
theorem TurnI.done {a b : List Pt} {g : Nat} {qs : List Pt} {h : Nat} {x y : List Pt} (I : TurnI a b [] g qs h x y) : turn (acts a) (acts b) = (acts x, acts y) := by
  have e := I.left.1 rfl
  have h1 := I.eq
  subst e
  rw [I.rp.nil rfl, I.rq.nil rfl] at h1
  rw [h1]
  show (acts x ++ [], acts y ++ []) = _
  rw [List.append_nil, List.append_nil]
theorem piece_items {p : Pt} (k : p.kind = 2) {g n : Nat} (h : g + n ≤ lg p) : (piece p g n).items.length = n := by
  unfold lg at h
  rw [if_pos k] at h
  rw [piece_put k]
  simp
  omega
theorem TurnI.putA {a b : List Pt} {p : Pt} {t : List Pt} {g : Nat} {qs : List Pt} {h : Nat} {x y : List Pt} (I : TurnI a b (p :: t) g qs h x y) (k : p.kind = 2) :
    TurnI a b t 0 qs h (x ++ [piece p g (lg p - g)]) (y ++ [keepP nop ((lg p - g : Nat) : Int)]) := by
  have hg := I.rp.lt p t rfl
  have hpe := I.rp.ok p (List.mem_cons_self ..)
  have hb := lg_bd hpe
  have hle : g + (lg p - g) ≤ lg p := by omega
  have hE : g + (lg p - g) = lg p := by omega
  have hs := ra_split p t g (lg p - g) hle
  have hk2 : (piece p g (lg p - g)).kind = 2 := (piece_kind ..).trans k
  rw [nxtP_end hE, nxtG_end hE, acts1_p hk2] at hs
  have hI := I.eq
  have hn := I.need
  have hil := piece_items k hle
  rw [hs, turn_puts, hil] at hI
  rw [hs, need_app, (need_puts _).1, Nat.zero_add] at hn
  have hr := I.rp.nxt hle
  rw [nxtP_end hE, nxtG_end hE] at hr
  have l1 := I.lx
  have l2 := I.ly
  rw [List.length_cons] at l1 l2
  refine ⟨hr, I.rq, ?_, hn, ok_snoc I.okx (piece_err hpe (by omega) hle), ok_snoc I.oky (nop_err (by omega) (by omega)), by simp; omega, by simp; omega⟩
  rw [hI, acts_app, acts_app, acts_one, acts_one, acts1_p hk2, acts1_keep, Int.toNat_natCast, List.append_assoc, List.append_assoc]
theorem ra_head {p : Pt} {t : List Pt} {g : Nat} (h : Rv (p :: t) g) (k : ¬ p.kind = 2) : (∃ c a', ra (p :: t) g = A.keep c :: a') ∨ ∃ a', ra (p :: t) g = A.cut :: a' := by
  have hg := h.lt p t rfl
  have hs := ra_split p t g 1 (by omega)
  rw [hs]
  have hn : (piece p g 1).n = ((1 : Nat) : Int) := piece_n k g 1
  rcases kind_of (h.ok p (List.mem_cons_self ..)) with k1 | k1 | k1
  · rw [acts1_k ((piece_kind ..).trans k1) hn]
    exact .inl ⟨_, _, rfl⟩
  · exact absurd k1 k
  · rw [acts1_c ((piece_kind ..).trans k1) hn]
    exact .inr ⟨_, rfl⟩
theorem TurnI.putB {a b : List Pt} {p : Pt} {t : List Pt} {g : Nat} {q : Pt} {u : List Pt} {h : Nat} {x y : List Pt} (I : TurnI a b (p :: t) g (q :: u) h x y) (k : ¬ p.kind = 2) (kq : q.kind = 2) :
    TurnI a b (p :: t) g u 0 (x ++ [keepP nop ((lg q - h : Nat) : Int)]) (y ++ [piece q h (lg q - h)]) := by
  have hg := I.rq.lt q u rfl
  have hqe := I.rq.ok q (List.mem_cons_self ..)
  have hb := lg_bd hqe
  have hle : h + (lg q - h) ≤ lg q := by omega
  have hE : h + (lg q - h) = lg q := by omega
  have hs := ra_split q u h (lg q - h) hle
  have hk2 : (piece q h (lg q - h)).kind = 2 := (piece_kind ..).trans kq
  rw [nxtP_end hE, nxtG_end hE, acts1_p hk2] at hs
  have hI := I.eq
  have hn := I.need
  have hil := piece_items kq hle
  rw [hs, turn_puts_r _ _ (ra_head I.rp k), hil] at hI
  rw [hs, need_app, (need_puts _).1, Nat.zero_add] at hn
  have hr := I.rq.nxt hle
  rw [nxtP_end hE, nxtG_end hE] at hr
  have l1 := I.lx
  have l2 := I.ly
  simp only [List.length_cons] at l1 l2
  refine ⟨I.rp, hr, ?_, hn, ok_snoc I.okx (nop_err (by omega) (by omega)), ok_snoc I.oky (piece_err hqe (by omega) hle), by simp; omega, by simp; omega⟩
  rw [hI, acts_app, acts_app, acts_one, acts_one, acts1_p hk2, acts1_keep, Int.toNat_natCast, List.append_assoc, List.append_assoc]
theorem nxt_less {p q : Pt} {t u : List Pt} {g h n : Nat} (e : g + n = lg p ∨ h + n = lg q) : (nxtP p t g n).length + (nxtP q u h n).length ≤ t.length + u.length + 1 := by
  have h1 := nxtP_len p t g n
  have h2 := nxtP_len q u h n
  rcases e with e | e
  · rw [nxtP_end e] at h1 ⊢; omega
  · rw [nxtP_end e] at h2 ⊢; omega
theorem TurnI.both {a b : List Pt} {p : Pt} {t : List Pt} {g : Nat} {q : Pt} {u : List Pt} {h : Nat} {x y : List Pt} (I : TurnI a b (p :: t) g (q :: u) h x y) (k : ¬ p.kind = 2) (kq : ¬ q.kind = 2) {n : Nat} (hn : n = min (lg p - g) (lg q - h)) :
    TurnI a b (nxtP p t g n) (nxtG p g n) (nxtP q u h n) (nxtG q h n) (x ++ behX (piece p g n) (piece q h n)) (y ++ behY (piece p g n) (piece q h n)) := by
  have hg := I.rp.lt p t rfl
  have hh := I.rq.lt q u rfl
  have hpe := I.rp.ok p (List.mem_cons_self ..)
  have hqe := I.rq.ok q (List.mem_cons_self ..)
  have hl1 : g + n ≤ lg p := by omega
  have hl2 : h + n ≤ lg q := by omega
  have hE : g + n = lg p ∨ h + n = lg q := by omega
  have h1n : 1 ≤ n := by omega
  have e1 := piece_err hpe h1n hl1
  have e2 := piece_err hqe h1n hl2
  have hs1 := ra_split p t g n hl1
  have hs2 := ra_split q u h n hl2
  have n1 : (piece p g n).n = n := piece_n k g n
  have n2 : (piece q h n).n = n := piece_n kq h n
  have hI := I.eq
  have hN := I.need
  rw [hs1, hs2] at hI
  rw [hs1, hs2, need_app, need_app] at hN
  have l1 := I.lx
  have l2 := I.ly
  simp only [List.length_cons] at l1 l2
  have hless := nxt_less (t := t) (u := u) hE
  have r1 := I.rp.nxt hl1
  have r2 := I.rq.nxt hl2
  have hpk : (piece p g n).kind = p.kind := piece_kind ..
  have hqk : (piece q h n).kind = q.kind := piece_kind ..
  generalize piece p g n = P at *
  generalize piece q h n = Q at *
  have ka := kind_of e1
  have kb := kind_of e2
  rw [hpk] at ka
  rw [hqk] at kb
  rcases ka with ka | ka | ka
  · rcases kb with kb | kb | kb
    · have kP := hpk.trans ka
      have kQ := hqk.trans kb
      have bx : behX P Q = [P] := if_pos kQ
      have byy : behY P Q = [yieldP Q P] := (if_pos kP).trans (if_pos kQ)
      rw [acts1_k kP n1, acts1_k kQ n2, turn_kks] at hI
      rw [acts1_k kP n1, acts1_k kQ n2, (need_keeps _ _).1, (need_keeps _ _).1] at hN
      rw [bx, byy]
      refine ⟨r1, r2, ?_, by omega, ok_snoc I.okx e1, ok_snoc I.oky (yield_err e2 kQ e1 kP), by simp; omega, by simp; omega⟩
      rw [hI, acts_app, acts_app, acts_one, acts_one, acts1_k kP n1, acts1_k (p := yieldP Q P) kQ (n := n) n2, yield_ch, List.append_assoc, List.append_assoc]
    · exact absurd kb kq
    · have kP := hpk.trans ka
      have kQ := hqk.trans kb
      have bx : behX P Q = [] := if_neg (by omega)
      have byy : behY P Q = [Q] := (if_pos kP).trans (if_neg (by omega))
      rw [acts1_k kP n1, acts1_c kQ n2, turn_kcs] at hI
      rw [acts1_k kP n1, acts1_c kQ n2, (need_keeps _ _).1, (need_cuts _).1] at hN
      rw [bx, byy, List.append_nil]
      refine ⟨r1, r2, ?_, by omega, I.okx, ok_snoc I.oky e2, by omega, by simp; omega⟩
      rw [hI, acts_app, acts_one, acts1_c kQ n2, List.append_assoc]
  · exact absurd ka k
  · rcases kb with kb | kb | kb
    · have kP := hpk.trans ka
      have kQ := hqk.trans kb
      have bx : behX P Q = [P] := if_pos kQ
      have byy : behY P Q = [] := if_neg (by omega)
      rw [acts1_c kP n1, acts1_k kQ n2, turn_cks] at hI
      rw [acts1_c kP n1, acts1_k kQ n2, (need_cuts _).1, (need_keeps _ _).1] at hN
      rw [bx, byy, List.append_nil]
      refine ⟨r1, r2, ?_, by omega, ok_snoc I.okx e1, I.oky, by simp; omega, by omega⟩
      rw [hI, acts_app, acts_one, acts1_c kP n1, List.append_assoc]
    · exact absurd kb kq
    · have kP := hpk.trans ka
      have kQ := hqk.trans kb
      have bx : behX P Q = [] := if_neg (by omega)
      have byy : behY P Q = [] := if_neg (by omega)
      rw [acts1_c kP n1, acts1_c kQ n2, turn_ccs] at hI
      rw [acts1_c kP n1, acts1_c kQ n2, (need_cuts _).1] at hN
      rw [bx, byy, List.append_nil, List.append_nil]
      exact ⟨r1, r2, hI, by omega, I.okx, I.oky, by omega, by omega⟩
/-- Two that are joined. -/
structure JoinI (a b ps : List Pt) (g : Nat) (qs : List Pt) (h : Nat) (x : List Pt) : Prop where
  rp : Rv ps g
  rq : Rv qs h
  eq : join (acts a) (acts b) = acts x ++ join (ra ps g) (ra qs h)
  need : leave (ra ps g) = Ac.need (ra qs h)
  okx : ∀ p ∈ x, err1 p = 0
  lx : x.length + ps.length + qs.length ≤ a.length + b.length
theorem JoinI.start {a b : List Pt} (ha : Right a) (hb : Right b) (hn : lv a = nd b) : JoinI a b a 0 b 0 [] := by
  refine ⟨ha.rv, hb.rv, ?_, ?_, fun p hp => absurd hp (by simp), by simp⟩
  · unfold ra
    rw [List.drop_zero, List.drop_zero, acts_nil, List.nil_append]
  · unfold ra
    rw [List.drop_zero, List.drop_zero, (need_acts (kinds_of ha.ok)).2, (need_acts (kinds_of hb.ok)).1, hn]
theorem JoinI.left {a b ps : List Pt} {g : Nat} {qs : List Pt} {h : Nat} {x : List Pt} (I : JoinI a b ps g qs h x) : ps = [] ↔ qs = [] := by
  constructor
  · intro e
    cases hq : qs with
    | nil => rfl
    | cons q u =>
      have h1 := (I.rq.some (by rw [hq]; simp)).1
      have h2 := I.need
      rw [e, I.rp.nil e] at h2
      rw [← h2] at h1
      exact absurd h1 (by decide)
  · intro e
    cases hq : ps with
    | nil => rfl
    | cons q u =>
      have h1 := (I.rp.some (by rw [hq]; simp)).2
      have h2 := I.need
      rw [e, I.rq.nil e] at h2
      rw [h2] at h1
      exact absurd h1 (by decide)
theorem JoinI.done {a b : List Pt} {g : Nat} {qs : List Pt} {h : Nat} {x : List Pt} (I : JoinI a b [] g qs h x) : join (acts a) (acts b) = acts x := by
  have e := I.left.1 rfl
  have h1 := I.eq
  subst e
  rw [I.rp.nil rfl, I.rq.nil rfl] at h1
  rw [h1]
  show acts x ++ [] = _
  rw [List.append_nil]
theorem JoinI.cutA {a b : List Pt} {p : Pt} {t : List Pt} {g : Nat} {qs : List Pt} {h : Nat} {x : List Pt} (I : JoinI a b (p :: t) g qs h x) (k : p.kind = 3) :
    JoinI a b t 0 qs h (x ++ [piece p g (lg p - g)]) := by
  have hg := I.rp.lt p t rfl
  have hpe := I.rp.ok p (List.mem_cons_self ..)
  have hle : g + (lg p - g) ≤ lg p := by omega
  have hE : g + (lg p - g) = lg p := by omega
  have hs := ra_split p t g (lg p - g) hle
  have hk3 : (piece p g (lg p - g)).kind = 3 := (piece_kind ..).trans k
  have hn3 : (piece p g (lg p - g)).n = ((lg p - g : Nat) : Int) := piece_n (by omega) g _
  rw [nxtP_end hE, nxtG_end hE, acts1_c hk3 hn3] at hs
  have hI := I.eq
  have hn := I.need
  rw [hs, join_cuts] at hI
  rw [hs, leave_app, (need_cuts _).2, Nat.zero_add] at hn
  have hr := I.rp.nxt hle
  rw [nxtP_end hE, nxtG_end hE] at hr
  have l1 := I.lx
  rw [List.length_cons] at l1
  refine ⟨hr, I.rq, ?_, hn, ok_snoc I.okx (piece_err hpe (by omega) hle), by simp; omega⟩
  rw [hI, acts_app, acts_one, acts1_c hk3 hn3, List.append_assoc]
theorem ra_nocut {p : Pt} {t : List Pt} {g : Nat} (h : Rv (p :: t) g) (k : ¬ p.kind = 3) : ∀ a', ra (p :: t) g ≠ .cut :: a' := by
  have hg := h.lt p t rfl
  have hs := ra_split p t g 1 (by omega)
  rw [hs]
  rcases kind_of (h.ok p (List.mem_cons_self ..)) with k1 | k1 | k1
  · rw [acts1_k ((piece_kind ..).trans k1) (piece_n (by omega) g 1)]
    intro a' e
    cases e
  · have hil := piece_items k1 (g := g) (n := 1) (by omega)
    rw [acts1_p ((piece_kind ..).trans k1)]
    obtain ⟨z, hz⟩ := List.length_eq_one_iff.1 hil
    rw [hz]
    intro a' e
    cases e
  · exact absurd k1 k
theorem JoinI.putB {a b : List Pt} {p : Pt} {t : List Pt} {g : Nat} {q : Pt} {u : List Pt} {h : Nat} {x : List Pt} (I : JoinI a b (p :: t) g (q :: u) h x) (k : ¬ p.kind = 3) (kq : q.kind = 2) :
    JoinI a b (p :: t) g u 0 (x ++ [piece q h (lg q - h)]) := by
  have hg := I.rq.lt q u rfl
  have hqe := I.rq.ok q (List.mem_cons_self ..)
  have hle : h + (lg q - h) ≤ lg q := by omega
  have hE : h + (lg q - h) = lg q := by omega
  have hs := ra_split q u h (lg q - h) hle
  have hk2 : (piece q h (lg q - h)).kind = 2 := (piece_kind ..).trans kq
  rw [nxtP_end hE, nxtG_end hE, acts1_p hk2] at hs
  have hI := I.eq
  have hn := I.need
  rw [hs, join_puts_r _ _ (ra_nocut I.rp k)] at hI
  rw [hs, need_app, (need_puts _).1, Nat.zero_add] at hn
  have hr := I.rq.nxt hle
  rw [nxtP_end hE, nxtG_end hE] at hr
  have l1 := I.lx
  simp only [List.length_cons] at l1
  refine ⟨I.rp, hr, ?_, hn, ok_snoc I.okx (piece_err hqe (by omega) hle), by simp; omega⟩
  rw [hI, acts_app, acts_one, acts1_p hk2, List.append_assoc]
/-- What does the same as two parts, the other one for what the first one leaves. -/
def oneX (p q : Pt) : List Pt := if q.kind = 1 then (if p.kind = 1 then [oneP p q] else [putP (p.items.map fun x => change x (chOf q))]) else if p.kind = 1 then [q] else []
theorem JoinI.both {a b : List Pt} {p : Pt} {t : List Pt} {g : Nat} {q : Pt} {u : List Pt} {h : Nat} {x : List Pt} (I : JoinI a b (p :: t) g (q :: u) h x) (k : ¬ p.kind = 3) (kq : ¬ q.kind = 2) {n : Nat} (hn : n = min (lg p - g) (lg q - h)) :
    JoinI a b (nxtP p t g n) (nxtG p g n) (nxtP q u h n) (nxtG q h n) (x ++ oneX (piece p g n) (piece q h n)) := by
  have hg := I.rp.lt p t rfl
  have hh := I.rq.lt q u rfl
  have hpe := I.rp.ok p (List.mem_cons_self ..)
  have hqe := I.rq.ok q (List.mem_cons_self ..)
  have hl1 : g + n ≤ lg p := by omega
  have hl2 : h + n ≤ lg q := by omega
  have hE : g + n = lg p ∨ h + n = lg q := by omega
  have h1n : 1 ≤ n := by omega
  have e1 := piece_err hpe h1n hl1
  have e2 := piece_err hqe h1n hl2
  have hs1 := ra_split p t g n hl1
  have hs2 := ra_split q u h n hl2
  have n1 : ¬ p.kind = 2 → (piece p g n).n = n := fun k => piece_n k g n
  have n2 : (piece q h n).n = n := piece_n kq h n
  have m1 : p.kind = 2 → (piece p g n).items.length = n := fun k => piece_items k hl1
  have hI := I.eq
  have hN := I.need
  rw [hs1, hs2] at hI
  rw [hs1, hs2, need_app, leave_app] at hN
  have l1 := I.lx
  simp only [List.length_cons] at l1
  have hless := nxt_less (t := t) (u := u) hE
  have r1 := I.rp.nxt hl1
  have r2 := I.rq.nxt hl2
  have hpk : (piece p g n).kind = p.kind := piece_kind ..
  have hqk : (piece q h n).kind = q.kind := piece_kind ..
  generalize piece p g n = P at *
  generalize piece q h n = Q at *
  have ka := kind_of e1
  have kb := kind_of e2
  rw [hpk] at ka
  rw [hqk] at kb
  rcases ka with ka | ka | ka
  · have kP := hpk.trans ka
    have n1 := n1 (by omega)
    rcases kb with kb | kb | kb
    · have kQ := hqk.trans kb
      have bx : oneX P Q = [oneP P Q] := (if_pos kQ).trans (if_pos kP)
      rw [acts1_k kP n1, acts1_k kQ n2, join_kks] at hI
      rw [acts1_k kP n1, acts1_k kQ n2, (need_keeps _ _).2, (need_keeps _ _).1] at hN
      rw [bx]
      refine ⟨r1, r2, ?_, by omega, ok_snoc I.okx (one_err e1 kP e2 kQ), by simp; omega⟩
      rw [hI, acts_app, acts_one, acts1_k (p := oneP P Q) kP (n := n) n1, one_ch, List.append_assoc]
    · exact absurd kb kq
    · have kQ := hqk.trans kb
      have bx : oneX P Q = [Q] := (if_neg (by omega)).trans (if_pos kP)
      rw [acts1_k kP n1, acts1_c kQ n2, join_kcs] at hI
      rw [acts1_k kP n1, acts1_c kQ n2, (need_keeps _ _).2, (need_cuts _).1] at hN
      rw [bx]
      refine ⟨r1, r2, ?_, by omega, ok_snoc I.okx e2, by simp; omega⟩
      rw [hI, acts_app, acts_one, acts1_c kQ n2, List.append_assoc]
  · have kP := hpk.trans ka
    have m1 := m1 ka
    rcases kb with kb | kb | kb
    · have kQ := hqk.trans kb
      have bx : oneX P Q = [putP (P.items.map fun x => change x (chOf Q))] := (if_pos kQ).trans (if_neg (by omega))
      have hj := join_pks (chOf Q) (ra (nxtP p t g n) (nxtG p g n)) (ra (nxtP q u h n) (nxtG q h n)) P.items
      rw [m1] at hj
      rw [acts1_p kP, acts1_k kQ n2, hj] at hI
      rw [acts1_p kP, acts1_k kQ n2, (need_puts _).2, (need_keeps _ _).1, m1] at hN
      rw [bx]
      refine ⟨r1, r2, ?_, by omega, ok_snoc I.okx (changed_err e1 kP e2 kQ), by simp; omega⟩
      rw [hI, acts_app, acts_one, acts1_put, List.append_assoc]
    · exact absurd kb kq
    · have kQ := hqk.trans kb
      have bx : oneX P Q = [] := (if_neg (by omega)).trans (if_neg (by omega))
      have hj := join_pcs (ra (nxtP p t g n) (nxtG p g n)) (ra (nxtP q u h n) (nxtG q h n)) P.items
      rw [m1] at hj
      rw [acts1_p kP, acts1_c kQ n2, hj] at hI
      rw [acts1_p kP, acts1_c kQ n2, (need_puts _).2, (need_cuts _).1, m1] at hN
      rw [bx, List.append_nil]
      exact ⟨r1, r2, hI, by omega, I.okx, by omega⟩
  · exact absurd ka k
end Ac
end Go.Proofs.YtlhkomiiockaoaaDoor
