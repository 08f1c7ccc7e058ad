/-
  Chapter 10, on lists: a client stays one, whatever it does, or hears.
-/
import Derived.Test.YtbhcklkbckacpaaDoorYa
namespace Go.Proofs.YtbhcklkbckacpaaDoor
namespace Kl
theorem chk_pos {o : List Ac.Pt} (h : Ac.chk o = 0) : 0 < o.length := by
  cases o with
  | nil => exact absurd h (by decide)
  | cons a l => simp
theorem fit_pos {d : List It} {o : List Ac.Pt} (h : Ac.fitE d o = 0) : 0 < o.length := chk_pos (Ac.chk_right.2 (Ac.fit_0 h).2.1)
theorem trn_pos {a b : List Ac.Pt} (h : Ac.trnE a b = 0) : 0 < (Ac.trnX a b).length ∧ 0 < (Ac.trnY a b).length := by
  obtain ⟨e1, e2⟩ := Ac.trn_is h
  have h2 : Ac.fst2 (Ac.tx a b) (Ac.ty a b) = 0 := by
    unfold Ac.trnE at h
    by_cases g : Ac.fst2 a b = 0
    · rw [if_pos g] at h
      by_cases g2 : Ac.nd a = Ac.nd b
      · rw [if_pos g2] at h; exact h
      · rw [if_neg g2] at h; cases h
    · rw [if_neg g] at h; exact absurd h g
  obtain ⟨r1, r2⟩ := Ac.fst2_right h2
  rw [e1, e2]
  exact ⟨chk_pos (Ac.chk_right.2 r1), chk_pos (Ac.chk_right.2 r2)⟩
theorem op_none {d : List It} {o : List Ac.Pt} (h : o.length = 0) : opE d o = 0 ∧ opD d o = d := ⟨if_pos h, if_pos h⟩
theorem op_some {d : List It} {o : List Ac.Pt} (h : 0 < o.length) : opE d o = Ac.fitE d o ∧ opD d o = Ac.done d o := ⟨if_neg (by omega), if_neg (by omega)⟩
theorem op_check {d : List It} {o : List Ac.Pt} (hc : Dc.check d = 0) (h : opE d o = 0) : Dc.check (opD d o) = 0 := by
  by_cases h0 : o.length = 0
  · rw [(op_none h0).2]; exact hc
  · rw [(op_some (by omega)).1] at h
    rw [(op_some (by omega)).2]
    exact (Ac.done_is h).2.1
theorem dn_0 {d : List It} {s h : List Ac.Pt} (e : dnE d s h = 0) : opE d s = 0 ∧ opE (opD d s) h = 0 := by
  unfold dnE at e
  by_cases g : opE d s = 0
  · rw [if_pos g] at e; exact ⟨g, e⟩
  · rw [if_neg g] at e; exact absurd e g
theorem dn_of {d : List It} {s h : List Ac.Pt} (e1 : opE d s = 0) (e2 : opE (opD d s) h = 0) : dnE d s h = 0 := by
  unfold dnE
  rw [if_pos e1, e2]
/-- A right client. -/
structure Rc (c : Cl) : Prop where
  lo : 0 ≤ c.rev
  hi : c.rev ≤ 60
  qlo : 0 ≤ c.seq
  qhi : c.seq ≤ 10000
  ck : Dc.check c.base = 0
  hs : 0 < c.held.length → 0 < c.sent.length
  sq : 0 < c.sent.length → c.seq ≠ 0
  e1 : opE c.base c.sent = 0
  e2 : opE (opD c.base c.sent) c.held = 0
  nw : c.now = opD (opD c.base c.sent) c.held
theorem cli_0 {c : Cl} (h : cliE c = 0) : Rc c := by
  unfold cliE at h
  by_cases g1 : c.rev < 0 ∨ 60 < c.rev ∨ c.seq < 0 ∨ 10000 < c.seq
  · rw [if_pos g1] at h; cases h
  rw [if_neg g1] at h
  by_cases g2 : Dc.check c.base = 0
  · rw [if_pos g2] at h
    by_cases g3 : (0 < c.held.length ∧ c.sent.length = 0) ∨ (0 < c.sent.length ∧ c.seq = 0)
    · rw [if_pos g3] at h; cases h
    rw [if_neg g3] at h
    by_cases g4 : dnE c.base c.sent c.held = 0
    · rw [if_pos g4] at h
      by_cases g5 : Dc.same c.now (dnD c.base c.sent c.held) = true
      · obtain ⟨e1, e2⟩ := dn_0 g4
        exact ⟨by omega, by omega, by omega, by omega, g2, by omega, by omega, e1, e2, (its_same _ _).1 g5⟩
      · rw [if_neg g5] at h; cases h
    · rw [if_neg g4] at h; exact absurd h g4
  · rw [if_neg g2] at h; exact absurd h g2
theorem Rc.e0 {c : Cl} (h : Rc c) : cliE c = 0 := by
  unfold cliE
  have := h.lo
  have := h.hi
  have := h.qlo
  have := h.qhi
  rw [if_neg (by omega), if_pos h.ck, if_neg (by have := h.hs; have := h.sq; omega), if_pos (dn_of h.e1 h.e2)]
  exact if_pos ((its_same _ _).2 h.nw)
theorem Rc.now_ck {c : Cl} (h : Rc c) : Dc.check c.now = 0 := by
  rw [h.nw]
  exact op_check (op_check h.ck h.e1) h.e2
theorem Rc.held_none {c : Cl} (h : Rc c) (hs : c.sent.length = 0) : c.held.length = 0 := by
  have := h.hs
  omega
theorem len0 {α : Type} {l : List α} (h : l.length = 0) : l = [] := List.length_eq_zero_iff.1 h
/-- What a client does. -/
theorem do_rc {c : Cl} {o : List Ac.Pt} (h : Rc c) (hd : doE c o = 0) : Rc (doC c o) ∧ Ac.fitE c.now o = 0 ∧ (doC c o).now = Ac.done c.now o ∧ (doC c o).base = c.base ∧ (doC c o).rev = c.rev ∧ (doC c o).jo = c.jo := by
  unfold doE at hd
  by_cases g1 : Ac.fitE c.now o = 0
  · rw [if_pos g1] at hd
    have hp := fit_pos g1
    by_cases g2 : c.sent.length = 0
    · rw [if_pos g2] at hd
      have e : doC c o = ⟨c.rev, c.base, Ac.done c.now o, c.seq + 1, o, c.held, c.jo⟩ := if_pos g2
      have hh := h.held_none g2
      have hn : c.now = c.base := by rw [h.nw, (op_none g2).2, (op_none hh).2]
      rw [hn] at g1
      by_cases g3 : c.seq = 10000
      · rw [if_pos g3] at hd; cases hd
      rw [e]
      have q1 := h.qlo
      have q2 := h.qhi
      refine ⟨⟨h.lo, h.hi, by show 0 ≤ c.seq + 1; omega, by show c.seq + 1 ≤ 10000; omega, h.ck, fun hx => absurd hx (by show ¬ 0 < c.held.length; omega), fun _ => by show c.seq + 1 ≠ 0; omega, (op_some hp).1.trans g1, (op_none hh).1, ?_⟩, by rw [hn]; exact g1, rfl, rfl, rfl, rfl⟩
      show Ac.done c.now o = opD (opD c.base o) c.held
      rw [(op_none hh).2, (op_some hp).2, hn]
    · rw [if_neg g2] at hd
      by_cases g3 : c.held.length = 0
      · have e : doC c o = ⟨c.rev, c.base, Ac.done c.now o, c.seq, c.sent, o, c.jo⟩ := by unfold doC; rw [if_neg g2, if_pos g3]
        have hn : c.now = opD c.base c.sent := by rw [h.nw, (op_none g3).2]
        rw [e]
        refine ⟨⟨h.lo, h.hi, h.qlo, h.qhi, h.ck, fun _ => by show 0 < c.sent.length; omega, h.sq, h.e1, ?_, ?_⟩, g1, rfl, rfl, rfl, rfl⟩
        · show opE (opD c.base c.sent) o = 0
          rw [(op_some hp).1, ← hn]; exact g1
        · show Ac.done c.now o = opD (opD c.base c.sent) o
          rw [(op_some hp).2, ← hn]
      · rw [if_neg g3] at hd
        have e : doC c o = ⟨c.rev, c.base, Ac.done c.now o, c.seq, c.sent, Ac.jonX c.held o, c.jo⟩ := by unfold doC; rw [if_neg g2, if_neg g3]
        have hh : 0 < c.held.length := by omega
        have f1 : Ac.fitE (opD c.base c.sent) c.held = 0 := by have := h.e2; rw [(op_some hh).1] at this; exact this
        have hn : c.now = Ac.done (opD c.base c.sent) c.held := by rw [h.nw, (op_some hh).2]
        rw [hn] at g1
        obtain ⟨j1, j2, j3⟩ := Ac.joins_same f1 g1 hd
        have jp := fit_pos j1
        rw [e]
        refine ⟨⟨h.lo, h.hi, h.qlo, h.qhi, h.ck, fun _ => by show 0 < c.sent.length; omega, h.sq, h.e1, ?_, ?_⟩, by rw [hn]; exact g1, rfl, rfl, rfl, rfl⟩
        · show opE (opD c.base c.sent) (Ac.jonX c.held o) = 0
          rw [(op_some jp).1]; exact j1
        · show Ac.done c.now o = opD (opD c.base c.sent) (Ac.jonX c.held o)
          rw [(op_some jp).2, j2, hn]
  · rw [if_neg g1] at hd; exact absurd hd g1
theorem do_sent {c : Cl} {o : List Ac.Pt} (h : doE c o = 0) : 0 < (doC c o).sent.length ∧ (0 < c.sent.length → (doC c o).sent = c.sent ∧ (doC c o).seq = c.seq ∧ 0 < (doC c o).held.length) := by
  unfold doE at h
  by_cases g1 : Ac.fitE c.now o = 0
  · rw [if_pos g1] at h
    have hp := fit_pos g1
    by_cases g2 : c.sent.length = 0
    · have e : doC c o = ⟨c.rev, c.base, Ac.done c.now o, c.seq + 1, o, c.held, c.jo⟩ := if_pos g2
      rw [e]
      exact ⟨hp, fun hx => absurd hx (by omega)⟩
    · rw [if_neg g2] at h
      by_cases g3 : c.held.length = 0
      · have e : doC c o = ⟨c.rev, c.base, Ac.done c.now o, c.seq, c.sent, o, c.jo⟩ := by unfold doC; rw [if_neg g2, if_pos g3]
        rw [e]
        exact ⟨by show 0 < c.sent.length; omega, fun _ => ⟨rfl, rfl, hp⟩⟩
      · rw [if_neg g3] at h
        have e : doC c o = ⟨c.rev, c.base, Ac.done c.now o, c.seq, c.sent, Ac.jonX c.held o, c.jo⟩ := by unfold doC; rw [if_neg g2, if_neg g3]
        rw [e]
        refine ⟨by show 0 < c.sent.length; omega, fun _ => ⟨rfl, rfl, ?_⟩⟩
        show 0 < (Ac.jonX c.held o).length
        have hj : Ac.chk (Ac.jx c.held o) = 0 := by
          unfold Ac.jonE at h
          by_cases k1 : Ac.fst2 c.held o = 0
          · rw [if_pos k1] at h
            by_cases k2 : Ac.lv c.held = Ac.nd o
            · rw [if_pos k2] at h; exact h
            · rw [if_neg k2] at h; cases h
          · rw [if_neg k1] at h; exact absurd h k1
        rw [Ac.jon_is h]
        exact chk_pos hj
  · rw [if_neg g1] at h; exact absurd h g1
theorem gv_rc {c : Cl} (h1 : 0 ≤ c.rev) (h2 : c.rev ≤ 60) (h3 : 0 ≤ c.seq) (h4 : c.seq ≤ 10000) (h5 : Dc.check c.base = 0) : Rc (gv c) :=
  ⟨h1, h2, h3, h4, h5, fun h => h, fun h => absurd h (by show ¬ 0 < ([] : List Ac.Pt).length; simp), rfl, rfl, rfl⟩
theorem adv_gv {c : Cl} {o : List Ac.Pt} (h : Rc c) (h60 : c.rev ≠ 60) (hf : Ac.fitE c.base o = 0) : Rc (gv (adv c o)) := by
  have := h.lo
  have := h.hi
  exact gv_rc (by show 0 ≤ c.rev + 1; omega) (by show c.rev + 1 ≤ 60; omega) h.qlo h.qhi (Ac.done_is hf).2.1
/-- Everything that ClientKeeps asks of what is heard. -/
structure Hk (c y : Cl) (o : List Ac.Pt) (s : Bool) : Prop where
  rc : Rc y
  lo : c.rev ≤ y.rev
  hi : y.rev ≤ c.rev + 1
  sent : s = true → 0 < y.sent.length ∧ y.seq = c.seq + 1
  jo : y.jo = c.jo
  old : y.rev = c.rev → y.base = c.base
  new : y.rev ≠ c.rev → Ac.fitE c.base o = 0 ∧ y.base = Ac.done c.base o
theorem own_hk {c : Cl} {o : List Ac.Pt} (h : Rc c) (h60 : c.rev ≠ 60) (hf : Ac.fitE c.base o = 0) : Hk c (ownC c o) o (canB c o) := by
  have l1 := h.lo
  have l2 := h.hi
  have q1 := h.qlo
  have q2 := h.qhi
  unfold ownC
  cases hb : canB c o
  · rw [if_neg Bool.false_ne_true]
    exact ⟨adv_gv h h60 hf, by show c.rev ≤ c.rev + 1; omega, Int.le_refl _, (fun e => by cases e), rfl, fun e => absurd e (by show ¬ c.rev + 1 = c.rev; omega), fun _ => ⟨hf, rfl⟩⟩
  · rw [if_pos rfl]
    unfold canB at hb
    simp only [Bool.and_eq_true, decide_eq_true_eq, Bool.not_eq_true', decide_eq_false_iff_not] at hb
    obtain ⟨b1, b2, b3⟩ := hb
    refine ⟨⟨by show 0 ≤ c.rev + 1; omega, by show c.rev + 1 ≤ 60; omega, by show 0 ≤ c.seq + 1; omega, by show c.seq + 1 ≤ 10000; omega, (Ac.done_is hf).2.1, fun hx => absurd hx (by show ¬ 0 < ([] : List Ac.Pt).length; simp), fun _ => by show c.seq + 1 ≠ 0; omega, ?_, rfl, ?_⟩, by show c.rev ≤ c.rev + 1; omega, Int.le_refl _, fun _ => ⟨b1, rfl⟩, rfl, fun e => absurd e (by show ¬ c.rev + 1 = c.rev; omega), fun _ => ⟨hf, rfl⟩⟩
    · show opE (Ac.done c.base o) c.held = 0
      rw [(op_some b1).1]; exact b2
    · show Ac.done (Ac.done c.base o) c.held = opD (opD (Ac.done c.base o) c.held) []
      rw [(op_some b1).2]; rfl
theorem t_pos {o s : List Ac.Pt} (h : tE o s = 0) : (tY o s).length = 0 ↔ s.length = 0 := by
  unfold tE at h
  unfold tY
  by_cases g : s.length = 0
  · rw [if_pos g]
  · rw [if_neg g] at h ⊢
    have := (trn_pos h).2
    omega
theorem bh_0 {o s h : List Ac.Pt} (e : bhE o s h = 0) : tE o s = 0 ∧ tE (tX o s) h = 0 := by
  unfold bhE at e
  by_cases g : tE o s = 0
  · rw [if_pos g] at e; exact ⟨g, e⟩
  · rw [if_neg g] at e; exact absurd e g
/-- A client that heard another one's operation, and gave nothing up. -/
structure Ot2 (c : Cl) (o : List Ac.Pt) : Prop where
  fit : Ac.fitE c.base o = 0
  b1 : tE o c.sent = 0
  b2 : tE (tX o c.sent) c.held = 0
  d1 : opE (Ac.done c.base o) (tY o c.sent) = 0
  d2 : opE (opD (Ac.done c.base o) (tY o c.sent)) (bhH o c.sent c.held) = 0
  is : othC c o = ⟨c.rev + 1, Ac.done c.base o, dnD (Ac.done c.base o) (tY o c.sent) (bhH o c.sent c.held), c.seq, tY o c.sent, bhH o c.sent c.held, c.jo⟩
theorem oth_cases (c : Cl) (o : List Ac.Pt) : (¬ Ac.fitE c.base o = 0 ∧ othC c o = c) ∨ (Ac.fitE c.base o = 0 ∧ othC c o = gv (adv c o)) ∨ Ot2 c o := by
  by_cases g1 : Ac.fitE c.base o = 0
  · by_cases g2 : bhE o c.sent c.held = 0
    · by_cases g3 : dnE (Ac.done c.base o) (tY o c.sent) (bhH o c.sent c.held) = 0
      · obtain ⟨x1, x2⟩ := bh_0 g2
        obtain ⟨y1, y2⟩ := dn_0 g3
        exact .inr (.inr ⟨g1, x1, x2, y1, y2, by unfold othC; rw [if_pos g1, if_pos g2, if_pos g3]⟩)
      · exact .inr (.inl ⟨g1, by unfold othC; rw [if_pos g1, if_pos g2, if_neg g3]⟩)
    · exact .inr (.inl ⟨g1, by unfold othC; rw [if_pos g1, if_neg g2]⟩)
  · exact .inl ⟨g1, if_neg g1⟩
theorem oth_hk {c : Cl} {o : List Ac.Pt} (h : Rc c) (h60 : c.rev ≠ 60) : Hk c (othC c o) o false := by
  have l1 := h.lo
  have l2 := h.hi
  rcases oth_cases c o with ⟨g1, e⟩ | ⟨g1, e⟩ | g
  · rw [e]
    exact ⟨h, Int.le_refl _, by omega, (fun e => by cases e), rfl, fun _ => rfl, fun e => absurd rfl e⟩
  · rw [e]
    exact ⟨adv_gv h h60 g1, by show c.rev ≤ c.rev + 1; omega, Int.le_refl _, (fun e => by cases e), rfl, fun e => absurd e (by show ¬ c.rev + 1 = c.rev; omega), fun _ => ⟨g1, rfl⟩⟩
  · rw [g.is]
    refine ⟨⟨by show 0 ≤ c.rev + 1; omega, by show c.rev + 1 ≤ 60; omega, h.qlo, h.qhi, (Ac.done_is g.fit).2.1, fun hx => ?_, fun hx => ?_, g.d1, g.d2, rfl⟩, by show c.rev ≤ c.rev + 1; omega, Int.le_refl _, fun e => (by cases e), rfl, fun e => absurd e (by show ¬ c.rev + 1 = c.rev; omega), fun _ => ⟨g.fit, rfl⟩⟩
    · have i1 := t_pos g.b1
      have i2 := t_pos g.b2
      have i3 := h.hs
      have hx2 : 0 < (tY (tX o c.sent) c.held).length := hx
      show 0 < (tY o c.sent).length
      omega
    · have i1 := t_pos g.b1
      have i3 := h.sq
      have hx2 : 0 < (tY o c.sent).length := hx
      exact i3 (by omega)
theorem same_hk {c : Cl} (h : Rc c) (o : List Ac.Pt) : Hk c c o false := ⟨h, Int.le_refl _, by have := h.lo; omega, (fun e => by cases e), rfl, fun _ => rfl, fun e => absurd rfl e⟩
theorem hear_hk {c : Cl} {who rev : Int} {x : Sv.En} (h : Rc c) (he : heE c who rev x = 0) : Hk c (heC c who rev x) x.o (heS c who rev x) := by
  unfold heE at he
  unfold heC heS
  by_cases g1 : x.o.length = 0
  · rw [if_pos g1, if_pos g1]
    by_cases g2 : isOwn c who x = true
    · rw [if_pos g2]
      exact ⟨gv_rc h.lo h.hi h.qlo h.qhi h.ck, Int.le_refl _, by show c.rev ≤ c.rev + 1; omega, (fun e => by cases e), rfl, fun _ => rfl, fun e => absurd rfl e⟩
    · rw [if_neg g2]
      exact same_hk h _
  · rw [if_neg g1] at he ⊢
    rw [if_neg g1]
    by_cases g2 : Ac.chk x.o = 0
    · rw [if_pos g2] at he
      by_cases g3 : rev ≠ c.rev + 1 ∨ c.rev = 60
      · rw [if_pos g3, if_pos g3]
        exact same_hk h _
      · rw [if_neg g3] at he ⊢
        rw [if_neg g3]
        have h60 : c.rev ≠ 60 := fun e => g3 (.inr e)
        by_cases g4 : isOwn c who x = true
        · rw [if_pos g4] at he ⊢
          rw [if_pos g4]
          exact own_hk h h60 he
        · rw [if_neg g4, if_neg g4]
          exact oth_hk h h60
    · rw [if_neg g2] at he; exact absurd he g2
/-- What ClientMeets asks, one operation of the client's at a time: what O becomes, what is made. -/
theorem meet_step {d : List It} {o s : List Ac.Pt} (hf : Ac.fitE d o = 0) (hs : opE d s = 0) (ht : tE o s = 0) (h2 : opE (Ac.done d o) (tY o s) = 0) : Ac.fitE (opD d s) (tX o s) = 0 ∧ Ac.done (opD d s) (tX o s) = opD (Ac.done d o) (tY o s) := by
  by_cases g : s.length = 0
  · have e1 : tX o s = o := if_pos g
    have e2 : tY o s = s := if_pos g
    rw [e1, e2, (op_none g).2, (op_none g).2]
    exact ⟨hf, rfl⟩
  · have e1 : tX o s = Ac.trnX o s := if_neg g
    have e2 : tY o s = Ac.trnY o s := if_neg g
    have e3 : tE o s = Ac.trnE o s := if_neg g
    rw [e3] at ht
    have hp := (trn_pos ht).2
    rw [(op_some (by omega)).1] at hs
    rw [e2, (op_some hp).1] at h2
    rw [e1, e2, (op_some (show 0 < s.length by omega)).2, (op_some hp).2]
    obtain ⟨m1, m2, m3⟩ := Ac.meets_same hf hs ht
    exact ⟨m1.symm.trans h2, m3.symm⟩
theorem meets_all {c : Cl} {o : List Ac.Pt} (h : Rc c) (g : Ot2 c o) : Ac.fitE c.now (tX (tX o c.sent) c.held) = 0 ∧ Ac.done c.now (tX (tX o c.sent) c.held) = (othC c o).now := by
  obtain ⟨a1, a2⟩ := meet_step g.fit h.e1 g.b1 g.d1
  have h2 := g.d2
  rw [← a2] at h2
  obtain ⟨b1, b2⟩ := meet_step a1 h.e2 g.b2 h2
  rw [h.nw, g.is]
  refine ⟨b1, b2.trans ?_⟩
  show _ = opD (opD _ _) _
  rw [a2]
  rfl
theorem same_self (c : Cl) : same c c = true := by simp [same, Sv.its_self, Ac.sameO_self]
end Kl
end Go.Proofs.YtbhcklkbckacpaaDoor
