/-
  Chapter 9, on lists: a server that takes something stays one; what it takes is what it was, turned behind all since.
-/
import Derived.Test.YtaigleblmbblcaaGreatDoorVa
import Derived.Test.YtaigleblmbblcaaGreatDoorPi
namespace Go.Proofs.YtaigleblmbblcaaGreatDoor
namespace Sv
theorem foldE_app : ∀ (l : List En) (d : List It) (m : List En), foldE d (l ++ m) = if foldE d l = 0 then foldE (foldD d l) m else foldE d l
  | [], d, m => by
    show foldE d m = if (0 : Int) = 0 then foldE d m else 0
    rw [if_pos rfl]
  | x :: l, d, m => by
    show (if Ac.fitE d x.o = 0 then foldE (Ac.done d x.o) (l ++ m) else Ac.fitE d x.o) = if (if Ac.fitE d x.o = 0 then foldE (Ac.done d x.o) l else Ac.fitE d x.o) = 0 then foldE (if Ac.fitE d x.o = 0 then foldD (Ac.done d x.o) l else Ac.done d x.o) m else (if Ac.fitE d x.o = 0 then foldE (Ac.done d x.o) l else Ac.fitE d x.o)
    by_cases h : Ac.fitE d x.o = 0
    · simp only [if_pos h]
      exact foldE_app l _ m
    · simp only [if_neg h]
theorem foldD_app : ∀ (l : List En) (d : List It) (m : List En), foldE d l = 0 → foldD d (l ++ m) = foldD (foldD d l) m
  | [], _, _, _ => rfl
  | x :: l, d, m, h => by
    have hx : Ac.fitE d x.o = 0 := by
      by_cases hx : Ac.fitE d x.o = 0
      · exact hx
      · have : foldE d (x :: l) = Ac.fitE d x.o := if_neg hx
        rw [this] at h
        exact absurd h hx
    have h2 : foldE (Ac.done d x.o) l = 0 := by
      have : foldE d (x :: l) = foldE (Ac.done d x.o) l := if_pos hx
      rw [this] at h
      exact h
    show (if Ac.fitE d x.o = 0 then foldD (Ac.done d x.o) (l ++ m) else _) = foldD (if Ac.fitE d x.o = 0 then foldD (Ac.done d x.o) l else _) m
    rw [if_pos hx, if_pos hx]
    exact foldD_app l _ m h2
theorem fold_cons {d : List It} {x : En} {l : List En} (h : foldE d (x :: l) = 0) : Ac.fitE d x.o = 0 ∧ foldE (Ac.done d x.o) l = 0 ∧ foldD d (x :: l) = foldD (Ac.done d x.o) l := by
  have hx : Ac.fitE d x.o = 0 := by
    by_cases hx : Ac.fitE d x.o = 0
    · exact hx
    · have : foldE d (x :: l) = Ac.fitE d x.o := if_neg hx
      rw [this] at h
      exact absurd h hx
  refine ⟨hx, ?_, if_pos hx⟩
  have : foldE d (x :: l) = foldE (Ac.done d x.o) l := if_pos hx
  rw [this] at h
  exact h
theorem fold_check : ∀ (l : List En) (d : List It), Dc.check d = 0 → foldE d l = 0 → Dc.check (foldD d l) = 0
  | [], _, h, _ => h
  | x :: l, d, h, he => by
    obtain ⟨h1, h2, h3⟩ := fold_cons he
    rw [h3]
    exact fold_check l _ (Ac.done_is h1).2.1 h2
theorem fold_app_0 {d : List It} {l m : List En} (h : foldE d (l ++ m) = 0) : foldE d l = 0 ∧ foldE (foldD d l) m = 0 ∧ foldD d (l ++ m) = foldD (foldD d l) m := by
  rw [foldE_app] at h
  by_cases h1 : foldE d l = 0
  · rw [if_pos h1] at h
    exact ⟨h1, h, foldD_app l d m h1⟩
  · rw [if_neg h1] at h
    exact absurd h h1
theorem entsE_app : ∀ (l m : List En), entsE (l ++ m) = if entsE l = 0 then entsE m else entsE l
  | [], m => by
    show entsE m = if (0 : Int) = 0 then entsE m else 0
    rw [if_pos rfl]
  | x :: l, m => by
    show (if entE x = 0 then entsE (l ++ m) else entE x) = if (if entE x = 0 then entsE l else entE x) = 0 then entsE m else (if entE x = 0 then entsE l else entE x)
    by_cases h : entE x = 0
    · simp only [if_pos h]
      exact entsE_app l m
    · simp only [if_neg h]
theorem sameE_self (x : En) : sameE x x = true := by simp [sameE, Ac.sameO_self]
theorem sameL_self : ∀ l : List En, sameL l l = true
  | [] => rfl
  | x :: l => by rw [sameL, sameE_self, sameL_self l]; rfl
theorem its_self (l : List It) : Dc.same l l = true := (its_same l l).2 rfl
theorem sameS_self (s : Se) : sameS s s = true := by simp [sameS, sameL_self, its_self]
theorem srv_0 {s : Se} (h : srvE s = 0) : s.log.length ≤ 60 ∧ entsE s.log = 0 ∧ Dc.check s.first = 0 ∧ foldE s.first s.log = 0 ∧ s.now = foldD s.first s.log := by
  unfold srvE at h
  by_cases h1 : 60 < s.log.length
  · rw [if_pos h1] at h; cases h
  rw [if_neg h1] at h
  by_cases h2 : entsE s.log = 0
  · rw [if_pos h2] at h
    by_cases h3 : fldE s.first s.log = 0
    · rw [if_pos h3] at h
      by_cases h4 : Dc.same s.now (fldD s.first s.log) = true
      · have hn := (its_same _ _).1 h4
        unfold fldE at h3
        unfold fldD at hn
        by_cases h5 : Dc.check s.first = 0
        · rw [if_pos h5, if_neg h1] at h3
          rw [if_pos h5, if_neg h1] at hn
          exact ⟨by omega, h2, h5, h3, hn⟩
        · rw [if_neg h5] at h3
          exact absurd h3 h5
      · rw [if_neg h4] at h; cases h
    · rw [if_neg h3] at h
      exact absurd h h3
  · rw [if_neg h2] at h
    exact absurd h h2
theorem fld_of {d : List It} {l : List En} (h1 : l.length ≤ 60) (h2 : Dc.check d = 0) (h3 : foldE d l = 0) : fldE d l = 0 ∧ fldD d l = foldD d l := by
  unfold fldE fldD
  rw [if_pos h2, if_neg (by omega), if_pos h2, if_neg (by omega)]
  exact ⟨h3, rfl⟩
theorem srv_of {s : Se} (h1 : s.log.length ≤ 60) (h2 : entsE s.log = 0) (h3 : Dc.check s.first = 0) (h4 : foldE s.first s.log = 0) (h5 : s.now = foldD s.first s.log) : srvE s = 0 := by
  obtain ⟨f1, f2⟩ := fld_of h1 h3 h4
  unfold srvE
  rw [if_neg (by omega), if_pos h2, if_pos f1, f2, h5, if_pos (its_self _)]
/-- What is known where something is taken that wasn't there. -/
structure New (s : Se) (rev : Int) (x : En) : Prop where
  no : has s x.who x.seq = false
  lo : 0 ≤ rev
  hi : rev ≤ (s.log.length : Int)
  few : s.log.length < 60
  beh : behE (s.log.drop rev.toNat) x.o = 0
  fit : Ac.fitE s.now (behO (s.log.drop rev.toNat) x.o) = 0
theorem take_0 {s : Se} {rev : Int} {x : En} (h : takE s rev x = 0) : srvE s = 0 ∧ entE x = 0 ∧ (has s x.who x.seq = true ∨ New s rev x) := by
  unfold takE at h
  by_cases h1 : srvE s = 0
  · rw [if_pos h1] at h
    by_cases h2 : entE x = 0
    · rw [if_pos h2] at h
      refine ⟨h1, h2, ?_⟩
      by_cases h3 : has s x.who x.seq = true
      · exact .inl h3
      · rw [if_neg h3] at h
        by_cases h4 : rev < 0 ∨ (s.log.length : Int) < rev
        · rw [if_pos h4] at h; cases h
        · rw [if_neg h4] at h
          by_cases h5 : s.log.length = 60
          · rw [if_pos h5] at h; cases h
          · rw [if_neg h5] at h
            by_cases h6 : behE (s.log.drop rev.toNat) x.o = 0
            · rw [if_pos h6] at h
              have := (srv_0 h1).1
              exact .inr ⟨by simpa using h3, by omega, by omega, by omega, h6, h⟩
            · rw [if_neg h6] at h
              exact absurd h h6
    · rw [if_neg h2] at h
      exact absurd h h2
  · rw [if_neg h1] at h
    exact absurd h h1
theorem take_has {s : Se} {rev : Int} {x : En} (h1 : srvE s = 0) (h2 : entE x = 0) (h3 : has s x.who x.seq = true) : takE s rev x = 0 ∧ takS s rev x = s := by
  have h : takE s rev x = 0 := by unfold takE; rw [if_pos h1, if_pos h2, if_pos h3]
  refine ⟨h, ?_⟩
  unfold takS
  rw [if_pos h, if_pos h3]
theorem take_new {s : Se} {rev : Int} {x : En} (h : takE s rev x = 0) (hn : New s rev x) : takS s rev x = ⟨s.first, s.log ++ [⟨x.who, x.seq, behO (s.log.drop rev.toNat) x.o⟩], Ac.done s.now (behO (s.log.drop rev.toNat) x.o)⟩ := by
  unfold takS
  rw [if_pos h, if_neg (by rw [hn.no]; exact Bool.false_ne_true)]
/-- Everything that ServerFolds asks. -/
structure Folds (s t : Se) (rev : Int) (x : En) : Prop where
  srv : srvE t = 0
  lo : s.log.length ≤ t.log.length
  hi : t.log.length ≤ s.log.length + 1
  old : sameL (t.log.take s.log.length) s.log = true
  has : has t x.who x.seq = true
  eq : t.log.length = s.log.length → sameS t s = true
  again : takE t rev x = 0
  same : takS t rev x = t
  fE : fldE t.first t.log = 0
  fD : fldD t.first t.log = t.now
theorem folds {s : Se} {rev : Int} {x : En} (h : takE s rev x = 0) : Folds s (takS s rev x) rev x := by
  obtain ⟨h1, h2, h3⟩ := take_0 h
  obtain ⟨a1, a2, a3, a4, a5⟩ := srv_0 h1
  rcases h3 with h3 | h3
  · obtain ⟨e1, e2⟩ := take_has (rev := rev) h1 h2 h3
    rw [e2]
    obtain ⟨f1, f2⟩ := fld_of a1 a3 a4
    exact ⟨h1, Nat.le_refl _, Nat.le_succ _, by rw [List.take_length]; exact sameL_self _, h3, fun _ => sameS_self _, e1, e2, f1, f2.trans a5.symm⟩
  · rw [take_new h h3]
    obtain ⟨o, ho⟩ : ∃ o, behO (s.log.drop rev.toNat) x.o = o := ⟨_, rfl⟩
    have hf := h3.fit
    rw [ho] at hf ⊢
    obtain ⟨c1, c2, c3, c4⟩ := Ac.fit_0 hf
    have hy : entE ⟨x.who, x.seq, o⟩ = 0 := by
      unfold entE at h2 ⊢
      by_cases g1 : x.who < 0 ∨ 4 ≤ x.who
      · rw [if_pos g1] at h2; cases h2
      · by_cases g2 : x.seq < 1 ∨ 10000 < x.seq
        · rw [if_neg g1, if_pos g2] at h2; cases h2
        · rw [if_neg g1, if_neg g2]
          exact Ac.chk_right.2 c2
    have hlen : (s.log ++ [(⟨x.who, x.seq, o⟩ : En)]).length = s.log.length + 1 := by rw [List.length_append]; rfl
    have hF : foldE s.first (s.log ++ [⟨x.who, x.seq, o⟩]) = 0 ∧ foldD s.first (s.log ++ [⟨x.who, x.seq, o⟩]) = Ac.done s.now o := by
      rw [foldE_app, if_pos a4, foldD_app _ _ _ a4, ← a5]
      show (if Ac.fitE s.now o = 0 then (0 : Int) else _) = 0 ∧ (if Ac.fitE s.now o = 0 then Ac.done s.now o else _) = _
      rw [if_pos hf, if_pos hf]
      exact ⟨rfl, rfl⟩
    have hl60 := h3.few
    have hsrv : srvE ⟨s.first, s.log ++ [⟨x.who, x.seq, o⟩], Ac.done s.now o⟩ = 0 := srv_of (by show (s.log ++ _).length ≤ 60; rw [hlen]; omega) (by
      show entsE (s.log ++ _) = 0
      rw [entsE_app, if_pos a2]
      show (if entE ⟨x.who, x.seq, o⟩ = 0 then (0 : Int) else _) = 0
      rw [if_pos hy]) a3 hF.1 hF.2.symm
    have hhas : has ⟨s.first, s.log ++ [⟨x.who, x.seq, o⟩], Ac.done s.now o⟩ x.who x.seq = true := by
      show (s.log ++ _).any _ = true
      rw [List.any_append]
      simp [isE]
    obtain ⟨e1, e2⟩ := take_has (rev := rev) hsrv h2 hhas
    obtain ⟨f1, f2⟩ := fld_of (d := s.first) (l := s.log ++ [⟨x.who, x.seq, o⟩]) (by rw [hlen]; omega) a3 hF.1
    exact ⟨hsrv, by show _ ≤ (s.log ++ _).length; rw [hlen]; omega, by show (s.log ++ _).length ≤ _; rw [hlen]; exact Nat.le_refl _, by show sameL ((s.log ++ _).take _) _ = true; rw [List.take_left]; exact sameL_self _, hhas, fun e => by
      have : (s.log ++ [(⟨x.who, x.seq, o⟩ : En)]).length = s.log.length := e
      rw [hlen] at this
      omega, e1, e2, f1, f2.trans hF.2⟩
/-- An operation that is turned behind what came since, and what it made of the elder document, with that done behind it. -/
structure Ord (d : List It) (L : List En) (now : List It) (O o : List Ac.Pt) (c : List It) : Prop where
  fit : Ac.fitE d o = 0
  made : c = Ac.done d o
  bE : behE L o = 0
  bO : behO L o = O
  fE : foldE d L = 0
  fD : foldD d L = now
theorem beh_cons {x : En} {L : List En} {o : List Ac.Pt} (h : behE (x :: L) o = 0) : Ac.trnE x.o o = 0 ∧ behE L (Ac.trnY x.o o) = 0 ∧ behO (x :: L) o = behO L (Ac.trnY x.o o) := by
  have hx : Ac.trnE x.o o = 0 := by
    by_cases hx : Ac.trnE x.o o = 0
    · exact hx
    · have : behE (x :: L) o = Ac.trnE x.o o := if_neg hx
      rw [this] at h
      exact absurd h hx
  refine ⟨hx, ?_, if_pos hx⟩
  have : behE (x :: L) o = behE L (Ac.trnY x.o o) := if_pos hx
  rw [this] at h
  exact h
theorem Ord.step {d : List It} {x : En} {L : List En} {now : List It} {O o : List Ac.Pt} {c : List It} (h : Ord d (x :: L) now O o c) :
    Ac.trnE x.o o = 0 ∧ (Ac.fitE c (Ac.trnX x.o o) = 0 → Ord (Ac.done d x.o) L now O (Ac.trnY x.o o) (Ac.done c (Ac.trnX x.o o))) := by
  obtain ⟨b1, b2, b3⟩ := beh_cons h.bE
  obtain ⟨f1, f2, f3⟩ := fold_cons h.fE
  obtain ⟨m1, m2, m3⟩ := Ac.meets_same f1 h.fit b1
  refine ⟨b1, fun hz => ?_⟩
  rw [h.made] at hz ⊢
  exact ⟨m1.trans hz, m3.symm, b2, b3.symm.trans h.bO, f2, f3.symm.trans h.fD⟩
theorem Ord.nil {d : List It} {now : List It} {O o : List Ac.Pt} {c : List It} (h : Ord d [] now O o c) : o = O ∧ c = Ac.done now O := by
  have h1 : o = O := h.bO
  have h2 : d = now := h.fD
  have := h.made
  rw [h1, h2] at this
  exact ⟨h1, this⟩
theorem ord_start {s : Se} {rev : Int} {x : En} (h : takE s rev x = 0) (hn : New s rev x) :
    fldE s.first (s.log.take rev.toNat) = 0 ∧ (Ac.fitE (fldD s.first (s.log.take rev.toNat)) x.o = 0 ∨ Ac.fitE (fldD s.first (s.log.take rev.toNat)) x.o = 2) ∧
    (Ac.fitE (fldD s.first (s.log.take rev.toNat)) x.o = 0 → Ord (fldD s.first (s.log.take rev.toNat)) (s.log.drop rev.toNat) s.now (behO (s.log.drop rev.toNat) x.o) x.o (Ac.done (fldD s.first (s.log.take rev.toNat)) x.o)) := by
  obtain ⟨h1, h2, -⟩ := take_0 h
  obtain ⟨a1, a2, a3, a4, a5⟩ := srv_0 h1
  have hs : s.log.take rev.toNat ++ s.log.drop rev.toNat = s.log := List.take_append_drop ..
  have hF := a4
  rw [← hs] at hF
  obtain ⟨p1, p2, p3⟩ := fold_app_0 hF
  have hl : (s.log.take rev.toNat).length ≤ 60 := by rw [List.length_take]; omega
  obtain ⟨f1, f2⟩ := fld_of hl a3 p1
  rw [f2]
  have hnow : foldD (foldD s.first (s.log.take rev.toNat)) (s.log.drop rev.toNat) = s.now := by rw [← p3, hs, a5]
  have hck := fold_check _ _ a3 p1
  generalize foldD s.first (s.log.take rev.toNat) = d at *
  refine ⟨f1, ?_, fun hz => ⟨hz, rfl, hn.beh, rfl, p2, hnow⟩⟩
  have hx : Ac.Right x.o := by
    unfold entE at h2
    by_cases g1 : x.who < 0 ∨ 4 ≤ x.who
    · rw [if_pos g1] at h2; cases h2
    · by_cases g2 : x.seq < 1 ∨ 10000 < x.seq
      · rw [if_neg g1, if_pos g2] at h2; cases h2
      · rw [if_neg g1, if_neg g2] at h2
        exact Ac.chk_right.1 h2
  have hb := hn.beh
  have hfit := hn.fit
  cases hL : s.log.drop rev.toNat with
  | nil =>
    rw [hL] at hfit hnow
    have e : d = s.now := hnow
    rw [e]
    exact .inl hfit
  | cons y L =>
    rw [hL] at hb p2
    obtain ⟨b1, -, -⟩ := beh_cons hb
    obtain ⟨q1, -, -⟩ := fold_cons p2
    obtain ⟨-, -, r3, -⟩ := Ac.fit_0 q1
    have hnd : Ac.nd y.o = Ac.nd x.o := by
      unfold Ac.trnE at b1
      by_cases g : Ac.fst2 y.o x.o = 0
      · rw [if_pos g] at b1
        by_cases g2 : Ac.nd y.o = Ac.nd x.o
        · exact g2
        · rw [if_neg g2] at b1; cases b1
      · rw [if_neg g] at b1
        exact absurd b1 g
    rw [Ac.fitE_eq hck hx (hnd.symm.trans r3)]
    split
    · exact .inr rfl
    · exact .inl rfl
end Sv
end Go.Proofs.YtaigleblmbblcaaGreatDoor
