/-
  Chapter 8's promises on parts: two operations, done in either order, each turned behind the other one, make the same; joined they do what the one and then the other one does; who keeps all turns nothing.
-/
import Derived.Test.YtaigleblmbblcaaGreatDoorPh
namespace Go.Proofs.YtaigleblmbblcaaGreatDoor
open Go.RowKit
namespace Ac
theorem fst2_of {a b : List Pt} (ha : Right a) (hb : Right b) : fst2 a b = 0 := by
  unfold fst2
  rw [if_pos (chk_right.2 ha)]
  exact chk_right.2 hb
theorem fst2_02 {a b : List Pt} (ha : chk a = 0 ∨ chk a = 2) (hb : chk b = 0 ∨ chk b = 2) : fst2 a b = 0 ∨ fst2 a b = 2 := by
  unfold fst2
  split
  · exact hb
  · exact ha
theorem fitE_eq {d : List It} {o : List Pt} (h : Dc.check d = 0) (hr : Right o) (hn : nd o = d.length) : fitE d o = if 80 < lv o then 2 else 0 := by
  unfold fitE
  rw [if_pos h, if_pos (chk_right.2 hr), if_pos (by rw [hr.lf, hn]), hr.lt]
  by_cases h80 : 80 < lv o
  · rw [if_pos h80, if_pos (by omega)]
  · rw [if_neg h80, if_neg (by omega)]
theorem done_is {d : List It} {o : List Pt} (h : fitE d o = 0) : ap (acts o) d = some (done d o) ∧ Dc.check (done d o) = 0 ∧ (done d o).length = lv o := by
  obtain ⟨hd, hr, hn, hl⟩ := fit_0 h
  obtain ⟨h1, h2, _⟩ := made_doc hd hr hn hl
  unfold done
  rw [if_pos h]
  exact ⟨mk_some hr hn, h1, h2⟩
/-- Two operations for as many items, turned. -/
structure TurnQ (a b : List Pt) : Prop where
  E : trnE a b = fst2 (tx a b) (ty a b)
  ex : chk (tx a b) = 0 ∨ chk (tx a b) = 2
  ey : chk (ty a b) = 0 ∨ chk (ty a b) = 2
  nx : nd (tx a b) = lv b
  ny : nd (ty a b) = lv a
  lxy : lv (tx a b) = lv (ty a b)
theorem turnQ {a b : List Pt} (ra : Right a) (rb : Right b) (hn : nd a = nd b) (la : lv a ≤ 80) (lb : lv b ≤ 80) : TurnQ a b := by
  have hN : Ac.need (acts a) = Ac.need (acts b) := by rw [ra.need.1, rb.need.1, hn]
  obtain ⟨k1, k2⟩ := turn_okl hN ra.okl rb.okl
  obtain ⟨g1, g2, g3⟩ := turn_long _ (acts a) (acts b) (Nat.le_refl _) hN
  obtain ⟨p1, p2⟩ := turn_pn hN
  obtain ⟨al, ca, ea⟩ := ra.snoc
  obtain ⟨bl, cb, eb⟩ := rb.snoc
  have hN2 : Ac.need al = Ac.need bl := by
    rw [ea, eb, (snoc_need al ca).1, (snoc_need bl cb).1] at hN
    omega
  have hsn := turn_snoc hN2 ca cb
  rw [← ea, ← eb] at hsn
  have e1 : (turn (acts a) (acts b)).1 = (turn al bl).1 ++ [A.keep ca] := by rw [hsn]
  have e2 : (turn (acts a) (acts b)).2 = (turn al bl).2 ++ [A.keep (behind cb ca)] := by rw [hsn]
  have q1 := pn_leave (acts a)
  have q2 := pn_leave (acts b)
  rw [ra.need.2] at q1 g2
  rw [rb.need.2] at q2 g1
  have l1 := long_tA k1
  have l2 := long_tA k2
  refine ⟨?_, chk_tA k1 e1 (by omega) (by omega), chk_tA k2 e2 (by omega) (by omega), l1.1.trans g1, l2.1.trans g2, ?_⟩
  · unfold trnE
    rw [if_pos (fst2_of ra rb), if_pos hn]
  · unfold tx ty
    rw [l1.2, l2.2, g3]
theorem meets_E {d : List It} {a b : List Pt} (ha : fitE d a = 0) (hb : fitE d b = 0) : trnE a b = 0 ∨ trnE a b = 2 := by
  obtain ⟨_, ra, na, la⟩ := fit_0 ha
  obtain ⟨_, rb, nb, lb⟩ := fit_0 hb
  have Q := turnQ ra rb (na.trans nb.symm) la lb
  rw [Q.E]
  exact fst2_02 Q.ex Q.ey
theorem trn_is {a b : List Pt} (h : trnE a b = 0) : trnX a b = tx a b ∧ trnY a b = ty a b := ⟨if_pos h, if_pos h⟩
/-- Done in either order they make the same. -/
theorem meets_same {d : List It} {a b : List Pt} (ha : fitE d a = 0) (hb : fitE d b = 0) (hE : trnE a b = 0) :
    fitE (done d a) (trnY a b) = fitE (done d b) (trnX a b) ∧ (fitE (done d a) (trnY a b) = 0 ∨ fitE (done d a) (trnY a b) = 2) ∧ done (done d a) (trnY a b) = done (done d b) (trnX a b) := by
  obtain ⟨hd, ra, na, la⟩ := fit_0 ha
  obtain ⟨_, rb, nb, lb⟩ := fit_0 hb
  obtain ⟨pa, ca, ea⟩ := done_is ha
  obtain ⟨pb, cb, eb⟩ := done_is hb
  have Q := turnQ ra rb (na.trans nb.symm) la lb
  have hE2 := hE
  rw [Q.E] at hE2
  obtain ⟨rx, ry⟩ := fst2_right hE2
  obtain ⟨x1, y1⟩ := trn_is hE
  rw [x1, y1]
  have f1 := fitE_eq ca ry (Q.ny.trans ea.symm)
  have f2 := fitE_eq cb rx (Q.nx.trans eb.symm)
  have e12 : fitE (done d a) (ty a b) = fitE (done d b) (tx a b) := by rw [f1, f2, Q.lxy]
  refine ⟨e12, ?_, ?_⟩
  · rw [f1]
    split
    · exact .inr rfl
    · exact .inl rfl
  · obtain ⟨r, hr1, hr2⟩ := turn_meets _ (acts a) (acts b) (Nat.le_refl _) d _ _ (check_m4 hd) (okl_ok ra.okl) (okl_ok rb.okl) pa pb
    have m1 := mk_some ry (d := done d a) (Q.ny.trans ea.symm)
    have m2 := mk_some rx (d := done d b) (Q.nx.trans eb.symm)
    unfold ty at m1
    unfold tx at m2
    rw [acts_tA, ap_nf, hr1] at m1
    rw [acts_tA, ap_nf, hr2] at m2
    have e : (mk (done d a) (ty a b)).1 = (mk (done d b) (tx a b)).1 := (Option.some.inj m1).symm.trans (Option.some.inj m2)
    show (if fitE (done d a) (ty a b) = 0 then (mk (done d a) (ty a b)).1 else []) = (if fitE (done d b) (tx a b) = 0 then (mk (done d b) (tx a b)).1 else [])
    rw [e12, e]
/-- Two operations that fit one behind the other, joined. -/
structure JoinQ (a b : List Pt) : Prop where
  E : jonE a b = chk (jx a b)
  ex : lv b ≤ 80 → chk (jx a b) = 0 ∨ chk (jx a b) = 2
  nx : nd (jx a b) = nd a
  lx : lv (jx a b) = lv b
  okl : OkL (join (acts a) (acts b))
theorem joinQ {a b : List Pt} (ra : Right a) (rb : Right b) (hn : lv a = nd b) : JoinQ a b := by
  have hN : leave (acts a) = Ac.need (acts b) := by rw [ra.need.2, rb.need.1, hn]
  have k := join_okl hN ra.okl rb.okl
  obtain ⟨g1, g2⟩ := join_long _ (acts a) (acts b) (Nat.le_refl _) hN
  obtain ⟨al, ca, ea⟩ := ra.snoc
  obtain ⟨bl, cb, eb⟩ := rb.snoc
  have hN2 : leave al = Ac.need bl := by
    rw [ea, eb, (snoc_need al ca).2, (snoc_need bl cb).1] at hN
    omega
  have hsn := join_snoc hN2 ca cb
  rw [← ea, ← eb] at hsn
  have q := pn_leave (join (acts a) (acts b))
  rw [ra.need.1] at g1
  rw [rb.need.2] at g2
  have l := long_tA k
  have hs := ra.sum
  refine ⟨?_, fun lb => chk_tA k hsn (by omega) (by omega), l.1.trans g1, l.2.trans g2, k⟩
  unfold jonE
  rw [if_pos (fst2_of ra rb), if_pos hn]
theorem jon_is {a b : List Pt} (h : jonE a b = 0) : jonX a b = jx a b := if_pos h
theorem tA_nf (l : List A) : tA (nf l) = tA l := tdy_norm l [] [] 0 [] 0
theorem joins_E {d : List It} {a b : List Pt} (ha : fitE d a = 0) (hb : fitE (done d a) b = 0) : jonE a b = 0 ∨ jonE a b = 2 := by
  obtain ⟨_, ra, na, la⟩ := fit_0 ha
  obtain ⟨_, rb, nb, lb⟩ := fit_0 hb
  have Q := joinQ ra rb ((done_is ha).2.2.symm.trans nb.symm)
  rw [Q.E]
  exact Q.ex lb
/-- Joined they do what the one and then the other one does. -/
theorem joins_same {d : List It} {a b : List Pt} (ha : fitE d a = 0) (hb : fitE (done d a) b = 0) (hE : jonE a b = 0) : fitE d (jonX a b) = 0 ∧ done d (jonX a b) = done (done d a) b ∧ Right (jonX a b) := by
  obtain ⟨hd, ra, na, la⟩ := fit_0 ha
  obtain ⟨_, rb, nb, lb⟩ := fit_0 hb
  obtain ⟨pa, ca, ea⟩ := done_is ha
  obtain ⟨pb, cb, eb⟩ := done_is hb
  have Q := joinQ ra rb (ea.symm.trans nb.symm)
  rw [jon_is hE]
  rw [Q.E] at hE
  have rj := chk_right.1 hE
  have hf : fitE d (jx a b) = 0 := fit_of hd rj (Q.nx.trans na) (by rw [Q.lx]; exact lb)
  refine ⟨hf, ?_, rj⟩
  have h1 := (done_is hf).1
  unfold jx at h1
  rw [acts_tA, ap_nf, ap_join _ (acts a) (acts b) (Nat.le_refl _) d _ _ (check_m4 hd) (okl_ok ra.okl) (okl_ok rb.okl) pa pb] at h1
  exact (Option.some.inj h1).symm
/-- Joined three in either way are the same. -/
theorem joins_three {d : List It} {a b c : List Pt} (ha : fitE d a = 0) (hb : fitE (done d a) b = 0) (hc : fitE (done (done d a) b) c = 0) (h1 : jonE a b = 0) (h2 : jonE b c = 0) (h3 : jonE (jonX a b) c = 0) :
    jonE a (jonX b c) = 0 ∧ jonX a (jonX b c) = jonX (jonX a b) c ∧ fitE d (jonX (jonX a b) c) = 0 ∧ done d (jonX (jonX a b) c) = done (done (done d a) b) c := by
  obtain ⟨hd, ra, na, la⟩ := fit_0 ha
  obtain ⟨_, rb, nb, lb⟩ := fit_0 hb
  obtain ⟨_, rc, nc, lc⟩ := fit_0 hc
  have ea := (done_is ha).2.2
  have eb := (done_is hb).2.2
  obtain ⟨fj, dj, rj⟩ := joins_same ha hb h1
  obtain ⟨fk, dk, rk⟩ := joins_same hb hc h2
  have Qab := joinQ ra rb (ea.symm.trans nb.symm)
  have Qbc := joinQ rb rc (eb.symm.trans nc.symm)
  have fm := joins_same fj (by rw [dj]; exact hc) h3
  rw [dj] at fm
  rw [jon_is h2] at rk ⊢
  have hak : lv a = nd (jx b c) := ea.symm.trans (nb.symm.trans Qbc.nx.symm)
  have Qak := joinQ ra rk hak
  have key : jx a (jx b c) = jx (jx a b) c := by
    have hA := nf_assoc (acts a) (acts b) (acts c) (okl_ok ra.okl) (okl_ok rb.okl) (okl_ok rc.okl) (by rw [ra.need.2, rb.need.1]; exact ea.symm.trans nb.symm) (by rw [rb.need.2, rc.need.1]; exact eb.symm.trans nc.symm)
    unfold jx
    rw [acts_tA, acts_tA, ← tA_nf, ← tA_nf (join (nf (join (acts a) (acts b))) (acts c)), hA]
  have hE4 : jonE a (jx b c) = 0 := by
    rw [Qak.E, key]
    have hx := fm.2.2
    rw [jon_is h3, jon_is h1] at hx
    exact chk_right.2 hx
  refine ⟨hE4, ?_, fm.1, fm.2.1⟩
  rw [jon_is hE4, jon_is h3, jon_is h1, key]
/- Who keeps all. -/
theorem behind_nop (c : Ch) : behind nop c = nop := by
  show (⟨less 0 (both c.set c.clr), less 0 (both c.set c.clr), false && !c.goes, if c.goes then ⟨#[]⟩ else ⟨#[]⟩⟩ : Ch) = nop
  have e : ∀ b, less 0 b = 0 := fun b => by unfold less; simp
  rw [e]
  cases c.goes <;> rfl
theorem then_nop {c : Ch} (h : ChOk c) : thenCh c nop = c := by
  obtain ⟨s, hs, e1⟩ := m4_nat h.set
  obtain ⟨l, hl, e2⟩ := m4_nat h.clr
  have k : ∀ x : Nat, ((x - (x &&& 0)) ||| 0) = x := fun x => by simp
  refine ch_ext ?_ ?_ (Bool.or_false _) rfl
  · show both (less c.set 0) 0 = c.set
    rw [e1]
    exact congrArg Int.ofNat (k s)
  · show both (less c.clr 0) 0 = c.clr
    rw [e2]
    exact congrArg Int.ofNat (k l)
theorem nop_then {c : Ch} (h : ChOk c) (hl : linkBad c.goes c.link = false) : thenCh nop c = c := by
  obtain ⟨s, hs, e1⟩ := m4_nat h.set
  obtain ⟨l, hl2, e2⟩ := m4_nat h.clr
  have k : ∀ x y : Nat, ((0 - (0 &&& y)) ||| x) = x := fun x y => by simp
  refine ch_ext ?_ ?_ (Bool.false_or _) ?_
  · show both (less 0 c.clr) c.set = c.set
    rw [e1]
    exact congrArg Int.ofNat (k s _)
  · show both (less 0 c.set) c.clr = c.clr
    rw [e2]
    exact congrArg Int.ofNat (k l _)
  · show (if c.goes then c.link else ⟨#[]⟩) = c.link
    cases hg : c.goes
    · rw [hg] at hl
      unfold linkBad at hl
      simp at hl
      have : c.link = ⟨#[]⟩ := ext_list (by rw [show (⟨#[]⟩ : ByteArray).data.toList = [] from rfl, ← Lib.toList_data]; exact hl)
      rw [this]
      rfl
    · rfl
theorem turn_nop : ∀ l : List A, turn l (List.replicate (need l) (A.keep nop)) = (l, List.replicate (leave l) (A.keep nop))
  | [] => rfl
  | some (.inr x) :: l => by
    rw [need, leave, turn_put, turn_nop l]
    rfl
  | some (.inl c) :: l => by
    rw [need, leave, List.replicate_succ, turn_kk, turn_nop l, behind_nop]
    rfl
  | none :: l => by
    rw [need, leave, List.replicate_succ, turn_ck, turn_nop l]
theorem join_nop_r : ∀ l : List A, Ok l → join l (List.replicate (leave l) (A.keep nop)) = l
  | [], _ => rfl
  | some (.inr x) :: l, h => by
    rw [leave, List.replicate_succ, join_pk, join_nop_r l (fun a ha => h a (List.mem_cons_of_mem _ ha)), change_nop (h _ (List.mem_cons_self ..))]
  | some (.inl c) :: l, h => by
    rw [leave, List.replicate_succ, join_kk, join_nop_r l (fun a ha => h a (List.mem_cons_of_mem _ ha)), then_nop (h _ (List.mem_cons_self ..))]
  | none :: l, h => by
    rw [leave, join_cut, join_nop_r l (fun a ha => h a (List.mem_cons_of_mem _ ha))]
theorem join_nop_l : ∀ l : List A, OkL l → join (List.replicate (need l) (A.keep nop)) l = l
  | [], _ => rfl
  | some (.inr x) :: l, h => by
    rw [need, join_put _ _ x (fun a' e => by
      cases hn : need l with
      | zero => rw [hn] at e; cases e
      | succ k => rw [hn, List.replicate_succ] at e; cases e), join_nop_l l h.tail]
  | some (.inl c) :: l, h => by
    rw [need, List.replicate_succ, join_kk, join_nop_l l h.tail, nop_then ⟨(marks_of h.head.1).1, (marks_of h.head.1).2.1⟩ h.head.2]
  | none :: l, h => by
    rw [need, List.replicate_succ, join_kc, join_nop_l l h.tail]
theorem acts_nops (n : Nat) : acts [keepP nop n] = List.replicate n (A.keep nop) := by
  rw [acts_one, acts1_keep, Int.toNat_natCast]
theorem tA_nops (k : Nat) : tA (List.replicate (k + 1) (A.keep nop)) = [keepP nop ((k + 1 : Nat) : Int)] := by
  have h := tdy_keeps nop (k + 1) [] []
  rw [List.append_nil] at h
  unfold tA
  rw [h, tdy]
  have e2 : addK [] nop = [] ++ [keepP nop 1] := rfl
  have e3 : addKs [] nop (k + 1) = [{ keepP nop 1 with n := (keepP nop 1).n + k }] := by rw [addKs, e2, addKs_like k [] _ _ (keepP_like _ _)]; rfl
  rw [e3]
  show [keepP nop ((1 : Int) + k)] ++ [] = _
  rw [List.append_nil, show (1 : Int) + k = ((k + 1 : Nat) : Int) by omega]
theorem nothing_all {o : List Pt} (h : Right o) (ht : chk (tidy o) = 0) (hl : lv o ≤ 80) :
    trnE o [keepP nop (nd o : Nat)] = 0 ∧ trnX o [keepP nop (nd o : Nat)] = tidy o ∧ trnY o [keepP nop (nd o : Nat)] = [keepP nop (lv o : Nat)] ∧ jonE o [keepP nop (lv o : Nat)] = 0 ∧ jonX o [keepP nop (lv o : Nat)] = tidy o ∧ jonE [keepP nop (nd o : Nat)] o = 0 ∧ jonX [keepP nop (nd o : Nat)] o = tidy o := by
  obtain ⟨l, c, e⟩ := h.snoc
  have h1 := h.need
  have hb : 1 ≤ nd o ∧ 1 ≤ lv o := by
    rw [e, (snoc_need l c).1, (snoc_need l c).2] at h1
    omega
  have hs := h.sum
  have rn := keep_right hb.1 hs
  have rm := keep_right hb.2 hl
  have n1 : nd [keepP nop (nd o : Nat)] = nd o ∧ lv [keepP nop (nd o : Nat)] = nd o := by
    refine ⟨?_, ?_⟩
    · rw [nd_cons]; show ((nd o : Nat) : Int).toNat + 0 = nd o; omega
    · rw [lv_cons]; show ((nd o : Nat) : Int).toNat + 0 = nd o; omega
  have n2 : nd [keepP nop (lv o : Nat)] = lv o := by rw [nd_cons]; show ((lv o : Nat) : Int).toNat + 0 = lv o; omega
  obtain ⟨k, hk⟩ : ∃ k, lv o = k + 1 := ⟨lv o - 1, by omega⟩
  have T : turn (acts o) (acts [keepP nop (nd o : Nat)]) = (acts o, List.replicate (lv o) (A.keep nop)) := by rw [acts_nops, ← h1.1, turn_nop, h1.2]
  have X : tx o [keepP nop (nd o : Nat)] = tidy o := by unfold tx; rw [T]; rfl
  have Y : ty o [keepP nop (nd o : Nat)] = [keepP nop (lv o : Nat)] := by unfold ty; rw [T, hk]; exact tA_nops k
  have E1 : trnE o [keepP nop (nd o : Nat)] = 0 := by
    unfold trnE
    rw [if_pos (fst2_of h rn), if_pos n1.1.symm, X, Y]
    exact fst2_of (chk_right.1 ht) rm
  have J : jx o [keepP nop (lv o : Nat)] = tidy o := by unfold jx; rw [acts_nops, ← h1.2, join_nop_r _ (okl_ok h.okl)]; rfl
  have J2 : jx [keepP nop (nd o : Nat)] o = tidy o := by unfold jx; rw [acts_nops, ← h1.1, join_nop_l _ h.okl]; rfl
  have E2 : jonE o [keepP nop (lv o : Nat)] = 0 := by
    unfold jonE
    rw [if_pos (fst2_of h rm), if_pos n2.symm, J]
    exact ht
  have E3 : jonE [keepP nop (nd o : Nat)] o = 0 := by
    unfold jonE
    rw [if_pos (fst2_of rn h), if_pos n1.2, J2]
    exact ht
  exact ⟨E1, (trn_is E1).1.trans X, (trn_is E1).2.trans Y, E2, (jon_is E2).trans J, E3, (jon_is E3).trans J2⟩
end Ac
end Go.Proofs.YtaigleblmbblcaaGreatDoor
