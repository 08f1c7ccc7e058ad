/-
  Two rows of acts that are made; a row of an operation, read.
-/
import Derived.Test.YtbhcklkbckacpaaGreatDoorQd
namespace Go.Proofs.YtbhcklkbckacpaaGreatDoor
open Go.RowKit
theorem step_append_row {P : Program} (w : World) {ops : Array Oper} {o : Oper} {a : Act} {K : Act → World → Prop} {Q : Exit → Act → World → Prop} {E : Prop} (hgd : o.guard = none) (s x : Operand) (t : TypeId)
    (ho : o.op = .call { callee := .builtin .append, args := #[s, x], argTypes := #[t, t] })
    (base : Nat) (e : TypeId) (i : TypeInfo) (z : Value) (size bytes : Nat) (ht : P.underlying t = some (.slice e)) (hi : P.info? e = some i) (hz : i.zero = some z)
    (hsize : i.size = size) (hby : i.bytes = bytes) (hzs : z.cells.size = size) (hsz : 0 < size)
    (v : Value) (n : Nat) (xs : List Value) (hs : a.eval s = v) (hown : w.ownsRow base e size v n xs)
    (ao : Option Addr) (m c : Nat) (news : List Value) (hx : a.eval x = .slice ao m c) (hrow : Row w ao m c size news) (h1 : ∀ u ∈ news, u.oneCell' = true)
    (h63 : n + m ≤ maxLen) (hbytes : (n + m) * bytes ≤ 140737488355328) (hbase : base ≤ w.heap.size)
    (h : ∀ v' w', w'.ownsRow base e size v' (n + m) (xs ++ news) → w.grownBy w' v.ownBlock → (∀ k, v'.ownBlock = some k → v.ownBlock = some k ∨ k = w.heap.size) → K (a.put o.dst v') w') :
    if Region.wanted o (yielded ops a.tmps) = true then Oper.wp P o a w K Q else E := by
  by_cases hm : m = 0
  · subst hm
    have hn : news = [] := by have := hrow.len; rw [Nat.zero_mul] at this; exact List.length_eq_zero_iff.1 this
    subst hn
    obtain ⟨ao', cap', hv, hr⟩ := own_row hown
    have hrun : (Builtin.append_ #[t, t] o.type #[v, .slice ao 0 c]).run P w = .ok v w := by
      rw [hv]
      exact run_append_nothing w t t o.type e i ht hi ao' n cap' hr.room (.slice ao 0 c) (src_none ht)
    have hw : Region.wanted o (yielded ops a.tmps) = true := by simp [Region.wanted, hgd]
    rw [if_pos hw]
    unfold Oper.wp execOp
    simp only [ho, resolve, invoke, builtin, Sem.run_bind, Sem.run_pure, Result.andThen_ok, List.map_toArray, List.map_cons, List.map_nil, hs, hx, hrun]
    exact h v w (by rw [List.append_nil]; exact hown) (grown_self w _) (fun k e => .inl e)
  · obtain ⟨b, off, rfl, hc⟩ := hrow.lies hm
    refine step_append_lies w hgd s x t ho base e i z size bytes ht hi hz hsize hby hzs hsz v n xs hs hown ⟨b, off, none⟩ m c news hx hrow.len (fun j u hu => by rw [add_off]; exact hc j u hu) h1 (by omega) h63 hbytes hbase _ rfl ?_
    intro g cap w' h2 h3 h4 h5
    exact h _ w' h2 h3 (fun k e => by
      have : g = k := by simpa [Value.ownBlock] using e
      subst this
      exact h4)
structure TrA (w wr : World) (lv mv : Value) (l m : List AV) : Prop where
  ol : wr.ownsRow w.heap.size 196 11 lv l.length (avCells l)
  om : wr.ownsRow w.heap.size 196 11 mv m.length (avCells m)
  apart : ∀ k, lv.ownBlock = some k → mv.ownBlock ≠ some k
  blw : Below w.heap.size w wr
theorem TrA.start (w : World) : TrA w w (.slice none 0 0) (.slice none 0 0) [] [] :=
  ⟨World.ownsRow_nil _ _ _ _, World.ownsRow_nil _ _ _ _, fun k e => (by cases e), Below.refl _ _⟩
theorem TrA.under {w wr wr' : World} {lv mv : Value} {l m : List AV} (h : TrA w wr lv mv l m) (hb : Below wr.heap.size wr wr') : TrA w wr' lv mv l m :=
  ⟨own_under h.ol hb, own_under h.om hb, h.apart, h.blw.trans (hb.mono h.blw.size)⟩
theorem TrA.swap {w wr : World} {lv mv : Value} {l m : List AV} (h : TrA w wr lv mv l m) : TrA w wr mv lv m l :=
  ⟨h.om, h.ol, fun k e e2 => h.apart k e2 e, h.blw⟩
theorem TrA.push {w wr w3 : World} {lv mv xv : Value} {l m us : List AV} {n k : Nat} (h : TrA w wr lv mv l m) (hn : l.length = n) (hk : us.length = k)
    (hown : w3.ownsRow w.heap.size 196 11 xv (n + k) (avCells l ++ avCells us)) (hg : wr.grownBy w3 lv.ownBlock) (hat : ∀ k, xv.ownBlock = some k → lv.ownBlock = some k ∨ k = wr.heap.size) : TrA w w3 xv mv (l ++ us) m := by
  have hk3 := grown_kept hg
  have hlo := ob_lo h.ol
  refine ⟨by rw [List.length_append, hn, hk, avCells_app]; exact hown, own_keeps h.om hk3 (fun k hk e => h.apart k (ob_mem hk) e), fun k e e2 => ?_, h.blw.trans (hk3.below h.blw.size (fun k hk => hlo k hk))⟩
  rcases hat k e with e3 | e3
  · exact h.apart k e3 e2
  · have := (h.om.lt k e2).2; omega
theorem TrA.far {w wr : World} {lv mv : Value} {l m : List AV} (h : TrA w wr lv mv l m) {b : Nat} (hb : wr.heap.size ≤ b) : b ∉ ob lv ∧ b ∉ ob mv :=
  ⟨fun hx => by have := (h.ol.lt _ (ob_mem hx)).2; omega, fun hx => by have := (h.om.lt _ (ob_mem hx)).2; omega⟩
theorem rwCells_at : ∀ (l : List RwV) (i : Nat) (h : i < l.length) (j : Nat), j < 12 → (rwCells l)[i * 12 + j]? = (rwC l[i])[j]?
  | [], _, h, _, _ => by simp at h
  | a :: l, 0, _, j, hj => by
    show (rwC a ++ rwCells l)[0 * 12 + j]? = _
    rw [Nat.zero_mul, Nat.zero_add, List.getElem?_append_left (by show j < 12; exact hj)]
    rfl
  | a :: l, i + 1, h, j, hj => by
    have := rwCells_at l i (by simpa using h) j hj
    show (rwC a ++ rwCells l)[(i + 1) * 12 + j]? = _
    rw [List.getElem?_append_right (by show 12 ≤ _; omega), show (i + 1) * 12 + j - (rwC a).length = i * 12 + j by show _ - 12 = _; omega, this]
    rfl
theorem RowsOf.at {w : World} {b off on oc : Nat} {R : List RwV} {vs : List PV} (h : RowsOf w (some ⟨b, off, none⟩) on oc R vs) (i : Nat) (hi : i < R.length) : ∀ j, j < 12 → ∀ u, (rwC R[i])[j]? = some u → w.cell? ⟨b, off + i * 12 + j, none⟩ = some u := fun j hj u hu => by
  obtain ⟨b', off', e, hc⟩ := h.row.lies (by have := h.len; omega)
  cases e
  rw [Nat.add_assoc]
  exact hc _ u ((rwCells_at R i hi j hj).trans hu)
theorem zip_rows {R Q : List RwV} (h : R.length = Q.length) : (R.zip Q).map Prod.fst = R ∧ (R.zip Q).map Prod.snd = Q :=
  ⟨List.map_fst_zip (by omega), List.map_snd_zip (by omega)⟩
theorem zip_step {R Q : List RwV} (h : R.length = Q.length) (i : Nat) (hi : i < R.length) : (R.zip Q).take (i + 1) = (R.zip Q).take i ++ [(R[i], Q[i]'(by omega))] := by
  rw [List.take_succ_eq_append_getElem (by rw [List.length_zip]; omega), List.getElem_zip]
end Go.Proofs.YtbhcklkbckacpaaGreatDoor
