/-
  Package ot: two operations that are gone through together, in memory; what is made of them.
-/
import Derived.Test.YtaigleblmbblcaaDoorUe
import Derived.Test.YtaigleblmbblcaaDoorUf
namespace Go.Proofs.YtaigleblmbblcaaDoor
open Go.RowKit

theorem grown_self (w : World) (r : Option Nat) : w.grownBy w r := ⟨rfl, rfl, rfl, Nat.le_refl _, fun _ _ _ => rfl⟩
/-- Something, or nothing, is appended to a row of the call's own. -/
theorem wpList_append_row {P : Program} (w : World) {ops : Array Oper} {rest : List Oper} {o : Oper} {a : Act} {Q : Exit → Act → World → Prop} (hgd : o.guard = none) (s x : Operand) (t : TypeId)
    (ho : o.op = .call { callee := .builtin .append, args := #[s, x], argTypes := #[t, t] })
    (base : Nat) (e : TypeId) (i : TypeInfo) (z : Value) (size bytes : Nat) (ht : P.underlying t = some (.slice e)) (hi : P.info? e = some i) (hz : i.zero = some z)
    (hsize : i.size = size) (hby : i.bytes = bytes) (hzs : z.cells.size = size) (hsz : 0 < size)
    (v : Value) (n : Nat) (xs : List Value) (hs : a.eval s = v) (hown : w.ownsRow base e size v n xs)
    (ao : Option Addr) (m c : Nat) (news : List Value) (hx : a.eval x = .slice ao m c) (hrow : Row w ao m c size news) (h1 : ∀ u ∈ news, u.oneCell' = true)
    (h63 : n + m ≤ maxLen) (hbytes : (n + m) * bytes ≤ 140737488355328) (hbase : base ≤ w.heap.size)
    (h : ∀ v' w', w'.ownsRow base e size v' (n + m) (xs ++ news) → w.grownBy w' v.ownBlock → (∀ k, v'.ownBlock = some k → v.ownBlock = some k ∨ k = w.heap.size) → wpList P ops Q rest (a.put o.dst v') w') : wpList P ops Q (o :: rest) a w := by
  by_cases hm : m = 0
  · subst hm
    have hn : news = [] := by have := hrow.len; rw [Nat.zero_mul] at this; exact List.length_eq_zero_iff.1 this
    subst hn
    obtain ⟨ao', cap', hv, hr⟩ := own_row hown
    refine wpList_app hgd s x #[t, t] ho v (.slice ao 0 c) v w hs hx ?_ ?_
    · rw [hv]
      exact run_append_nothing w t t o.type e i ht hi ao' n cap' hr.room (.slice ao 0 c) (src_none ht)
    · exact h v w (by rw [List.append_nil]; exact hown) (grown_self w _) (fun k e => .inl e)
  · obtain ⟨b, off, rfl, hc⟩ := hrow.lies hm
    refine wpList_append_lies w hgd s x t ho base e i z size bytes ht hi hz hsize hby hzs hsz v n xs hs hown ⟨b, off, none⟩ m c news hx hrow.len (fun j u hu => by rw [add_off]; exact hc j u hu) h1 (by omega) h63 hbytes hbase _ rfl ?_
    intro g cap w' h2 h3 h4 h5
    exact h _ w' h2 h3 (fun k e => by
      have : g = k := by simpa [Value.ownBlock] using e
      subst this
      exact h4)
/-- Where the loop of Turn stands: the pair, the result, what is made. -/
structure TurnW (w wr : World) (r s : RV) (x y : Value) (ux uy : List PV) : Prop where
  pb : Blk wr w.heap.size (prC r s) 75
  rb : Blk wr (w.heap.size + 1) [.slice none 0 0, .slice none 0 0] 42
  mb : Blk wr (w.heap.size + 2) [x, y] 42
  hr : Ops w r.ao r.n r.cap r.vs
  hs : Ops w s.ao s.n s.cap s.vs
  mx : wr.ownsRow (w.heap.size + 3) 55 7 x ux.length (pvCells ux)
  my : wr.ownsRow (w.heap.size + 3) 55 7 y uy.length (pvCells uy)
  px : ∀ u ∈ ux, Pvt w u
  py : ∀ u ∈ uy, Pvt w u
  apart : ∀ k, x.ownBlock = some k → y.ownBlock ≠ some k
  blw : Below w.heap.size w wr
theorem TurnW.under {w wr wr' : World} {r s : RV} {x y : Value} {ux uy : List PV} (h : TurnW w wr r s x y ux uy) (hb : Below wr.heap.size wr wr') : TurnW w wr' r s x y ux uy :=
  ⟨(hb.block _ h.pb.lt).trans h.pb, (hb.block _ h.rb.lt).trans h.rb, (hb.block _ h.mb.lt).trans h.mb, h.hr, h.hs, own_under h.mx hb, own_under h.my hb, h.px, h.py, h.apart, h.blw.trans (hb.mono h.blw.size)⟩
/-- The pair has gone on. -/
theorem TurnW.pair {w wr wr' : World} {r s r' s' : RV} {x y : Value} {ux uy : List PV} (h : TurnW w wr r s x y ux uy) (hk : Kept wr wr' [w.heap.size]) (hb : Blk wr' w.heap.size (prC r' s') 75) (hr : Ops w r'.ao r'.n r'.cap r'.vs) (hs : Ops w s'.ao s'.n s'.cap s'.vs) : TurnW w wr' r' s' x y ux uy :=
  ⟨hb, hk.blk h.rb (by simp), hk.blk h.mb (by simp), hr, hs, own_keeps h.mx hk (fun k hk e => by have := ownBlk_ge h.mx k e; rw [List.mem_singleton] at hk; omega), own_keeps h.my hk (fun k hk e => by have := ownBlk_ge h.my k e; rw [List.mem_singleton] at hk; omega), h.px, h.py, h.apart, h.blw.trans (hk.below h.blw.size (fun k hk => by rw [List.mem_singleton.1 hk]; exact Nat.le_refl _))⟩
theorem ob_lo {w : World} {B n sz : Nat} {e : TypeId} {v : Value} {xs : List Value} (h : w.ownsRow B e sz v n xs) : ∀ k ∈ ob v, B ≤ k := fun k hk => ownBlk_ge h k (ob_mem hk)
/-- What is appended to the first one that is made. -/
theorem TurnW.midX {w wr wa w3 : World} {r s : RV} {x y : Value} {ux uy : List PV} (h : TurnW w wr r s x y ux uy) (hal : Below wr.heap.size wr wa) (hg : wa.grownBy w3 x.ownBlock) : Kept wr w3 (ob x) ∧ Blk w3 (w.heap.size + 2) [x, y] 42 := by
  have hk : Kept wr w3 (ob x) := ((kept_of_below hal).mono (fun k hk => by cases hk)).trans (grown_kept hg)
  exact ⟨hk, hk.blk h.mb (fun hx => by have := ob_lo h.mx _ hx; omega)⟩
theorem TurnW.midY {w wr wa w3 : World} {r s : RV} {x y : Value} {ux uy : List PV} (h : TurnW w wr r s x y ux uy) (hal : Below wr.heap.size wr wa) (hg : wa.grownBy w3 y.ownBlock) : Kept wr w3 (ob y) ∧ Blk w3 (w.heap.size + 2) [x, y] 42 := by
  have hk : Kept wr w3 (ob y) := ((kept_of_below hal).mono (fun k hk => by cases hk)).trans (grown_kept hg)
  exact ⟨hk, hk.blk h.mb (fun hx => by have := ob_lo h.my _ hx; omega)⟩
theorem own_set {w : World} {B n sz : Nat} {e : TypeId} {v : Value} {xs : List Value} (h : w.ownsRow B e sz v n xs) {k : Nat} (hk : k < B) (j : Nat) (z : Value) : (w.setCell ⟨k, j, none⟩ z).ownsRow B e sz v n xs := ownsRow_setCell_below h hk z
theorem TurnW.growX {w wr wa w3 : World} {r s : RV} {x y : Value} {ux uy us : List PV} {m : Nat} {xv : Value} (h : TurnW w wr r s x y ux uy) (hal : Below wr.heap.size wr wa) (hp : ∀ u ∈ us, Pvt w u) (hm : (ux ++ us).length = m)
    (hown : w3.ownsRow (w.heap.size + 3) 55 7 xv m (pvCells ux ++ pvCells us)) (hg : wa.grownBy w3 x.ownBlock) (hat : ∀ k, xv.ownBlock = some k → x.ownBlock = some k ∨ k = wa.heap.size) :
    TurnW w (w3.setCell ⟨w.heap.size + 2, 0, none⟩ xv) r s xv y (ux ++ us) uy := by
  obtain ⟨hk, hb⟩ := h.midX hal hg
  have hlo := ob_lo h.mx
  refine ⟨(hk.blk h.pb (fun hx => by have := hlo _ hx; omega)).other _ _ (by simp), (hk.blk h.rb (fun hx => by have := hlo _ hx; omega)).other _ _ (by simp), hb.set 0 _, h.hr, h.hs, ?_, ?_, fun u hu => ?_, h.py, fun k e e2 => ?_, ?_⟩
  · rw [hm, pvCells_app]
    exact own_set hown (by omega) _ _
  · refine own_set (own_keeps h.my hk (fun k hk e => h.apart k (ob_mem hk) e)) (by omega) _ _
  · rcases List.mem_append.1 hu with hu | hu
    · exact h.px u hu
    · exact hp u hu
  · rcases hat k e with e3 | e3
    · exact h.apart k e3 e2
    · have := (h.my.lt k e2).2
      have := hal.size
      omega
  · exact (h.blw.trans (hk.below h.blw.size (fun k hk => by have := hlo k hk; omega))).setCell (by simp) _
theorem TurnW.growY {w wr wa w3 : World} {r s : RV} {x y : Value} {ux uy us : List PV} {m : Nat} {xv : Value} (h : TurnW w wr r s x y ux uy) (hal : Below wr.heap.size wr wa) (hp : ∀ u ∈ us, Pvt w u) (hm : (uy ++ us).length = m)
    (hown : w3.ownsRow (w.heap.size + 3) 55 7 xv m (pvCells uy ++ pvCells us)) (hg : wa.grownBy w3 y.ownBlock) (hat : ∀ k, xv.ownBlock = some k → y.ownBlock = some k ∨ k = wa.heap.size) :
    TurnW w (w3.setCell ⟨w.heap.size + 2, 1, none⟩ xv) r s x xv ux (uy ++ us) := by
  obtain ⟨hk, hb⟩ := h.midY hal hg
  have hlo := ob_lo h.my
  refine ⟨(hk.blk h.pb (fun hx => by have := hlo _ hx; omega)).other _ _ (by simp), (hk.blk h.rb (fun hx => by have := hlo _ hx; omega)).other _ _ (by simp), hb.set 1 _, h.hr, h.hs, ?_, ?_, h.px, fun u hu => ?_, fun k e e2 => ?_, ?_⟩
  · refine own_set (own_keeps h.mx hk (fun k hk e => h.apart k e (ob_mem hk))) (by omega) _ _
  · rw [hm, pvCells_app]
    exact own_set hown (by omega) _ _
  · rcases List.mem_append.1 hu with hu | hu
    · exact h.py u hu
    · exact hp u hu
  · rcases hat k e2 with e3 | e3
    · exact h.apart k e e3
    · have := (h.mx.lt k e).2
      have := hal.size
      omega
  · exact (h.blw.trans (hk.below h.blw.size (fun k hk => by have := hlo k hk; omega))).setCell (by simp) _
theorem TurnW.pushX {w wr wa w3 : World} {r s : RV} {x y : Value} {ux uy us : List PV} {g cap m : Nat} (h : TurnW w wr r s x y ux uy) (hal : Below wr.heap.size wr wa) (hp : ∀ u ∈ us, Pvt w u) (hm : (ux ++ us).length = m)
    (hown : w3.ownsRow (w.heap.size + 3) 55 7 (.slice (some ⟨g, 0, none⟩) m cap) m (pvCells ux ++ pvCells us)) (hg : wa.grownBy w3 x.ownBlock) (hat : x.ownBlock = some g ∨ g = wa.heap.size) :
    TurnW w (w3.setCell ⟨w.heap.size + 2, 0, none⟩ (.slice (some ⟨g, 0, none⟩) m cap)) r s (.slice (some ⟨g, 0, none⟩) m cap) y (ux ++ us) uy :=
  h.growX hal hp hm hown hg (fun k e => by
    have : g = k := by simpa [Value.ownBlock] using e
    subst this
    exact hat)
theorem TurnW.pushY {w wr wa w3 : World} {r s : RV} {x y : Value} {ux uy us : List PV} {g cap m : Nat} (h : TurnW w wr r s x y ux uy) (hal : Below wr.heap.size wr wa) (hp : ∀ u ∈ us, Pvt w u) (hm : (uy ++ us).length = m)
    (hown : w3.ownsRow (w.heap.size + 3) 55 7 (.slice (some ⟨g, 0, none⟩) m cap) m (pvCells uy ++ pvCells us)) (hg : wa.grownBy w3 y.ownBlock) (hat : y.ownBlock = some g ∨ g = wa.heap.size) :
    TurnW w (w3.setCell ⟨w.heap.size + 2, 1, none⟩ (.slice (some ⟨g, 0, none⟩) m cap)) r s x (.slice (some ⟨g, 0, none⟩) m cap) ux (uy ++ us) :=
  h.growY hal hp hm hown hg (fun k e => by
    have : g = k := by simpa [Value.ownBlock] using e
    subst this
    exact hat)
/-- Nothing is appended. -/
theorem TurnW.sameX {w wr : World} {r s : RV} {x y : Value} {ux uy : List PV} (h : TurnW w wr r s x y ux uy) : TurnW w (wr.setCell ⟨w.heap.size + 2, 0, none⟩ x) r s x y ux uy :=
  ⟨h.pb.other _ _ (by simp), h.rb.other _ _ (by simp), h.mb.set 0 x, h.hr, h.hs, own_set h.mx (by omega) _ _, own_set h.my (by omega) _ _, h.px, h.py, h.apart, h.blw.setCell (by simp) _⟩
theorem TurnW.sameY {w wr : World} {r s : RV} {x y : Value} {ux uy : List PV} (h : TurnW w wr r s x y ux uy) : TurnW w (wr.setCell ⟨w.heap.size + 2, 1, none⟩ y) r s x y ux uy :=
  ⟨h.pb.other _ _ (by simp), h.rb.other _ _ (by simp), h.mb.set 1 y, h.hr, h.hs, own_set h.mx (by omega) _ _, own_set h.my (by omega) _ _, h.px, h.py, h.apart, h.blw.setCell (by simp) _⟩
/-- How it ends. -/
theorem own_ops {w wr : World} {B : Nat} {x : Value} {us : List PV} (h : wr.ownsRow B 55 7 x us.length (pvCells us)) (hp : ∀ u ∈ us, Pvt w u) (hb : Below w.heap.size w wr) : ∃ a n c, x = .slice a n c ∧ Ops wr a n c us := by
  obtain ⟨a, c, e, hr⟩ := own_row h
  exact ⟨a, _, c, e, hr, fun u hu => (hp u hu).below hb⟩
theorem TurnW.ret {w wr : World} {r s : RV} {x y : Value} {ux uy : List PV} (h : TurnW w wr r s x y ux uy) : Blk (set2 wr (w.heap.size + 1) x y) (w.heap.size + 1) [x, y] 42 ∧ (∃ a n c, x = .slice a n c ∧ Ops (set2 wr (w.heap.size + 1) x y) a n c ux) ∧ (∃ a n c, y = .slice a n c ∧ Ops (set2 wr (w.heap.size + 1) x y) a n c uy) ∧ Below w.heap.size w (set2 wr (w.heap.size + 1) x y) := by
  have hb : Below w.heap.size w (set2 wr (w.heap.size + 1) x y) := (h.blw.setCell (by simp) _).setCell (by simp) _
  exact ⟨(h.rb.set 0 x).set 1 y, own_ops (own_set (own_set h.mx (by omega) 0 x) (by omega) 1 y) h.px hb, own_ops (own_set (own_set h.my (by omega) 0 x) (by omega) 1 y) h.py hb, hb⟩
/-- How it begins. -/
def boxr (r s : RV) (w : World) : World := w.alloc (.cells #[.slice r.ao r.n r.cap, .int .i64 r.g, .slice s.ao s.n s.cap, .int .i64 s.g] 75)
theorem boxr_size (r s : RV) (w : World) : (boxr r s w).heap.size = w.heap.size + 1 := World.size_alloc ..
theorem boxo_size (w : World) : (boxo w).heap.size = w.heap.size + 1 := World.size_alloc ..
theorem TurnW.start (r s : RV) (w : World) (hr : Ops w r.ao r.n r.cap r.vs) (hs : Ops w s.ao s.n s.cap s.vs) : TurnW w (boxo (boxo (boxr r s w))) r s (.slice none 0 0) (.slice none 0 0) [] [] := by
  have h1 : Blk (boxr r s w) w.heap.size (prC r s) 75 := Blk.new w _ _
  have h2 := boxo_blk (boxr r s w)
  have h3 := boxo_blk (boxo (boxr r s w))
  rw [boxr_size] at h2
  rw [boxo_size, boxr_size] at h3
  refine ⟨(h1.alloc _).alloc _, h2.alloc _, h3, hr, hs, World.ownsRow_nil _ _ _ _, World.ownsRow_nil _ _ _ _, fun u hu => absurd hu (by simp), fun u hu => absurd hu (by simp), fun k e => (by cases e), ?_⟩
  exact (((Below.refl _ _).alloc (Nat.le_refl _) _).alloc (by simp) _).alloc (by simp; omega) _
/-- How many parts are left of both. -/
def lenAt (w : World) (a : Addr) : Nat := match w.cell? a with
  | some (.slice _ n _) => n
  | _ => 0
theorem TurnW.left {w wr : World} {r s : RV} {x y : Value} {ux uy : List PV} (h : TurnW w wr r s x y ux uy) : lenAt wr ⟨w.heap.size, 0, none⟩ + lenAt wr ⟨w.heap.size, 2, none⟩ = r.vs.length + s.vs.length := by
  have h0 : wr.cell? ⟨w.heap.size, 0, none⟩ = some (.slice r.ao r.n r.cap) := h.pb.cell 0
  have h2 : wr.cell? ⟨w.heap.size, 2, none⟩ = some (.slice s.ao s.n s.cap) := h.pb.cell 2
  unfold lenAt
  rw [h0, h2, h.hr.len, h.hs.len]
/-- Pieces of what is left: on parts. -/
theorem lg_lgV {w : World} {v : PV} (h : Pvt w v) (he : Ac.err1 v.pt = 0) : lgV v = (Ac.lg v.pt : Int) := by
  unfold lgV Ac.lg
  have e : v.pt.kind = v.kind := rfl
  rw [e]
  by_cases k : v.kind = 2
  · rw [if_pos k, if_pos k]
    have := h.doc.len
    show (v.m : Int) = (v.items.length : Int)
    omega
  · rw [if_neg k, if_neg k]
    have := (Ac.err1_n he).1
    show v.n = (v.n.toNat : Int)
    change 0 ≤ v.n at this
    omega
theorem next_pt {w : World} {r : RV} {v : PV} {t : List PV} (h : Pvt w v) (he : Ac.err1 v.pt = 0) (q : Nat) : (r.next v t q).vs.map PV.pt = Ac.nxtP v.pt (t.map PV.pt) r.g q ∧ (r.next v t q).g = Ac.nxtG v.pt r.g q := by
  have e := lg_lgV h he
  unfold RV.next Ac.nxtP Ac.nxtG
  by_cases k : r.g + q = Ac.lg v.pt
  · rw [if_pos (by rw [e, k]), if_pos k, if_pos k]
    exact ⟨rfl, rfl⟩
  · rw [if_neg (by rw [e]; omega), if_neg k, if_neg k]
    exact ⟨rfl, rfl⟩
theorem idx0 (x y : Value) (w : World) : (Instr.index 42 (.agg #[x, y]) (.int .i64 0)).run Tryd.prog w = .ok x w := by kernel_rfl
theorem idx1 (x y : Value) (w : World) : (Instr.index 42 (.agg #[x, y]) (.int .i64 1)).run Tryd.prog w = .ok y w := by kernel_rfl
theorem behXV_pt (p q : PV) : (behXV p q).map PV.pt = Ac.behX p.pt q.pt := by
  unfold behXV Ac.behX
  have e : q.pt.kind = q.kind := rfl
  rw [e]
  split <;> rfl
theorem behYV_pt (p q : PV) : (behYV p q).map PV.pt = Ac.behY p.pt q.pt := by
  unfold behYV Ac.behY
  have e : q.pt.kind = q.kind := rfl
  have e' : p.pt.kind = p.kind := rfl
  rw [e, e']
  split
  · split <;> rfl
  · rfl
theorem behXV_pvt {w : World} {p q : PV} (h : Pvt w p) : ∀ z ∈ behXV p q, Pvt w z := by
  unfold behXV
  intro z hz
  split at hz
  · rw [List.mem_singleton.1 hz]; exact h
  · cases hz
theorem behYV_pvt {w : World} {p q : PV} (h : Pvt w q) : ∀ z ∈ behYV p q, Pvt w z := by
  unfold behYV
  intro z hz
  split at hz
  · split at hz
    · rw [List.mem_singleton.1 hz]; exact yieldV_pvt h p
    · rw [List.mem_singleton.1 hz]; exact h
  · cases hz
theorem behXV_len (p q : PV) : (behXV p q).length ≤ 1 := by unfold behXV; split <;> simp
theorem behYV_len (p q : PV) : (behYV p q).length ≤ 1 := by
  unfold behYV
  split
  · split <;> simp
  · simp
theorem Ac.piece_m4 {p : Ac.Pt} (h : Ac.err1 p = 0) (k : ¬ p.kind = 2) (g n : Nat) : Ac.m4 (Ac.piece p g n).set ∧ Ac.m4 (Ac.piece p g n).clr := by
  rw [Ac.piece_not k]
  rcases Ac.gd_of h with ⟨_, hm, _⟩ | ⟨ps, e, _⟩ | ⟨m, e, _⟩
  · exact ⟨(Ac.marks_of hm).1, (Ac.marks_of hm).2.1⟩
  · rw [e] at k; exact absurd rfl k
  · rw [e]
    show Ac.m4 0 ∧ Ac.m4 0
    exact ⟨⟨by decide, by decide⟩, ⟨by decide, by decide⟩⟩
end Go.Proofs.YtaigleblmbblcaaDoor
