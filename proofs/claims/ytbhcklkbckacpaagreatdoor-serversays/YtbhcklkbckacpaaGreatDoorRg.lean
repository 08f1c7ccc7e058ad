/-
  The reference's tidied: acts made an operation.
-/
import Derived.Test.YtbhcklkbckacpaaGreatDoorRf
import Derived.Test.YtbhcklkbckacpaaGreatDoorOl2
namespace Go.Proofs.YtbhcklkbckacpaaGreatDoor
open Go.RowKit
namespace Ac
def toA (a : AV) : A := if a.kind = 2 then A.put a.x else if a.kind = 3 then A.cut else A.keep (chOf a.p.pt)
def aS (s : TS) (a : AV) : TS := if a.kind = 2 then ⟨s.out, s.put ++ [a.x], s.cut⟩ else if a.kind = 3 then ⟨s.out, s.put, s.cut + 1⟩ else ⟨addK (s.out ++ flushP s.put s.cut) (chOf a.p.pt), [], 0⟩
def aT (l : List AV) : TS := l.foldl aS ⟨[], [], 0⟩
theorem aT_step (l : List AV) (k : Nat) (h : k < l.length) : aT (l.take (k + 1)) = aS (aT (l.take k)) l[k] := by
  unfold aT
  rw [List.take_succ_eq_append_getElem h, List.foldl_append]
  rfl
theorem aT_tdy : ∀ (l : List AV) (s : TS), tdy s.out s.put s.cut (l.map toA) = (l.foldl aS s).out ++ flushP (l.foldl aS s).put (l.foldl aS s).cut
  | [], s => by rw [List.map_nil, tdy]; rfl
  | a :: l, s => by
    rw [List.map_cons, List.foldl_cons, ← aT_tdy l (aS s a)]
    unfold toA aS
    by_cases h2 : a.kind = 2
    · rw [if_pos h2, if_pos h2, tdy]
    · rw [if_neg h2, if_neg h2]
      by_cases h3 : a.kind = 3
      · rw [if_pos h3, if_pos h3, tdy]
      · rw [if_neg h3, if_neg h3, tdy]
theorem acts_toA : ∀ {vs : List PV}, (∀ v ∈ vs, err1 v.pt = 0) → (actsV vs).map toA = acts (vs.map PV.pt)
  | [], _ => rfl
  | v :: vs, h => by
    have e : actsV (v :: vs) = actV v ++ actsV vs := rfl
    rw [e, List.map_append, acts_toA (fun u hu => h u (List.mem_cons_of_mem _ hu)), List.map_cons, acts_cons]
    congr 1
    have he := h v (List.mem_cons_self ..)
    unfold actV acts1
    rcases kind_of he with k | k | k
    · have k' : v.kind = 1 := k
      rw [if_neg (show ¬ v.kind = 2 by omega), if_neg (show ¬ v.pt.kind = 2 by omega), if_pos k, List.map_replicate]
      congr 1
      unfold toA
      rw [if_neg (show ¬ v.kind = 2 by omega), if_neg (show ¬ v.kind = 3 by omega)]
      rfl
    · have k' : v.kind = 2 := k
      rw [if_pos k', if_pos k, List.map_map]
      rfl
    · have k' : v.kind = 3 := k
      rw [if_neg (show ¬ v.kind = 2 by omega), if_neg (show ¬ v.pt.kind = 2 by omega), if_neg (show ¬ v.pt.kind = 1 by omega), List.map_replicate]
      congr 1
      unfold toA
      rw [if_neg (show ¬ v.kind = 2 by omega), if_pos k']
def OkT (w : World) (a : AV) : Prop := (a.kind = 2 ∧ a.x.l.size ≤ 9223372036854775807) ∨ (a.kind = 1 ∧ a.p.kind = 1 ∧ a.p.n = 1 ∧ a.p.m = 0 ∧ a.p.items = [] ∧ Pvt w a.p) ∨ a.kind = 3
theorem okT_acts {w : World} {vs : List PV} (h : ∀ v ∈ vs, err1 v.pt = 0) (hp : ∀ v ∈ vs, Pvt w v) : ∀ a ∈ actsV vs, OkT w a := by
  intro a ha
  obtain ⟨v, hv, ha⟩ := List.mem_flatMap.1 ha
  have he := h v hv
  unfold actV at ha
  rcases kind_of he with k | k | k
  · have k' : v.kind = 1 := k
    rw [if_neg (show ¬ v.kind = 2 by omega)] at ha
    rw [(List.mem_replicate.1 ha).2]
    have hi : v.items = [] := keep_items he k
    have hm : v.m = 0 := by have := (hp v hv).doc.len; rw [hi] at this; exact this.symm
    exact .inr (.inl ⟨k', k', rfl, hm, hi, (hp v hv).doc, (hp v hv).fit⟩)
  · have k' : v.kind = 2 := k
    rw [if_pos k'] at ha
    obtain ⟨x, hx, rfl⟩ := List.mem_map.1 ha
    exact .inl ⟨rfl, (hp v hv).doc.fit x hx⟩
  · have k' : v.kind = 3 := k
    rw [if_neg (show ¬ v.kind = 2 by omega)] at ha
    rw [(List.mem_replicate.1 ha).2]
    exact .inr (.inr k')
end Ac
structure Bnd (out : List PV) (put : List It) (cut j : Nat) : Prop where
  n : ∀ z ∈ out, 0 ≤ z.n ∧ z.n ≤ j
  len : out.length ≤ 3 * j
  put : put.length ≤ j
  cut : cut ≤ j
theorem Bnd.flushed {out out6 : List PV} {put : List It} {cut j : Nat} (h : Bnd out put cut j) (hp : out6.map PV.pt = out.map PV.pt ++ Ac.flushP put cut) : ∀ z ∈ out6, 0 ≤ z.n ∧ z.n ≤ j := fun z hz => by
  have hm : z.pt ∈ out.map PV.pt ++ Ac.flushP put cut := by rw [← hp]; exact List.mem_map.2 ⟨z, hz, rfl⟩
  rcases List.mem_append.1 hm with hm | hm
  · obtain ⟨u, hu, e⟩ := List.mem_map.1 hm
    have := h.n u hu
    have e2 : z.n = u.n := (congrArg Ac.Pt.n e).symm
    rw [e2]
    exact this
  · have h0 := Ac.flush_n hm
    refine ⟨h0, ?_⟩
    have hc := h.cut
    unfold Ac.flushP at hm
    rcases List.mem_append.1 hm with hm | hm
    · split at hm
      · cases hm
      · have : z.pt.n = 0 := by rw [List.mem_singleton.1 hm]; rfl
        change z.n = 0 at this
        omega
    · split at hm
      · cases hm
      · have : z.pt.n = (cut : Int) := by rw [List.mem_singleton.1 hm]; rfl
        change z.n = (cut : Int) at this
        omega
theorem Tdy.append {w1 w6 wa w7 : World} {tv : Value} {out : List PV} {v : PV} {g cap n : Nat} (h : Tdy w1 tv (.slice none 0 0) out [] 0 w6) (hn : out.length = n) (hv : Pvt w6 v) (hm : v.m = 0) (hal : Below w6.heap.size w6 wa)
    (hown : w7.ownsRow (w1.heap.size + 3) 162 7 (.slice (some ⟨g, 0, none⟩) (n + 1) cap) (n + 1) (pvCells out ++ pvC v)) (hg : wa.grownBy w7 tv.ownBlock) (hat : tv.ownBlock = some g ∨ g = wa.heap.size) :
    Tdy w1 (.slice (some ⟨g, 0, none⟩) (n + 1) cap) (.slice none 0 0) (out ++ [v]) [] 0 (w7.setCell ⟨w1.heap.size, 0, none⟩ (.slice (some ⟨g, 0, none⟩) (n + 1) cap)) ∧ Kept w6 w7 (ob tv) := by
  obtain ⟨ht, hk⟩ := h.tide.push hv (far_zero hm _) (high_zero hm _) hal (by rw [hn]; exact hown) hg hat
  rw [hn] at ht
  have hlo : ∀ x ∈ ob tv, w1.heap.size + 3 ≤ x := fun x hx => ownBlk_ge h.tide.own x (ob_mem hx)
  have hb := hk.blk h.tb (fun hx => by have := hlo _ hx; omega)
  have hp := hk.blk h.pb (fun hx => by have := hlo _ hx; omega)
  have hc := hk.blk h.cb (fun hx => by have := hlo _ hx; omega)
  obtain ⟨ht2, -, hb2⟩ := ht.var (kept_cons hk _) hb
  refine ⟨⟨?_, hb2, hp.other _ _ (by simp), hc.other _ _ (by simp), ht2, World.ownsRow_nil _ _ _ _, fun x hx => absurd hx (by simp), fun v _ => far_none v rfl, fun k _ e => by cases e⟩, hk⟩
  exact (h.blw.trans (hk.below h.blw.size (fun x hx => by have := hlo x hx; omega))).setCell (Nat.le_refl _) _
theorem Tdy.more {w1 w6 : World} {out0 : List PV} {q : PV} {g cap j m : Nat} (h : Tdy w1 (.slice (some ⟨g, 0, none⟩) (j + 1) cap) (.slice none 0 0) (out0 ++ [q]) [] 0 w6) (hj : out0.length = j) :
    Tdy w1 (.slice (some ⟨g, 0, none⟩) (j + 1) cap) (.slice none 0 0) (out0 ++ [{ q with n := q.n + 1 }]) [] 0 ((w6.drewN m).setCell ⟨g, j * 7 + 1, none⟩ (.int .i64 (q.n + 1))) := by
  have hk : Kept w6 ((w6.drewN m).setCell ⟨g, j * 7 + 1, none⟩ (.int .i64 (q.n + 1))) (ob (.slice (some ⟨g, 0, none⟩) (j + 1) cap)) :=
    ((Kept.refl w6 _).drewN m).setCell _ _ (.inl (by simp [ob, Value.ownBlock]))
  have hlo : ∀ x ∈ ob (.slice (some ⟨g, 0, none⟩) (j + 1) cap), w1.heap.size + 3 ≤ x := fun x hx => ownBlk_ge h.tide.own x (ob_mem hx)
  have hl : (out0 ++ [q]).length = j + 1 := by rw [List.length_append, hj]; rfl
  have ho := h.tide.own
  rw [hl] at ho
  have ho' : (w6.drewN m).ownsRow (w1.heap.size + 3) 162 7 (.slice (some ⟨g, 0, none⟩) (j + 1) cap) (j + 1) (pvCells (out0 ++ [q])) := ho
  have hst := (ho'.stored (j * 7 + 1) (.int .i64 (q.n + 1))).1
  rw [← hj, pvCells_setn, hj] at hst
  have hp : ∀ u : PV, Pvt w6 u → Far u (.slice (some ⟨g, 0, none⟩) (j + 1) cap) → Pvt ((w6.drewN m).setCell ⟨g, j * 7 + 1, none⟩ (.int .i64 (q.n + 1))) u := fun u hu hf => hu.kept hk (fun a hm ha hx => hf a hm ha (ob_mem hx).symm)
  have hq : q ∈ out0 ++ [q] := by simp
  have hT := h.tide
  refine ⟨h.blw.trans (hk.below h.blw.size (fun x hx => by have := hlo x hx; omega)), hk.blk h.tb (fun hx => by have := hlo _ hx; omega), hk.blk h.pb (fun hx => by have := hlo _ hx; omega), hk.blk h.cb (fun hx => by have := hlo _ hx; omega), ⟨?_, fun u hu => ?_, fun u hu => ?_, fun u hu => ?_⟩, World.ownsRow_nil _ _ _ _, fun x hx => absurd hx (by simp), fun v _ => far_none v rfl, fun k _ e => by cases e⟩
  · rw [List.length_append, hj]; exact hst
  · rcases List.mem_append.1 hu with h' | h'
    · exact hp u (hT.pts u (List.mem_append_left _ h')) (hT.far u (List.mem_append_left _ h'))
    · rw [List.mem_singleton.1 h']
      have := hp q (hT.pts q hq) (hT.far q hq)
      exact ⟨this.doc, this.fit⟩
  · rcases List.mem_append.1 hu with h' | h'
    · exact hT.far u (List.mem_append_left _ h')
    · rw [List.mem_singleton.1 h']; exact hT.far q hq
  · rcases List.mem_append.1 hu with h' | h'
    · exact hT.hi u (List.mem_append_left _ h')
    · rw [List.mem_singleton.1 h']; exact hT.hi q hq
end Go.Proofs.YtbhcklkbckacpaaGreatDoor
