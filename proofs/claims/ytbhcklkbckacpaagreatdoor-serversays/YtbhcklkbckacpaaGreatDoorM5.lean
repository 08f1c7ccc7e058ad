/-
  Texts of this proof, one behind the other.
-/
import Derived.Test.YtbhcklkbckacpaaGreatDoorM4
import Derived.RegionTactic

/-
  Operations that are made: a row of parts of the call's own, and what is put and cut behind it, which is settled.
-/
namespace Go.Proofs.YtbhcklkbckacpaaGreatDoor
open Go.RowKit

def Far (v : PV) (x : Value) : Prop := ∀ a : Addr, v.m ≠ 0 → v.ao = some a → some a.block ≠ x.ownBlock
theorem far_none (v : PV) {x : Value} (h : x.ownBlock = none) : Far v x := fun a _ _ e => by rw [h] at e; cases e
theorem far_zero {v : PV} (h : v.m = 0) (x : Value) : Far v x := fun _ h' _ => absurd h h'
theorem Pvt.lies {w : World} {v : PV} (h : Pvt w v) {a : Addr} (hm : v.m ≠ 0) (ha : v.ao = some a) : a.block < w.heap.size := by
  obtain ⟨b, off, e, hA⟩ := h.doc.lies hm
  rw [ha] at e
  cases e
  exact cell_lt (hA.c 0 (by rw [h.doc.len]; omega))
theorem Pvt.kept {w w' : World} {v : PV} {S : List Nat} (h : Pvt w v) (hk : Kept w w' S) (hn : ∀ a : Addr, v.m ≠ 0 → v.ao = some a → a.block ∉ S) : Pvt w' v := by
  refine ⟨⟨h.doc.fit, h.doc.len, h.doc.room, h.doc.big, fun hm => ?_⟩, h.fit⟩
  obtain ⟨b, off, e, hA⟩ := h.doc.lies hm
  have hb : b < w.heap.size := cell_lt (hA.c 0 (by rw [h.doc.len]; omega))
  have he := hk.block b hb (hn _ hm e)
  exact ⟨b, off, e, fun i hi => (World.cell?_of_block (w := w) he).trans (hA.c i hi), fun i hi => (World.cell?_of_block (w := w) he).trans (hA.m i hi), fun i hi => (World.cell?_of_block (w := w) he).trans (hA.l i hi)⟩
def High (B : Nat) (v : PV) : Prop := ∀ a : Addr, v.m ≠ 0 → v.ao = some a → B ≤ a.block
theorem high_zero {v : PV} (h : v.m = 0) (B : Nat) : High B v := fun _ h' _ => absurd h h'
structure Tide (w : World) (B : Nat) (tv : Value) (out : List PV) : Prop where
  own : w.ownsRow B 162 7 tv out.length (pvCells out)
  pts : ∀ v ∈ out, Pvt w v
  far : ∀ v ∈ out, Far v tv
  hi : ∀ v ∈ out, High B v
theorem Tide.nil (w : World) (B : Nat) : Tide w B (.slice none 0 0) [] := ⟨World.ownsRow_nil _ _ _ _, fun v hv => absurd hv (by simp), fun v hv => absurd hv (by simp), fun v hv => absurd hv (by simp)⟩
theorem own_keeps {w w' : World} {B n sz : Nat} {e : TypeId} {v : Value} {xs : List Value} {S : List Nat} (h : w.ownsRow B e sz v n xs) (hk : Kept w w' S) (hs : ∀ x ∈ S, v.ownBlock ≠ some x) : w'.ownsRow B e sz v n xs := by
  refine ⟨h.1, ?_⟩
  rcases h.2 with h2 | ⟨g, cap, cur, hv, hg, hh, r⟩
  · exact .inl h2
  · exact .inr ⟨g, cap, cur, hv, hg, (hk.block g (Array.getElem?_eq_some_iff.1 hh).1 (fun hm => hs g hm (by rw [hv]; rfl))).trans hh, r⟩
theorem Tide.kept {w w' : World} {B : Nat} {tv : Value} {out : List PV} {S : List Nat} (h : Tide w B tv out) (hk : Kept w w' S) (hs : ∀ x ∈ S, tv.ownBlock ≠ some x) (hf : ∀ v ∈ out, ∀ a : Addr, v.m ≠ 0 → v.ao = some a → a.block ∉ S) : Tide w' B tv out :=
  ⟨own_keeps h.own hk hs, fun v hv => (h.pts v hv).kept hk (hf v hv), h.far, h.hi⟩
theorem kept_of_below {w w' : World} (h : Below w.heap.size w w') : Kept w w' [] := ⟨h.os, h.tape, h.output, h.size, fun k hk _ => h.block k hk⟩
theorem Tide.under {w w' : World} {B : Nat} {tv : Value} {out : List PV} (h : Tide w B tv out) (hb : Below w.heap.size w w') : Tide w' B tv out :=
  h.kept (kept_of_below hb) (fun x hx => by cases hx) (fun v _ a _ _ hx => by cases hx)
theorem Tide.push {w wa w3 : World} {B g cap : Nat} {tv : Value} {out : List PV} {v : PV} (h : Tide w B tv out) (hv : Pvt w v) (hfar : Far v tv) (hhi : High B v) (hal : Below w.heap.size w wa)
    (hown : w3.ownsRow B 162 7 (.slice (some ⟨g, 0, none⟩) (out.length + 1) cap) (out.length + 1) (pvCells out ++ pvC v)) (hg : wa.grownBy w3 tv.ownBlock) (hat : tv.ownBlock = some g ∨ g = wa.heap.size) :
    Tide w3 B (.slice (some ⟨g, 0, none⟩) (out.length + 1) cap) (out ++ [v]) ∧ Kept w w3 (ob tv) := by
  have hk : Kept w w3 (ob tv) := ((kept_of_below hal).mono (fun x hx => by cases hx)).trans (grown_kept hg)
  have hp : ∀ u : PV, Pvt w u → Far u tv → Pvt w3 u := fun u hu hf => hu.kept hk (fun a hm ha hx => hf a hm ha (ob_mem hx).symm)
  have hq : ∀ u : PV, Pvt w u → Far u tv → Far u (.slice (some ⟨g, 0, none⟩) (out.length + 1) cap) := fun u hu hf a hm ha e => by
    have hlt := hu.lies hm ha
    rcases hat with e2 | e2
    · exact hf a hm ha (by rw [e2]; exact e)
    · have : a.block = g := by simpa [Value.ownBlock] using e
      have := hal.size
      omega
  refine ⟨⟨by rw [List.length_append, pvCells_app, pvCells_one]; exact hown, fun u hu => ?_, fun u hu => ?_, fun u hu => ?_⟩, hk⟩
  · rcases List.mem_append.1 hu with hu | hu
    · exact hp u (h.pts u hu) (h.far u hu)
    · rw [List.mem_singleton.1 hu]; exact hp v hv hfar
  · rcases List.mem_append.1 hu with hu | hu
    · exact hq u (h.pts u hu) (h.far u hu)
    · rw [List.mem_singleton.1 hu]; exact hq v hv hfar
  · rcases List.mem_append.1 hu with hu | hu
    · exact h.hi u hu
    · rw [List.mem_singleton.1 hu]; exact hhi
structure Tdy (w1 : World) (tv pv : Value) (out : List PV) (put : List It) (cut : Nat) (w : World) : Prop where
  blw : Below w1.heap.size w1 w
  tb : Blk w w1.heap.size [tv] 44
  pb : Blk w (w1.heap.size + 1) [pv] 33
  cb : Blk w (w1.heap.size + 2) [.int .i64 cut] 3
  tide : Tide w (w1.heap.size + 3) tv out
  pown : w.ownsRow (w1.heap.size + 3) 39 3 pv put.length (itCells put)
  pfit : Fit put
  pfar : ∀ v ∈ out, Far v pv
  apart : ∀ k, tv.ownBlock = some k → pv.ownBlock ≠ some k
theorem Tdy.under {w1 w w' : World} {tv pv : Value} {out : List PV} {put : List It} {cut : Nat} (h : Tdy w1 tv pv out put cut w) (hb : Below w.heap.size w w') : Tdy w1 tv pv out put cut w' :=
  ⟨h.blw.trans (hb.mono h.blw.size), (hb.block _ h.tb.lt).trans h.tb, (hb.block _ h.pb.lt).trans h.pb, (hb.block _ h.cb.lt).trans h.cb, h.tide.under hb, own_under h.pown hb, h.pfit, h.pfar, h.apart⟩
theorem Tide.var {w w3 : World} {T : Nat} {tv tv3 : Value} {out3 : List PV} (h : Tide w3 (T + 3) tv3 out3) (hk : Kept w w3 (T :: ob tv)) (hb : Blk w3 T [tv] 44) :
    Tide (w3.setCell ⟨T, 0, none⟩ tv3) (T + 3) tv3 out3 ∧ Kept w (w3.setCell ⟨T, 0, none⟩ tv3) (T :: ob tv) ∧ Blk (w3.setCell ⟨T, 0, none⟩ tv3) T [tv3] 44 := by
  refine ⟨h.kept (kept_set w3 T 0 tv3 [T] (List.mem_singleton.2 rfl)) (fun x hx e => ?_) (fun v hv a hm ha hx => ?_), hk.setCell _ _ (.inl (List.mem_cons_self ..)), hb.set 0 tv3⟩
  · have := ownBlk_ge h.own x e
    rw [List.mem_singleton] at hx
    omega
  · have := h.hi v hv a hm ha
    rw [List.mem_singleton] at hx
    omega
theorem kept_cons {w w' : World} {S : List Nat} (h : Kept w w' S) (x : Nat) : Kept w w' (x :: S) := h.mono (fun _ hy => List.mem_cons_of_mem _ hy)
theorem Tdy.settled {w1 w w3 : World} {tv pv tv3 : Value} {out out3 : List PV} {put : List It} {cut : Nat} (h : Tdy w1 tv pv out put cut w) (ht : Tide w3 (w1.heap.size + 3) tv3 out3) (hk : Kept w w3 (w1.heap.size :: ob tv)) (hb : Blk w3 w1.heap.size [tv3] 44) :
    Tdy w1 tv3 (.slice none 0 0) out3 [] 0 ((w3.setCell ⟨w1.heap.size + 1, 0, none⟩ (.slice none 0 0)).setCell ⟨w1.heap.size + 2, 0, none⟩ (.int .i64 0)) := by
  have hlo : ∀ x ∈ w1.heap.size :: ob tv, x = w1.heap.size ∨ w1.heap.size + 3 ≤ x := fun x hx => by
    rcases List.mem_cons.1 hx with rfl | hx
    · exact .inl rfl
    · exact .inr (ownBlk_ge h.tide.own x (ob_mem hx))
  have hp3 : Blk w3 (w1.heap.size + 1) [pv] 33 := hk.blk h.pb (fun hx => by have := hlo _ hx; omega)
  have hc3 : Blk w3 (w1.heap.size + 2) [.int .i64 cut] 3 := hk.blk h.cb (fun hx => by have := hlo _ hx; omega)
  have hk4 : Kept w3 ((w3.setCell ⟨w1.heap.size + 1, 0, none⟩ (.slice none 0 0)).setCell ⟨w1.heap.size + 2, 0, none⟩ (.int .i64 0)) [w1.heap.size + 1, w1.heap.size + 2] :=
    ((Kept.refl w3 _).setCell _ _ (.inl (by simp))).setCell _ _ (.inl (by simp))
  have hlow : ∀ k, tv3.ownBlock = some k → w1.heap.size + 3 ≤ k := ownBlk_ge ht.own
  refine ⟨?_, hk4.blk hb (by simp), ?_, ?_, ?_, World.ownsRow_nil _ _ _ _, fun x hx => absurd hx (by simp), fun v _ => far_none v rfl, fun k _ e => by cases e⟩
  · refine (h.blw.trans (hk.below h.blw.size (fun x hx => by rcases hlo x hx with h | h <;> omega))).trans (hk4.below (Nat.le_trans h.blw.size hk.size) (fun x hx => by simp at hx; omega))
  · exact (hp3.set 0 (.slice none 0 0)).other _ _ (by simp)
  · exact (hc3.other ⟨w1.heap.size + 1, 0, none⟩ _ (by simp)).set 0 (.int .i64 0)
  · refine ht.kept hk4 (fun x hx e => ?_) (fun v hv a hm ha hx => ?_)
    · have := hlow x e
      simp at hx
      omega
    · have := ht.hi v hv a hm ha
      simp at hx
      omega

theorem kept_settled {w w3 : World} {T : Nat} {tv : Value} (h : Kept w w3 (T :: ob tv)) : Kept w ((w3.setCell ⟨T + 1, 0, none⟩ (.slice none 0 0)).setCell ⟨T + 2, 0, none⟩ (.int .i64 0)) (T :: (T + 1) :: (T + 2) :: ob tv) :=
  ((h.mono (fun x hx => by rcases List.mem_cons.1 hx with rfl | hx; exact List.mem_cons_self ..; exact List.mem_cons_of_mem _ (List.mem_cons_of_mem _ (List.mem_cons_of_mem _ hx)))).setCell _ _ (.inl (by simp))).setCell _ _ (.inl (by simp))
theorem kept_two {w w4 w6 : World} {T : Nat} {tv tv4 : Value} (hk4 : Kept w w4 (T :: ob tv)) (hn : tv4.ownBlock = tv.ownBlock ∨ ∀ k, tv4.ownBlock = some k → w.heap.size ≤ k) (hk6 : Kept w4 w6 (T :: ob tv4)) : Kept w w6 (T :: ob tv) :=
  hk4.trans_new hk6 (fun x hx => by
    rcases List.mem_cons.1 hx with rfl | hx
    · exact .inl (List.mem_cons_self ..)
    · rcases hn with e | e
      · left
        refine List.mem_cons_of_mem _ ?_
        unfold ob at hx ⊢
        rw [← e]
        exact hx
      · exact .inr (e x (ob_mem hx)))
theorem Tdy.settled2 {w1 w w4 w6 : World} {tv pv tv4 tv6 : Value} {out out6 : List PV} {put : List It} {cut : Nat} (h : Tdy w1 tv pv out put cut w) (hk4 : Kept w w4 (w1.heap.size :: ob tv)) (hn : tv4.ownBlock = tv.ownBlock ∨ ∀ k, tv4.ownBlock = some k → w.heap.size ≤ k)
    (h6 : Tide w6 (w1.heap.size + 3) tv6 out6) (hk6 : Kept w4 w6 (w1.heap.size :: ob tv4)) (hb6 : Blk w6 w1.heap.size [tv6] 44) :
    Tdy w1 tv6 (.slice none 0 0) out6 [] 0 ((w6.setCell ⟨w1.heap.size + 1, 0, none⟩ (.slice none 0 0)).setCell ⟨w1.heap.size + 2, 0, none⟩ (.int .i64 0)) := by
  refine h.settled h6 (hk4.trans_new hk6 (fun x hx => ?_)) hb6
  rcases List.mem_cons.1 hx with rfl | hx
  · exact .inl (List.mem_cons_self ..)
  · rcases hn with e | e
    · left
      refine List.mem_cons_of_mem _ ?_
      unfold ob at hx ⊢
      rw [← e]
      exact hx
    · exact .inr (e x (ob_mem hx))

set_option maxRecDepth 100000 in
set_option maxHeartbeats 3200000 in
theorem settle_any (w1 w : World) (tv pv : Value) (out : List PV) (put : List It) (cut : Nat) (hT : Tdy w1 tv pv out put cut w) (hp : put.length ≤ 100000) (ho : out.length ≤ 100000) (hc : cut ≤ 1000000) :
    Calls Tryz.prog 262 #[.pointer (some ⟨w1.heap.size + 1, 0, none⟩), .pointer (some ⟨w1.heap.size, 0, none⟩), .pointer (some ⟨w1.heap.size + 2, 0, none⟩)] w fun e w' => e = .returned (.tuple #[]) ∧ ∃ tv' out', Tdy w1 tv' (.slice none 0 0) out' [] 0 w' ∧ out'.map PV.pt = out.map PV.pt ++ Ac.flushP put cut ∧ out'.length ≤ out.length + 2 ∧ Kept w w' (w1.heap.size :: (w1.heap.size + 1) :: (w1.heap.size + 2) :: ob tv) := by
  obtain ⟨i0, hi, hz0, hz1, hz2⟩ := info_parts Tryz.infP
  obtain ⟨pao, pcap, hpv, hpd⟩ := own_doc hT.pown hT.pfit rfl
  obtain ⟨pl, hpl⟩ : ∃ pl, put.length = pl := ⟨_, rfl⟩
  have HT : Hid (Tdy w1 tv pv out put cut w) := hT
  have HPL : Hid (put.length = pl) := hpl
  have HPD : Hid (Doc w pao pl pcap put) := by rw [← hpl]; exact hpd
  rw [hpl] at hpv hp
  have HPV : Hid (pv = .slice pao pl pcap) := hpv
  have t0 : w.cell? ⟨w1.heap.size, 0, none⟩ = some tv := hT.tb.cell 0
  have p0 : w.cell? ⟨w1.heap.size + 1, 0, none⟩ = some (.slice pao pl pcap) := by rw [← hpv]; exact hT.pb.cell 0
  have k0 : w.cell? ⟨w1.heap.size + 2, 0, none⟩ = some (.int .i64 cut) := hT.cb.cell 0
  have tz := hT.tb.frozen 0
  have pz := hT.pb.frozen 0
  have kz := hT.cb.frozen 0
  obtain ⟨ol, hol⟩ : ∃ ol, out.length = ol := ⟨_, rfl⟩
  have HOL : Hid (out.length = ol) := hol
  rw [hol] at ho
  have HOW : Hid (w.ownsRow (w1.heap.size + 3) 162 7 tv ol (pvCells out)) := by have := hT.tide.own; rw [hol] at this; exact this
  have hsz : w1.heap.size + 3 ≤ w.heap.size := hT.cb.lt
  obtain ⟨tao, tcap, htv, -⟩ := own_row HOW.out
  clear hT hpl hol hpd hpv
  subst htv
  have HPUT : Hid (0 < pl → Pvt w ⟨2, 0, pao, pl, pcap, put, 0, 0, false, ⟨#[]⟩⟩ ∧ Far ⟨2, 0, pao, pl, pcap, put, 0, 0, false, ⟨#[]⟩⟩ (.slice tao ol tcap) ∧ High (w1.heap.size + 3) ⟨2, 0, pao, pl, pcap, put, 0, 0, false, ⟨#[]⟩⟩) := fun _ => by
    refine ⟨⟨HPD.out, Nat.zero_le _⟩, fun a _ ha e => ?_, fun a _ ha => ?_⟩
    · have e2 : pv.ownBlock = some a.block := by
        rw [HPV.out]
        change pao = some a at ha
        rw [ha]
        rfl
      exact HT.out.apart a.block e.symm e2
    · refine ownBlk_ge HT.out.pown a.block ?_
      rw [HPV.out]
      change pao = some a at ha
      rw [ha]
      rfl
  by_cases hp0 : pl = 0
  · have HFL : Hid (Ac.flushP put cut = if cut = 0 then [] else [Ac.cutP cut]) := by
      have : put = [] := List.length_eq_zero_iff.1 (HPL.out.trans hp0)
      show _ = _
      unfold Ac.flushP
      rw [this]
      rfl
    subst hp0
    by_cases hc0 : cut = 0
    · subst hc0
      have HS : Hid (Tdy w1 (.slice tao ol tcap) (.slice none 0 0) out [] 0 ((w.setCell ⟨w1.heap.size + 1, 0, none⟩ (.slice none 0 0)).setCell ⟨w1.heap.size + 2, 0, none⟩ (.int .i64 0))) := HT.out.settled HT.out.tide (Kept.refl _ _) HT.out.tb
      have HKE : Hid (Kept w ((w.setCell ⟨w1.heap.size + 1, 0, none⟩ (.slice none 0 0)).setCell ⟨w1.heap.size + 2, 0, none⟩ (.int .i64 0)) (w1.heap.size :: (w1.heap.size + 1) :: (w1.heap.size + 2) :: ob (.slice tao ol tcap))) := kept_settled (Kept.refl _ _)
      go_enter Tryz.func262, Tryz.ntmps262
      go_wp2
      go_end0
      exact ⟨rfl, _, out, HS.out, by rw [HFL.out]; simp, by omega, HKE.out⟩
    · have hc1 : 0 < cut := Nat.pos_of_ne_zero hc0
      go_enter Tryz.func262, Tryz.ntmps262
      go_wp2_with (at_builtin; refine wpList_append_lies _ rfl (.tmp 13) (.tmp 16) 44 rfl (w1.heap.size + 3) 162 i0 (.agg #[.int .i64 0, .int .i64 0, .slice none 0 0, .int .i64 0, .int .i64 0, .bool false, .string ⟨#[]⟩]) 7 80 Tryz.underlying44 hi hz0 hz1 hz2 rfl (by decide) _ ol (pvCells out) rfl ?c1 ⟨w.heap.size, 0, none⟩ 1 1 [.int .i64 3, .int .i64 cut, .slice none 0 0, .int .i64 0, .int .i64 0, .bool false, .string ⟨#[]⟩] rfl rfl ?c2 ?c3 (by decide) ?c4 ?c5 ?c6 _ rfl ?c7)
      case c1 => exact HOW.out.alloc _
      case c2 => exact World.news_of_block (cs := #[.int .i64 3, .int .i64 cut, .slice none 0 0, .int .i64 0, .int .i64 0, .bool false, .string ⟨#[]⟩]) (heap_alloc_new w _)
      case c3 => exact pvCells_oneCell [⟨3, cut, none, 0, 0, [], 0, 0, false, ⟨#[]⟩⟩]
      case c4 => unfold maxLen; omega
      case c5 => omega
      case c6 => first | omega | (simp; omega)
      case c7 =>
        intro g cap2 w3 hown hgrow hat hlt
        have hal : Below w.heap.size w (w.alloc (.cells #[.int .i64 3, .int .i64 cut, .slice none 0 0, .int .i64 0, .int .i64 0, .bool false, .string ⟨#[]⟩] 162)) := (Below.refl _ _).alloc (Nat.le_refl _) _
        obtain ⟨ht3, hk3⟩ := HT.out.tide.push (v := ⟨3, cut, none, 0, 0, [], 0, 0, false, ⟨#[]⟩⟩) ⟨doc_none w, Nat.zero_le _⟩ (far_zero rfl _) (high_zero rfl _) hal (by rw [HOL.out]; exact hown) hgrow (by rcases hat with h | h; exact .inl h; exact .inr (h.trans (World.size_alloc ..).symm))
        rw [HOL.out] at ht3
        have HK : Hid (Kept w w3 (w1.heap.size :: ob (.slice tao ol tcap))) := kept_cons hk3 _
        have hb3 : Blk w3 w1.heap.size [(.slice tao ol tcap)] 44 := hk3.blk HT.out.tb (fun hx => by have := ownBlk_ge HT.out.tide.own _ (ob_mem hx); omega)
        obtain ⟨ht4, hk4, hb4⟩ := ht3.var HK.out hb3
        have HS : Hid (Tdy w1 (.slice (some ⟨g, 0, none⟩) (ol + 1) cap2) (.slice none 0 0) (out ++ [⟨3, cut, none, 0, 0, [], 0, 0, false, ⟨#[]⟩⟩]) [] 0 (((w3.setCell ⟨w1.heap.size, 0, none⟩ (.slice (some ⟨g, 0, none⟩) (ol + 1) cap2)).setCell ⟨w1.heap.size + 1, 0, none⟩ (.slice none 0 0)).setCell ⟨w1.heap.size + 2, 0, none⟩ (.int .i64 0))) := HT.out.settled ht4 hk4 hb4
        have HKE : Hid (Kept w (((w3.setCell ⟨w1.heap.size, 0, none⟩ (.slice (some ⟨g, 0, none⟩) (ol + 1) cap2)).setCell ⟨w1.heap.size + 1, 0, none⟩ (.slice none 0 0)).setCell ⟨w1.heap.size + 2, 0, none⟩ (.int .i64 0)) (w1.heap.size :: (w1.heap.size + 1) :: (w1.heap.size + 2) :: ob (.slice tao ol tcap))) := kept_settled hk4
        have r0 : w3.cell? ⟨w1.heap.size, 0, none⟩ = some (.slice tao ol tcap) := hb3.cell 0
        have r1 := hb3.frozen 0
        have hlo : ∀ x ∈ w1.heap.size :: ob (.slice tao ol tcap), x = w1.heap.size ∨ w1.heap.size + 3 ≤ x := fun x hx => by
          rcases List.mem_cons.1 hx with rfl | hx
          · exact .inl rfl
          · exact .inr (ownBlk_ge HT.out.tide.own x (ob_mem hx))
        have hp3 : Blk w3 (w1.heap.size + 1) [pv] 33 := HK.out.blk HT.out.pb (fun hx => by have := hlo _ hx; omega)
        have hc3 : Blk w3 (w1.heap.size + 2) [.int .i64 cut] 3 := HK.out.blk HT.out.cb (fun hx => by have := hlo _ hx; omega)
        have u1 : w3.cell? ⟨w1.heap.size + 1, 0, none⟩ = some (.slice pao 0 pcap) := by rw [← HPV.out]; exact hp3.cell 0
        have u2 : w3.cell? ⟨w1.heap.size + 2, 0, none⟩ = some (.int .i64 cut) := hc3.cell 0
        have y1 := hp3.frozen 0
        have y2 := hc3.frozen 0
        clear ht3 hk3 hb3 ht4 hk4 hb4 hown hgrow hat hlt hal hp3 hc3 hlo
        have HFL2 : Hid ((out ++ [(⟨3, cut, none, 0, 0, [], 0, 0, false, ⟨#[]⟩⟩ : PV)]).map PV.pt = out.map PV.pt ++ Ac.flushP put cut) := by show _ = _; rw [HFL.out, if_neg hc0, List.map_append]; rfl
        have HLEN : Hid ((out ++ [(⟨3, cut, none, 0, 0, [], 0, 0, false, ⟨#[]⟩⟩ : PV)]).length ≤ out.length + 2) := by show _ ≤ _; simp
        go_wp2
        go_end0
        exact ⟨rfl, _, _, HS.out, HFL2.out, HLEN.out, HKE.out⟩
  · have hp1 : 0 < pl := Nat.pos_of_ne_zero hp0
    have hq1 : (0 : Int) < (pl : Int) := by omega
    obtain ⟨hv1, hv2, hv3⟩ := HPUT.out hp1
    have HV : Hid (Pvt w ⟨2, 0, pao, pl, pcap, put, 0, 0, false, ⟨#[]⟩⟩ ∧ Far ⟨2, 0, pao, pl, pcap, put, 0, 0, false, ⟨#[]⟩⟩ (.slice tao ol tcap) ∧ High (w1.heap.size + 3) ⟨2, 0, pao, pl, pcap, put, 0, 0, false, ⟨#[]⟩⟩) := ⟨hv1, hv2, hv3⟩
    clear hv1 hv2 hv3
    have HFL : Hid (Ac.flushP put cut = Ac.putP put :: (if cut = 0 then [] else [Ac.cutP cut])) := by
      have : put.isEmpty = false := by
        cases hq : put
        · have := HPL.out; rw [hq] at this; simp at this; omega
        · rfl
      show _ = _
      unfold Ac.flushP
      rw [this]
      rfl
    have HCU : Hid (cut ≤ 1000000) := hc
    go_enter Tryz.func262, Tryz.ntmps262
    go_wp2_with (at_builtin; refine wpList_append_lies _ rfl (.tmp 6) (.tmp 9) 44 rfl (w1.heap.size + 3) 162 i0 (.agg #[.int .i64 0, .int .i64 0, .slice none 0 0, .int .i64 0, .int .i64 0, .bool false, .string ⟨#[]⟩]) 7 80 Tryz.underlying44 hi hz0 hz1 hz2 rfl (by decide) _ ol (pvCells out) rfl ?c1 ⟨w.heap.size, 0, none⟩ 1 1 [.int .i64 2, .int .i64 0, .slice pao pl pcap, .int .i64 0, .int .i64 0, .bool false, .string ⟨#[]⟩] rfl rfl ?c2 ?c3 (by decide) ?c4 ?c5 ?c6 _ rfl ?c7)
    case c1 => exact HOW.out.alloc _
    case c2 => exact World.news_of_block (cs := #[.int .i64 2, .int .i64 0, .slice pao pl pcap, .int .i64 0, .int .i64 0, .bool false, .string ⟨#[]⟩]) (heap_alloc_new w _)
    case c3 => exact pvCells_oneCell [⟨2, 0, pao, pl, pcap, put, 0, 0, false, ⟨#[]⟩⟩]
    case c4 => unfold maxLen; omega
    case c5 => omega
    case c6 => first | omega | (simp; omega)
    case c7 =>
      intro g cap2 w3 hown hgrow hat hlt
      have hal : Below w.heap.size w (w.alloc (.cells #[.int .i64 2, .int .i64 0, .slice pao pl pcap, .int .i64 0, .int .i64 0, .bool false, .string ⟨#[]⟩] 162)) := (Below.refl _ _).alloc (Nat.le_refl _) _
      obtain ⟨ht3, hk3⟩ := HT.out.tide.push (v := ⟨2, 0, pao, pl, pcap, put, 0, 0, false, ⟨#[]⟩⟩) HV.out.1 HV.out.2.1 HV.out.2.2 hal (by rw [HOL.out]; exact hown) hgrow (by rcases hat with h | h; exact .inl h; exact .inr (h.trans (World.size_alloc ..).symm))
      rw [HOL.out] at ht3
      have HK : Hid (Kept w w3 (w1.heap.size :: ob (.slice tao ol tcap))) := kept_cons hk3 _
      have hb3 : Blk w3 w1.heap.size [(.slice tao ol tcap)] 44 := hk3.blk HT.out.tb (fun hx => by have := ownBlk_ge HT.out.tide.own _ (ob_mem hx); omega)
      obtain ⟨ht4, hk4, hb4⟩ := ht3.var HK.out hb3
      have r0 : w3.cell? ⟨w1.heap.size, 0, none⟩ = some (.slice tao ol tcap) := hb3.cell 0
      have r1 := hb3.frozen 0
      have hlo : ∀ x ∈ w1.heap.size :: ob (.slice tao ol tcap), x = w1.heap.size ∨ w1.heap.size + 3 ≤ x := fun x hx => by
        rcases List.mem_cons.1 hx with rfl | hx
        · exact .inl rfl
        · exact .inr (ownBlk_ge HT.out.tide.own x (ob_mem hx))
      have hp3 : Blk w3 (w1.heap.size + 1) [pv] 33 := HK.out.blk HT.out.pb (fun hx => by have := hlo _ hx; omega)
      have hc3 : Blk w3 (w1.heap.size + 2) [.int .i64 cut] 3 := HK.out.blk HT.out.cb (fun hx => by have := hlo _ hx; omega)
      have u1 : w3.cell? ⟨w1.heap.size + 1, 0, none⟩ = some (.slice pao pl pcap) := by rw [← HPV.out]; exact hp3.cell 0
      have u2 : w3.cell? ⟨w1.heap.size + 2, 0, none⟩ = some (.int .i64 cut) := hc3.cell 0
      have y1 := hp3.frozen 0
      have y2 := hc3.frozen 0
      have HT4 : Hid (Tide (w3.setCell ⟨w1.heap.size, 0, none⟩ (.slice (some ⟨g, 0, none⟩) (ol + 1) cap2)) (w1.heap.size + 3) (.slice (some ⟨g, 0, none⟩) (ol + 1) cap2) (out ++ [⟨2, 0, pao, pl, pcap, put, 0, 0, false, ⟨#[]⟩⟩])) := ht4
      have HK4 : Hid (Kept w (w3.setCell ⟨w1.heap.size, 0, none⟩ (.slice (some ⟨g, 0, none⟩) (ol + 1) cap2)) (w1.heap.size :: ob (.slice tao ol tcap))) := hk4
      have HB4 : Hid (Blk (w3.setCell ⟨w1.heap.size, 0, none⟩ (.slice (some ⟨g, 0, none⟩) (ol + 1) cap2)) w1.heap.size [(.slice (some ⟨g, 0, none⟩) (ol + 1) cap2)] 44) := hb4
      have HOL2 : Hid ((out ++ [(⟨2, 0, pao, pl, pcap, put, 0, 0, false, ⟨#[]⟩⟩ : PV)]).length = ol + 1) := by show _ = _; rw [List.length_append, HOL.out]; rfl
      have HG4 : Hid (Value.ownBlock (.slice (some ⟨g, 0, none⟩) (ol + 1) cap2) = Value.ownBlock (.slice tao ol tcap) ∨ ∀ k, Value.ownBlock (.slice (some ⟨g, 0, none⟩) (ol + 1) cap2) = some k → w.heap.size ≤ k) := by rcases hat with h | h; exact .inl h.symm; exact .inr (fun k hk => by simp [Value.ownBlock] at hk; omega)
      have HP4 : Hid (Blk (w3.setCell ⟨w1.heap.size, 0, none⟩ (.slice (some ⟨g, 0, none⟩) (ol + 1) cap2)) (w1.heap.size + 1) [.slice pao pl pcap] 33) := by have := hp3.other ⟨w1.heap.size, 0, none⟩ (.slice (some ⟨g, 0, none⟩) (ol + 1) cap2) (by simp); rw [HPV.out] at this; exact this
      have HC4 : Hid (Blk (w3.setCell ⟨w1.heap.size, 0, none⟩ (.slice (some ⟨g, 0, none⟩) (ol + 1) cap2)) (w1.heap.size + 2) [.int .i64 cut] 3) := hc3.other ⟨w1.heap.size, 0, none⟩ (.slice (some ⟨g, 0, none⟩) (ol + 1) cap2) (by simp)
      clear ht3 hk3 hb3 ht4 hk4 hb4 hown hgrow hat hlt hal hp3 hc3 hlo t0 p0 k0 tz pz kz
      go_upto_region 2 with fail
      change Code.wp Tryz.prog _ _ _ (w3.setCell ⟨w1.heap.size, 0, none⟩ (.slice (some ⟨g, 0, none⟩) (ol + 1) cap2))
      generalize (w3.setCell ⟨w1.heap.size, 0, none⟩ (.slice (some ⟨g, 0, none⟩) (ol + 1) cap2)) = W4 at *
      clear r0 r1 u1 u2 y1 y2
      have r0 : W4.cell? ⟨w1.heap.size, 0, none⟩ = some (.slice (some ⟨g, 0, none⟩) (ol + 1) cap2) := HB4.out.cell 0
      have r1 := HB4.out.frozen 0
      have u1 : W4.cell? ⟨w1.heap.size + 1, 0, none⟩ = some (.slice pao pl pcap) := HP4.out.cell 0
      have u2 : W4.cell? ⟨w1.heap.size + 2, 0, none⟩ = some (.int .i64 cut) := HC4.out.cell 0
      have y1 := HP4.out.frozen 0
      have y2 := HC4.out.frozen 0
      by_cases hc0 : cut = 0
      · subst hc0
        have HS : Hid (Tdy w1 (.slice (some ⟨g, 0, none⟩) (ol + 1) cap2) (.slice none 0 0) (out ++ [⟨2, 0, pao, pl, pcap, put, 0, 0, false, ⟨#[]⟩⟩]) [] 0 ((W4.setCell ⟨w1.heap.size + 1, 0, none⟩ (.slice none 0 0)).setCell ⟨w1.heap.size + 2, 0, none⟩ (.int .i64 0))) := HT.out.settled HT4.out HK4.out HB4.out
        have HKE : Hid (Kept w ((W4.setCell ⟨w1.heap.size + 1, 0, none⟩ (.slice none 0 0)).setCell ⟨w1.heap.size + 2, 0, none⟩ (.int .i64 0)) (w1.heap.size :: (w1.heap.size + 1) :: (w1.heap.size + 2) :: ob (.slice tao ol tcap))) := kept_settled HK4.out
        have HFL2 : Hid ((out ++ [(⟨2, 0, pao, pl, pcap, put, 0, 0, false, ⟨#[]⟩⟩ : PV)]).map PV.pt = out.map PV.pt ++ Ac.flushP put 0) := by show _ = _; rw [HFL.out, List.map_append]; rfl
        have HLEN : Hid ((out ++ [(⟨2, 0, pao, pl, pcap, put, 0, 0, false, ⟨#[]⟩⟩ : PV)]).length ≤ out.length + 2) := by show _ ≤ _; simp
        clear HT4 HK4 HB4
        go_wp2
        go_end0
        exact ⟨rfl, _, _, HS.out, HFL2.out, HLEN.out, HKE.out⟩
      · have hc1 : 0 < cut := Nat.pos_of_ne_zero hc0
        have HO4 : Hid (W4.ownsRow (w1.heap.size + 3) 162 7 (.slice (some ⟨g, 0, none⟩) (ol + 1) cap2) (ol + 1) (pvCells (out ++ [⟨2, 0, pao, pl, pcap, put, 0, 0, false, ⟨#[]⟩⟩]))) := by have := HT4.out.own; rw [HOL2.out] at this; exact this
        have hs4 : w1.heap.size + 3 ≤ W4.heap.size := Nat.le_trans hsz HK4.out.size
        go_wp2_with (at_builtin; refine wpList_append_lies _ rfl (.tmp 13) (.tmp 16) 44 rfl (w1.heap.size + 3) 162 i0 (.agg #[.int .i64 0, .int .i64 0, .slice none 0 0, .int .i64 0, .int .i64 0, .bool false, .string ⟨#[]⟩]) 7 80 Tryz.underlying44 hi hz0 hz1 hz2 rfl (by decide) _ (ol + 1) (pvCells (out ++ [⟨2, 0, pao, pl, pcap, put, 0, 0, false, ⟨#[]⟩⟩])) rfl ?e1 ⟨W4.heap.size, 0, none⟩ 1 1 [.int .i64 3, .int .i64 cut, .slice none 0 0, .int .i64 0, .int .i64 0, .bool false, .string ⟨#[]⟩] rfl rfl ?e2 ?e3 (by decide) ?e4 ?e5 ?e6 _ rfl ?e7)
        case e1 => exact HO4.out.alloc _
        case e2 => exact World.news_of_block (cs := #[.int .i64 3, .int .i64 cut, .slice none 0 0, .int .i64 0, .int .i64 0, .bool false, .string ⟨#[]⟩]) (heap_alloc_new W4 _)
        case e3 => exact pvCells_oneCell [⟨3, cut, none, 0, 0, [], 0, 0, false, ⟨#[]⟩⟩]
        case e4 => unfold maxLen; omega
        case e5 => omega
        case e6 => first | omega | (simp; omega) | (have := hs4; simp at this ⊢; omega)
        case e7 =>
          intro g5 cap5 w5 hown hgrow hat hlt
          have hal : Below W4.heap.size W4 (W4.alloc (.cells #[.int .i64 3, .int .i64 cut, .slice none 0 0, .int .i64 0, .int .i64 0, .bool false, .string ⟨#[]⟩] 162)) := (Below.refl _ _).alloc (Nat.le_refl _) _
          obtain ⟨ht5, hk5⟩ := HT4.out.push (v := ⟨3, cut, none, 0, 0, [], 0, 0, false, ⟨#[]⟩⟩) ⟨doc_none _, Nat.zero_le _⟩ (far_zero rfl _) (high_zero rfl _) hal (by rw [HOL2.out]; exact hown) hgrow (by rcases hat with h | h; exact .inl h; exact .inr (h.trans (by simp)))
          rw [HOL2.out] at ht5
          have HK5 : Kept W4 w5 (w1.heap.size :: ob (.slice (some ⟨g, 0, none⟩) (ol + 1) cap2)) := kept_cons hk5 _
          have hb5 : Blk w5 w1.heap.size [(.slice (some ⟨g, 0, none⟩) (ol + 1) cap2)] 44 := hk5.blk HB4.out (fun hx => by have := ownBlk_ge HO4.out _ (ob_mem hx); omega)
          have hp5 : Blk w5 (w1.heap.size + 1) [.slice pao pl pcap] 33 := hk5.blk HP4.out (fun hx => by have := ownBlk_ge HO4.out _ (ob_mem hx); omega)
          have hc5 : Blk w5 (w1.heap.size + 2) [.int .i64 cut] 3 := hk5.blk HC4.out (fun hx => by have := ownBlk_ge HO4.out _ (ob_mem hx); omega)
          obtain ⟨ht6, hk6, hb6⟩ := ht5.var HK5 hb5
          have HS : Hid (Tdy w1 (.slice (some ⟨g5, 0, none⟩) (ol + 1 + 1) cap5) (.slice none 0 0) ((out ++ [⟨2, 0, pao, pl, pcap, put, 0, 0, false, ⟨#[]⟩⟩]) ++ [⟨3, cut, none, 0, 0, [], 0, 0, false, ⟨#[]⟩⟩]) [] 0 (((w5.setCell ⟨w1.heap.size, 0, none⟩ (.slice (some ⟨g5, 0, none⟩) (ol + 1 + 1) cap5)).setCell ⟨w1.heap.size + 1, 0, none⟩ (.slice none 0 0)).setCell ⟨w1.heap.size + 2, 0, none⟩ (.int .i64 0))) := HT.out.settled2 HK4.out HG4.out ht6 hk6 hb6
          have HKE : Hid (Kept w (((w5.setCell ⟨w1.heap.size, 0, none⟩ (.slice (some ⟨g5, 0, none⟩) (ol + 1 + 1) cap5)).setCell ⟨w1.heap.size + 1, 0, none⟩ (.slice none 0 0)).setCell ⟨w1.heap.size + 2, 0, none⟩ (.int .i64 0)) (w1.heap.size :: (w1.heap.size + 1) :: (w1.heap.size + 2) :: ob (.slice tao ol tcap))) := kept_settled (kept_two HK4.out HG4.out hk6)
          have HFL2 : Hid (((out ++ [(⟨2, 0, pao, pl, pcap, put, 0, 0, false, ⟨#[]⟩⟩ : PV)]) ++ [(⟨3, cut, none, 0, 0, [], 0, 0, false, ⟨#[]⟩⟩ : PV)]).map PV.pt = out.map PV.pt ++ Ac.flushP put cut) := by show _ = _; rw [HFL.out, if_neg hc0, List.map_append, List.map_append, List.append_assoc]; rfl
          have HLEN : Hid (((out ++ [(⟨2, 0, pao, pl, pcap, put, 0, 0, false, ⟨#[]⟩⟩ : PV)]) ++ [(⟨3, cut, none, 0, 0, [], 0, 0, false, ⟨#[]⟩⟩ : PV)]).length ≤ out.length + 2) := by show _ ≤ _; simp
          have v0 : w5.cell? ⟨w1.heap.size, 0, none⟩ = some (.slice (some ⟨g, 0, none⟩) (ol + 1) cap2) := hb5.cell 0
          have v1 := hb5.frozen 0
          have x1 : w5.cell? ⟨w1.heap.size + 1, 0, none⟩ = some (.slice pao pl pcap) := hp5.cell 0
          have x2 : w5.cell? ⟨w1.heap.size + 2, 0, none⟩ = some (.int .i64 cut) := hc5.cell 0
          have z1 := hp5.frozen 0
          have z2 := hc5.frozen 0
          clear HT4 HK4 HB4 HK5 hb5 hp5 hc5 ht5 hk5 ht6 hk6 hb6 hown hgrow hat hlt hal HO4
          go_wp2
          go_end0
          exact ⟨rfl, _, _, HS.out, HFL2.out, HLEN.out, HKE.out⟩
end Go.Proofs.YtbhcklkbckacpaaGreatDoor

/-
  Package op: a Keep behind what is made.
-/
namespace Go.Proofs.YtbhcklkbckacpaaGreatDoor
open Go.RowKit
namespace Ac
def withK (o : List Pt) (p : Pt) : List Pt := match o.getLast? with
  | some q => if q.kind = 1 ∧ says q p = true then o.dropLast ++ [{ q with n := q.n + p.n }] else o ++ [usedP p]
  | none => o ++ [usedP p]
theorem withK_nil (p : Pt) : withK [] p = [usedP p] := rfl
theorem withK_snoc (o : List Pt) (q p : Pt) : withK (o ++ [q]) p = if q.kind = 1 ∧ says q p = true then o ++ [{ q with n := q.n + p.n }] else o ++ [q] ++ [usedP p] := by
  unfold withK
  rw [List.getLast?_concat, List.dropLast_concat]
end Ac
theorem pvCells_setn : ∀ (l : List PV) (v : PV) (y : Int), (pvCells (l ++ [v])).set (l.length * 7 + 1) (.int .i64 y) = pvCells (l ++ [{ v with n := y }])
  | [], v, y => rfl
  | x :: l, v, y => by
    have := pvCells_setn l v y
    rw [List.cons_append, pvCells_cons, List.length_cons, show (l.length + 1) * 7 + 1 = l.length * 7 + 1 + 1 + 1 + 1 + 1 + 1 + 1 + 1 by omega]
    simp only [List.set_cons_succ]
    rw [this]
    rfl
theorem Seven.drew {w : World} {b off : Nat} {v : PV} (h : Seven w b off v) : Seven w.drew b off v := ⟨h.c0, h.c1, h.c2, h.c3, h.c4, h.c5, h.c6⟩
structure WithTo (w : World) (B : Nat) (tv : Value) (out : List PV) (p : PV) (w' : World) (tv' : Value) (out' : List PV) : Prop where
  tide : Tide w' B tv' out'
  pt : out'.map PV.pt = Ac.withK (out.map PV.pt) p.pt
  kept : Kept w w' (ob tv)
  own : tv'.ownBlock = tv.ownBlock ∨ ∀ k, tv'.ownBlock = some k → w.heap.size ≤ k

set_option maxRecDepth 100000 in
set_option maxHeartbeats 3200000 in
theorem withK_add (w wb : World) (B : Nat) (tao : Option Addr) (ol tcap : Nat) (out : List PV) (p : PV) (hT : Tide w B (.slice tao ol tcap) out) (hol : out.length = ol) (hP : Pvt w (usedV p)) (hF : Far (usedV p) (.slice tao ol tcap)) (hH : High B (usedV p)) (hwb : Below w.heap.size w wb) (w2 : World) (hw2 : Below wb.heap.size wb w2) (g cap2 : Nat) (w3 : World)
    (hpt : (out ++ [usedV p]).map PV.pt = Ac.withK (out.map PV.pt) p.pt)
    (hown : w3.ownsRow B 162 7 (.slice (some ⟨g, 0, none⟩) (ol + 1) cap2) (ol + 1) (pvCells out ++ pvC (usedV p))) (hgrow : w2.grownBy w3 (Value.slice tao ol tcap).ownBlock) (hat : (Value.slice tao ol tcap).ownBlock = some g ∨ g = w2.heap.size) :
    WithTo w B (.slice tao ol tcap) out p w3 (.slice (some ⟨g, 0, none⟩) (ol + 1) cap2) (out ++ [usedV p]) := by
  have hal : Below w.heap.size w w2 := hwb.trans (hw2.mono hwb.size)
  obtain ⟨ht3, hk3⟩ := hT.push (v := usedV p) hP hF hH hal (by rw [hol]; exact hown) hgrow hat
  rw [hol] at ht3
  refine ⟨ht3, hpt, hk3, ?_⟩
  rcases hat with h | h
  · exact .inl h.symm
  · refine .inr (fun k hk => ?_)
    have := hal.size
    simp [Value.ownBlock] at hk
    omega
theorem wk_store (w w6 : World) (B g0 tcap j : Nat) (out0 : List PV) (q p : PV) (hT : Tide w B (.slice (some ⟨g0, 0, none⟩) (j + 1) tcap) (out0 ++ [q])) (hj : out0.length = j) (hb : Below w.heap.size w w6)
    (hpt : (out0 ++ [{ q with n := q.n + p.n }]).map PV.pt = Ac.withK ((out0 ++ [q]).map PV.pt) p.pt) :
    WithTo w B (.slice (some ⟨g0, 0, none⟩) (j + 1) tcap) (out0 ++ [q]) p (w6.setCell ⟨g0, j * 7 + 1, none⟩ (.int .i64 (q.n + p.n))).drew (.slice (some ⟨g0, 0, none⟩) (j + 1) tcap) (out0 ++ [{ q with n := q.n + p.n }]) := by
  have hk : Kept w (w6.setCell ⟨g0, j * 7 + 1, none⟩ (.int .i64 (q.n + p.n))).drew (ob (.slice (some ⟨g0, 0, none⟩) (j + 1) tcap)) :=
    (((kept_of_below hb).mono (fun x hx => by cases hx)).setCell _ _ (.inl (by simp [ob, Value.ownBlock]))).drew
  have hl : (out0 ++ [q]).length = j + 1 := by rw [List.length_append, hj]; rfl
  have ho := (hT.under hb).own
  rw [hl] at ho
  have hst := (ho.stored (j * 7 + 1) (.int .i64 (q.n + p.n))).1
  rw [← hj, pvCells_setn, hj] at hst
  have hp : ∀ u : PV, Pvt w u → Far u (.slice (some ⟨g0, 0, none⟩) (j + 1) tcap) → Pvt (w6.setCell ⟨g0, j * 7 + 1, none⟩ (.int .i64 (q.n + p.n))).drew u := fun u hu hf => hu.kept hk (fun a hm ha hx => hf a hm ha (ob_mem hx).symm)
  have hq : q ∈ out0 ++ [q] := by simp
  refine ⟨⟨?_, fun u hu => ?_, fun u hu => ?_, fun u hu => ?_⟩, hpt, hk, .inl rfl⟩
  · rw [List.length_append, hj]; exact hst.drew
  · rcases List.mem_append.1 hu with h | h
    · exact hp u (hT.pts u (List.mem_append_left _ h)) (hT.far u (List.mem_append_left _ h))
    · rw [List.mem_singleton.1 h]
      have := hp q (hT.pts q hq) (hT.far q hq)
      exact ⟨this.doc, this.fit⟩
  · rcases List.mem_append.1 hu with h | h
    · exact hT.far u (List.mem_append_left _ h)
    · rw [List.mem_singleton.1 h]; exact hT.far q hq
  · rcases List.mem_append.1 hu with h | h
    · exact hT.hi u (List.mem_append_left _ h)
    · rw [List.mem_singleton.1 h]; exact hT.hi q hq
set_option maxRecDepth 100000 in
set_option maxHeartbeats 3200000 in
theorem wk_nil (w : World) (B : Nat) (tv : Value)  (p : PV) (hT : Tide w B tv ([] : List PV)) (hB : B ≤ w.heap.size) (ho : ([] : List PV).length ≤ 100000) (hP : Pvt w p) (hF : Far (usedV p) tv) (hH : High B (usedV p)) (hn : ∀ z ∈ ([] : List PV), 0 ≤ z.n ∧ z.n ≤ 100000) (hpn : 0 ≤ p.n ∧ p.n ≤ 100000) :
    Calls Tryz.prog 263 #[tv, .agg #[.int .i64 p.kind, .int .i64 p.n, .slice p.ao p.m p.cap, .int .i64 p.set, .int .i64 p.clr, .bool p.goes, .string p.link]] w fun e w' => ∃ tv' out', e = .returned tv' ∧ WithTo w B tv ([] : List PV) p w' tv' out' := by
  obtain ⟨i0, hi, hz0, hz1, hz2⟩ := info_parts Tryz.infP
  obtain ⟨tao, tcap, htv, hrow⟩ := own_row hT.own
  obtain ⟨ol, hol⟩ : ∃ ol, ([] : List PV).length = ol := ⟨_, rfl⟩
  have HOL : Hid (([] : List PV).length = ol) := hol
  rw [hol] at htv ho
  have hroom := hrow.room
  rw [hol] at hroom
  subst htv
  have HT : Hid (Tide w B (.slice tao ol tcap) []) := hT
  have H1 : Hid (Below w.heap.size w (boxp p w)) := boxp_below _ w
  have HSV : Hid (Seven (boxp p w) w.heap.size 0 p) := boxp_at _ w
  have HPU : Hid (Pvt w (usedV p)) := usedV_pvt hP
  have HFU : Hid (Far (usedV p) (.slice tao ol tcap)) := hF
  have HHU : Hid (High B (usedV p)) := hH
  have HUP : Hid ((usedV p).pt = Ac.usedP p.pt) := usedV_pt p
  have CU : Hid (∀ w', Calls Tryz.prog 267 #[.agg #[.int .i64 p.kind, .int .i64 p.n, .slice p.ao p.m p.cap, .int .i64 p.set, .int .i64 p.clr, .bool p.goes, .string p.link]] w' fun e w2 => e = .returned (.agg #[.int .i64 (usedV p).kind, .int .i64 (usedV p).n, .slice (usedV p).ao (usedV p).m (usedV p).cap, .int .i64 (usedV p).set, .int .i64 (usedV p).clr, .bool (usedV p).goes, .string (usedV p).link]) ∧ Below w'.heap.size w' w2) := fun w' => used_any p w'
  have HNN : Hid (∀ z ∈ ([] : List PV), 0 ≤ z.n ∧ z.n ≤ 100000) := hn
  obtain ⟨hpn0, hpn1⟩ := hpn
  have HOW : Hid (w.ownsRow B 162 7 (.slice tao ol tcap) ol (pvCells [])) := by have := hT.own; rw [hol] at this; exact this
  clear hT hP hF hH hn hol hrow
  obtain rfl : ol = 0 := HOL.out.symm
  have HPT : Hid (([] ++ [usedV p] : List PV).map PV.pt = Ac.withK (([] : List PV).map PV.pt) p.pt) := by show [(usedV p).pt] = _; rw [HUP.out]; rfl
  go_enter Tryz.func263, Tryz.ntmps263
  go_upto_region 2 with fail
  change Code.wp Tryz.prog _ _ _ (boxp p w)
  generalize boxp p w = W5 at *
  obtain ⟨d0, d1, d2, d3, d4, d5, d6⟩ := HSV.out
  simp only [Nat.zero_add] at d0 d1 d2 d3 d4 d5 d6
  go_quiet (fail)
  go_wp2_with fail
  refine (CU.out _).mono ?_
  rintro e w4 ⟨rfl, hb⟩
  have HB4 : Hid (Below w.heap.size w w4) := (H1.out.trans ((drewN_blw _ _).mono H1.out.size)).trans (hb.mono (H1.out.trans ((drewN_blw _ _).mono H1.out.size)).size)
  have HO4 : Hid (w4.ownsRow B 162 7 (.slice tao 0 tcap) 0 (pvCells [])) := own_under HOW.out HB4.out
  have hs4 : B ≤ w4.heap.size := Nat.le_trans hB HB4.out.size
  clear hb
  go_wp2_with (at_builtin; refine wpList_append_lies _ rfl (.tmp 38) (.tmp 41) 44 rfl B 162 i0 (.agg #[.int .i64 0, .int .i64 0, .slice none 0 0, .int .i64 0, .int .i64 0, .bool false, .string ⟨#[]⟩]) 7 80 Tryz.underlying44 hi hz0 hz1 hz2 rfl (by decide) _ 0 (pvCells []) rfl ?c1 ⟨w4.heap.size, 0, none⟩ 1 1 (pvC (usedV p)) rfl rfl ?c2 ?c3 (by decide) ?c4 ?c5 ?c6 _ rfl ?c7)
  case c1 => exact HO4.out.alloc _
  case c2 => exact World.news_of_block (cs := (pvC (usedV p)).toArray) (heap_alloc_new w4 _)
  case c3 => exact fun u hu => pvCells_oneCell [usedV p] u (by rw [pvCells_one]; exact hu)
  case c4 => unfold maxLen; omega
  case c5 => omega
  case c6 => first | omega | (simp; omega)
  case c7 =>
    intro g cap2 w3 hown hgrow hat hlt
    have HW : Hid (WithTo w B (.slice tao 0 tcap) [] p w3 (.slice (some ⟨g, 0, none⟩) (0 + 1) cap2) ([] ++ [usedV p])) := withK_add w w4 B tao 0 tcap [] p HT.out HOL.out HPU.out HFU.out HHU.out HB4.out _ ((Below.refl _ _).alloc (Nat.le_refl _) _) g cap2 w3 HPT.out hown hgrow (by rcases hat with h | h; exact .inl h; exact .inr (h.trans (World.size_alloc ..).symm))
    clear hown hgrow hat hlt
    go_wp2
    go_ret
    exact ⟨_, _, rfl, HW.out⟩
set_option maxRecDepth 100000 in
set_option maxHeartbeats 3200000 in
theorem wk_other (w : World) (B : Nat) (tv : Value) (out0 : List PV) (q : PV) (hk1 : ¬ q.kind = 1) (p : PV) (hT : Tide w B tv (out0 ++ [q])) (hB : B ≤ w.heap.size) (ho : ((out0 ++ [q])).length ≤ 100000) (hP : Pvt w p) (hF : Far (usedV p) tv) (hH : High B (usedV p)) (hn : ∀ z ∈ (out0 ++ [q]), 0 ≤ z.n ∧ z.n ≤ 100000) (hpn : 0 ≤ p.n ∧ p.n ≤ 100000) :
    Calls Tryz.prog 263 #[tv, .agg #[.int .i64 p.kind, .int .i64 p.n, .slice p.ao p.m p.cap, .int .i64 p.set, .int .i64 p.clr, .bool p.goes, .string p.link]] w fun e w' => ∃ tv' out', e = .returned tv' ∧ WithTo w B tv (out0 ++ [q]) p w' tv' out' := by
  obtain ⟨i0, hi, hz0, hz1, hz2⟩ := info_parts Tryz.infP
  obtain ⟨tao, tcap, htv, hrow⟩ := own_row hT.own
  obtain ⟨ol, hol⟩ : ∃ ol, ((out0 ++ [q])).length = ol := ⟨_, rfl⟩
  have HOL : Hid (((out0 ++ [q])).length = ol) := hol
  rw [hol] at htv ho
  have hroom := hrow.room
  rw [hol] at hroom
  subst htv
  have HT : Hid (Tide w B (.slice tao ol tcap) (out0 ++ [q])) := hT
  have H1 : Hid (Below w.heap.size w (boxp p w)) := boxp_below _ w
  have HSV : Hid (Seven (boxp p w) w.heap.size 0 p) := boxp_at _ w
  have HPU : Hid (Pvt w (usedV p)) := usedV_pvt hP
  have HFU : Hid (Far (usedV p) (.slice tao ol tcap)) := hF
  have HHU : Hid (High B (usedV p)) := hH
  have HUP : Hid ((usedV p).pt = Ac.usedP p.pt) := usedV_pt p
  have CU : Hid (∀ w', Calls Tryz.prog 267 #[.agg #[.int .i64 p.kind, .int .i64 p.n, .slice p.ao p.m p.cap, .int .i64 p.set, .int .i64 p.clr, .bool p.goes, .string p.link]] w' fun e w2 => e = .returned (.agg #[.int .i64 (usedV p).kind, .int .i64 (usedV p).n, .slice (usedV p).ao (usedV p).m (usedV p).cap, .int .i64 (usedV p).set, .int .i64 (usedV p).clr, .bool (usedV p).goes, .string (usedV p).link]) ∧ Below w'.heap.size w' w2) := fun w' => used_any p w'
  have HNN : Hid (∀ z ∈ (out0 ++ [q]), 0 ≤ z.n ∧ z.n ≤ 100000) := hn
  obtain ⟨hpn0, hpn1⟩ := hpn
  have HOW : Hid (w.ownsRow B 162 7 (.slice tao ol tcap) ol (pvCells (out0 ++ [q]))) := by have := hT.own; rw [hol] at this; exact this
  clear hT hP hF hH hn hol hrow
  obtain ⟨j, hj⟩ : ∃ j, out0.length = j := ⟨_, rfl⟩
  obtain rfl : ol = j + 1 := by rw [← HOL.out, List.length_append, hj]; rfl
  have HJ : Hid (out0.length = j) := hj
  obtain ⟨g0, tc0, htv, -, hg0⟩ := HOW.out.form (Nat.succ_pos j)
  simp only [Value.slice.injEq, true_and] at htv
  obtain ⟨rfl, -⟩ := htv
  have hjl : j < (out0 ++ [q]).length := by rw [List.length_append, hj]; simp
  obtain ⟨k0, k1, k2, k3, k4, k5, k6⟩ := pvCells_at (out0 ++ [q]) j hjl
  have hgj : (out0 ++ [q])[j] = q := by simp [← hj]
  rw [hgj] at k0 k1 k2 k3 k4 k5 k6
  have hc : ∀ i u, i < 7 → (pvCells (out0 ++ [q]))[j * 7 + i]? = some u → w.cell? ⟨g0, j * 7 + i, none⟩ = some u := fun i u hi h => (HOW.out.cellAt (j * 7 + i) (by omega)).trans h
  have SQ : Seven w g0 (j * 7) q := ⟨hc 0 _ (by omega) k0, hc 1 _ (by omega) k1, hc 2 _ (by omega) k2, hc 3 _ (by omega) k3, hc 4 _ (by omega) k4, hc 5 _ (by omega) k5, hc 6 _ (by omega) k6⟩
  have HSQ : Hid (Seven w g0 (j * 7) q) := SQ
  have HSQ5 : Hid (Seven (boxp p w) g0 (j * 7) q) := SQ.below H1.out
  have hqn := HNN.out q (by simp)
  have CSS : Hid (∀ w', Calls Tryz.prog 226 #[.agg #[.int .i64 q.kind, .int .i64 q.n, .slice q.ao q.m q.cap, .int .i64 q.set, .int .i64 q.clr, .bool q.goes, .string q.link], .agg #[.int .i64 p.kind, .int .i64 p.n, .slice p.ao p.m p.cap, .int .i64 p.set, .int .i64 p.clr, .bool p.goes, .string p.link]] w' fun e w2 => e = .returned (.bool (Ac.says q.pt p.pt)) ∧ Below w'.heap.size w' w2) := fun w' => says_any q p w'
  have q1 : (0 : Int) ≤ (j : Int) := by omega
  have q2 : (j : Int) < (j : Int) + 1 := by omega
  have hmap : (out0 ++ [q]).map PV.pt = out0.map PV.pt ++ [q.pt] := by rw [List.map_append]; rfl
  clear hc k0 k1 k2 k3 k4 k5 k6 hgj hjl hj SQ
  have hk1' : (q.kind == 1) = false := by simp [hk1]
  have HPT : Hid (((out0 ++ [q]) ++ [usedV p]).map PV.pt = Ac.withK ((out0 ++ [q]).map PV.pt) p.pt) := by
    show _ = _
    rw [List.map_append, hmap, Ac.withK_snoc, if_neg (fun h => hk1 h.1)]
    show _ ++ [(usedV p).pt] = _
    rw [HUP.out]
  clear hmap
  go_enter Tryz.func263, Tryz.ntmps263
  go_upto_region 2 with fail
  change Code.wp Tryz.prog _ _ _ (boxp p w)
  generalize boxp p w = W5 at *
  obtain ⟨d0, d1, d2, d3, d4, d5, d6⟩ := HSV.out
  simp only [Nat.zero_add] at d0 d1 d2 d3 d4 d5 d6
  obtain ⟨b0, b1, b2, b3, b4, b5, b6⟩ := HSQ5.out
  go_quiet (fail)
  go_wp2_with fail
  refine (CU.out _).mono ?_
  rintro e w4 ⟨rfl, hb⟩
  have HB4 : Hid (Below w.heap.size w w4) := (H1.out.trans ((drewN_blw _ _).mono H1.out.size)).trans (hb.mono (H1.out.trans ((drewN_blw _ _).mono H1.out.size)).size)
  have HO4 : Hid (w4.ownsRow B 162 7 (.slice (some ⟨g0, 0, none⟩) (j + 1) tcap) (j + 1) (pvCells (out0 ++ [q]))) := own_under HOW.out HB4.out
  have hs4 : B ≤ w4.heap.size := Nat.le_trans hB HB4.out.size
  clear hb
  go_wp2_with (at_builtin; refine wpList_append_lies _ rfl (.tmp 38) (.tmp 41) 44 rfl B 162 i0 (.agg #[.int .i64 0, .int .i64 0, .slice none 0 0, .int .i64 0, .int .i64 0, .bool false, .string ⟨#[]⟩]) 7 80 Tryz.underlying44 hi hz0 hz1 hz2 rfl (by decide) _ (j + 1) (pvCells (out0 ++ [q])) rfl ?c1 ⟨w4.heap.size, 0, none⟩ 1 1 (pvC (usedV p)) rfl rfl ?c2 ?c3 (by decide) ?c4 ?c5 ?c6 _ rfl ?c7)
  case c1 => exact HO4.out.alloc _
  case c2 => exact World.news_of_block (cs := (pvC (usedV p)).toArray) (heap_alloc_new w4 _)
  case c3 => exact fun u hu => pvCells_oneCell [usedV p] u (by rw [pvCells_one]; exact hu)
  case c4 => unfold maxLen; omega
  case c5 => omega
  case c6 => first | omega | (simp; omega)
  case c7 =>
    intro g cap2 w3 hown hgrow hat hlt
    have HW : Hid (WithTo w B (.slice (some ⟨g0, 0, none⟩) (j + 1) tcap) (out0 ++ [q]) p w3 (.slice (some ⟨g, 0, none⟩) ((j + 1) + 1) cap2) ((out0 ++ [q]) ++ [usedV p])) := withK_add w w4 B (some ⟨g0, 0, none⟩) (j + 1) tcap (out0 ++ [q]) p HT.out HOL.out HPU.out HFU.out HHU.out HB4.out _ ((Below.refl _ _).alloc (Nat.le_refl _) _) g cap2 w3 HPT.out hown hgrow (by rcases hat with h | h; exact .inl h; exact .inr (h.trans (World.size_alloc ..).symm))
    clear hown hgrow hat hlt
    go_wp2
    go_ret
    exact ⟨_, _, rfl, HW.out⟩
end Go.Proofs.YtbhcklkbckacpaaGreatDoor

/-
  Package op: a Keep behind a Keep.
-/
namespace Go.Proofs.YtbhcklkbckacpaaGreatDoor
open Go.RowKit
set_option maxRecDepth 100000 in
set_option maxHeartbeats 3200000 in
theorem wk_new (w : World) (B : Nat) (tv : Value) (p : PV) (out0 : List PV) (q : PV) (hk1 : q.kind = 1) (hsy : Ac.says q.pt p.pt = false) (hT : Tide w B tv (out0 ++ [q])) (hB : B ≤ w.heap.size) (ho : ((out0 ++ [q])).length ≤ 100000) (hP : Pvt w p) (hF : Far (usedV p) tv) (hH : High B (usedV p)) (hn : ∀ z ∈ (out0 ++ [q]), 0 ≤ z.n ∧ z.n ≤ 100000) (hpn : 0 ≤ p.n ∧ p.n ≤ 100000) :
    Calls Tryz.prog 263 #[tv, .agg #[.int .i64 p.kind, .int .i64 p.n, .slice p.ao p.m p.cap, .int .i64 p.set, .int .i64 p.clr, .bool p.goes, .string p.link]] w fun e w' => ∃ tv' out', e = .returned tv' ∧ WithTo w B tv (out0 ++ [q]) p w' tv' out' := by
  obtain ⟨i0, hi, hz0, hz1, hz2⟩ := info_parts Tryz.infP
  obtain ⟨tao, tcap, htv, hrow⟩ := own_row hT.own
  obtain ⟨ol, hol⟩ : ∃ ol, ((out0 ++ [q])).length = ol := ⟨_, rfl⟩
  have HOL : Hid (((out0 ++ [q])).length = ol) := hol
  rw [hol] at htv ho
  have hroom := hrow.room
  rw [hol] at hroom
  subst htv
  have HT : Hid (Tide w B (.slice tao ol tcap) (out0 ++ [q])) := hT
  have H1 : Hid (Below w.heap.size w (boxp p w)) := boxp_below _ w
  have HSV : Hid (Seven (boxp p w) w.heap.size 0 p) := boxp_at _ w
  have HPU : Hid (Pvt w (usedV p)) := usedV_pvt hP
  have HFU : Hid (Far (usedV p) (.slice tao ol tcap)) := hF
  have HHU : Hid (High B (usedV p)) := hH
  have HUP : Hid ((usedV p).pt = Ac.usedP p.pt) := usedV_pt p
  have CU : Hid (∀ w', Calls Tryz.prog 267 #[.agg #[.int .i64 p.kind, .int .i64 p.n, .slice p.ao p.m p.cap, .int .i64 p.set, .int .i64 p.clr, .bool p.goes, .string p.link]] w' fun e w2 => e = .returned (.agg #[.int .i64 (usedV p).kind, .int .i64 (usedV p).n, .slice (usedV p).ao (usedV p).m (usedV p).cap, .int .i64 (usedV p).set, .int .i64 (usedV p).clr, .bool (usedV p).goes, .string (usedV p).link]) ∧ Below w'.heap.size w' w2) := fun w' => used_any p w'
  have HNN : Hid (∀ z ∈ (out0 ++ [q]), 0 ≤ z.n ∧ z.n ≤ 100000) := hn
  obtain ⟨hpn0, hpn1⟩ := hpn
  have HOW : Hid (w.ownsRow B 162 7 (.slice tao ol tcap) ol (pvCells (out0 ++ [q]))) := by have := hT.own; rw [hol] at this; exact this
  clear hT hP hF hH hn hol hrow
  obtain ⟨j, hj⟩ : ∃ j, out0.length = j := ⟨_, rfl⟩
  obtain rfl : ol = j + 1 := by rw [← HOL.out, List.length_append, hj]; rfl
  have HJ : Hid (out0.length = j) := hj
  obtain ⟨g0, tc0, htv, -, hg0⟩ := HOW.out.form (Nat.succ_pos j)
  simp only [Value.slice.injEq, true_and] at htv
  obtain ⟨rfl, -⟩ := htv
  have hjl : j < (out0 ++ [q]).length := by rw [List.length_append, hj]; simp
  obtain ⟨k0, k1, k2, k3, k4, k5, k6⟩ := pvCells_at (out0 ++ [q]) j hjl
  have hgj : (out0 ++ [q])[j] = q := by simp [← hj]
  rw [hgj] at k0 k1 k2 k3 k4 k5 k6
  have hc : ∀ i u, i < 7 → (pvCells (out0 ++ [q]))[j * 7 + i]? = some u → w.cell? ⟨g0, j * 7 + i, none⟩ = some u := fun i u hi h => (HOW.out.cellAt (j * 7 + i) (by omega)).trans h
  have SQ : Seven w g0 (j * 7) q := ⟨hc 0 _ (by omega) k0, hc 1 _ (by omega) k1, hc 2 _ (by omega) k2, hc 3 _ (by omega) k3, hc 4 _ (by omega) k4, hc 5 _ (by omega) k5, hc 6 _ (by omega) k6⟩
  have HSQ : Hid (Seven w g0 (j * 7) q) := SQ
  have HSQ5 : Hid (Seven (boxp p w) g0 (j * 7) q) := SQ.below H1.out
  have hqn := HNN.out q (by simp)
  have CSS : Hid (∀ w', Calls Tryz.prog 226 #[.agg #[.int .i64 q.kind, .int .i64 q.n, .slice q.ao q.m q.cap, .int .i64 q.set, .int .i64 q.clr, .bool q.goes, .string q.link], .agg #[.int .i64 p.kind, .int .i64 p.n, .slice p.ao p.m p.cap, .int .i64 p.set, .int .i64 p.clr, .bool p.goes, .string p.link]] w' fun e w2 => e = .returned (.bool (Ac.says q.pt p.pt)) ∧ Below w'.heap.size w' w2) := fun w' => says_any q p w'
  have q1 : (0 : Int) ≤ (j : Int) := by omega
  have q2 : (j : Int) < (j : Int) + 1 := by omega
  have hmap : (out0 ++ [q]).map PV.pt = out0.map PV.pt ++ [q.pt] := by rw [List.map_append]; rfl
  clear hc k0 k1 k2 k3 k4 k5 k6 hgj hjl hj SQ
  have hk1' : (q.kind == 1) = true := by simp [hk1]
  have HPT : Hid (((out0 ++ [q]) ++ [usedV p]).map PV.pt = Ac.withK ((out0 ++ [q]).map PV.pt) p.pt) := by
    show _ = _
    rw [List.map_append, hmap, Ac.withK_snoc, if_neg (fun h => by rw [hsy] at h; cases h.2)]
    show _ ++ [(usedV p).pt] = _
    rw [HUP.out]
  have HK1 : Hid (q.kind = 1) := hk1
  clear hmap hk1
  go_enter Tryz.func263, Tryz.ntmps263
  go_upto_region 2 with fail
  change Code.wp Tryz.prog _ _ _ (boxp p w)
  generalize boxp p w = W5 at *
  obtain ⟨d0, d1, d2, d3, d4, d5, d6⟩ := HSV.out
  simp only [Nat.zero_add] at d0 d1 d2 d3 d4 d5 d6
  obtain ⟨b0, b1, b2, b3, b4, b5, b6⟩ := HSQ5.out
  go_region_held3 (fun w' => w'.cell? ⟨g0, j * 7, none⟩ = some (.int .i64 q.kind) ∧ w'.cell? ⟨g0, j * 7 + 1, none⟩ = some (.int .i64 q.n) ∧ w'.cell? ⟨g0, j * 7 + 2, none⟩ = some (.slice q.ao q.m q.cap) ∧ w'.cell? ⟨g0, j * 7 + 3, none⟩ = some (.int .i64 q.set) ∧ w'.cell? ⟨g0, j * 7 + 4, none⟩ = some (.int .i64 q.clr) ∧ w'.cell? ⟨g0, j * 7 + 5, none⟩ = some (.bool q.goes) ∧ w'.cell? ⟨g0, j * 7 + 6, none⟩ = some (.string q.link) ∧ w'.cell? ⟨w.heap.size, 0, none⟩ = some (.int .i64 p.kind) ∧ w'.cell? ⟨w.heap.size, 1, none⟩ = some (.int .i64 p.n) ∧ w'.cell? ⟨w.heap.size, 2, none⟩ = some (.slice p.ao p.m p.cap) ∧ w'.cell? ⟨w.heap.size, 3, none⟩ = some (.int .i64 p.set) ∧ w'.cell? ⟨w.heap.size, 4, none⟩ = some (.int .i64 p.clr) ∧ w'.cell? ⟨w.heap.size, 5, none⟩ = some (.bool p.goes) ∧ w'.cell? ⟨w.heap.size, 6, none⟩ = some (.string p.link)) (first | exact ⟨b0, b1, b2, b3, b4, b5, b6, d0, d1, d2, d3, d4, d5, d6⟩ | exact ⟨x0, x1, x2, x3, x4, x5, x6, y0, y1, y2, y3, y4, y5, y6⟩) (first | (go_at_call 226; refine (CSS.out _).mono ?_; rintro e w6 ⟨rfl, hb⟩; have HB6 : Hid (Below w.heap.size w w6) := H1.out.drew.trans (hb.mono (Below.size H1.out.drew)); have HSP6 : Hid (Seven w6 w.heap.size 0 p) := HSV.out.drew.below hb; have HSQ6 : Hid (Seven w6 g0 (j * 7) q) := HSQ5.out.drew.below hb; obtain ⟨y0, y1, y2, y3, y4, y5, y6⟩ := HSP6.out; obtain ⟨x0, x1, x2, x3, x4, x5, x6⟩ := HSQ6.out; simp only [Nat.zero_add] at y0 y1 y2 y3 y4 y5 y6; clear hb; rw [hsy]))
  go_wp2_with fail
  refine (CU.out _).mono ?_
  rintro e w4 ⟨rfl, hb⟩
  have HB4 : Hid (Below w.heap.size w w4) := (HB6.out).trans (hb.mono (HB6.out).size)
  have HO4 : Hid (w4.ownsRow B 162 7 (.slice (some ⟨g0, 0, none⟩) (j + 1) tcap) (j + 1) (pvCells (out0 ++ [q]))) := own_under HOW.out HB4.out
  have hs4 : B ≤ w4.heap.size := Nat.le_trans hB HB4.out.size
  clear hb
  go_wp2_with (at_builtin; refine wpList_append_lies _ rfl (.tmp 38) (.tmp 41) 44 rfl B 162 i0 (.agg #[.int .i64 0, .int .i64 0, .slice none 0 0, .int .i64 0, .int .i64 0, .bool false, .string ⟨#[]⟩]) 7 80 Tryz.underlying44 hi hz0 hz1 hz2 rfl (by decide) _ (j + 1) (pvCells (out0 ++ [q])) rfl ?c1 ⟨w4.heap.size, 0, none⟩ 1 1 (pvC (usedV p)) rfl rfl ?c2 ?c3 (by decide) ?c4 ?c5 ?c6 _ rfl ?c7)
  case c1 => exact HO4.out.alloc _
  case c2 => exact World.news_of_block (cs := (pvC (usedV p)).toArray) (heap_alloc_new w4 _)
  case c3 => exact fun u hu => pvCells_oneCell [usedV p] u (by rw [pvCells_one]; exact hu)
  case c4 => unfold maxLen; omega
  case c5 => omega
  case c6 => first | omega | (simp; omega)
  case c7 =>
    intro g cap2 w3 hown hgrow hat hlt
    have HW : Hid (WithTo w B (.slice (some ⟨g0, 0, none⟩) (j + 1) tcap) (out0 ++ [q]) p w3 (.slice (some ⟨g, 0, none⟩) ((j + 1) + 1) cap2) ((out0 ++ [q]) ++ [usedV p])) := withK_add w w4 B (some ⟨g0, 0, none⟩) (j + 1) tcap (out0 ++ [q]) p HT.out HOL.out HPU.out HFU.out HHU.out HB4.out _ ((Below.refl _ _).alloc (Nat.le_refl _) _) g cap2 w3 HPT.out hown hgrow (by rcases hat with h | h; exact .inl h; exact .inr (h.trans (World.size_alloc ..).symm))
    clear hown hgrow hat hlt
    go_wp2
    go_ret
    exact ⟨_, _, rfl, HW.out⟩
set_option maxRecDepth 100000 in
set_option maxHeartbeats 3200000 in
theorem wk_same (w : World) (B : Nat) (tv : Value) (p : PV) (out0 : List PV) (q : PV) (hk1 : q.kind = 1) (hsy : Ac.says q.pt p.pt = true) (hT : Tide w B tv (out0 ++ [q])) (_hB : B ≤ w.heap.size) (ho : ((out0 ++ [q])).length ≤ 100000) (hP : Pvt w p) (hF : Far (usedV p) tv) (hH : High B (usedV p)) (hn : ∀ z ∈ (out0 ++ [q]), 0 ≤ z.n ∧ z.n ≤ 100000) (hpn : 0 ≤ p.n ∧ p.n ≤ 100000) :
    Calls Tryz.prog 263 #[tv, .agg #[.int .i64 p.kind, .int .i64 p.n, .slice p.ao p.m p.cap, .int .i64 p.set, .int .i64 p.clr, .bool p.goes, .string p.link]] w fun e w' => ∃ tv' out', e = .returned tv' ∧ WithTo w B tv (out0 ++ [q]) p w' tv' out' := by
  obtain ⟨i0, hi, hz0, hz1, hz2⟩ := info_parts Tryz.infP
  obtain ⟨tao, tcap, htv, hrow⟩ := own_row hT.own
  obtain ⟨ol, hol⟩ : ∃ ol, ((out0 ++ [q])).length = ol := ⟨_, rfl⟩
  have HOL : Hid (((out0 ++ [q])).length = ol) := hol
  rw [hol] at htv ho
  have hroom := hrow.room
  rw [hol] at hroom
  subst htv
  have HT : Hid (Tide w B (.slice tao ol tcap) (out0 ++ [q])) := hT
  have H1 : Hid (Below w.heap.size w (boxp p w)) := boxp_below _ w
  have HSV : Hid (Seven (boxp p w) w.heap.size 0 p) := boxp_at _ w
  have HPU : Hid (Pvt w (usedV p)) := usedV_pvt hP
  have HFU : Hid (Far (usedV p) (.slice tao ol tcap)) := hF
  have HHU : Hid (High B (usedV p)) := hH
  have HUP : Hid ((usedV p).pt = Ac.usedP p.pt) := usedV_pt p
  have CU : Hid (∀ w', Calls Tryz.prog 267 #[.agg #[.int .i64 p.kind, .int .i64 p.n, .slice p.ao p.m p.cap, .int .i64 p.set, .int .i64 p.clr, .bool p.goes, .string p.link]] w' fun e w2 => e = .returned (.agg #[.int .i64 (usedV p).kind, .int .i64 (usedV p).n, .slice (usedV p).ao (usedV p).m (usedV p).cap, .int .i64 (usedV p).set, .int .i64 (usedV p).clr, .bool (usedV p).goes, .string (usedV p).link]) ∧ Below w'.heap.size w' w2) := fun w' => used_any p w'
  have HNN : Hid (∀ z ∈ (out0 ++ [q]), 0 ≤ z.n ∧ z.n ≤ 100000) := hn
  obtain ⟨hpn0, hpn1⟩ := hpn
  have HOW : Hid (w.ownsRow B 162 7 (.slice tao ol tcap) ol (pvCells (out0 ++ [q]))) := by have := hT.own; rw [hol] at this; exact this
  clear hT hP hF hH hn hol hrow
  obtain ⟨j, hj⟩ : ∃ j, out0.length = j := ⟨_, rfl⟩
  obtain rfl : ol = j + 1 := by rw [← HOL.out, List.length_append, hj]; rfl
  have HJ : Hid (out0.length = j) := hj
  obtain ⟨g0, tc0, htv, -, hg0⟩ := HOW.out.form (Nat.succ_pos j)
  simp only [Value.slice.injEq, true_and] at htv
  obtain ⟨rfl, -⟩ := htv
  have hjl : j < (out0 ++ [q]).length := by rw [List.length_append, hj]; simp
  obtain ⟨k0, k1, k2, k3, k4, k5, k6⟩ := pvCells_at (out0 ++ [q]) j hjl
  have hgj : (out0 ++ [q])[j] = q := by simp [← hj]
  rw [hgj] at k0 k1 k2 k3 k4 k5 k6
  have hc : ∀ i u, i < 7 → (pvCells (out0 ++ [q]))[j * 7 + i]? = some u → w.cell? ⟨g0, j * 7 + i, none⟩ = some u := fun i u hi h => (HOW.out.cellAt (j * 7 + i) (by omega)).trans h
  have SQ : Seven w g0 (j * 7) q := ⟨hc 0 _ (by omega) k0, hc 1 _ (by omega) k1, hc 2 _ (by omega) k2, hc 3 _ (by omega) k3, hc 4 _ (by omega) k4, hc 5 _ (by omega) k5, hc 6 _ (by omega) k6⟩
  have HSQ : Hid (Seven w g0 (j * 7) q) := SQ
  have HSQ5 : Hid (Seven (boxp p w) g0 (j * 7) q) := SQ.below H1.out
  have hqn := HNN.out q (by simp)
  have CSS : Hid (∀ w', Calls Tryz.prog 226 #[.agg #[.int .i64 q.kind, .int .i64 q.n, .slice q.ao q.m q.cap, .int .i64 q.set, .int .i64 q.clr, .bool q.goes, .string q.link], .agg #[.int .i64 p.kind, .int .i64 p.n, .slice p.ao p.m p.cap, .int .i64 p.set, .int .i64 p.clr, .bool p.goes, .string p.link]] w' fun e w2 => e = .returned (.bool (Ac.says q.pt p.pt)) ∧ Below w'.heap.size w' w2) := fun w' => says_any q p w'
  have q1 : (0 : Int) ≤ (j : Int) := by omega
  have q2 : (j : Int) < (j : Int) + 1 := by omega
  have hmap : (out0 ++ [q]).map PV.pt = out0.map PV.pt ++ [q.pt] := by rw [List.map_append]; rfl
  clear hc k0 k1 k2 k3 k4 k5 k6 hgj hjl hj SQ
  have hk1' : (q.kind == 1) = true := by simp [hk1]
  have HPT : Hid ((out0 ++ [{ q with n := q.n + p.n }]).map PV.pt = Ac.withK ((out0 ++ [q]).map PV.pt) p.pt) := by
    show _ = _
    rw [hmap, Ac.withK_snoc, if_pos ⟨hk1, hsy⟩, List.map_append]
    rfl
  have HK1 : Hid (q.kind = 1) := hk1
  clear hmap hk1
  go_enter Tryz.func263, Tryz.ntmps263
  go_upto_region 2 with fail
  change Code.wp Tryz.prog _ _ _ (boxp p w)
  generalize boxp p w = W5 at *
  obtain ⟨d0, d1, d2, d3, d4, d5, d6⟩ := HSV.out
  simp only [Nat.zero_add] at d0 d1 d2 d3 d4 d5 d6
  obtain ⟨b0, b1, b2, b3, b4, b5, b6⟩ := HSQ5.out
  go_region_held3 (fun w' => w'.cell? ⟨g0, j * 7, none⟩ = some (.int .i64 q.kind) ∧ w'.cell? ⟨g0, j * 7 + 1, none⟩ = some (.int .i64 q.n) ∧ w'.cell? ⟨g0, j * 7 + 2, none⟩ = some (.slice q.ao q.m q.cap) ∧ w'.cell? ⟨g0, j * 7 + 3, none⟩ = some (.int .i64 q.set) ∧ w'.cell? ⟨g0, j * 7 + 4, none⟩ = some (.int .i64 q.clr) ∧ w'.cell? ⟨g0, j * 7 + 5, none⟩ = some (.bool q.goes) ∧ w'.cell? ⟨g0, j * 7 + 6, none⟩ = some (.string q.link) ∧ w'.cell? ⟨w.heap.size, 0, none⟩ = some (.int .i64 p.kind) ∧ w'.cell? ⟨w.heap.size, 1, none⟩ = some (.int .i64 p.n) ∧ w'.cell? ⟨w.heap.size, 2, none⟩ = some (.slice p.ao p.m p.cap) ∧ w'.cell? ⟨w.heap.size, 3, none⟩ = some (.int .i64 p.set) ∧ w'.cell? ⟨w.heap.size, 4, none⟩ = some (.int .i64 p.clr) ∧ w'.cell? ⟨w.heap.size, 5, none⟩ = some (.bool p.goes) ∧ w'.cell? ⟨w.heap.size, 6, none⟩ = some (.string p.link)) (first | exact ⟨b0, b1, b2, b3, b4, b5, b6, d0, d1, d2, d3, d4, d5, d6⟩ | exact ⟨x0, x1, x2, x3, x4, x5, x6, y0, y1, y2, y3, y4, y5, y6⟩) (first | (go_at_call 226; refine (CSS.out _).mono ?_; rintro e w6 ⟨rfl, hb⟩; have HB6 : Hid (Below w.heap.size w w6) := H1.out.drew.trans (hb.mono (Below.size H1.out.drew)); have HSP6 : Hid (Seven w6 w.heap.size 0 p) := HSV.out.drew.below hb; have HSQ6 : Hid (Seven w6 g0 (j * 7) q) := HSQ5.out.drew.below hb; obtain ⟨y0, y1, y2, y3, y4, y5, y6⟩ := HSP6.out; obtain ⟨x0, x1, x2, x3, x4, x5, x6⟩ := HSQ6.out; simp only [Nat.zero_add] at y0 y1 y2 y3 y4 y5 y6; clear hb; rw [hsy]))
  clear b0 b1 b2 b3 b4 b5 b6 d0 d1 d2 d3 d4 d5 d6
  have HO6 := own_under HOW.out HB6.out
  have z1 := HO6.frozenAt (j * 7 + 1)
  go_wp2_with fail
  go_region
  have HW : Hid (WithTo w B (.slice (some ⟨g0, 0, none⟩) (j + 1) tcap) (out0 ++ [q]) p (w6.setCell ⟨g0, j * 7 + 1, none⟩ (.int .i64 (q.n + p.n))).drew (.slice (some ⟨g0, 0, none⟩) (j + 1) tcap) (out0 ++ [{ q with n := q.n + p.n }])) := wk_store w w6 B g0 tcap j out0 q p HT.out HJ.out HB6.out HPT.out
  clear z1 HO6 x0 x1 x2 x3 x4 x5 x6 y0 y1 y2 y3 y4 y5 y6
  go_wp2
  go_ret
  exact ⟨_, _, rfl, HW.out⟩

theorem withKeep_any (w : World) (B : Nat) (tv : Value) (out : List PV) (p : PV) (hT : Tide w B tv out) (hB : B ≤ w.heap.size) (ho : out.length ≤ 100000) (hP : Pvt w p) (hF : Far (usedV p) tv) (hH : High B (usedV p)) (hn : ∀ z ∈ out, 0 ≤ z.n ∧ z.n ≤ 100000) (hpn : 0 ≤ p.n ∧ p.n ≤ 100000) :
    Calls Tryz.prog 263 #[tv, .agg #[.int .i64 p.kind, .int .i64 p.n, .slice p.ao p.m p.cap, .int .i64 p.set, .int .i64 p.clr, .bool p.goes, .string p.link]] w fun e w' => ∃ tv' out', e = .returned tv' ∧ WithTo w B tv out p w' tv' out' := by
  rcases List.eq_nil_or_concat out with e | ⟨out0, q, e⟩
  · subst e
    exact wk_nil w B tv p hT hB ho hP hF hH hn hpn
  · rw [List.concat_eq_append] at e
    subst e
    by_cases hk : q.kind = 1
    · cases hs : Ac.says q.pt p.pt
      · exact wk_new w B tv p out0 q hk hs hT hB ho hP hF hH hn hpn
      · exact wk_same w B tv p out0 q hk hs hT hB ho hP hF hH hn hpn
    · exact wk_other w B tv out0 q hk p hT hB ho hP hF hH hn hpn
end Go.Proofs.YtbhcklkbckacpaaGreatDoor

/-
  Chapter 7 on parts: how an operation is made tidy, part by part.
-/
namespace Go.Proofs.YtbhcklkbckacpaaGreatDoor
open Go.RowKit
namespace Ac
structure TS where
  out : List Pt
  put : List It
  cut : Nat
def tS (s : TS) (p : Pt) : TS := if p.kind = 1 then ⟨withK (s.out ++ flushP s.put s.cut) p, [], 0⟩ else if p.kind = 2 then ⟨s.out, s.put ++ p.items, s.cut⟩ else ⟨s.out, s.put, s.cut + p.n.toNat⟩
def ts (o : List Pt) : TS := o.foldl tS ⟨[], [], 0⟩
theorem ts_step (o : List Pt) (k : Nat) (h : k < o.length) : ts (o.take (k + 1)) = tS (ts (o.take k)) o[k] := by
  unfold ts
  rw [List.take_succ_eq_append_getElem h, List.foldl_append]
  rfl
def sumN (l : List Pt) : Int := (l.map Pt.n).sum
theorem sumN_app (l l' : List Pt) : sumN (l ++ l') = sumN l + sumN l' := by simp [sumN]
theorem sumN_one (p : Pt) : sumN [p] = p.n := by simp [sumN]
theorem sumN_flush (ps : List It) (n : Nat) : sumN (flushP ps n) = n := by
  unfold flushP
  rw [sumN_app]
  have e1 : sumN (if ps.isEmpty then [] else [putP ps]) = 0 := by split <;> rfl
  have e2 : sumN (if n = 0 then [] else [cutP n]) = n := by
    split
    · rename_i h; subst h; rfl
    · rw [sumN_one]; rfl
  rw [e1, e2]
  omega
theorem flush_n {ps : List It} {n : Nat} {z : Pt} (h : z ∈ flushP ps n) : 0 ≤ z.n := by
  unfold flushP at h
  rcases List.mem_append.1 h with h | h
  · split at h
    · cases h
    · rw [List.mem_singleton.1 h]; exact Int.le_refl _
  · split at h
    · cases h
    · rw [List.mem_singleton.1 h]; exact Int.natCast_nonneg _
theorem sum_le : ∀ {l : List Pt}, (∀ z ∈ l, 0 ≤ z.n) → 0 ≤ sumN l ∧ ∀ z ∈ l, z.n ≤ sumN l
  | [], _ => ⟨by decide, fun z hz => by cases hz⟩
  | p :: l, h => by
    obtain ⟨h0, h1⟩ := sum_le (fun z hz => h z (List.mem_cons_of_mem _ hz))
    have hp := h p (List.mem_cons_self ..)
    have e : sumN (p :: l) = p.n + sumN l := by simp [sumN]
    rw [e]
    refine ⟨by omega, fun z hz => ?_⟩
    rcases List.mem_cons.1 hz with rfl | hz
    · omega
    · have := h1 z hz; omega
theorem usedP_n {p : Pt} (h : p.kind = 1) : (usedP p).n = p.n := by unfold usedP; rw [if_pos h]
theorem withK_sum (o : List Pt) (p : Pt) (hk : p.kind = 1) : sumN (withK o p) = sumN o + p.n ∧ (withK o p).length ≤ o.length + 1 := by
  rcases List.eq_nil_or_concat o with e | ⟨o', q, e⟩
  · rw [e, withK_nil, sumN_one, usedP_n hk]
    simp [sumN]
  · rw [List.concat_eq_append] at e
    rw [e, withK_snoc]
    by_cases h : q.kind = 1 ∧ says q p = true
    · rw [if_pos h, sumN_app, sumN_app, sumN_one, sumN_one]
      refine ⟨by simp only; omega, by simp⟩
    · rw [if_neg h, sumN_app, sumN_app, sumN_one, sumN_one, usedP_n hk]
      exact ⟨rfl, by simp⟩
theorem withK_pos {o : List Pt} {p : Pt} (hk : p.kind = 1) (ho : ∀ z ∈ o, 0 ≤ z.n) (hp : 0 ≤ p.n) : ∀ z ∈ withK o p, 0 ≤ z.n := by
  rcases List.eq_nil_or_concat o with e | ⟨o', q, e⟩
  · rw [e, withK_nil]
    intro z hz
    rw [List.mem_singleton.1 hz, usedP_n hk]
    exact hp
  · rw [List.concat_eq_append] at e
    rw [e] at ho ⊢
    rw [withK_snoc]
    by_cases h : q.kind = 1 ∧ says q p = true
    · rw [if_pos h]
      intro z hz
      rcases List.mem_append.1 hz with hz | hz
      · exact ho z (List.mem_append_left _ hz)
      · rw [List.mem_singleton.1 hz]
        have := ho q (by simp)
        simp only
        omega
    · rw [if_neg h]
      intro z hz
      rcases List.mem_append.1 hz with hz | hz
      · exact ho z hz
      · rw [List.mem_singleton.1 hz, usedP_n hk]; exact hp
structure TB (s : TS) (o : List Pt) : Prop where
  len : s.out.length + (flushP s.put s.cut).length ≤ o.length
  pos : ∀ z ∈ s.out, 0 ≤ z.n
  sum : sumN s.out + s.cut = nd o
  put : s.put.length ≤ lv o
theorem flush_len (ps : List It) (n : Nat) : (flushP ps n).length = (if ps.isEmpty then 0 else 1) + (if n = 0 then 0 else 1) := by
  unfold flushP
  rw [List.length_append]
  congr 1
  · split <;> rfl
  · split <;> rfl
theorem TB.step {s : TS} {o : List Pt} (h : TB s o) {p : Pt} (hp : err1 p = 0) : TB (tS s p) (o ++ [p]) := by
  have hn := err1_nd hp
  have hb := err1_n hp
  have hl := h.len
  rw [flush_len] at hl
  have e1 : nd (o ++ [p]) = nd o + nd1 p := by rw [nd_app]; simp [nd]
  have e2 : lv (o ++ [p]) = lv o + lv1 p := by rw [lv_app]; simp [lv]
  have hs := h.sum
  have hq := h.put
  unfold tS
  rcases kind_of hp with k | k | k
  · rw [if_pos k]
    have hk := withK_sum (s.out ++ flushP s.put s.cut) p k
    have hfl := h.len
    refine ⟨?_, ?_, ?_, ?_⟩
    · simp only
      have : (flushP ([] : List It) 0).length = 0 := rfl
      rw [this, List.length_append]
      have := hk.2
      rw [List.length_append] at this
      simp
      omega
    · refine withK_pos k (fun z hz => ?_) hb.1
      rcases List.mem_append.1 hz with hz | hz
      · exact h.pos z hz
      · exact flush_n hz
    · simp only
      rw [hk.1, sumN_app, sumN_flush, e1]
      omega
    · simp
  · rw [if_neg (by omega), if_pos k]
    have hn0 : nd1 p = 0 := if_pos k
    have hl1 : lv1 p = p.items.length := (if_neg (by omega)).trans (if_pos k)
    refine ⟨?_, h.pos, by simp only; rw [e1, hn0]; omega, by simp only; rw [List.length_append, e2, hl1]; omega⟩
    simp only
    rw [flush_len, List.length_append, List.length_singleton]
    have ha : (if (s.put ++ p.items).isEmpty = true then 0 else 1) ≤ 1 := by split <;> omega
    generalize (if (s.put ++ p.items).isEmpty = true then 0 else 1) = a at *
    generalize (if s.cut = 0 then 0 else 1) = b at *
    omega
  · rw [if_neg (by omega), if_neg (by omega)]
    have hn0 : nd1 p = p.n.toNat := if_neg (by omega)
    refine ⟨?_, h.pos, by simp only; rw [e1, hn0]; omega, by simp only; omega⟩
    simp only
    rw [flush_len, List.length_append, List.length_singleton]
    have ha : (if s.cut + p.n.toNat = 0 then 0 else 1) ≤ 1 := by split <;> omega
    generalize (if s.cut + p.n.toNat = 0 then 0 else 1) = a at *
    generalize (if s.put.isEmpty = true then 0 else 1) = b at *
    omega
theorem tb_fold : ∀ (o o1 : List Pt) (s : TS), TB s o1 → (∀ p ∈ o, err1 p = 0) → TB (o.foldl tS s) (o1 ++ o)
  | [], o1, s, h, _ => by rw [List.append_nil]; exact h
  | p :: o, o1, s, h, hp => by
    have := tb_fold o (o1 ++ [p]) (tS s p) (h.step (hp p (List.mem_cons_self ..))) (fun q hq => hp q (List.mem_cons_of_mem _ hq))
    rw [List.append_assoc] at this
    exact this
theorem ts_bound {o : List Pt} (h : ∀ p ∈ o, err1 p = 0) : TB (ts o) o := by
  have := tb_fold o [] ⟨[], [], 0⟩ ⟨by simp [flushP], fun z hz => (by cases hz), rfl, by simp⟩ h
  exact this
end Ac
end Go.Proofs.YtbhcklkbckacpaaGreatDoor
