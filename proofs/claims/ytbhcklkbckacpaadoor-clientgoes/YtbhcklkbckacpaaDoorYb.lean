/-
  Package client: its small functions.
-/
import Derived.Test.YtbhcklkbckacpaaDoorYp
namespace Go.Proofs.YtbhcklkbckacpaaDoor
open Go.RowKit
theorem isThere_any (ao : Option Addr) (n cap : Nat) (w : World) : Calls Tryd.prog 67 #[.slice ao n cap] w fun e w' => e = .returned (.bool (decide (0 < n))) ∧ w' = w := by
  rcases Nat.eq_zero_or_pos n with rfl | h
  · go_enter Tryd.func67, Tryd.ntmps67
    go_wp2
    go_ret
    exact ⟨rfl, rfl⟩
  · have h1 : decide ((0 : Int) < (n : Int)) = true := by simp; omega
    have h2 : decide (0 < n) = true := by simp; omega
    rw [h2]
    go_enter Tryd.func67, Tryd.ntmps67
    go_wp2
    go_ret
    exact ⟨rfl, rfl⟩
/-- Two operations, as a value of its own. -/
def boxtw (a b : Option Addr) (n c m d : Nat) (w : World) : World := w.alloc (.cells #[.slice a n c, .slice b m d] 114)
theorem boxtw_below (a b : Option Addr) (n c m d : Nat) (w : World) : Below w.heap.size w (boxtw a b n c m d w) := (Below.refl _ _).alloc (Nat.le_refl _) _
theorem boxtw_blk (a b : Option Addr) (n c m d : Nat) (w : World) : Blk (boxtw a b n c m d w) w.heap.size [.slice a n c, .slice b m d] 114 := Blk.new w _ _
theorem boxtw_size (a b : Option Addr) (n c m d : Nat) (w : World) : (boxtw a b n c m d w).heap.size = w.heap.size + 1 := World.size_alloc ..
theorem ixo0 (a b : Option Addr) (n c m d : Nat) (w : World) : (Instr.index 114 (.agg #[.slice a n c, .slice b m d]) (.int .i64 0)).run Tryd.prog w = .ok (.slice a n c) w := by kernel_rfl
theorem ixo1 (a b : Option Addr) (n c m d : Nat) (w : World) : (Instr.index 114 (.agg #[.slice a n c, .slice b m d]) (.int .i64 1)).run Tryd.prog w = .ok (.slice b m d) w := by kernel_rfl

namespace Kl
/-- How far those that there are are done. -/
def DnI (d : List It) (s h : List Ac.Pt) (k : Nat) (l : List It) : Prop := (k = 0 ∧ l = d) ∨ (k = 1 ∧ opE d s = 0 ∧ l = opD d s) ∨ (k = 2 ∧ opE d s = 0 ∧ opE (opD d s) h = 0 ∧ l = opD (opD d s) h)
theorem DnI.none0 {d : List It} {s h : List Ac.Pt} {l : List It} (i : DnI d s h 0 l) (h0 : s.length = 0) : DnI d s h 1 l := by
  rcases i with ⟨_, rfl⟩ | ⟨e, _⟩ | ⟨e, _⟩
  · exact .inr (.inl ⟨rfl, (op_none h0).1, (op_none h0).2.symm⟩)
  · cases e
  · cases e
theorem DnI.some0 {d : List It} {s h : List Ac.Pt} {l : List It} (i : DnI d s h 0 l) (h0 : 0 < s.length) (he : Ac.fitE l s = 0) : DnI d s h 1 (Ac.done l s) := by
  rcases i with ⟨_, rfl⟩ | ⟨e, _⟩ | ⟨e, _⟩
  · exact .inr (.inl ⟨rfl, (op_some h0).1.trans he, (op_some h0).2.symm⟩)
  · cases e
  · cases e
theorem DnI.bad0 {d : List It} {s h : List Ac.Pt} {l : List It} (i : DnI d s h 0 l) (h0 : 0 < s.length) (he : ¬ Ac.fitE l s = 0) : dnE d s h = Ac.fitE l s := by
  rcases i with ⟨_, rfl⟩ | ⟨e, _⟩ | ⟨e, _⟩
  · unfold dnE
    rw [(op_some h0).1, if_neg he]
  · cases e
  · cases e
theorem DnI.none1 {d : List It} {s h : List Ac.Pt} {l : List It} (i : DnI d s h 1 l) (h0 : h.length = 0) : DnI d s h 2 l := by
  rcases i with ⟨e, _⟩ | ⟨_, e1, rfl⟩ | ⟨e, _⟩
  · cases e
  · exact .inr (.inr ⟨rfl, e1, (op_none h0).1, (op_none h0).2.symm⟩)
  · cases e
theorem DnI.some1 {d : List It} {s h : List Ac.Pt} {l : List It} (i : DnI d s h 1 l) (h0 : 0 < h.length) (he : Ac.fitE l h = 0) : DnI d s h 2 (Ac.done l h) := by
  rcases i with ⟨e, _⟩ | ⟨_, e1, rfl⟩ | ⟨e, _⟩
  · cases e
  · exact .inr (.inr ⟨rfl, e1, (op_some h0).1.trans he, (op_some h0).2.symm⟩)
  · cases e
theorem DnI.bad1 {d : List It} {s h : List Ac.Pt} {l : List It} (i : DnI d s h 1 l) (h0 : 0 < h.length) (he : ¬ Ac.fitE l h = 0) : dnE d s h = Ac.fitE l h := by
  rcases i with ⟨e, _⟩ | ⟨_, e1, rfl⟩ | ⟨e, _⟩
  · cases e
  · unfold dnE
    rw [if_pos e1, (op_some h0).1]
  · cases e
theorem DnI.last {d : List It} {s h : List Ac.Pt} {l : List It} (i : DnI d s h 2 l) : dnE d s h = 0 ∧ l = dnD d s h := by
  rcases i with ⟨e, _⟩ | ⟨e, _⟩ | ⟨_, e1, e2, rfl⟩
  · cases e
  · cases e
  · exact ⟨dn_of e1 e2, rfl⟩
end Kl
set_option maxRecDepth 100000 in
set_option maxHeartbeats 1600000 in
theorem done_any (ao : Option Addr) (n cap : Nat) (d : List It) (sa ha : Option Addr) (sn sc hn hc : Nat) (ss hs : List PV) (w : World) (hD : Doc w ao n cap d) (hs0 : Ops w sa sn sc ss) (hh0 : Ops w ha hn hc hs) (hS : Sch w) (h80 : n ≤ 80) :
    Calls Tryd.prog 68 #[.slice ao n cap, .agg #[.slice sa sn sc, .slice ha hn hc]] w fun e w' => (∃ a m c, e = .returned (.tuple #[.slice a m c, .int .i64 (Kl.dnE d (ss.map PV.pt) (hs.map PV.pt))]) ∧ (Kl.dnE d (ss.map PV.pt) (hs.map PV.pt) = 0 → Doc w' a m c (Kl.dnD d (ss.map PV.pt) (hs.map PV.pt)))) ∧ Below w.heap.size w w' := by
  have H1 : Hid (Below w.heap.size w (boxtw sa ha sn sc hn hc w)) := boxtw_below ..
  have HP : Hid (Blk (boxtw sa ha sn sc hn hc w) w.heap.size [.slice sa sn sc, .slice ha hn hc] 114) := boxtw_blk ..
  have HSO : Hid (Ops w sa sn sc ss) := hs0
  have HHO : Hid (Ops w ha hn hc hs) := hh0
  have HSC : Hid (Sch w) := hS
  have HFT : Hid (Fit d) := hD.fit
  have HDN : Hid (d.length = n) := hD.len
  have CC : Hid (Calls Tryd.prog 58 #[.slice ao n cap] (boxtw sa ha sn sc hn hc w) fun e w' => (∃ v, e = .returned v ∧ w'.ownsRow (boxtw sa ha sn sc hn hc w).heap.size 79 3 v n (itCells d)) ∧ Below (boxtw sa ha sn sc hn hc w).heap.size (boxtw sa ha sn sc hn hc w) w') := cloneDR_any ao n cap _ _ (doc_row (hD.below H1.out)) (itCells_one _) h80
  clear hs0 hh0 hS hD
  go_enter Tryd.func68, Tryd.ntmps68
  go_upto_region 1 with fail
  change Code.wp Tryd.prog _ _ _ (boxtw sa ha sn sc hn hc w)
  generalize boxtw sa ha sn sc hn hc w = W at *
  go_wp2_with fail
  refine CC.out.mono ?_
  rintro e w1 ⟨⟨v, rfl, hown⟩, hb⟩
  obtain ⟨a1, c1, rfl, hr, -, -⟩ := own_slice hown
  have HD1 : Hid (Doc w1 a1 n c1 d) := row_doc hr HFT.out
  have HB1 : Hid (Below w.heap.size w w1) := H1.out.trans (hb.mono H1.out.size)
  have hP1 : Blk w1 w.heap.size [.slice sa sn sc, .slice ha hn hc] 114 := (hb.block _ HP.out.lt).trans HP.out
  have p0 : w1.cell? ⟨w.heap.size, 0, none⟩ = some (.slice sa sn sc) := hP1.cell 0
  have p1 : w1.cell? ⟨w.heap.size, 1, none⟩ = some (.slice ha hn hc) := hP1.cell 1
  clear hown hb hr hP1 CC
  go_wp2
  go_loopw [12, 0] (fun i v wr => ∃ k : Nat, k ≤ 2 ∧ i = .int .i64 k ∧ ∃ a m c l, v = .slice a m c ∧ Doc wr a m c l ∧ Below w.heap.size w wr ∧ Kl.DnI d (ss.map PV.pt) (hs.map PV.pt) k l) (fun i _ _ => 2 - (intOf i).toNat)
  case atStart => exact ⟨0, by decide, rfl, a1, n, c1, d, rfl, HD1.out, HB1.out, .inl ⟨rfl, rfl⟩⟩
  case round =>
    obtain ⟨k, hk, rfl, a, m, c, l, rfl, hdl, hbr, hi⟩ := hrel
    have HDL : Hid (Doc wr a m c l) := hdl
    have HB : Hid (Below w.heap.size w wr) := hbr
    have HI : Hid (Kl.DnI d (ss.map PV.pt) (hs.map PV.pt) k l) := hi
    clear hdl hbr hi p0 p1
    obtain rfl | rfl | rfl : k = 0 ∨ k = 1 ∨ k = 2 := by omega
    · clear hk
      have ix : ∀ w, (Instr.index 114 (.agg #[.slice sa sn sc, .slice ha hn hc]) (.int .i64 0)).run Tryd.prog w = .ok (.slice sa sn sc) w := ixo0 _ _ _ _ _ _
      by_cases h0 : sn = 0
      · have HL0 : Hid ((ss.map PV.pt).length = 0) := by show _ = _; rw [List.length_map, HSO.out.len]; exact h0
        have hd0 : decide (0 < sn) = false := by simp [h0]
        have CI : Hid (Calls Tryd.prog 67 #[.slice sa sn sc] wr fun e w' => e = .returned (.bool false) ∧ w' = wr) := by have := isThere_any sa sn sc wr; rw [hd0] at this; exact this
        clear h0 hd0
        go_wp2_with fail
        refine CI.out.mono ?_
        rintro e w1 ⟨rfl, hw⟩
        obtain rfl := hw.symm
        go_wp2
        go_roundw
        case rel => exact ⟨1, by decide, rfl, a, m, c, l, rfl, HDL.out, HB.out, HI.out.none0 HL0.out⟩
        case measure => decide
      · have HL0 : Hid (0 < (ss.map PV.pt).length) := by show 0 < _; rw [List.length_map, HSO.out.len]; omega
        have hd0 : decide (0 < sn) = true := by simp; omega
        have CI : Hid (Calls Tryd.prog 67 #[.slice sa sn sc] wr fun e w' => e = .returned (.bool true) ∧ w' = wr) := by have := isThere_any sa sn sc wr; rw [hd0] at this; exact this
        have CA : Hid (Calls Tryd.prog 24 #[.slice a m c, .slice sa sn sc] wr fun e w' => (∃ a' c', e = .returned (.tuple #[.slice a' (Ac.done l (ss.map PV.pt)).length c', .int .i64 (Ac.fitE l (ss.map PV.pt))]) ∧ Doc w' a' (Ac.done l (ss.map PV.pt)).length c' (Ac.done l (ss.map PV.pt))) ∧ Below wr.heap.size wr w') := apply_any _ _ _ _ _ _ l ss wr HDL.out (HSO.out.below HB.out) (HSC.out.below HB.out)
        clear h0 hd0
        obtain ⟨D, hD⟩ : ∃ D, Ac.done l (ss.map PV.pt) = D := ⟨_, rfl⟩
        obtain ⟨E, hE⟩ : ∃ E, Ac.fitE l (ss.map PV.pt) = E := ⟨_, rfl⟩
        have HD1 : Hid (Ac.done l (ss.map PV.pt) = D) := hD
        have HE1 : Hid (Ac.fitE l (ss.map PV.pt) = E) := hE
        rw [hD, hE] at CA
        clear hD hE
        obtain ⟨q, hq⟩ : ∃ q, D.length = q := ⟨_, rfl⟩
        have HQ : Hid (D.length = q) := hq
        rw [hq] at CA
        clear hq
        go_wp2_with fail
        refine CI.out.mono ?_
        rintro e w1 ⟨rfl, hw⟩
        obtain rfl := hw.symm
        go_wp2_with fail
        refine CA.out.mono ?_
        rintro e w2 ⟨⟨a2, c2, rfl, hd2⟩, hb⟩
        have HD2 : Hid (Doc w2 a2 q c2 D) := hd2
        have HB2 : Hid (Below w.heap.size w w2) := HB.out.trans (hb.mono HB.out.size)
        clear hd2 hb
        by_cases hz : E = 0
        · have HN := HI.out.some0 HL0.out (HE1.out.trans hz)
          subst hz
          go_wp2
          go_roundw
          case rel => exact ⟨1, by decide, rfl, a2, q, c2, _, rfl, HD2.out, HB2.out, by rw [HD1.out] at HN; exact HN⟩
          case measure => decide
        · have hne : (E != 0) = true := by simp [hz]
          have HN : Hid (Kl.dnE d (ss.map PV.pt) (hs.map PV.pt) = E) := by have := HI.out.bad0 HL0.out (by rw [HE1.out]; exact hz); rw [HE1.out] at this; exact this
          clear HD2
          go_wp2
          exact bodyPost_ret (v := .tuple #[.slice none 0 0, .int .i64 E]) (by simp [results, Tryd.results68, go_sem]) rfl ⟨⟨none, 0, 0, by rw [HN.out], fun h0 => absurd (HN.out.symm.trans h0) hz⟩, HB2.out⟩
    · clear hk
      have ix : ∀ w, (Instr.index 114 (.agg #[.slice sa sn sc, .slice ha hn hc]) (.int .i64 1)).run Tryd.prog w = .ok (.slice ha hn hc) w := ixo1 _ _ _ _ _ _
      by_cases h0 : hn = 0
      · have HL0 : Hid ((hs.map PV.pt).length = 0) := by show _ = _; rw [List.length_map, HHO.out.len]; exact h0
        have hd0 : decide (0 < hn) = false := by simp [h0]
        have CI : Hid (Calls Tryd.prog 67 #[.slice ha hn hc] wr fun e w' => e = .returned (.bool false) ∧ w' = wr) := by have := isThere_any ha hn hc wr; rw [hd0] at this; exact this
        clear h0 hd0
        go_wp2_with fail
        refine CI.out.mono ?_
        rintro e w1 ⟨rfl, hw⟩
        obtain rfl := hw.symm
        go_wp2
        go_roundw
        case rel => exact ⟨2, by decide, rfl, a, m, c, l, rfl, HDL.out, HB.out, HI.out.none1 HL0.out⟩
        case measure => decide
      · have HL0 : Hid (0 < (hs.map PV.pt).length) := by show 0 < _; rw [List.length_map, HHO.out.len]; omega
        have hd0 : decide (0 < hn) = true := by simp; omega
        have CI : Hid (Calls Tryd.prog 67 #[.slice ha hn hc] wr fun e w' => e = .returned (.bool true) ∧ w' = wr) := by have := isThere_any ha hn hc wr; rw [hd0] at this; exact this
        have CA : Hid (Calls Tryd.prog 24 #[.slice a m c, .slice ha hn hc] wr fun e w' => (∃ a' c', e = .returned (.tuple #[.slice a' (Ac.done l (hs.map PV.pt)).length c', .int .i64 (Ac.fitE l (hs.map PV.pt))]) ∧ Doc w' a' (Ac.done l (hs.map PV.pt)).length c' (Ac.done l (hs.map PV.pt))) ∧ Below wr.heap.size wr w') := apply_any _ _ _ _ _ _ l hs wr HDL.out (HHO.out.below HB.out) (HSC.out.below HB.out)
        clear h0 hd0
        obtain ⟨D, hD⟩ : ∃ D, Ac.done l (hs.map PV.pt) = D := ⟨_, rfl⟩
        obtain ⟨E, hE⟩ : ∃ E, Ac.fitE l (hs.map PV.pt) = E := ⟨_, rfl⟩
        have HD1 : Hid (Ac.done l (hs.map PV.pt) = D) := hD
        have HE1 : Hid (Ac.fitE l (hs.map PV.pt) = E) := hE
        rw [hD, hE] at CA
        clear hD hE
        obtain ⟨q, hq⟩ : ∃ q, D.length = q := ⟨_, rfl⟩
        have HQ : Hid (D.length = q) := hq
        rw [hq] at CA
        clear hq
        go_wp2_with fail
        refine CI.out.mono ?_
        rintro e w1 ⟨rfl, hw⟩
        obtain rfl := hw.symm
        go_wp2_with fail
        refine CA.out.mono ?_
        rintro e w2 ⟨⟨a2, c2, rfl, hd2⟩, hb⟩
        have HD2 : Hid (Doc w2 a2 q c2 D) := hd2
        have HB2 : Hid (Below w.heap.size w w2) := HB.out.trans (hb.mono HB.out.size)
        clear hd2 hb
        by_cases hz : E = 0
        · have HN := HI.out.some1 HL0.out (HE1.out.trans hz)
          subst hz
          go_wp2
          go_roundw
          case rel => exact ⟨2, by decide, rfl, a2, q, c2, _, rfl, HD2.out, HB2.out, by rw [HD1.out] at HN; exact HN⟩
          case measure => decide
        · have hne : (E != 0) = true := by simp [hz]
          have HN : Hid (Kl.dnE d (ss.map PV.pt) (hs.map PV.pt) = E) := by have := HI.out.bad1 HL0.out (by rw [HE1.out]; exact hz); rw [HE1.out] at this; exact this
          clear HD2
          go_wp2
          exact bodyPost_ret (v := .tuple #[.slice none 0 0, .int .i64 E]) (by simp [results, Tryd.results68, go_sem]) rfl ⟨⟨none, 0, 0, by rw [HN.out], fun h0 => absurd (HN.out.symm.trans h0) hz⟩, HB2.out⟩
    · clear hk
      obtain ⟨e0, e1⟩ := HI.out.last
      have HE0 : Hid (Kl.dnE d (ss.map PV.pt) (hs.map PV.pt) = 0) := e0
      have HE1 : Hid (Doc wr a m c (Kl.dnD d (ss.map PV.pt) (hs.map PV.pt))) := by rw [← e1]; exact HDL.out
      clear e0 e1
      go_wp2
      exact bodyPost_ret (v := .tuple #[.slice a m c, .int .i64 0]) (by simp [results, Tryd.results68, go_sem]) rfl ⟨⟨a, m, c, by rw [HE0.out], fun _ => HE1.out⟩, HB.out⟩

set_option maxRecDepth 100000 in
set_option maxHeartbeats 1600000 in
theorem send_any (g : Nat) (c : CV) (oa : Option Addr) (on oc : Nat) (us : List PV) (w : World) (hK : KAt w g c) (hO : Ops w oa on oc us) (hq : 0 ≤ c.seq) (hq2 : c.seq ≤ 10000) :
    Calls Tryd.prog 92 #[.pointer (some ⟨g, 0, none⟩), .slice oa on oc] w fun e w' => e = .returned (.bool (!decide (c.seq = 10000))) ∧ KAt w' g (if c.seq = 10000 then c else (c.toSent oa on oc us).toSeq (c.seq + 1)) ∧ Kept w w' [g] := by
  have HK : Hid (KAt w g c) := hK
  by_cases h : c.seq = 10000
  · rw [if_pos h]
    have hd : (!decide (c.seq = 10000)) = false := by simp [h]
    rw [hd]
    have h1 : (c.seq == 10000) = true := by simp [h]
    have p3 : w.cell? ⟨g, 3, none⟩ = some (.int .i64 c.seq) := hK.blk.cell 3
    clear hK hO h hd
    go_enter Tryd.func92, Tryd.ntmps92
    go_wp2
    go_ret
    exact ⟨rfl, HK.out, Kept.refl _ _⟩
  · rw [if_neg h]
    have hd : (!decide (c.seq = 10000)) = true := by simp [h]
    rw [hd]
    have h1 : (c.seq == 10000) = false := by simp [h]
    have h2 : wrap64 (c.seq + 1) = c.seq + 1 := by unfold wrap64; omega
    have h3 : IntKind.i64.wrap (c.seq + 1) = c.seq + 1 := IntWalk.i64_in _ ⟨by omega, by omega⟩
    have HK1 : Hid (KAt (w.setCell ⟨g, 4, none⟩ (.slice oa on oc)) g (c.toSent oa on oc us)) := hK.toSent oa on oc us hO
    have HK2 : Hid (KAt ((w.setCell ⟨g, 4, none⟩ (.slice oa on oc)).setCell ⟨g, 3, none⟩ (.int .i64 (c.seq + 1))) g ((c.toSent oa on oc us).toSeq (c.seq + 1))) := HK1.out.toSeq (c.seq + 1)
    have p3 : w.cell? ⟨g, 3, none⟩ = some (.int .i64 c.seq) := hK.blk.cell 3
    have p4 : w.cell? ⟨g, 4, none⟩ = some (.slice c.sa c.sn c.sc) := hK.blk.cell 4
    have f3 := hK.blk.frozen 3
    have f4 := hK.blk.frozen 4
    clear hK hO h hd
    go_enter Tryd.func92, Tryd.ntmps92
    go_upto_region 4 with fail
    change Code.wp Tryd.prog _ _ _ (w.setCell ⟨g, 4, none⟩ (.slice oa on oc))
    have HKP : Hid (Kept w (w.setCell ⟨g, 4, none⟩ (.slice oa on oc)) [g]) := kept_g ..
    generalize w.setCell ⟨g, 4, none⟩ (.slice oa on oc) = W at *
    clear p3 p4 f3 f4
    have p3 : W.cell? ⟨g, 3, none⟩ = some (.int .i64 c.seq) := HK1.out.blk.cell 3
    have f3 := HK1.out.blk.frozen 3
    go_wp2
    go_ret
    exact ⟨rfl, HK2.out, HKP.out.trans (kept_g ..)⟩

set_option maxRecDepth 100000 in
set_option maxHeartbeats 1600000 in
theorem giveUp_any (g : Nat) (c : CV) (w : World) (hK : KAt w g c) (h80 : c.bn ≤ 80) :
    Calls Tryd.prog 93 #[.pointer (some ⟨g, 0, none⟩)] w fun e w' => e = .returned (.tuple #[]) ∧ (∃ c', KAt w' g c' ∧ c'.cl = Kl.gv c.cl ∧ c'.bn = c.bn) ∧ Kept w w' [g] := by
  have HK : Hid (KAt w g c) := hK
  have CC : Hid (Calls Tryd.prog 58 #[.slice c.ba c.bn c.bc] w fun e w' => (∃ v, e = .returned v ∧ w'.ownsRow w.heap.size 79 3 v c.bn (itCells c.base)) ∧ Below w.heap.size w w') := cloneDR_any _ _ _ _ _ (doc_row hK.cli.base) (itCells_one _) h80
  have p1 : w.cell? ⟨g, 1, none⟩ = some (.slice c.ba c.bn c.bc) := hK.blk.cell 1
  clear hK
  go_enter Tryd.func93, Tryd.ntmps93
  go_wp2_with fail
  refine CC.out.mono ?_
  rintro e w1 ⟨⟨v, rfl, hown⟩, hb⟩
  obtain ⟨a1, c1, rfl, hr, -, -⟩ := own_slice hown
  have hd : Doc w1 a1 c.bn c1 c.base := row_doc hr HK.out.cli.base.fit
  have hk1 := HK.out.below hb
  have HB : Hid (Below w.heap.size w w1) := hb
  have hs1 := hk1.toSent none 0 0 [] (ops_nil _)
  have hs2 := hs1.toHeld none 0 0 [] (ops_nil _)
  have HK3 : Hid (KAt (((w1.setCell ⟨g, 4, none⟩ (.slice none 0 0)).setCell ⟨g, 5, none⟩ (.slice none 0 0)).setCell ⟨g, 2, none⟩ (.slice a1 c.bn c1)) g (((c.toSent none 0 0 []).toHeld none 0 0 []).toNow a1 c.bn c1 c.base)) := hs2.toNow a1 c.bn c1 c.base ((hd.keptK hk1.blk (kept_g ..)).keptK hs1.blk (kept_g ..))
  clear p1
  have p2 : w1.cell? ⟨g, 2, none⟩ = some (.slice c.na c.nn c.nc) := hk1.blk.cell 2
  have p4 : w1.cell? ⟨g, 4, none⟩ = some (.slice c.sa c.sn c.sc) := hk1.blk.cell 4
  have p5 : w1.cell? ⟨g, 5, none⟩ = some (.slice c.ha c.hn c.hc) := hk1.blk.cell 5
  have f2 := hk1.blk.frozen 2
  have f4 := hk1.blk.frozen 4
  have f5 := hk1.blk.frozen 5
  clear hown hb hr hd hk1 hs1 hs2 CC
  go_wp2
  go_end0
  exact ⟨rfl, ⟨_, HK3.out, rfl, rfl⟩, (((Kept.of_below HB.out).trans (kept_g ..)).trans (kept_g ..)).trans (kept_g ..)⟩

set_option maxRecDepth 100000 in
set_option maxHeartbeats 1600000 in
theorem advance_any (g : Nat) (c : CV) (oa : Option Addr) (on oc : Nat) (us : List PV) (w : World) (hK : KAt w g c) (hO : Ops w oa on oc us) (hS : Sch w) (hq : 0 ≤ c.rev) (hq2 : c.rev ≤ 60) :
    Calls Tryd.prog 110 #[.pointer (some ⟨g, 0, none⟩), .slice oa on oc] w fun e w' => e = .returned (.int .i64 (Ac.fitE c.base (us.map PV.pt))) ∧ (∃ c', KAt w' g c' ∧ c'.cl = (if Ac.fitE c.base (us.map PV.pt) = 0 then Kl.adv c.cl (us.map PV.pt) else c.cl)) ∧ Kept w w' [g] := by
  have HK : Hid (KAt w g c) := hK
  have CA : Hid (Calls Tryd.prog 24 #[.slice c.ba c.bn c.bc, .slice oa on oc] w fun e w' => (∃ a' c', e = .returned (.tuple #[.slice a' (Ac.done c.base (us.map PV.pt)).length c', .int .i64 (Ac.fitE c.base (us.map PV.pt))]) ∧ Doc w' a' (Ac.done c.base (us.map PV.pt)).length c' (Ac.done c.base (us.map PV.pt))) ∧ Below w.heap.size w w') := apply_any _ _ _ _ _ _ _ _ _ hK.cli.base hO hS
  have p1 : w.cell? ⟨g, 1, none⟩ = some (.slice c.ba c.bn c.bc) := hK.blk.cell 1
  clear hK hO hS
  obtain ⟨D, hD⟩ : ∃ D, Ac.done c.base (us.map PV.pt) = D := ⟨_, rfl⟩
  have HD1 : Hid (Ac.done c.base (us.map PV.pt) = D) := hD
  rw [hD] at CA
  clear hD
  generalize Ac.fitE c.base (us.map PV.pt) = E at *
  obtain ⟨q, hqq⟩ : ∃ q, D.length = q := ⟨_, rfl⟩
  rw [hqq] at CA
  clear hqq
  obtain ⟨R, hR⟩ : ∃ R, (if E = 0 then Kl.adv c.cl (us.map PV.pt) else c.cl) = R := ⟨_, rfl⟩
  rw [hR]
  have HR : Hid ((if E = 0 then Kl.adv c.cl (us.map PV.pt) else c.cl) = R) := hR
  clear hR
  go_enter Tryd.func110, Tryd.ntmps110
  go_wp2_with fail
  refine CA.out.mono ?_
  rintro e w1 ⟨⟨a1, c1, rfl, hd⟩, hb⟩
  have hk1 := HK.out.below hb
  have HB : Hid (Below w.heap.size w w1) := hb
  by_cases hz : E = 0
  · have HR1 : Hid (R = Kl.adv c.cl (us.map PV.pt)) := by have := HR.out; rw [if_pos hz] at this; exact this.symm
    clear HR
    subst hz
    have HK1 : Hid (KAt (w1.setCell ⟨g, 1, none⟩ (.slice a1 q c1)) g (c.toBase a1 q c1 D)) := hk1.toBase a1 q c1 D hd
    have HK2 : Hid (KAt ((w1.setCell ⟨g, 1, none⟩ (.slice a1 q c1)).setCell ⟨g, 0, none⟩ (.int .i64 (c.rev + 1))) g ((c.toBase a1 q c1 D).toRev (c.rev + 1))) := HK1.out.toRev (c.rev + 1)
    have h2 : wrap64 (c.rev + 1) = c.rev + 1 := by unfold wrap64; omega
    have h3 : IntKind.i64.wrap (c.rev + 1) = c.rev + 1 := IntWalk.i64_in _ ⟨by omega, by omega⟩
    clear p1
    have p0 : w1.cell? ⟨g, 0, none⟩ = some (.int .i64 c.rev) := hk1.blk.cell 0
    have p1 : w1.cell? ⟨g, 1, none⟩ = some (.slice c.ba c.bn c.bc) := hk1.blk.cell 1
    have f0 := hk1.blk.frozen 0
    have f1 := hk1.blk.frozen 1
    clear hd hb hk1 CA
    go_upto_region 5 with fail
    change Code.wp Tryd.prog _ _ _ (w1.setCell ⟨g, 1, none⟩ (.slice a1 q c1))
    have HKP : Hid (Kept w1 (w1.setCell ⟨g, 1, none⟩ (.slice a1 q c1)) [g]) := kept_g ..
    generalize w1.setCell ⟨g, 1, none⟩ (.slice a1 q c1) = W at *
    clear p0 p1 f0 f1
    have p0 : W.cell? ⟨g, 0, none⟩ = some (.int .i64 c.rev) := HK1.out.blk.cell 0
    have f0 := HK1.out.blk.frozen 0
    go_wp2
    go_ret
    refine ⟨rfl, ⟨_, HK2.out, ?_⟩, ((Kept.of_below HB.out).trans HKP.out).trans (kept_g ..)⟩
    show (⟨c.rev + 1, D, c.now, c.seq, c.sent.map PV.pt, c.held.map PV.pt, c.jo⟩ : Kl.Cl) = _
    rw [HR1.out, ← HD1.out]
    rfl
  · have HR1 : Hid (R = c.cl) := by have := HR.out; rw [if_neg hz] at this; exact this.symm
    clear HR
    have hne : (E != 0) = true := by simp [hz]
    have HK1 : Hid (KAt w1 g c) := hk1
    clear hd hb hk1 CA p1
    go_wp2
    go_ret
    exact ⟨rfl, ⟨_, HK1.out, HR1.out.symm⟩, Kept.of_below HB.out⟩
end Go.Proofs.YtbhcklkbckacpaaDoor
