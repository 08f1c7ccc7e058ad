/-
  The reference's ServerTakes, of a right server: what is turned behind the log.
-/
import Derived.Test.YtbhcklkbckacpaaGreatDoorWd
import Derived.Test.YtbhcklkbckacpaaGreatDoorVf0
namespace Go.Proofs.YtbhcklkbckacpaaGreatDoor
open Go.RowKit
structure RtI (w : World) (s : SV) (x : EV) (r : Nat) (BE : Int) (BO : List Ac.Pt) (k : Nat) (oa : Option Addr) (on oc : Nat) (us : List PV) (wq : World) : Prop where
  lo : r ≤ k
  hi : k ≤ s.ln
  hX : Blk wq (w.heap.size + 1) [.int .i64 x.who, .int .i64 x.seq, .slice oa on oc] 46
  ops : Ops wq oa on oc us
  be : Sv.behE ((s.log.map EV.en).drop k) (us.map PV.pt) = BE
  bo : Sv.behO ((s.log.map EV.en).drop k) (us.map PV.pt) = BO
  hS : Blk wq (w.heap.size) (svC s) 42
  hR : Blk wq (w.heap.size + 2) (svC sv0) 42
  blw : Below w.heap.size w wq
def RtE (w : World) (s : SV) (x : EV) (r : Nat) (BE : Int) (BO : List Ac.Pt) (k : Nat) (wq : World) : Prop := ∃ oa on oc us, RtI w s x r BE BO k oa on oc us wq
theorem Ops.keptE {w w' : World} {a : Option Addr} {n c : Nat} {vs : List PV} {g : Nat} {cs : List Value} {T : TypeId} (h : Ops w a n c vs) (hB : Blk w g cs T) (hl : cs.length = 3) (hu : ∀ j : Nat, cs[j]? ≠ none → ∀ z, cs[j]? ≠ some (Value.int .u8 z)) (hk : Kept w w' [g]) : Ops w' a n c vs :=
  h.kept hk (fun ad hn e hx => by
    obtain ⟨b, off, e2, hc⟩ := h.row.lies hn
    rw [e] at e2
    cases e2
    have hg : b = g := List.mem_singleton.1 hx
    subst hg
    have hl2 := h.len
    match vs, hl2 with
    | [], hl2 => exact absurd hl2.symm hn
    | y :: vs, _ =>
      have h3 := hc 3 (.int .i64 y.set) rfl
      rw [hB.cell (off + 3), List.getElem?_eq_none (by omega)] at h3
      cases h3) (fun v hv ad hn e hx => by
    obtain ⟨b, off, e2, hA⟩ := (h.pts v hv).doc.lies hn
    rw [e] at e2
    cases e2
    have hg : b = g := List.mem_singleton.1 hx
    subst hg
    have h0 := hA.c 0 (by rw [(h.pts v hv).doc.len]; omega)
    rw [Nat.zero_mul, Nat.add_zero, hB.cell off] at h0
    exact hu off (by rw [h0]; exact fun e => by cases e) _ h0)
theorem xcells (p q : Int) (a : Option Addr) (n c : Nat) : ∀ j : Nat, ([Value.int .i64 p, .int .i64 q, .slice a n c] : List Value)[j]? ≠ none → ∀ z, ([Value.int .i64 p, .int .i64 q, .slice a n c] : List Value)[j]? ≠ some (Value.int .u8 z) := fun j hj z e => by
  match j, hj, e with
  | 0, _, e => cases e
  | 1, _, e => cases e
  | 2, _, e => cases e
  | j + 3, hj, _ => exact hj rfl

set_option maxRecDepth 100000 in
set_option maxHeartbeats 3200000 in
theorem rtake_beh (s : SV) (rev : Int) (x : EV) (w : World) (hV : Srv w s) (hO : Ops w x.ao x.n x.cap x.vs) (h2 : Sv.entE x.en = 0) (hh : Sv.has s.se x.who x.seq = false) (hr : ¬ rev < 0) (hr2 : ¬ (s.ln : Int) < rev) (h60 : ¬ s.ln = 60) (E0 : Int) (HB : Sv.behE (s.se.log.drop rev.toNat) x.en.o = E0) (hE0 : ¬ E0 = 0) :
    Calls Tryz.prog 32 #[.agg #[.slice s.fa s.fn s.fc, .slice s.la s.ln s.lc, .slice s.na s.nn s.nc], .int .i64 rev, .agg #[.int .i64 x.who, .int .i64 x.seq, .slice x.ao x.n x.cap]] w fun e w' => (∃ t, e = .returned (.tuple #[svA t, .int .i64 E0]) ∧ Srv w' t ∧ t.se = ⟨[], [], []⟩) ∧ Below w.heap.size w w' := by
  have HE0 : Hid (¬ E0 = 0) := hE0
  clear hE0
  have H1 : Hid (Below w.heap.size w (boxs sv0 (boxe x (boxs s w)))) := (boxs_below s w).trans (((boxe_below x _).trans ((boxs_below sv0 _).mono (boxe_below x _).size)).mono (boxs_below s w).size)
  have HS0 : Hid (Blk (boxs sv0 (boxe x (boxs s w))) (w.heap.size) (svC s) 42) := ((boxs_blk s w).alloc _).alloc _
  have HX0 : Hid (Blk (boxs sv0 (boxe x (boxs s w))) (w.heap.size + 1) (evC x) 46) := by have := (boxe_blk x (boxs s w)).alloc (.cells #[.slice none 0 0, .slice none 0 0, .slice none 0 0] 42); rw [boxs_size] at this; exact this
  have HR0 : Hid (Blk (boxs sv0 (boxe x (boxs s w))) (w.heap.size + 2) (svC sv0) 42) := by have := boxs_blk sv0 (boxe x (boxs s w)); rw [boxe_size, boxs_size] at this; exact this
  have CE : Hid (Calls Tryz.prog 83 #[.agg #[.int .i64 x.who, .int .i64 x.seq, .slice x.ao x.n x.cap]] (boxs sv0 (boxe x (boxs s w))) fun e w' => e = .returned (.int .i64 (Sv.entE x.en)) ∧ Below (boxs sv0 (boxe x (boxs s w))).heap.size (boxs sv0 (boxe x (boxs s w))) w') := entR_any x _ (hO.below H1.out)
  have HV : Hid (∀ w', Below w.heap.size w w' → Srv w' s) := fun w' hb => hV.below hb
  have HN : Hid (s.log.length = s.ln) := hV.log.len
  have hrm := hV.log.row.room
  have hbg := hV.log.row.big
  have HXO : Hid (∀ w', Below w.heap.size w w' → Ops w' x.ao x.n x.cap x.vs) := fun w' hb => hO.below hb
  clear hV hO
  rw [h2] at CE
  have HH : Hid ((s.log.map EV.en).any (Sv.isE x.who x.seq) = false) := hh
  clear h2 hh
  go_enter Tryz.func32, Tryz.ntmps32
  go_upto_region 2 with fail
  change Code.wp Tryz.prog _ _ _ (boxs sv0 (boxe x (boxs s w)))
  generalize (boxs sv0 (boxe x (boxs s w))) = W0 at *
  have a0 : W0.cell? ⟨w.heap.size + 1, 0, none⟩ = some (.int .i64 x.who) := HX0.out.cell 0
  have a1 : W0.cell? ⟨w.heap.size + 1, 1, none⟩ = some (.int .i64 x.seq) := HX0.out.cell 1
  have a2 : W0.cell? ⟨w.heap.size + 1, 2, none⟩ = some (.slice x.ao x.n x.cap) := HX0.out.cell 2
  go_wp2_with fail
  refine CE.out.mono ?_
  rintro e w1 ⟨rfl, hb⟩
  have HB1 : Hid (Below W0.heap.size W0 w1) := hb
  have HW1 : Hid (Below w.heap.size w w1) := H1.out.trans (hb.mono H1.out.size)
  have HS1 : Hid (Blk w1 (w.heap.size) (svC s) 42) := (hb.block _ HS0.out.lt).trans HS0.out
  have HX1 : Hid (Blk w1 (w.heap.size + 1) (evC x) 46) := (hb.block _ HX0.out.lt).trans HX0.out
  have HR1 : Hid (Blk w1 (w.heap.size + 2) (svC sv0) 42) := (hb.block _ HR0.out.lt).trans HR0.out
  clear hb a0 a1 a2 HS0 HX0 HR0 CE H1 HB1
  have hsz : w.heap.size + 2 < w1.heap.size := HR1.out.lt
  have p0 : w1.cell? ⟨w.heap.size, 0, none⟩ = some (.slice s.fa s.fn s.fc) := HS1.out.cell 0
  have p1 : w1.cell? ⟨w.heap.size, 1, none⟩ = some (.slice s.la s.ln s.lc) := HS1.out.cell 1
  have p2 : w1.cell? ⟨w.heap.size, 2, none⟩ = some (.slice s.na s.nn s.nc) := HS1.out.cell 2
  go_wp2
  go_loopw [30] (fun i wr => ∃ k : Nat, k ≤ s.ln ∧ i = .int .i64 k ∧ Below w1.heap.size w1 wr ∧ ((s.log.map EV.en).drop k).any (Sv.isE x.who x.seq) = false) (fun i _ => s.ln - (intOf i).toNat)
  case atStart => exact ⟨0, Nat.zero_le _, rfl, Below.refl _ _, HH.out⟩
  case round =>
    obtain ⟨k, hk, rfl, hbr, hsm⟩ := hrel
    have HM : Hid (((s.log.map EV.en).drop k).any (Sv.isE x.who x.seq) = false) := hsm
    have HBR : Hid (Below w1.heap.size w1 wr) := hbr
    clear hsm hbr p0 p1 p2
    by_cases hlt : k < s.ln
    · have hE := (HV.out _ (HW1.out.trans (HBR.out.mono HW1.out.size))).log
      obtain ⟨b, off, hla, hGt⟩ := hE.get (by omega)
      have hkl : k < s.log.length := by rw [HN.out]; exact hlt
      have HXX : Hid (((s.log.map EV.en).drop k).any (Sv.isE x.who x.seq) = (Sv.isE x.who x.seq s.log[k].en || ((s.log.map EV.en).drop (k + 1)).any (Sv.isE x.who x.seq))) := by
        show _ = _
        rw [List.drop_eq_getElem_cons (by rw [List.length_map]; exact hkl), List.any_cons, List.getElem_map]
      obtain ⟨a0, a1, a2⟩ := hGt k hkl
      have HB8 : Hid (Below w1.heap.size w1 (boxe s.log[k] wr)) := HBR.out.trans ((boxe_below _ wr).mono HBR.out.size)
      have HT : Hid (Thr (boxe s.log[k] wr) wr.heap.size 0 s.log[k]) := boxe_at s.log[k] wr
      clear hGt hE
      generalize s.log[k] = v at *
      rw [hla]
      go_upto_region 8 with fail
      change Code.wp Tryz.prog _ _ _ (boxe v wr)
      generalize boxe v wr = W8 at *
      clear a0 a1 a2
      obtain ⟨a0, a1, a2⟩ := HT.out
      simp only [Nat.zero_add] at a0 a1 a2
      have HX8 : Blk W8 (w.heap.size + 1) (evC x) 46 := (HB8.out.block _ HX1.out.lt).trans HX1.out
      have HS8 : Blk W8 (w.heap.size) (svC s) 42 := (HB8.out.block _ HS1.out.lt).trans HS1.out
      have HR8 : Blk W8 (w.heap.size + 2) (svC sv0) 42 := (HB8.out.block _ HR1.out.lt).trans HR1.out
      have HW8 : Below w.heap.size w W8 := HW1.out.trans (HB8.out.mono HW1.out.size)
      have x0 : W8.cell? ⟨w.heap.size + 1, 0, none⟩ = some (.int .i64 x.who) := HX8.cell 0
      have x1 : W8.cell? ⟨w.heap.size + 1, 1, none⟩ = some (.int .i64 x.seq) := HX8.cell 1
      have x2 : W8.cell? ⟨w.heap.size + 1, 2, none⟩ = some (.slice x.ao x.n x.cap) := HX8.cell 2
      cases hal : Sv.isE x.who x.seq v.en
      · have HM2 : Hid (((s.log.map EV.en).drop (k + 1)).any (Sv.isE x.who x.seq) = false) := by show _ = _; rw [← HM.out, HXX.out, hal, Bool.false_or]
        cases h1 : (v.who == x.who)
        · go_wp2
          go_roundw
          case rel => exact ⟨k + 1, by omega, by go_num, HB8.out, HM2.out⟩
          case measure => simp [intOf]; omega
        · have h2 : (v.seq == x.seq) = false := by have h := hal; unfold Sv.isE at h; simp only [EV.en] at h; rw [h1] at h; exact h
          go_wp2
          go_roundw
          case rel => exact ⟨k + 1, by omega, by go_num, HB8.out, HM2.out⟩
          case measure => simp [intOf]; omega
      · have h := HM.out
        rw [HXX.out, hal] at h
        cases h
    · obtain rfl : k = s.ln := by omega
      have HSr : Hid (Blk wr (w.heap.size) (svC s) 42) := (HBR.out.block _ HS1.out.lt).trans HS1.out
      have HXr : Hid (Blk wr (w.heap.size + 1) (evC x) 46) := (HBR.out.block _ HX1.out.lt).trans HX1.out
      have HRr : Hid (Blk wr (w.heap.size + 2) (svC sv0) 42) := (HBR.out.block _ HR1.out.lt).trans HR1.out
      have HWr : Hid (Below w.heap.size w wr) := HW1.out.trans (HBR.out.mono HW1.out.size)
      clear HM HBR HS1 HX1 HR1 HW1 HH
      have p0 : wr.cell? ⟨w.heap.size, 0, none⟩ = some (.slice s.fa s.fn s.fc) := HSr.out.cell 0
      have p1 : wr.cell? ⟨w.heap.size, 1, none⟩ = some (.slice s.la s.ln s.lc) := HSr.out.cell 1
      have p2 : wr.cell? ⟨w.heap.size, 2, none⟩ = some (.slice s.na s.nn s.nc) := HSr.out.cell 2
      obtain ⟨r, rfl⟩ : ∃ r : Nat, rev = r := ⟨rev.toNat, by omega⟩
      have hrl : r ≤ s.ln := by omega
      have n3 : ((s.ln : Int) == 60) = false := by simp; omega
      obtain ⟨BO, hBO⟩ : ∃ BO, Sv.behO (s.se.log.drop (r : Int).toNat) x.en.o = BO := ⟨_, rfl⟩
      have HBO : Hid (Sv.behO (s.se.log.drop (r : Int).toNat) x.en.o = BO) := hBO
      have HBE : Hid (Sv.behE (s.se.log.drop (r : Int).toNat) x.en.o = E0) := HB
      clear hBO HB
      have HOX : Hid (Ops wr x.ao x.n x.cap x.vs) := HXO.out _ HWr.out
      go_wp2_with fail
      go_loopw [12] (fun i wq => ∃ k : Nat, i = .int .i64 k ∧ RtE w s x r E0 BO k wq) (fun i _ => s.ln - (intOf i).toNat)
      case atStart => exact ⟨r, rfl, x.ao, x.n, x.cap, x.vs, Nat.le_refl _, hrl, HXr.out, HOX.out, HBE.out, HBO.out, HSr.out, HRr.out, HWr.out⟩
      case round =>
        obtain ⟨k, rfl, oa, on, oc, us, hrk, hk, hX, hOP, hbe, hbo, hS, hR, hW⟩ := hrel
        have HX : Hid (Blk wr (w.heap.size + 1) [.int .i64 x.who, .int .i64 x.seq, .slice oa on oc] 46) := hX
        have HOP : Hid (Ops wr oa on oc us) := hOP
        have HQE : Hid (Sv.behE ((s.log.map EV.en).drop k) (us.map PV.pt) = E0) := hbe
        have HQO : Hid (Sv.behO ((s.log.map EV.en).drop k) (us.map PV.pt) = BO) := hbo
        have HS : Hid (Blk wr (w.heap.size) (svC s) 42) := hS
        have HR : Hid (Blk wr (w.heap.size + 2) (svC sv0) 42) := hR
        have HW : Hid (Below w.heap.size w wr) := hW
        clear hX hOP hbe hbo hS hR hW p0 p1 p2
        have p0 : wr.cell? ⟨w.heap.size, 0, none⟩ = some (.slice s.fa s.fn s.fc) := HS.out.cell 0
        have p1 : wr.cell? ⟨w.heap.size, 1, none⟩ = some (.slice s.la s.ln s.lc) := HS.out.cell 1
        have p2 : wr.cell? ⟨w.heap.size, 2, none⟩ = some (.slice s.na s.nn s.nc) := HS.out.cell 2
        have x0 : wr.cell? ⟨w.heap.size + 1, 0, none⟩ = some (.int .i64 x.who) := HX.out.cell 0
        have x1 : wr.cell? ⟨w.heap.size + 1, 1, none⟩ = some (.int .i64 x.seq) := HX.out.cell 1
        have x2 : wr.cell? ⟨w.heap.size + 1, 2, none⟩ = some (.slice oa on oc) := HX.out.cell 2
        by_cases hlt : k < s.ln
        · have hE := (HV.out _ HW.out).log
          obtain ⟨b, off, hla, hGt⟩ := hE.get (by omega)
          have hkl : k < s.log.length := by rw [HN.out]; exact hlt
          have a2 := (hGt k hkl).c2
          have hXX : Sv.behE ((s.log.map EV.en).drop k) (us.map PV.pt) = (if Ac.trnE s.log[k].en.o (us.map PV.pt) = 0 then Sv.behE ((s.log.map EV.en).drop (k + 1)) (Ac.trnY s.log[k].en.o (us.map PV.pt)) else Ac.trnE s.log[k].en.o (us.map PV.pt)) ∧ Sv.behO ((s.log.map EV.en).drop k) (us.map PV.pt) = (if Ac.trnE s.log[k].en.o (us.map PV.pt) = 0 then Sv.behO ((s.log.map EV.en).drop (k + 1)) (Ac.trnY s.log[k].en.o (us.map PV.pt)) else Ac.trnY s.log[k].en.o (us.map PV.pt)) := by
            rw [List.drop_eq_getElem_cons (by rw [List.length_map]; exact hkl), List.getElem_map]
            exact ⟨rfl, rfl⟩
          have CT : Hid (∀ w', Below wr.heap.size wr w' → Calls Tryz.prog 93 #[.slice s.log[k].ao s.log[k].n s.log[k].cap, .slice oa on oc] w' fun e w'' => TurnP (Ac.trnX s.log[k].en.o (us.map PV.pt)) (Ac.trnY s.log[k].en.o (us.map PV.pt)) (Ac.trnE s.log[k].en.o (us.map PV.pt)) e w'' ∧ Below w'.heap.size w' w'') := fun w' hb => turnedR_any _ _ _ _ _ _ _ _ w' ((hE.ops _ (List.getElem_mem hkl)).below hb) (HOP.out.below hb)
          have HXX : Hid _ := hXX
          clear hGt hE hXX
          generalize s.log[k] = v at *
          generalize Ac.trnX v.en.o (us.map PV.pt) = X at *
          obtain ⟨Y, hY⟩ : ∃ Y, Ac.trnY v.en.o (us.map PV.pt) = Y := ⟨_, rfl⟩
          obtain ⟨E, hE⟩ : ∃ E, Ac.trnE v.en.o (us.map PV.pt) = E := ⟨_, rfl⟩
          rw [hY, hE] at CT HXX
          clear hY hE
          have q1 : (0 : Int) ≤ (k : Int) := by omega
          have q2 : (k : Int) < (s.ln : Int) := by omega
          rw [hla] at p1
          go_upto_region 18 with fail
          go_region_with (go_at_call 93; refine (CT.out _ ?_).mono ?_; exact (Below.refl _ _).drew; rintro e w9 ⟨⟨xa, xn, xc, xu, ya, yn, yc, yu, rfl, hx9, hy9, px9, py9⟩, hb⟩; have HB9 := drew_step hb; have HY9 : Hid (Ops w9 ya yn yc yu) := hy9; have HPY : Hid (yu.map PV.pt = Y) := py9; clear hb hx9 hy9 px9 py9)
          all_goals
            have HX9 : Hid (Blk w9 (w.heap.size + 1) [.int .i64 x.who, .int .i64 x.seq, .slice oa on oc] 46) := (HB9.block _ HX.out.lt).trans HX.out
            have HS9 : Hid (Blk w9 (w.heap.size) (svC s) 42) := (HB9.block _ HS.out.lt).trans HS.out
            have HR9 : Hid (Blk w9 (w.heap.size + 2) (svC sv0) 42) := (HB9.block _ HR.out.lt).trans HR.out
            have HW9 : Hid (Below w.heap.size w w9) := HW.out.trans (HB9.mono HW.out.size)
            clear p0 p1 p2 x0 x1 x2 a2 HB9
            by_cases hz : E = 0
            · have HE2 : Hid (Sv.behE ((s.log.map EV.en).drop (k + 1)) (yu.map PV.pt) = E0) := by have h := HXX.out.1; rw [if_pos hz] at h; show _ = _; rw [HPY.out, ← h]; exact HQE.out
              have HO2 : Hid (Sv.behO ((s.log.map EV.en).drop (k + 1)) (yu.map PV.pt) = BO) := by have h := HXX.out.2; rw [if_pos hz] at h; show _ = _; rw [HPY.out, ← h]; exact HQO.out
              subst hz
              have hkp : Kept w9 (w9.setCell ⟨w.heap.size + 1, 2, none⟩ (.slice ya yn yc)) [w.heap.size + 1] := kept_set _ _ _ _ _ (by simp)
              have HX10 : Hid (Blk (w9.setCell ⟨w.heap.size + 1, 2, none⟩ (.slice ya yn yc)) (w.heap.size + 1) [.int .i64 x.who, .int .i64 x.seq, .slice ya yn yc] 46) := HX9.out.set 2 _
              have HS10 : Hid (Blk (w9.setCell ⟨w.heap.size + 1, 2, none⟩ (.slice ya yn yc)) (w.heap.size) (svC s) 42) := hkp.blk HS9.out (by simp)
              have HR10 : Hid (Blk (w9.setCell ⟨w.heap.size + 1, 2, none⟩ (.slice ya yn yc)) (w.heap.size + 2) (svC sv0) 42) := hkp.blk HR9.out (by simp)
              have HY10 : Hid (Ops (w9.setCell ⟨w.heap.size + 1, 2, none⟩ (.slice ya yn yc)) ya yn yc yu) := HY9.out.keptE HX9.out rfl (xcells _ _ _ _ _) hkp
              have HW10 : Hid (Below w.heap.size w (w9.setCell ⟨w.heap.size + 1, 2, none⟩ (.slice ya yn yc))) := HW9.out.setCell (by simp) _
              clear hkp
              have x0 : w9.cell? ⟨w.heap.size + 1, 0, none⟩ = some (.int .i64 x.who) := HX9.out.cell 0
              have x1 : w9.cell? ⟨w.heap.size + 1, 1, none⟩ = some (.int .i64 x.seq) := HX9.out.cell 1
              have x2 : w9.cell? ⟨w.heap.size + 1, 2, none⟩ = some (.slice oa on oc) := HX9.out.cell 2
              have f0 := HX9.out.frozen 0
              have f1 := HX9.out.frozen 1
              have f2 := HX9.out.frozen 2
              go_wp2
              go_roundw
              case rel => exact ⟨k + 1, by go_num, ya, yn, yc, yu, by omega, by omega, HX10.out, HY10.out, HE2.out, HO2.out, HS10.out, HR10.out, HW10.out⟩
              case measure => simp [intOf]; omega
            · have hnz : (E != 0) = true := by simp [hz]
              have HEB : Hid (E = E0) := by have h := HXX.out.1; rw [if_neg hz] at h; show _ = _; rw [← HQE.out, h]
              obtain rfl : E = E0 := HEB.out
              clear HEB hz
              go_wp2_with fail
              refine (failR_any E w9).mono ?_
              rintro e wf ⟨rfl, hb⟩
              have hRf : Blk wf (w.heap.size + 2) (svC sv0) 42 := (hb.block _ HR9.out.lt).trans HR9.out
              have hWf : Below w.heap.size w wf := HW9.out.trans (hb.mono HW9.out.size)
              clear hb
              have r0 : wf.cell? ⟨w.heap.size + 2, 0, none⟩ = some (.slice none 0 0) := hRf.cell 0
              have r1 : wf.cell? ⟨w.heap.size + 2, 1, none⟩ = some (.slice none 0 0) := hRf.cell 1
              have r2 : wf.cell? ⟨w.heap.size + 2, 2, none⟩ = some (.slice none 0 0) := hRf.cell 2
              have g0 := hRf.frozen 0
              have g1 := hRf.frozen 1
              have g2 := hRf.frozen 2
              go_wp2
              change bodyPost Tryz.prog _ _ Exit.ret _ (putS wf (w.heap.size + 2) sv0)
              exact bodyPost_ret (ret_srv2 (t := sv0) rfl _ rfl rfl (putS_blk hRf)) rfl ⟨⟨sv0, rfl, (SrvFrom.nil 0 _).srv, rfl⟩, hWf.trans ((putS_below _ _ _).mono (by omega))⟩
        · obtain rfl : k = s.ln := by omega
          have hn : (s.log.map EV.en).drop s.ln = [] := List.drop_eq_nil_of_le (by rw [List.length_map, HN.out]; exact Nat.le_refl _)
          have h0 := HQE.out
          have h1 := HQO.out
          rw [hn] at h0 h1
          have HU : Hid (us.map PV.pt = BO) := h1
          have HZ : Hid ((0 : Int) = E0) := h0
          clear h0 h1 hn
          exact absurd HZ.out.symm HE0.out

set_option maxRecDepth 100000 in
set_option maxHeartbeats 3200000 in
theorem rtake_fit (s : SV) (rev : Int) (x : EV) (w : World) (hV : Srv w s) (hO : Ops w x.ao x.n x.cap x.vs) (h2 : Sv.entE x.en = 0) (hh : Sv.has s.se x.who x.seq = false) (hr : ¬ rev < 0) (hr2 : ¬ (s.ln : Int) < rev) (h60 : ¬ s.ln = 60) (HB : Sv.behE (s.se.log.drop rev.toNat) x.en.o = 0) (E0 : Int) (HE : Ac.fitE s.now (Sv.behO (s.se.log.drop rev.toNat) x.en.o) = E0) (hE0 : ¬ E0 = 0) :
    Calls Tryz.prog 32 #[.agg #[.slice s.fa s.fn s.fc, .slice s.la s.ln s.lc, .slice s.na s.nn s.nc], .int .i64 rev, .agg #[.int .i64 x.who, .int .i64 x.seq, .slice x.ao x.n x.cap]] w fun e w' => (∃ t, e = .returned (.tuple #[svA t, .int .i64 E0]) ∧ Srv w' t ∧ t.se = ⟨[], [], []⟩) ∧ Below w.heap.size w w' := by
  have hne0 : (E0 != 0) = true := by simp [hE0]
  clear hE0
  have H1 : Hid (Below w.heap.size w (boxs sv0 (boxe x (boxs s w)))) := (boxs_below s w).trans (((boxe_below x _).trans ((boxs_below sv0 _).mono (boxe_below x _).size)).mono (boxs_below s w).size)
  have HS0 : Hid (Blk (boxs sv0 (boxe x (boxs s w))) (w.heap.size) (svC s) 42) := ((boxs_blk s w).alloc _).alloc _
  have HX0 : Hid (Blk (boxs sv0 (boxe x (boxs s w))) (w.heap.size + 1) (evC x) 46) := by have := (boxe_blk x (boxs s w)).alloc (.cells #[.slice none 0 0, .slice none 0 0, .slice none 0 0] 42); rw [boxs_size] at this; exact this
  have HR0 : Hid (Blk (boxs sv0 (boxe x (boxs s w))) (w.heap.size + 2) (svC sv0) 42) := by have := boxs_blk sv0 (boxe x (boxs s w)); rw [boxe_size, boxs_size] at this; exact this
  have CE : Hid (Calls Tryz.prog 83 #[.agg #[.int .i64 x.who, .int .i64 x.seq, .slice x.ao x.n x.cap]] (boxs sv0 (boxe x (boxs s w))) fun e w' => e = .returned (.int .i64 (Sv.entE x.en)) ∧ Below (boxs sv0 (boxe x (boxs s w))).heap.size (boxs sv0 (boxe x (boxs s w))) w') := entR_any x _ (hO.below H1.out)
  have HV : Hid (∀ w', Below w.heap.size w w' → Srv w' s) := fun w' hb => hV.below hb
  have HN : Hid (s.log.length = s.ln) := hV.log.len
  have hrm := hV.log.row.room
  have hbg := hV.log.row.big
  have HXO : Hid (∀ w', Below w.heap.size w w' → Ops w' x.ao x.n x.cap x.vs) := fun w' hb => hO.below hb
  clear hV hO
  rw [h2] at CE
  have HH : Hid ((s.log.map EV.en).any (Sv.isE x.who x.seq) = false) := hh
  clear h2 hh
  go_enter Tryz.func32, Tryz.ntmps32
  go_upto_region 2 with fail
  change Code.wp Tryz.prog _ _ _ (boxs sv0 (boxe x (boxs s w)))
  generalize (boxs sv0 (boxe x (boxs s w))) = W0 at *
  have a0 : W0.cell? ⟨w.heap.size + 1, 0, none⟩ = some (.int .i64 x.who) := HX0.out.cell 0
  have a1 : W0.cell? ⟨w.heap.size + 1, 1, none⟩ = some (.int .i64 x.seq) := HX0.out.cell 1
  have a2 : W0.cell? ⟨w.heap.size + 1, 2, none⟩ = some (.slice x.ao x.n x.cap) := HX0.out.cell 2
  go_wp2_with fail
  refine CE.out.mono ?_
  rintro e w1 ⟨rfl, hb⟩
  have HB1 : Hid (Below W0.heap.size W0 w1) := hb
  have HW1 : Hid (Below w.heap.size w w1) := H1.out.trans (hb.mono H1.out.size)
  have HS1 : Hid (Blk w1 (w.heap.size) (svC s) 42) := (hb.block _ HS0.out.lt).trans HS0.out
  have HX1 : Hid (Blk w1 (w.heap.size + 1) (evC x) 46) := (hb.block _ HX0.out.lt).trans HX0.out
  have HR1 : Hid (Blk w1 (w.heap.size + 2) (svC sv0) 42) := (hb.block _ HR0.out.lt).trans HR0.out
  clear hb a0 a1 a2 HS0 HX0 HR0 CE H1 HB1
  have hsz : w.heap.size + 2 < w1.heap.size := HR1.out.lt
  have p0 : w1.cell? ⟨w.heap.size, 0, none⟩ = some (.slice s.fa s.fn s.fc) := HS1.out.cell 0
  have p1 : w1.cell? ⟨w.heap.size, 1, none⟩ = some (.slice s.la s.ln s.lc) := HS1.out.cell 1
  have p2 : w1.cell? ⟨w.heap.size, 2, none⟩ = some (.slice s.na s.nn s.nc) := HS1.out.cell 2
  go_wp2
  go_loopw [30] (fun i wr => ∃ k : Nat, k ≤ s.ln ∧ i = .int .i64 k ∧ Below w1.heap.size w1 wr ∧ ((s.log.map EV.en).drop k).any (Sv.isE x.who x.seq) = false) (fun i _ => s.ln - (intOf i).toNat)
  case atStart => exact ⟨0, Nat.zero_le _, rfl, Below.refl _ _, HH.out⟩
  case round =>
    obtain ⟨k, hk, rfl, hbr, hsm⟩ := hrel
    have HM : Hid (((s.log.map EV.en).drop k).any (Sv.isE x.who x.seq) = false) := hsm
    have HBR : Hid (Below w1.heap.size w1 wr) := hbr
    clear hsm hbr p0 p1 p2
    by_cases hlt : k < s.ln
    · have hE := (HV.out _ (HW1.out.trans (HBR.out.mono HW1.out.size))).log
      obtain ⟨b, off, hla, hGt⟩ := hE.get (by omega)
      have hkl : k < s.log.length := by rw [HN.out]; exact hlt
      have HXX : Hid (((s.log.map EV.en).drop k).any (Sv.isE x.who x.seq) = (Sv.isE x.who x.seq s.log[k].en || ((s.log.map EV.en).drop (k + 1)).any (Sv.isE x.who x.seq))) := by
        show _ = _
        rw [List.drop_eq_getElem_cons (by rw [List.length_map]; exact hkl), List.any_cons, List.getElem_map]
      obtain ⟨a0, a1, a2⟩ := hGt k hkl
      have HB8 : Hid (Below w1.heap.size w1 (boxe s.log[k] wr)) := HBR.out.trans ((boxe_below _ wr).mono HBR.out.size)
      have HT : Hid (Thr (boxe s.log[k] wr) wr.heap.size 0 s.log[k]) := boxe_at s.log[k] wr
      clear hGt hE
      generalize s.log[k] = v at *
      rw [hla]
      go_upto_region 8 with fail
      change Code.wp Tryz.prog _ _ _ (boxe v wr)
      generalize boxe v wr = W8 at *
      clear a0 a1 a2
      obtain ⟨a0, a1, a2⟩ := HT.out
      simp only [Nat.zero_add] at a0 a1 a2
      have HX8 : Blk W8 (w.heap.size + 1) (evC x) 46 := (HB8.out.block _ HX1.out.lt).trans HX1.out
      have HS8 : Blk W8 (w.heap.size) (svC s) 42 := (HB8.out.block _ HS1.out.lt).trans HS1.out
      have HR8 : Blk W8 (w.heap.size + 2) (svC sv0) 42 := (HB8.out.block _ HR1.out.lt).trans HR1.out
      have HW8 : Below w.heap.size w W8 := HW1.out.trans (HB8.out.mono HW1.out.size)
      have x0 : W8.cell? ⟨w.heap.size + 1, 0, none⟩ = some (.int .i64 x.who) := HX8.cell 0
      have x1 : W8.cell? ⟨w.heap.size + 1, 1, none⟩ = some (.int .i64 x.seq) := HX8.cell 1
      have x2 : W8.cell? ⟨w.heap.size + 1, 2, none⟩ = some (.slice x.ao x.n x.cap) := HX8.cell 2
      cases hal : Sv.isE x.who x.seq v.en
      · have HM2 : Hid (((s.log.map EV.en).drop (k + 1)).any (Sv.isE x.who x.seq) = false) := by show _ = _; rw [← HM.out, HXX.out, hal, Bool.false_or]
        cases h1 : (v.who == x.who)
        · go_wp2
          go_roundw
          case rel => exact ⟨k + 1, by omega, by go_num, HB8.out, HM2.out⟩
          case measure => simp [intOf]; omega
        · have h2 : (v.seq == x.seq) = false := by have h := hal; unfold Sv.isE at h; simp only [EV.en] at h; rw [h1] at h; exact h
          go_wp2
          go_roundw
          case rel => exact ⟨k + 1, by omega, by go_num, HB8.out, HM2.out⟩
          case measure => simp [intOf]; omega
      · have h := HM.out
        rw [HXX.out, hal] at h
        cases h
    · obtain rfl : k = s.ln := by omega
      have HSr : Hid (Blk wr (w.heap.size) (svC s) 42) := (HBR.out.block _ HS1.out.lt).trans HS1.out
      have HXr : Hid (Blk wr (w.heap.size + 1) (evC x) 46) := (HBR.out.block _ HX1.out.lt).trans HX1.out
      have HRr : Hid (Blk wr (w.heap.size + 2) (svC sv0) 42) := (HBR.out.block _ HR1.out.lt).trans HR1.out
      have HWr : Hid (Below w.heap.size w wr) := HW1.out.trans (HBR.out.mono HW1.out.size)
      clear HM HBR HS1 HX1 HR1 HW1 HH
      have p0 : wr.cell? ⟨w.heap.size, 0, none⟩ = some (.slice s.fa s.fn s.fc) := HSr.out.cell 0
      have p1 : wr.cell? ⟨w.heap.size, 1, none⟩ = some (.slice s.la s.ln s.lc) := HSr.out.cell 1
      have p2 : wr.cell? ⟨w.heap.size, 2, none⟩ = some (.slice s.na s.nn s.nc) := HSr.out.cell 2
      obtain ⟨r, rfl⟩ : ∃ r : Nat, rev = r := ⟨rev.toNat, by omega⟩
      have hrl : r ≤ s.ln := by omega
      have n3 : ((s.ln : Int) == 60) = false := by simp; omega
      obtain ⟨BO, hBO⟩ : ∃ BO, Sv.behO (s.se.log.drop (r : Int).toNat) x.en.o = BO := ⟨_, rfl⟩
      have HBO : Hid (Sv.behO (s.se.log.drop (r : Int).toNat) x.en.o = BO) := hBO
      have HBE : Hid (Sv.behE (s.se.log.drop (r : Int).toNat) x.en.o = 0) := HB
      clear hBO HB
      have HOX : Hid (Ops wr x.ao x.n x.cap x.vs) := HXO.out _ HWr.out
      go_wp2_with fail
      go_loopw [12] (fun i wq => ∃ k : Nat, i = .int .i64 k ∧ RtE w s x r 0 BO k wq) (fun i _ => s.ln - (intOf i).toNat)
      case atStart => exact ⟨r, rfl, x.ao, x.n, x.cap, x.vs, Nat.le_refl _, hrl, HXr.out, HOX.out, HBE.out, HBO.out, HSr.out, HRr.out, HWr.out⟩
      case round =>
        obtain ⟨k, rfl, oa, on, oc, us, hrk, hk, hX, hOP, hbe, hbo, hS, hR, hW⟩ := hrel
        have HX : Hid (Blk wr (w.heap.size + 1) [.int .i64 x.who, .int .i64 x.seq, .slice oa on oc] 46) := hX
        have HOP : Hid (Ops wr oa on oc us) := hOP
        have HQE : Hid (Sv.behE ((s.log.map EV.en).drop k) (us.map PV.pt) = 0) := hbe
        have HQO : Hid (Sv.behO ((s.log.map EV.en).drop k) (us.map PV.pt) = BO) := hbo
        have HS : Hid (Blk wr (w.heap.size) (svC s) 42) := hS
        have HR : Hid (Blk wr (w.heap.size + 2) (svC sv0) 42) := hR
        have HW : Hid (Below w.heap.size w wr) := hW
        clear hX hOP hbe hbo hS hR hW p0 p1 p2
        have p0 : wr.cell? ⟨w.heap.size, 0, none⟩ = some (.slice s.fa s.fn s.fc) := HS.out.cell 0
        have p1 : wr.cell? ⟨w.heap.size, 1, none⟩ = some (.slice s.la s.ln s.lc) := HS.out.cell 1
        have p2 : wr.cell? ⟨w.heap.size, 2, none⟩ = some (.slice s.na s.nn s.nc) := HS.out.cell 2
        have x0 : wr.cell? ⟨w.heap.size + 1, 0, none⟩ = some (.int .i64 x.who) := HX.out.cell 0
        have x1 : wr.cell? ⟨w.heap.size + 1, 1, none⟩ = some (.int .i64 x.seq) := HX.out.cell 1
        have x2 : wr.cell? ⟨w.heap.size + 1, 2, none⟩ = some (.slice oa on oc) := HX.out.cell 2
        by_cases hlt : k < s.ln
        · have hE := (HV.out _ HW.out).log
          obtain ⟨b, off, hla, hGt⟩ := hE.get (by omega)
          have hkl : k < s.log.length := by rw [HN.out]; exact hlt
          have a2 := (hGt k hkl).c2
          have hXX : Sv.behE ((s.log.map EV.en).drop k) (us.map PV.pt) = (if Ac.trnE s.log[k].en.o (us.map PV.pt) = 0 then Sv.behE ((s.log.map EV.en).drop (k + 1)) (Ac.trnY s.log[k].en.o (us.map PV.pt)) else Ac.trnE s.log[k].en.o (us.map PV.pt)) ∧ Sv.behO ((s.log.map EV.en).drop k) (us.map PV.pt) = (if Ac.trnE s.log[k].en.o (us.map PV.pt) = 0 then Sv.behO ((s.log.map EV.en).drop (k + 1)) (Ac.trnY s.log[k].en.o (us.map PV.pt)) else Ac.trnY s.log[k].en.o (us.map PV.pt)) := by
            rw [List.drop_eq_getElem_cons (by rw [List.length_map]; exact hkl), List.getElem_map]
            exact ⟨rfl, rfl⟩
          have CT : Hid (∀ w', Below wr.heap.size wr w' → Calls Tryz.prog 93 #[.slice s.log[k].ao s.log[k].n s.log[k].cap, .slice oa on oc] w' fun e w'' => TurnP (Ac.trnX s.log[k].en.o (us.map PV.pt)) (Ac.trnY s.log[k].en.o (us.map PV.pt)) (Ac.trnE s.log[k].en.o (us.map PV.pt)) e w'' ∧ Below w'.heap.size w' w'') := fun w' hb => turnedR_any _ _ _ _ _ _ _ _ w' ((hE.ops _ (List.getElem_mem hkl)).below hb) (HOP.out.below hb)
          have HXX : Hid _ := hXX
          clear hGt hE hXX
          generalize s.log[k] = v at *
          generalize Ac.trnX v.en.o (us.map PV.pt) = X at *
          obtain ⟨Y, hY⟩ : ∃ Y, Ac.trnY v.en.o (us.map PV.pt) = Y := ⟨_, rfl⟩
          obtain ⟨E, hE⟩ : ∃ E, Ac.trnE v.en.o (us.map PV.pt) = E := ⟨_, rfl⟩
          rw [hY, hE] at CT HXX
          clear hY hE
          have q1 : (0 : Int) ≤ (k : Int) := by omega
          have q2 : (k : Int) < (s.ln : Int) := by omega
          rw [hla] at p1
          go_upto_region 18 with fail
          go_region_with (go_at_call 93; refine (CT.out _ ?_).mono ?_; exact (Below.refl _ _).drew; rintro e w9 ⟨⟨xa, xn, xc, xu, ya, yn, yc, yu, rfl, hx9, hy9, px9, py9⟩, hb⟩; have HB9 := drew_step hb; have HY9 : Hid (Ops w9 ya yn yc yu) := hy9; have HPY : Hid (yu.map PV.pt = Y) := py9; clear hb hx9 hy9 px9 py9)
          all_goals
            have HX9 : Hid (Blk w9 (w.heap.size + 1) [.int .i64 x.who, .int .i64 x.seq, .slice oa on oc] 46) := (HB9.block _ HX.out.lt).trans HX.out
            have HS9 : Hid (Blk w9 (w.heap.size) (svC s) 42) := (HB9.block _ HS.out.lt).trans HS.out
            have HR9 : Hid (Blk w9 (w.heap.size + 2) (svC sv0) 42) := (HB9.block _ HR.out.lt).trans HR.out
            have HW9 : Hid (Below w.heap.size w w9) := HW.out.trans (HB9.mono HW.out.size)
            clear p0 p1 p2 x0 x1 x2 a2 HB9
            by_cases hz : E = 0
            · have HE2 : Hid (Sv.behE ((s.log.map EV.en).drop (k + 1)) (yu.map PV.pt) = 0) := by have h := HXX.out.1; rw [if_pos hz] at h; show _ = _; rw [HPY.out, ← h]; exact HQE.out
              have HO2 : Hid (Sv.behO ((s.log.map EV.en).drop (k + 1)) (yu.map PV.pt) = BO) := by have h := HXX.out.2; rw [if_pos hz] at h; show _ = _; rw [HPY.out, ← h]; exact HQO.out
              subst hz
              have hkp : Kept w9 (w9.setCell ⟨w.heap.size + 1, 2, none⟩ (.slice ya yn yc)) [w.heap.size + 1] := kept_set _ _ _ _ _ (by simp)
              have HX10 : Hid (Blk (w9.setCell ⟨w.heap.size + 1, 2, none⟩ (.slice ya yn yc)) (w.heap.size + 1) [.int .i64 x.who, .int .i64 x.seq, .slice ya yn yc] 46) := HX9.out.set 2 _
              have HS10 : Hid (Blk (w9.setCell ⟨w.heap.size + 1, 2, none⟩ (.slice ya yn yc)) (w.heap.size) (svC s) 42) := hkp.blk HS9.out (by simp)
              have HR10 : Hid (Blk (w9.setCell ⟨w.heap.size + 1, 2, none⟩ (.slice ya yn yc)) (w.heap.size + 2) (svC sv0) 42) := hkp.blk HR9.out (by simp)
              have HY10 : Hid (Ops (w9.setCell ⟨w.heap.size + 1, 2, none⟩ (.slice ya yn yc)) ya yn yc yu) := HY9.out.keptE HX9.out rfl (xcells _ _ _ _ _) hkp
              have HW10 : Hid (Below w.heap.size w (w9.setCell ⟨w.heap.size + 1, 2, none⟩ (.slice ya yn yc))) := HW9.out.setCell (by simp) _
              clear hkp
              have x0 : w9.cell? ⟨w.heap.size + 1, 0, none⟩ = some (.int .i64 x.who) := HX9.out.cell 0
              have x1 : w9.cell? ⟨w.heap.size + 1, 1, none⟩ = some (.int .i64 x.seq) := HX9.out.cell 1
              have x2 : w9.cell? ⟨w.heap.size + 1, 2, none⟩ = some (.slice oa on oc) := HX9.out.cell 2
              have f0 := HX9.out.frozen 0
              have f1 := HX9.out.frozen 1
              have f2 := HX9.out.frozen 2
              go_wp2
              go_roundw
              case rel => exact ⟨k + 1, by go_num, ya, yn, yc, yu, by omega, by omega, HX10.out, HY10.out, HE2.out, HO2.out, HS10.out, HR10.out, HW10.out⟩
              case measure => simp [intOf]; omega
            · have hnz : (E != 0) = true := by simp [hz]
              have HEB : Hid (E = 0) := by have h := HXX.out.1; rw [if_neg hz] at h; show _ = _; rw [← HQE.out, h]
              exact absurd HEB.out hz
        · obtain rfl : k = s.ln := by omega
          have hn : (s.log.map EV.en).drop s.ln = [] := List.drop_eq_nil_of_le (by rw [List.length_map, HN.out]; exact Nat.le_refl _)
          have h0 := HQE.out
          have h1 := HQO.out
          rw [hn] at h0 h1
          have HU : Hid (us.map PV.pt = BO) := h1
          have HZ : Hid ((0 : Int) = 0) := h0
          clear h0 h1 hn
          have hnz0 := hne0
          have CA : Calls Tryz.prog 82 #[.slice s.na s.nn s.nc, .slice oa on oc] wr fun e w' => (∃ a n c, e = .returned (.tuple #[.slice a n c, .int .i64 E0])) ∧ Below wr.heap.size wr w' := (appliedR_any s.na oa s.nn s.nc on oc s.now us wr (HV.out _ HW.out).now HOP.out).mono fun e w' ⟨⟨a, c, h1, _⟩, hb⟩ => ⟨⟨a, (Ac.done s.now (us.map PV.pt)).length, c, h1.trans (congrArg (fun z => Ending.returned (Value.tuple #[Value.slice a (Ac.done s.now (us.map PV.pt)).length c, Value.int .i64 z])) (by rw [HU.out, ← HBO.out, HE]))⟩, hb⟩
          go_wp2_with fail
          refine CA.mono ?_
          rintro e w9 ⟨⟨na, nn, nc, rfl⟩, hb⟩
          have HR9 : Hid (Blk w9 (w.heap.size + 2) (svC sv0) 42) := (hb.block _ HR.out.lt).trans HR.out
          have HW9 : Hid (Below w.heap.size w w9) := HW.out.trans (hb.mono HW.out.size)
          clear hb CA
          go_wp2_with fail
          refine (failR_any E0 w9).mono ?_
          rintro e wf ⟨rfl, hb⟩
          have hRf : Blk wf (w.heap.size + 2) (svC sv0) 42 := (hb.block _ HR9.out.lt).trans HR9.out
          have hWf : Below w.heap.size w wf := HW9.out.trans (hb.mono HW9.out.size)
          clear hb
          have r0 : wf.cell? ⟨w.heap.size + 2, 0, none⟩ = some (.slice none 0 0) := hRf.cell 0
          have r1 : wf.cell? ⟨w.heap.size + 2, 1, none⟩ = some (.slice none 0 0) := hRf.cell 1
          have r2 : wf.cell? ⟨w.heap.size + 2, 2, none⟩ = some (.slice none 0 0) := hRf.cell 2
          have g0 := hRf.frozen 0
          have g1 := hRf.frozen 1
          have g2 := hRf.frozen 2
          go_wp2
          change bodyPost Tryz.prog _ _ Exit.ret _ (putS wf (w.heap.size + 2) sv0)
          exact bodyPost_ret (ret_srv2 (t := sv0) rfl _ rfl rfl (putS_blk hRf)) rfl ⟨⟨sv0, rfl, (SrvFrom.nil 0 _).srv, rfl⟩, hWf.trans ((putS_below _ _ _).mono (by omega))⟩
end Go.Proofs.YtbhcklkbckacpaaGreatDoor
