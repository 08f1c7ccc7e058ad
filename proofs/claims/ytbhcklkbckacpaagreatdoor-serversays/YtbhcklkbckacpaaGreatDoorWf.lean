/-
  The reference's ServerTakes, of a right server: what is taken.
-/
import Derived.Test.YtbhcklkbckacpaaGreatDoorWe
import Derived.Test.YtbhcklkbckacpaaGreatDoorQe
import Derived.Test.YtbhcklkbckacpaaGreatDoorVj
import Derived.Test.YtbhcklkbckacpaaGreatDoorYa
import Derived.Deep.RegionHeld3
import Derived.Deep.CutRange
namespace Go.Proofs.YtbhcklkbckacpaaGreatDoor
open Go.RowKit
structure Lg2 (w9 : World) (s : SV) (v : EV) (a : Option Addr) (c : Nat) (wx : World) : Prop where
  own : wx.ownsRow w9.heap.size 46 3 (.slice a (s.ln + 1) c) (s.ln + 1) (evCells s.log ++ evC v)
  blw : Below w9.heap.size w9 wx
theorem lg_srv {w9 wx : World} {s : SV} {v : EV} {a : Option Addr} {c : Nat} (h : Lg2 w9 s v a c wx) {na : Option Addr} {nn nc : Nat} {DN : List It} (hS : Srv w9 s) (hO : Ops w9 v.ao v.n v.cap v.vs) (hD : Doc w9 na nn nc DN) :
    Srv wx ⟨s.fa, s.fn, s.fc, s.first, a, s.ln + 1, c, s.log ++ [v], na, nn, nc, DN⟩ := by
  obtain ⟨a2, c2, e, hr, -, -⟩ := own_slice h.own
  simp only [Value.slice.injEq] at e
  obtain ⟨rfl, -, rfl⟩ := e
  rw [show evCells s.log ++ evC v = evCells (s.log ++ [v]) by rw [evCells_app, evCells_one]] at hr
  refine ⟨hS.first.below h.blw, ⟨hr, fun u hu => ?_⟩, hD.below h.blw⟩
  rcases List.mem_append.1 hu with hu | hu
  · exact (hS.log.ops u hu).below h.blw
  · rw [List.mem_singleton.1 hu]
    exact hO.below h.blw
structure Lg1 (w9 : World) (s : SV) (v1 : Value) (wx : World) : Prop where
  own : wx.ownsRow w9.heap.size 46 3 v1 s.ln (evCells s.log)
  blw : Below w9.heap.size w9 wx
theorem Lg1.alloc {w9 wx : World} {s : SV} {v1 : Value} (h : Lg1 w9 s v1 wx) (o : Obj) : Lg1 w9 s v1 (wx.alloc o) := ⟨h.own.alloc o, h.blw.alloc h.blw.size o⟩
theorem lg1_of {w9 wb wx : World} {s : SV} {v v1 : Value} (hb : Below w9.heap.size w9 wb) (ho : wb.ownsRow w9.heap.size 46 3 v 0 []) (hown : wx.ownsRow w9.heap.size 46 3 v1 (0 + s.ln) ([] ++ evCells s.log)) (hg : wb.grownBy wx v.ownBlock) : Lg1 w9 s v1 wx :=
  ⟨by rw [Nat.zero_add] at hown; exact hown, hb.trans ((grown_kept hg).below hb.size (fun k hk => ownBlk_ge ho k (ob_mem hk)))⟩
theorem lg2_of {w9 wb wx : World} {s : SV} {v : EV} {v1 v2 : Value} (h : Lg1 w9 s v1 wb) (hown : wx.ownsRow w9.heap.size 46 3 v2 (s.ln + 1) (evCells s.log ++ evC v)) (hg : wb.grownBy wx v1.ownBlock) : ∃ a c, v2 = .slice a (s.ln + 1) c ∧ Lg2 w9 s v a c wx := by
  obtain ⟨a2, c2, e, hr, -, -⟩ := own_slice hown
  subst e
  exact ⟨a2, c2, rfl, hown, h.blw.trans ((grown_kept hg).below h.blw.size (fun k hk => ownBlk_ge h.own k (ob_mem hk)))⟩
theorem ow_a (w : World) : (w.drew.alloc (.cells #[] 46)).ownsRow w.heap.size 46 3 (.slice (some ⟨w.heap.size, 0, none⟩) 0 0) 0 [] := World.ownsRow_lit w.drew #[] 0 (Nat.le_refl _) (by decide) rfl
theorem ow_b (w : World) (o : Obj) : ((w.drew.alloc (.cells #[] 46)).alloc o).ownsRow w.heap.size 46 3 (.slice (some ⟨w.heap.size, 0, none⟩) 0 0) 0 [] := (ow_a w).alloc o
theorem ow_c (w : World) (o : Obj) : ((w.drew.alloc o).alloc (.cells #[] 46)).ownsRow w.heap.size 46 3 (.slice (some ⟨w.heap.size + 1, 0, none⟩) 0 0) 0 [] := by
  have h := World.ownsRow_lit (base := w.heap.size) (e := 46) (size := 3) (w.drew.alloc o) #[] 0 (by simp) (by decide) rfl
  rw [World.size_alloc] at h
  exact h
theorem be_a (w : World) (o : Obj) : Below w.heap.size w (w.drew.alloc o) := ((Below.refl w.heap.size w).drew).alloc (Nat.le_refl _) o
theorem be_b (w : World) (o p : Obj) : Below w.heap.size w ((w.drew.alloc o).alloc p) := (be_a w o).alloc (be_a w o).size p
theorem eRow_at (v : EV) (w : World) (b : Nat) (hs : w.heap.size = b) : Row (w.alloc (.cells #[.int .i64 v.who, .int .i64 v.seq, .slice v.ao v.n v.cap] 46)) (some ⟨b, 0, none⟩) 1 1 3 (evC v) := by subst hs; exact boxe_row v w
theorem eRow_grown {wb wx : World} {v : EV} {b : Nat} {v0 : Value} (h : Row wb (some ⟨b, 0, none⟩) 1 1 3 (evC v)) (hg : wb.grownBy wx v0.ownBlock) (hne : v0.ownBlock ≠ some b) : Row wx (some ⟨b, 0, none⟩) 1 1 3 (evC v) :=
  h.kept (by decide) (grown_kept hg) (fun ad _ e hx => by cases e; exact hne (ob_mem hx))
theorem sz_b (w : World) (o : Obj) : (w.drew.alloc o).heap.size = w.heap.size + 1 := World.size_alloc ..
theorem e_b (w : World) (o : Obj) (v : EV) : Row ((w.drew.alloc o).alloc (.cells #[.int .i64 v.who, .int .i64 v.seq, .slice v.ao v.n v.cap] 46)) (some ⟨w.heap.size + 1, 0, none⟩) 1 1 3 (evC v) := eRow_at v _ _ (sz_b w o)
theorem e_c (w : World) (o : Obj) (v : EV) : Row ((w.drew.alloc (.cells #[.int .i64 v.who, .int .i64 v.seq, .slice v.ao v.n v.cap] 46)).alloc o) (some ⟨w.heap.size, 0, none⟩) 1 1 3 (evC v) := (eRow_at v w.drew w.heap.size rfl).below ((Below.refl _ _).alloc (Nat.le_refl _) _)
theorem ob_ne {a b : Nat} (h : a ≠ b) : (Value.slice (some ⟨a, 0, none⟩) 0 0).ownBlock ≠ some b := fun e => h (Option.some.inj e)

set_option maxRecDepth 100000 in
set_option maxHeartbeats 12800000 in
theorem rtake_ok (s : SV) (rev : Int) (x : EV) (w : World) (hV : Srv w s) (hO : Ops w x.ao x.n x.cap x.vs) (h2 : Sv.entE x.en = 0) (hh : Sv.has s.se x.who x.seq = false) (hr : ¬ rev < 0) (hr2 : ¬ (s.ln : Int) < rev) (h60 : ¬ s.ln = 60) (hl60 : s.ln ≤ 60) (HB : Sv.behE (s.se.log.drop rev.toNat) x.en.o = 0) (HE : Ac.fitE s.now (Sv.behO (s.se.log.drop rev.toNat) x.en.o) = 0) :
    Calls Tryz.prog 32 #[.agg #[.slice s.fa s.fn s.fc, .slice s.la s.ln s.lc, .slice s.na s.nn s.nc], .int .i64 rev, .agg #[.int .i64 x.who, .int .i64 x.seq, .slice x.ao x.n x.cap]] w fun e w' => (∃ t, e = .returned (.tuple #[svA t, .int .i64 0]) ∧ Srv w' t ∧ t.se = ⟨s.first, s.se.log ++ [⟨x.who, x.seq, (Sv.behO (s.se.log.drop rev.toNat) x.en.o)⟩], Ac.done s.now (Sv.behO (s.se.log.drop rev.toNat) x.en.o)⟩) ∧ Below w.heap.size w w' := by
  have H1 : Hid (Below w.heap.size w (boxs sv0 (boxe x (boxs s w)))) := (boxs_below s w).trans (((boxe_below x _).trans ((boxs_below sv0 _).mono (boxe_below x _).size)).mono (boxs_below s w).size)
  have HS0 : Hid (Blk (boxs sv0 (boxe x (boxs s w))) (w.heap.size) (svC s) 42) := ((boxs_blk s w).alloc _).alloc _
  have HX0 : Hid (Blk (boxs sv0 (boxe x (boxs s w))) (w.heap.size + 1) (evC x) 46) := by have := (boxe_blk x (boxs s w)).alloc (.cells #[.slice none 0 0, .slice none 0 0, .slice none 0 0] 42); rw [boxs_size] at this; exact this
  have HR0 : Hid (Blk (boxs sv0 (boxe x (boxs s w))) (w.heap.size + 2) (svC sv0) 42) := by have := boxs_blk sv0 (boxe x (boxs s w)); rw [boxe_size, boxs_size] at this; exact this
  have CE : Hid (Calls Tryz.prog 83 #[.agg #[.int .i64 x.who, .int .i64 x.seq, .slice x.ao x.n x.cap]] (boxs sv0 (boxe x (boxs s w))) fun e w' => e = .returned (.int .i64 (Sv.entE x.en)) ∧ Below (boxs sv0 (boxe x (boxs s w))).heap.size (boxs sv0 (boxe x (boxs s w))) w') := entR_any x _ (hO.below H1.out)
  have HV : Hid (∀ w', Below w.heap.size w w' → Srv w' s) := fun w' hb => hV.below hb
  have HN : Hid (s.log.length = s.ln) := hV.log.len
  have hrm := hV.log.row.room
  have hbg := hV.log.row.big
  have HXO : Hid (∀ w', Below w.heap.size w w' → Ops w' x.ao x.n x.cap x.vs) := fun w' hb => hO.below hb
  clear hV hO
  rw [h2] at CE
  have HH : Hid ((s.log.map EV.en).any (Sv.isE x.who x.seq) = false) := hh
  clear h2 hh
  go_enter Tryz.func32, Tryz.ntmps32
  go_upto_region 2 with fail
  change Code.wp Tryz.prog _ _ _ (boxs sv0 (boxe x (boxs s w)))
  generalize (boxs sv0 (boxe x (boxs s w))) = W0 at *
  have a0 : W0.cell? ⟨w.heap.size + 1, 0, none⟩ = some (.int .i64 x.who) := HX0.out.cell 0
  have a1 : W0.cell? ⟨w.heap.size + 1, 1, none⟩ = some (.int .i64 x.seq) := HX0.out.cell 1
  have a2 : W0.cell? ⟨w.heap.size + 1, 2, none⟩ = some (.slice x.ao x.n x.cap) := HX0.out.cell 2
  go_wp2_with fail
  refine CE.out.mono ?_
  rintro e w1 ⟨rfl, hb⟩
  have HB1 : Hid (Below W0.heap.size W0 w1) := hb
  have HW1 : Hid (Below w.heap.size w w1) := H1.out.trans (hb.mono H1.out.size)
  have HS1 : Hid (Blk w1 (w.heap.size) (svC s) 42) := (hb.block _ HS0.out.lt).trans HS0.out
  have HX1 : Hid (Blk w1 (w.heap.size + 1) (evC x) 46) := (hb.block _ HX0.out.lt).trans HX0.out
  have HR1 : Hid (Blk w1 (w.heap.size + 2) (svC sv0) 42) := (hb.block _ HR0.out.lt).trans HR0.out
  clear hb a0 a1 a2 HS0 HX0 HR0 CE H1 HB1
  have hsz : w.heap.size + 2 < w1.heap.size := HR1.out.lt
  have p0 : w1.cell? ⟨w.heap.size, 0, none⟩ = some (.slice s.fa s.fn s.fc) := HS1.out.cell 0
  have p1 : w1.cell? ⟨w.heap.size, 1, none⟩ = some (.slice s.la s.ln s.lc) := HS1.out.cell 1
  have p2 : w1.cell? ⟨w.heap.size, 2, none⟩ = some (.slice s.na s.nn s.nc) := HS1.out.cell 2
  go_wp2
  go_loopw [30] (fun i wr => ∃ k : Nat, k ≤ s.ln ∧ i = .int .i64 k ∧ Below w1.heap.size w1 wr ∧ ((s.log.map EV.en).drop k).any (Sv.isE x.who x.seq) = false) (fun i _ => s.ln - (intOf i).toNat)
  case atStart => exact ⟨0, Nat.zero_le _, rfl, Below.refl _ _, HH.out⟩
  case round =>
    obtain ⟨k, hk, rfl, hbr, hsm⟩ := hrel
    have HM : Hid (((s.log.map EV.en).drop k).any (Sv.isE x.who x.seq) = false) := hsm
    have HBR : Hid (Below w1.heap.size w1 wr) := hbr
    clear hsm hbr p0 p1 p2
    by_cases hlt : k < s.ln
    · have hE := (HV.out _ (HW1.out.trans (HBR.out.mono HW1.out.size))).log
      obtain ⟨b, off, hla, hGt⟩ := hE.get (by omega)
      have hkl : k < s.log.length := by rw [HN.out]; exact hlt
      have HXX : Hid (((s.log.map EV.en).drop k).any (Sv.isE x.who x.seq) = (Sv.isE x.who x.seq s.log[k].en || ((s.log.map EV.en).drop (k + 1)).any (Sv.isE x.who x.seq))) := by
        show _ = _
        rw [List.drop_eq_getElem_cons (by rw [List.length_map]; exact hkl), List.any_cons, List.getElem_map]
      obtain ⟨a0, a1, a2⟩ := hGt k hkl
      have HB8 : Hid (Below w1.heap.size w1 (boxe s.log[k] wr)) := HBR.out.trans ((boxe_below _ wr).mono HBR.out.size)
      have HT : Hid (Thr (boxe s.log[k] wr) wr.heap.size 0 s.log[k]) := boxe_at s.log[k] wr
      clear hGt hE
      generalize s.log[k] = v at *
      rw [hla]
      go_upto_region 8 with fail
      change Code.wp Tryz.prog _ _ _ (boxe v wr)
      generalize boxe v wr = W8 at *
      clear a0 a1 a2
      obtain ⟨a0, a1, a2⟩ := HT.out
      simp only [Nat.zero_add] at a0 a1 a2
      have HX8 : Blk W8 (w.heap.size + 1) (evC x) 46 := (HB8.out.block _ HX1.out.lt).trans HX1.out
      have HS8 : Blk W8 (w.heap.size) (svC s) 42 := (HB8.out.block _ HS1.out.lt).trans HS1.out
      have HR8 : Blk W8 (w.heap.size + 2) (svC sv0) 42 := (HB8.out.block _ HR1.out.lt).trans HR1.out
      have HW8 : Below w.heap.size w W8 := HW1.out.trans (HB8.out.mono HW1.out.size)
      have x0 : W8.cell? ⟨w.heap.size + 1, 0, none⟩ = some (.int .i64 x.who) := HX8.cell 0
      have x1 : W8.cell? ⟨w.heap.size + 1, 1, none⟩ = some (.int .i64 x.seq) := HX8.cell 1
      have x2 : W8.cell? ⟨w.heap.size + 1, 2, none⟩ = some (.slice x.ao x.n x.cap) := HX8.cell 2
      cases hal : Sv.isE x.who x.seq v.en
      · have HM2 : Hid (((s.log.map EV.en).drop (k + 1)).any (Sv.isE x.who x.seq) = false) := by show _ = _; rw [← HM.out, HXX.out, hal, Bool.false_or]
        cases h1 : (v.who == x.who)
        · go_wp2
          go_roundw
          case rel => exact ⟨k + 1, by omega, by go_num, HB8.out, HM2.out⟩
          case measure => simp [intOf]; omega
        · have h2 : (v.seq == x.seq) = false := by have h := hal; unfold Sv.isE at h; simp only [EV.en] at h; rw [h1] at h; exact h
          go_wp2
          go_roundw
          case rel => exact ⟨k + 1, by omega, by go_num, HB8.out, HM2.out⟩
          case measure => simp [intOf]; omega
      · have h := HM.out
        rw [HXX.out, hal] at h
        cases h
    · obtain rfl : k = s.ln := by omega
      have HSr : Hid (Blk wr (w.heap.size) (svC s) 42) := (HBR.out.block _ HS1.out.lt).trans HS1.out
      have HXr : Hid (Blk wr (w.heap.size + 1) (evC x) 46) := (HBR.out.block _ HX1.out.lt).trans HX1.out
      have HRr : Hid (Blk wr (w.heap.size + 2) (svC sv0) 42) := (HBR.out.block _ HR1.out.lt).trans HR1.out
      have HWr : Hid (Below w.heap.size w wr) := HW1.out.trans (HBR.out.mono HW1.out.size)
      clear HM HBR HS1 HX1 HR1 HW1 HH
      have p0 : wr.cell? ⟨w.heap.size, 0, none⟩ = some (.slice s.fa s.fn s.fc) := HSr.out.cell 0
      have p1 : wr.cell? ⟨w.heap.size, 1, none⟩ = some (.slice s.la s.ln s.lc) := HSr.out.cell 1
      have p2 : wr.cell? ⟨w.heap.size, 2, none⟩ = some (.slice s.na s.nn s.nc) := HSr.out.cell 2
      obtain ⟨r, rfl⟩ : ∃ r : Nat, rev = r := ⟨rev.toNat, by omega⟩
      have hrl : r ≤ s.ln := by omega
      have n3 : ((s.ln : Int) == 60) = false := by simp; omega
      obtain ⟨BO, hBO⟩ : ∃ BO, Sv.behO (s.se.log.drop (r : Int).toNat) x.en.o = BO := ⟨_, rfl⟩
      have HBO : Hid (Sv.behO (s.se.log.drop (r : Int).toNat) x.en.o = BO) := hBO
      have HBE : Hid (Sv.behE (s.se.log.drop (r : Int).toNat) x.en.o = 0) := HB
      clear hBO HB
      have HOX : Hid (Ops wr x.ao x.n x.cap x.vs) := HXO.out _ HWr.out
      go_wp2_with fail
      go_loopw [12] (fun i wq => ∃ k : Nat, i = .int .i64 k ∧ RtE w s x r 0 BO k wq) (fun i _ => s.ln - (intOf i).toNat)
      case atStart => exact ⟨r, rfl, x.ao, x.n, x.cap, x.vs, Nat.le_refl _, hrl, HXr.out, HOX.out, HBE.out, HBO.out, HSr.out, HRr.out, HWr.out⟩
      case round =>
        obtain ⟨k, rfl, oa, on, oc, us, hrk, hk, hX, hOP, hbe, hbo, hS, hR, hW⟩ := hrel
        have HX : Hid (Blk wr (w.heap.size + 1) [.int .i64 x.who, .int .i64 x.seq, .slice oa on oc] 46) := hX
        have HOP : Hid (Ops wr oa on oc us) := hOP
        have HQE : Hid (Sv.behE ((s.log.map EV.en).drop k) (us.map PV.pt) = 0) := hbe
        have HQO : Hid (Sv.behO ((s.log.map EV.en).drop k) (us.map PV.pt) = BO) := hbo
        have HS : Hid (Blk wr (w.heap.size) (svC s) 42) := hS
        have HR : Hid (Blk wr (w.heap.size + 2) (svC sv0) 42) := hR
        have HW : Hid (Below w.heap.size w wr) := hW
        clear hX hOP hbe hbo hS hR hW p0 p1 p2
        have p0 : wr.cell? ⟨w.heap.size, 0, none⟩ = some (.slice s.fa s.fn s.fc) := HS.out.cell 0
        have p1 : wr.cell? ⟨w.heap.size, 1, none⟩ = some (.slice s.la s.ln s.lc) := HS.out.cell 1
        have p2 : wr.cell? ⟨w.heap.size, 2, none⟩ = some (.slice s.na s.nn s.nc) := HS.out.cell 2
        have x0 : wr.cell? ⟨w.heap.size + 1, 0, none⟩ = some (.int .i64 x.who) := HX.out.cell 0
        have x1 : wr.cell? ⟨w.heap.size + 1, 1, none⟩ = some (.int .i64 x.seq) := HX.out.cell 1
        have x2 : wr.cell? ⟨w.heap.size + 1, 2, none⟩ = some (.slice oa on oc) := HX.out.cell 2
        by_cases hlt : k < s.ln
        · have hE := (HV.out _ HW.out).log
          obtain ⟨b, off, hla, hGt⟩ := hE.get (by omega)
          have hkl : k < s.log.length := by rw [HN.out]; exact hlt
          have a2 := (hGt k hkl).c2
          have hXX : Sv.behE ((s.log.map EV.en).drop k) (us.map PV.pt) = (if Ac.trnE s.log[k].en.o (us.map PV.pt) = 0 then Sv.behE ((s.log.map EV.en).drop (k + 1)) (Ac.trnY s.log[k].en.o (us.map PV.pt)) else Ac.trnE s.log[k].en.o (us.map PV.pt)) ∧ Sv.behO ((s.log.map EV.en).drop k) (us.map PV.pt) = (if Ac.trnE s.log[k].en.o (us.map PV.pt) = 0 then Sv.behO ((s.log.map EV.en).drop (k + 1)) (Ac.trnY s.log[k].en.o (us.map PV.pt)) else Ac.trnY s.log[k].en.o (us.map PV.pt)) := by
            rw [List.drop_eq_getElem_cons (by rw [List.length_map]; exact hkl), List.getElem_map]
            exact ⟨rfl, rfl⟩
          have CT : Hid (∀ w', Below wr.heap.size wr w' → Calls Tryz.prog 93 #[.slice s.log[k].ao s.log[k].n s.log[k].cap, .slice oa on oc] w' fun e w'' => TurnP (Ac.trnX s.log[k].en.o (us.map PV.pt)) (Ac.trnY s.log[k].en.o (us.map PV.pt)) (Ac.trnE s.log[k].en.o (us.map PV.pt)) e w'' ∧ Below w'.heap.size w' w'') := fun w' hb => turnedR_any _ _ _ _ _ _ _ _ w' ((hE.ops _ (List.getElem_mem hkl)).below hb) (HOP.out.below hb)
          have HXX : Hid _ := hXX
          clear hGt hE hXX
          generalize s.log[k] = v at *
          generalize Ac.trnX v.en.o (us.map PV.pt) = X at *
          obtain ⟨Y, hY⟩ : ∃ Y, Ac.trnY v.en.o (us.map PV.pt) = Y := ⟨_, rfl⟩
          obtain ⟨E, hE⟩ : ∃ E, Ac.trnE v.en.o (us.map PV.pt) = E := ⟨_, rfl⟩
          rw [hY, hE] at CT HXX
          clear hY hE
          have q1 : (0 : Int) ≤ (k : Int) := by omega
          have q2 : (k : Int) < (s.ln : Int) := by omega
          rw [hla] at p1
          go_upto_region 18 with fail
          go_region_with (go_at_call 93; refine (CT.out _ ?_).mono ?_; exact (Below.refl _ _).drew; rintro e w9 ⟨⟨xa, xn, xc, xu, ya, yn, yc, yu, rfl, hx9, hy9, px9, py9⟩, hb⟩; have HB9 := drew_step hb; have HY9 : Hid (Ops w9 ya yn yc yu) := hy9; have HPY : Hid (yu.map PV.pt = Y) := py9; clear hb hx9 hy9 px9 py9)
          all_goals
            have HX9 : Hid (Blk w9 (w.heap.size + 1) [.int .i64 x.who, .int .i64 x.seq, .slice oa on oc] 46) := (HB9.block _ HX.out.lt).trans HX.out
            have HS9 : Hid (Blk w9 (w.heap.size) (svC s) 42) := (HB9.block _ HS.out.lt).trans HS.out
            have HR9 : Hid (Blk w9 (w.heap.size + 2) (svC sv0) 42) := (HB9.block _ HR.out.lt).trans HR.out
            have HW9 : Hid (Below w.heap.size w w9) := HW.out.trans (HB9.mono HW.out.size)
            clear p0 p1 p2 x0 x1 x2 a2 HB9
            by_cases hz : E = 0
            · have HE2 : Hid (Sv.behE ((s.log.map EV.en).drop (k + 1)) (yu.map PV.pt) = 0) := by have h := HXX.out.1; rw [if_pos hz] at h; show _ = _; rw [HPY.out, ← h]; exact HQE.out
              have HO2 : Hid (Sv.behO ((s.log.map EV.en).drop (k + 1)) (yu.map PV.pt) = BO) := by have h := HXX.out.2; rw [if_pos hz] at h; show _ = _; rw [HPY.out, ← h]; exact HQO.out
              subst hz
              have hkp : Kept w9 (w9.setCell ⟨w.heap.size + 1, 2, none⟩ (.slice ya yn yc)) [w.heap.size + 1] := kept_set _ _ _ _ _ (by simp)
              have HX10 : Hid (Blk (w9.setCell ⟨w.heap.size + 1, 2, none⟩ (.slice ya yn yc)) (w.heap.size + 1) [.int .i64 x.who, .int .i64 x.seq, .slice ya yn yc] 46) := HX9.out.set 2 _
              have HS10 : Hid (Blk (w9.setCell ⟨w.heap.size + 1, 2, none⟩ (.slice ya yn yc)) (w.heap.size) (svC s) 42) := hkp.blk HS9.out (by simp)
              have HR10 : Hid (Blk (w9.setCell ⟨w.heap.size + 1, 2, none⟩ (.slice ya yn yc)) (w.heap.size + 2) (svC sv0) 42) := hkp.blk HR9.out (by simp)
              have HY10 : Hid (Ops (w9.setCell ⟨w.heap.size + 1, 2, none⟩ (.slice ya yn yc)) ya yn yc yu) := HY9.out.keptE HX9.out rfl (xcells _ _ _ _ _) hkp
              have HW10 : Hid (Below w.heap.size w (w9.setCell ⟨w.heap.size + 1, 2, none⟩ (.slice ya yn yc))) := HW9.out.setCell (by simp) _
              clear hkp
              have x0 : w9.cell? ⟨w.heap.size + 1, 0, none⟩ = some (.int .i64 x.who) := HX9.out.cell 0
              have x1 : w9.cell? ⟨w.heap.size + 1, 1, none⟩ = some (.int .i64 x.seq) := HX9.out.cell 1
              have x2 : w9.cell? ⟨w.heap.size + 1, 2, none⟩ = some (.slice oa on oc) := HX9.out.cell 2
              have f0 := HX9.out.frozen 0
              have f1 := HX9.out.frozen 1
              have f2 := HX9.out.frozen 2
              go_wp2
              go_roundw
              case rel => exact ⟨k + 1, by go_num, ya, yn, yc, yu, by omega, by omega, HX10.out, HY10.out, HE2.out, HO2.out, HS10.out, HR10.out, HW10.out⟩
              case measure => simp [intOf]; omega
            · have hnz : (E != 0) = true := by simp [hz]
              have HEB : Hid (E = 0) := by have h := HXX.out.1; rw [if_neg hz] at h; show _ = _; rw [← HQE.out, h]
              exact absurd HEB.out hz
        · obtain rfl : k = s.ln := by omega
          have hn : (s.log.map EV.en).drop s.ln = [] := List.drop_eq_nil_of_le (by rw [List.length_map, HN.out]; exact Nat.le_refl _)
          have h0 := HQE.out
          have h1 := HQO.out
          rw [hn] at h0 h1
          have HU : Hid (us.map PV.pt = BO) := h1
          have HZ : Hid ((0 : Int) = 0) := h0
          clear h0 h1 hn
          obtain ⟨i0, hi, hz0, hz1, hz2⟩ := info_parts Tryz.infE
          have CA : Calls Tryz.prog 82 #[.slice s.na s.nn s.nc, .slice oa on oc] wr fun e w' => (∃ a n c, e = .returned (.tuple #[.slice a n c, .int .i64 0]) ∧ Doc w' a n c (Ac.done s.now BO)) ∧ Below wr.heap.size wr w' := (appliedR_any s.na oa s.nn s.nc on oc s.now us wr (HV.out _ HW.out).now HOP.out).mono fun e w' ⟨⟨a, c, h1, h2⟩, hb⟩ => ⟨⟨a, (Ac.done s.now (us.map PV.pt)).length, c, h1.trans (congrArg (fun z => Ending.returned (Value.tuple #[Value.slice a (Ac.done s.now (us.map PV.pt)).length c, Value.int .i64 z])) (by rw [HU.out, ← HBO.out, HE])), by have h3 := h2; rw [HU.out] at h3 ⊢; exact h3⟩, hb⟩
          go_wp2_with fail
          refine CA.mono ?_
          rintro e w9 ⟨⟨na, nn, nc, rfl, hdn⟩, hb⟩
          have HD9 : Hid (Doc w9 na nn nc (Ac.done s.now BO)) := hdn
          have HO9 : Hid (Ops w9 oa on oc us) := HOP.out.below hb
          have HS9 : Hid (Blk w9 (w.heap.size) (svC s) 42) := (hb.block _ HS.out.lt).trans HS.out
          have HX9 : Hid (Blk w9 (w.heap.size + 1) [.int .i64 x.who, .int .i64 x.seq, .slice oa on oc] 46) := (hb.block _ HX.out.lt).trans HX.out
          have HR9 : Hid (Blk w9 (w.heap.size + 2) (svC sv0) 42) := (hb.block _ HR.out.lt).trans HR.out
          have HW9 : Hid (Below w.heap.size w w9) := HW.out.trans (hb.mono HW.out.size)
          have HV9 : Hid (Srv w9 s) := HV.out _ HW9.out
          clear hb hdn CA HOP HS HX HR HW
          try clear p0 p1 p2
          try clear x0 x1 x2
          have hln : s.ln ≤ 60 := hl60
          have HLR : Hid (∀ w', Below w9.heap.size w9 w' → Row w' s.la s.ln s.lc 3 (evCells s.log)) := fun w' hb => (HV9.out.log.below hb).row
          have HALL : Hid (∀ w', Kept w9 w' [w.heap.size + 2] → w'.cell? ⟨w.heap.size, 0, none⟩ = some (.slice s.fa s.fn s.fc) ∧ w'.cell? ⟨w.heap.size, 1, none⟩ = some (.slice s.la s.ln s.lc) ∧ w'.cell? ⟨w.heap.size, 2, none⟩ = some (.slice s.na s.nn s.nc) ∧ w'.cell? ⟨w.heap.size + 1, 0, none⟩ = some (.int .i64 x.who) ∧ w'.cell? ⟨w.heap.size + 1, 1, none⟩ = some (.int .i64 x.seq) ∧ w'.cell? ⟨w.heap.size + 1, 2, none⟩ = some (.slice oa on oc)) := fun w' hk => by
            have b1 : Blk w' (w.heap.size) (svC s) 42 := hk.blk HS9.out (by simp)
            have b2 : Blk w' (w.heap.size + 1) [.int .i64 x.who, .int .i64 x.seq, .slice oa on oc] 46 := hk.blk HX9.out (by simp)
            exact ⟨b1.cell 0, b1.cell 1, b1.cell 2, b2.cell 0, b2.cell 1, b2.cell 2⟩
          obtain ⟨p0, p1, p2, x0, x1, x2⟩ := HALL.out w9 (Kept.refl _ _)
          have HGO : Hid (⟨s.first, s.se.log ++ [⟨x.who, x.seq, BO⟩], Ac.done s.now BO⟩ = (⟨s.first, s.se.log ++ [⟨x.who, x.seq, (Sv.behO (s.se.log.drop (r : Int).toNat) x.en.o)⟩], Ac.done s.now (Sv.behO (s.se.log.drop (r : Int).toNat) x.en.o)⟩ : Sv.Se)) := by show _ = _; rw [HBO.out]
          have HUB : Hid (us.map PV.pt = BO) := HU.out
          clear HU HZ HQE HQO HBO HE HXO HV HN
          go_upto_region 25 with fail
          go_region_held3 (fun w' => w'.cell? ⟨w.heap.size, 0, none⟩ = some (.slice s.fa s.fn s.fc) ∧ w'.cell? ⟨w.heap.size, 1, none⟩ = some (.slice s.la s.ln s.lc) ∧ w'.cell? ⟨w.heap.size, 2, none⟩ = some (.slice s.na s.nn s.nc) ∧ w'.cell? ⟨w.heap.size + 1, 0, none⟩ = some (.int .i64 x.who) ∧ w'.cell? ⟨w.heap.size + 1, 1, none⟩ = some (.int .i64 x.seq) ∧ w'.cell? ⟨w.heap.size + 1, 2, none⟩ = some (.slice oa on oc)) (first | exact HALL.out _ ((Kept.refl w9 _).drew) | exact HALL.out _ (Kept.of_below hL2.blw) | exact HALL.out _ ((((Kept.of_below hL2.blw).trans (kept_g _ (w.heap.size + 2) _ _)).trans (kept_g _ _ _ _)).trans (kept_g _ _ _ _)) | exact HALL.out _ (Kept.of_below (hL1.alloc _).blw) | exact HALL.out _ (Kept.of_below hL1.blw) | exact HALL.out _ (Kept.of_below (be_a w9 _)) | exact HALL.out _ (Kept.of_below (be_b w9 _ _))) (first | (refine step_append_row _ (by rfl) (.tmp 116) (.tmp 118) 40 (by rfl) w9.heap.size 46 i0 (.agg #[.int .i64 0, .int .i64 0, .slice none 0 0]) 3 40 Tryz.underlying40 hi hz0 hz1 hz2 rfl (by decide) (.slice (some ⟨w9.heap.size, 0, none⟩) 0 0) 0 [] (by rfl) (ow_a w9) s.la s.ln s.lc (evCells s.log) (by rfl) (HLR.out _ (be_a w9 _)) (evCells_oneCell _) (by unfold maxLen; omega) (by omega) ((be_a w9 _).size) ?_; intro v1 wA hown1 hg1 hat1; have hL1 : Lg1 w9 s v1 wA := lg1_of (be_a w9 _) (ow_a w9) hown1 hg1; clear hown1 hat1 hg1) | (refine step_append_row _ (by rfl) (.tmp 116) (.tmp 118) 40 (by rfl) w9.heap.size 46 i0 (.agg #[.int .i64 0, .int .i64 0, .slice none 0 0]) 3 40 Tryz.underlying40 hi hz0 hz1 hz2 rfl (by decide) (.slice (some ⟨w9.heap.size, 0, none⟩) 0 0) 0 [] (by rfl) (ow_b w9 _) s.la s.ln s.lc (evCells s.log) (by rfl) (HLR.out _ (be_b w9 _ _)) (evCells_oneCell _) (by unfold maxLen; omega) (by omega) ((be_b w9 _ _).size) ?_; intro v1 wA hown1 hg1 hat1; have hL1 : Lg1 w9 s v1 wA := lg1_of (be_b w9 _ _) (ow_b w9 _) hown1 hg1; have hE1 : Row wA (some ⟨w9.heap.size + 1, 0, none⟩) 1 1 3 (evC ⟨x.who, x.seq, oa, on, oc, us⟩) := eRow_grown (e_b w9 _ ⟨x.who, x.seq, oa, on, oc, us⟩) hg1 (ob_ne (by omega)); clear hown1 hat1 hg1) | (refine step_append_row _ (by rfl) (.tmp 116) (.tmp 118) 40 (by rfl) w9.heap.size 46 i0 (.agg #[.int .i64 0, .int .i64 0, .slice none 0 0]) 3 40 Tryz.underlying40 hi hz0 hz1 hz2 rfl (by decide) (.slice (some ⟨w9.heap.size + 1, 0, none⟩) 0 0) 0 [] (by rfl) (ow_c w9 _) s.la s.ln s.lc (evCells s.log) (by rfl) (HLR.out _ (be_b w9 _ _)) (evCells_oneCell _) (by unfold maxLen; omega) (by omega) ((be_b w9 _ _).size) ?_; intro v1 wA hown1 hg1 hat1; have hL1 : Lg1 w9 s v1 wA := lg1_of (be_b w9 _ _) (ow_c w9 _) hown1 hg1; have hE1 : Row wA (some ⟨w9.heap.size, 0, none⟩) 1 1 3 (evC ⟨x.who, x.seq, oa, on, oc, us⟩) := eRow_grown (e_c w9 _ ⟨x.who, x.seq, oa, on, oc, us⟩) hg1 (ob_ne (by omega)); clear hown1 hat1 hg1) | (refine step_append_row _ (by rfl) (.tmp 119) (.tmp 121) 40 (by rfl) w9.heap.size 46 i0 (.agg #[.int .i64 0, .int .i64 0, .slice none 0 0]) 3 40 Tryz.underlying40 hi hz0 hz1 hz2 rfl (by decide) v1 s.ln (evCells s.log) (by rfl) (hL1.alloc _).own (some ⟨wA.heap.size, 0, none⟩) 1 1 (evC ⟨x.who, x.seq, oa, on, oc, us⟩) (by rfl) (eRow_at ⟨x.who, x.seq, oa, on, oc, us⟩ wA _ rfl) (fun u hu => evCells_oneCell [⟨x.who, x.seq, oa, on, oc, us⟩] u (by rw [evCells_one]; exact hu)) (by unfold maxLen; omega) (by omega) (hL1.alloc _).blw.size ?_; intro v2 wB hown2 hg2 hat2; obtain ⟨la2, lc2, rfl, hL2⟩ := lg2_of (hL1.alloc _) hown2 hg2; have hRB : Blk wB (w.heap.size + 2) (svC sv0) 42 := (hL2.blw.block _ HR9.out.lt).trans HR9.out; have g0 : wB.cell? ⟨w.heap.size + 1 + 1, 0, none⟩ = some (.slice none 0 0) := hRB.cell 0; have k0 : wB.frozen? ⟨w.heap.size + 1 + 1, 0, none⟩ = false := hRB.frozen 0; have g1 : wB.cell? ⟨w.heap.size + 1 + 1, 1, none⟩ = some (.slice none 0 0) := hRB.cell 1; have k1 : wB.frozen? ⟨w.heap.size + 1 + 1, 1, none⟩ = false := hRB.frozen 1; have g2 : wB.cell? ⟨w.heap.size + 1 + 1, 2, none⟩ = some (.slice none 0 0) := hRB.cell 2; have k2 : wB.frozen? ⟨w.heap.size + 1 + 1, 2, none⟩ = false := hRB.frozen 2; clear hown2 hg2 hat2) | (refine step_append_row _ (by rfl) (.tmp 119) (.tmp 121) 40 (by rfl) w9.heap.size 46 i0 (.agg #[.int .i64 0, .int .i64 0, .slice none 0 0]) 3 40 Tryz.underlying40 hi hz0 hz1 hz2 rfl (by decide) v1 s.ln (evCells s.log) (by rfl) (hL1).own (some ⟨w9.heap.size + 1, 0, none⟩) 1 1 (evC ⟨x.who, x.seq, oa, on, oc, us⟩) (by rfl) (hE1) (fun u hu => evCells_oneCell [⟨x.who, x.seq, oa, on, oc, us⟩] u (by rw [evCells_one]; exact hu)) (by unfold maxLen; omega) (by omega) (hL1).blw.size ?_; intro v2 wB hown2 hg2 hat2; obtain ⟨la2, lc2, rfl, hL2⟩ := lg2_of (hL1) hown2 hg2; have hRB : Blk wB (w.heap.size + 2) (svC sv0) 42 := (hL2.blw.block _ HR9.out.lt).trans HR9.out; have g0 : wB.cell? ⟨w.heap.size + 1 + 1, 0, none⟩ = some (.slice none 0 0) := hRB.cell 0; have k0 : wB.frozen? ⟨w.heap.size + 1 + 1, 0, none⟩ = false := hRB.frozen 0; have g1 : wB.cell? ⟨w.heap.size + 1 + 1, 1, none⟩ = some (.slice none 0 0) := hRB.cell 1; have k1 : wB.frozen? ⟨w.heap.size + 1 + 1, 1, none⟩ = false := hRB.frozen 1; have g2 : wB.cell? ⟨w.heap.size + 1 + 1, 2, none⟩ = some (.slice none 0 0) := hRB.cell 2; have k2 : wB.frozen? ⟨w.heap.size + 1 + 1, 2, none⟩ = false := hRB.frozen 2; clear hown2 hg2 hat2) | (refine step_append_row _ (by rfl) (.tmp 119) (.tmp 121) 40 (by rfl) w9.heap.size 46 i0 (.agg #[.int .i64 0, .int .i64 0, .slice none 0 0]) 3 40 Tryz.underlying40 hi hz0 hz1 hz2 rfl (by decide) v1 s.ln (evCells s.log) (by rfl) (hL1).own (some ⟨w9.heap.size, 0, none⟩) 1 1 (evC ⟨x.who, x.seq, oa, on, oc, us⟩) (by rfl) (hE1) (fun u hu => evCells_oneCell [⟨x.who, x.seq, oa, on, oc, us⟩] u (by rw [evCells_one]; exact hu)) (by unfold maxLen; omega) (by omega) (hL1).blw.size ?_; intro v2 wB hown2 hg2 hat2; obtain ⟨la2, lc2, rfl, hL2⟩ := lg2_of (hL1) hown2 hg2; have hRB : Blk wB (w.heap.size + 2) (svC sv0) 42 := (hL2.blw.block _ HR9.out.lt).trans HR9.out; have g0 : wB.cell? ⟨w.heap.size + 1 + 1, 0, none⟩ = some (.slice none 0 0) := hRB.cell 0; have k0 : wB.frozen? ⟨w.heap.size + 1 + 1, 0, none⟩ = false := hRB.frozen 0; have g1 : wB.cell? ⟨w.heap.size + 1 + 1, 1, none⟩ = some (.slice none 0 0) := hRB.cell 1; have k1 : wB.frozen? ⟨w.heap.size + 1 + 1, 1, none⟩ = false := hRB.frozen 1; have g2 : wB.cell? ⟨w.heap.size + 1 + 1, 2, none⟩ = some (.slice none 0 0) := hRB.cell 2; have k2 : wB.frozen? ⟨w.heap.size + 1 + 1, 2, none⟩ = false := hRB.frozen 2; clear hown2 hg2 hat2))
          all_goals
            have HL : Hid (Lg2 w9 s ⟨x.who, x.seq, oa, on, oc, us⟩ la2 lc2 wB) := hL2
            clear hL1 hL2
            go_wp2
            change bodyPost Tryz.prog _ _ Exit.ret _ (putS wB (w.heap.size + 2) ⟨s.fa, s.fn, s.fc, s.first, la2, s.ln + 1, lc2, s.log ++ [⟨x.who, x.seq, oa, on, oc, us⟩], na, nn, nc, Ac.done s.now BO⟩)
            refine bodyPost_ret (ret_srv2 (t := ⟨s.fa, s.fn, s.fc, s.first, la2, s.ln + 1, lc2, s.log ++ [⟨x.who, x.seq, oa, on, oc, us⟩], na, nn, nc, Ac.done s.now BO⟩) rfl _ rfl rfl (putS_blk hRB)) rfl ⟨⟨_, rfl, (lg_srv HL.out HV9.out HO9.out HD9.out).keptS hRB (putS_kept _ _ _), ?_⟩, HW9.out.trans ((HL.out.blw.mono (HW9.out.size)).trans ((putS_below _ _ _).mono (by omega)))⟩
            rw [← HGO.out]
            show (⟨s.first, (s.log ++ [_]).map EV.en, Ac.done s.now BO⟩ : Sv.Se) = _
            rw [List.map_append]
            show (⟨s.first, s.se.log ++ [⟨x.who, x.seq, us.map PV.pt⟩], Ac.done s.now BO⟩ : Sv.Se) = _
            rw [HUB.out]
end Go.Proofs.YtbhcklkbckacpaaGreatDoor
