/-
  Texts of this proof, one behind the other.
-/
import Derived.Test.YtbhcklkbckacpaaGreatDoorM9

/-
  Package server: what the log has; servers held against each other.
-/
namespace Go.Proofs.YtbhcklkbckacpaaGreatDoor
open Go.RowKit
def boxi (x : Int) (w : World) : World := w.alloc (.cells #[.int .i64 x] 3)
theorem boxi_below (x : Int) (w : World) : Below w.heap.size w (boxi x w) := (Below.refl _ _).alloc (Nat.le_refl _) _
theorem boxi_blk (x : Int) (w : World) : Blk (boxi x w) w.heap.size [.int .i64 x] 3 := Blk.new w _ _

set_option maxRecDepth 100000 in
set_option maxHeartbeats 1600000 in
theorem isE_any (v : EV) (cb qb : Nat) (c q : Int) (w : World) (hc : w.cell? ⟨cb, 0, none⟩ = some (.int .i64 c)) (hq : w.cell? ⟨qb, 0, none⟩ = some (.int .i64 q)) :
    Calls Tryz.prog 90 #[.agg #[.int .i64 v.who, .int .i64 v.seq, .slice v.ao v.n v.cap], .pointer (some ⟨cb, 0, none⟩), .pointer (some ⟨qb, 0, none⟩)] w fun e w' => e = .returned (.bool (Sv.isE c q v.en)) ∧ Below w.heap.size w w' := by
  have H1 : Hid (Below w.heap.size w (boxe v w)) := boxe_below v w
  have c0 : (boxe v w).cell? ⟨cb, 0, none⟩ = some (.int .i64 c) := cell_below hc (boxe_below v w)
  have q0 : (boxe v w).cell? ⟨qb, 0, none⟩ = some (.int .i64 q) := cell_below hq (boxe_below v w)
  have HT : Hid (Thr (boxe v w) w.heap.size 0 v) := boxe_at v w
  clear hc hq
  obtain ⟨r, hr⟩ : ∃ r, Sv.isE c q v.en = r := ⟨_, rfl⟩
  rw [hr]
  unfold Sv.isE at hr
  simp only [EV.en] at hr
  go_enter Tryz.func90, Tryz.ntmps90
  go_upto_region 1 with fail
  change Code.wp Tryz.prog _ _ _ (boxe v w)
  generalize boxe v w = W at *
  obtain ⟨a0, a1, a2⟩ := HT.out
  simp only [Nat.zero_add] at a0 a1 a2
  cases h1 : (v.who == c)
  · obtain rfl := hr.symm.trans (show _ = false by rw [h1]; rfl)
    clear hr
    go_wp2
    go_ret
    exact ⟨rfl, H1.out⟩
  · obtain rfl := hr.symm.trans (show _ = (v.seq == q) by rw [h1]; rfl)
    clear hr
    go_wp2
    go_ret
    exact ⟨rfl, H1.out⟩

set_option maxRecDepth 100000 in
set_option maxHeartbeats 1600000 in
theorem idxE_any (cb qb : Nat) (c q : Int) (ao : Option Addr) (n cap : Nat) (es : List EV) (w : World) (hE : Ents w ao n cap es) (hc : w.cell? ⟨cb, 0, none⟩ = some (.int .i64 c)) (hq : w.cell? ⟨qb, 0, none⟩ = some (.int .i64 q)) :
    Calls Tryz.prog 91 #[.slice ao n cap, .func (.func 90) #[] #[.pointer (some ⟨cb, 0, none⟩), .pointer (some ⟨qb, 0, none⟩)]] w fun e w' => (∃ i : Int, e = .returned (.int .i64 i) ∧ decide (0 ≤ i) = (es.map EV.en).any (Sv.isE c q)) ∧ Below w.heap.size w w' := by
  have HE : Hid (Ents w ao n cap es) := hE
  have HN : Hid (es.length = n) := hE.len
  have HC : Hid (w.cell? ⟨cb, 0, none⟩ = some (.int .i64 c)) := hc
  have HQ : Hid (w.cell? ⟨qb, 0, none⟩ = some (.int .i64 q)) := hq
  have hcap := hE.row.room
  have hbig := hE.row.big
  clear hE hc hq
  obtain ⟨r, hr⟩ : ∃ r, (es.map EV.en).any (Sv.isE c q) = r := ⟨_, rfl⟩
  have HR : Hid ((es.map EV.en).any (Sv.isE c q) = r) := hr
  rw [hr]
  clear hr
  go_enter Tryz.func91, Tryz.ntmps91
  go_wp2
  go_loopw [8] (fun i wr => ∃ k : Nat, k ≤ n ∧ i = .int .i64 k ∧ Below w.heap.size w wr ∧ ((es.map EV.en).drop k).any (Sv.isE c q) = r) (fun i _ => n - (intOf i).toNat)
  case atStart => exact ⟨0, Nat.zero_le _, rfl, Below.refl _ _, HR.out⟩
  case round =>
    obtain ⟨k, hk, rfl, hbr, hsm⟩ := hrel
    have HM : Hid (((es.map EV.en).drop k).any (Sv.isE c q) = r) := hsm
    have HBR : Hid (Below w.heap.size w wr) := hbr
    clear hsm hbr
    by_cases hlt : k < n
    · obtain ⟨b, off, rfl, hGt⟩ := HE.out.get (by omega)
      have h1 : k < es.length := by rw [HN.out]; exact hlt
      have HX : Hid (((es.map EV.en).drop k).any (Sv.isE c q) = (Sv.isE c q es[k].en || ((es.map EV.en).drop (k + 1)).any (Sv.isE c q))) := by
        show _ = _
        rw [List.drop_eq_getElem_cons (by rw [List.length_map]; exact h1), List.any_cons, List.getElem_map]
      obtain ⟨a0, a1, a2⟩ := (hGt k h1).below HBR.out
      clear hGt
      generalize es[k] = v at *
      go_wp2_with fail
      refine (isE_any v cb qb c q _ (cell_below HC.out HBR.out) (cell_below HQ.out HBR.out)).mono ?_
      rintro e w1 ⟨rfl, hb⟩
      have H2 : Hid (Below w.heap.size w w1) := HBR.out.trans (hb.mono HBR.out.size)
      clear hb a0 a1 a2
      cases hal : Sv.isE c q v.en
      · have HM2 : Hid (((es.map EV.en).drop (k + 1)).any (Sv.isE c q) = r) := by show _ = _; rw [← HM.out, HX.out, hal, Bool.false_or]
        clear hal
        go_wp2
        go_roundw
        case rel => exact ⟨k + 1, by omega, by go_num, H2.out, HM2.out⟩
        case measure => simp [intOf]; omega
      · obtain rfl : r = true := by rw [← HM.out, HX.out, hal]; rfl
        clear hal
        go_wp2
        go_ret
        exact ⟨⟨_, rfl, by simp⟩, H2.out⟩
    · obtain rfl : k = n := by omega
      obtain rfl : r = false := by
        rw [← HM.out, List.drop_eq_nil_of_le (by rw [List.length_map, HN.out]; exact Nat.le_refl _)]
        rfl
      go_wp2
      go_ret
      exact ⟨⟨_, rfl, by decide⟩, HBR.out⟩

set_option maxRecDepth 100000 in
set_option maxHeartbeats 1600000 in
theorem contE_any (cb qb : Nat) (c q : Int) (ao : Option Addr) (n cap : Nat) (es : List EV) (w : World) (hE : Ents w ao n cap es) (hc : w.cell? ⟨cb, 0, none⟩ = some (.int .i64 c)) (hq : w.cell? ⟨qb, 0, none⟩ = some (.int .i64 q)) :
    Calls Tryz.prog 30 #[.slice ao n cap, .func (.func 90) #[] #[.pointer (some ⟨cb, 0, none⟩), .pointer (some ⟨qb, 0, none⟩)]] w fun e w' => e = .returned (.bool ((es.map EV.en).any (Sv.isE c q))) ∧ Below w.heap.size w w' := by
  have CI := idxE_any cb qb c q ao n cap es w hE hc hq
  clear hE hc hq
  generalize (es.map EV.en).any (Sv.isE c q) = r at *
  have HI : Hid (Calls Tryz.prog 91 #[.slice ao n cap, .func (.func 90) #[] #[.pointer (some ⟨cb, 0, none⟩), .pointer (some ⟨qb, 0, none⟩)]] w fun e w' => (∃ i : Int, e = .returned (.int .i64 i) ∧ decide (0 ≤ i) = r) ∧ Below w.heap.size w w') := CI
  clear CI
  go_enter Tryz.func30, Tryz.ntmps30
  go_wp2_with fail
  refine HI.out.mono ?_
  rintro e w1 ⟨⟨i, rfl, hi⟩, hb⟩
  have H1 : Hid (Below w.heap.size w w1) := hb
  clear hb
  have HR : Hid (decide (0 ≤ i) = r) := hi
  clear hi
  go_wp2
  go_ret
  exact ⟨by rw [← HR.out]; rfl, H1.out⟩

set_option maxRecDepth 100000 in
set_option maxHeartbeats 1600000 in
theorem has_any (s : SV) (c q : Int) (w : World) (hS : Srv w s) :
    Calls Tryz.prog 29 #[.agg #[.slice s.fa s.fn s.fc, .slice s.la s.ln s.lc, .slice s.na s.nn s.nc], .int .i64 c, .int .i64 q] w fun e w' => e = .returned (.bool (Sv.has s.se c q)) ∧ Below w.heap.size w w' := by
  have H1 : Hid (Below w.heap.size w (boxi q (boxi c (boxs s w)))) := (boxs_below s w).trans (((boxi_below c _).trans ((boxi_below q _).mono (boxi_below c _).size)).mono (boxs_below s w).size)
  have CC : Hid (Calls Tryz.prog 30 #[.slice s.la s.ln s.lc, .func (.func 90) #[] #[.pointer (some ⟨w.heap.size + 1, 0, none⟩), .pointer (some ⟨w.heap.size + 1 + 1, 0, none⟩)]] (boxi q (boxi c (boxs s w))) fun e w' => e = .returned (.bool (Sv.has s.se c q)) ∧ Below (boxi q (boxi c (boxs s w))).heap.size (boxi q (boxi c (boxs s w))) w') :=
    contE_any _ _ c q s.la s.ln s.lc s.log _ (hS.log.below H1.out) (by
      have := cell_below ((boxi_blk c (boxs s w)).cell 0) (boxi_below q _)
      rw [boxs_size] at this
      exact this) (by
      have := (boxi_blk q (boxi c (boxs s w))).cell 0
      rw [show (boxi c (boxs s w)).heap.size = w.heap.size + 1 + 1 by unfold boxi; rw [World.size_alloc, boxs_size]] at this
      exact this)
  clear hS
  generalize Sv.has s.se c q = r at *
  go_enter Tryz.func29, Tryz.ntmps29
  go_wp2_with fail
  change Calls Tryz.prog 30 _ (boxi q (boxi c (boxs s w))) _
  refine CC.out.mono ?_
  rintro e w1 ⟨rfl, hb⟩
  have H2 : Hid (Below w.heap.size w w1) := H1.out.trans (hb.mono H1.out.size)
  clear hb
  go_wp2
  go_ret
  exact ⟨rfl, H2.out⟩

set_option maxRecDepth 100000 in
set_option maxHeartbeats 1600000 in
theorem sameS_any (a b : SV) (w : World) (ha : Srv w a) (hb : Srv w b) :
    Calls Tryz.prog 24 #[.agg #[.slice a.fa a.fn a.fc, .slice a.la a.ln a.lc, .slice a.na a.nn a.nc], .agg #[.slice b.fa b.fn b.fc, .slice b.la b.ln b.lc, .slice b.na b.nn b.nc]] w fun e w' => e = .returned (.bool (Sv.sameS a.se b.se)) ∧ Below w.heap.size w w' := by
  have H1 : Hid (Below w.heap.size w (boxs b (boxs a w))) := (boxs_below a w).trans ((boxs_below b _).mono (boxs_below a w).size)
  have HA : Hid (Blk (boxs b (boxs a w)) w.heap.size (svC a) 42) := (boxs_blk a w).alloc _
  have HB : Hid (Blk (boxs b (boxs a w)) (w.heap.size + 1) (svC b) 42) := by have := boxs_blk b (boxs a w); rw [boxs_size] at this; exact this
  have C0 : Hid (Calls Tryz.prog 68 #[.slice a.fa a.fn a.fc, .slice b.fa b.fn b.fc] (boxs b (boxs a w)) fun e w' => e = .returned (.bool (Dc.same a.first b.first)) ∧ Below (boxs b (boxs a w)).heap.size (boxs b (boxs a w)) w') := (same_any _ _ _ _ _ _ _ _ _ (ha.first.below H1.out) (hb.first.below H1.out)).mono fun e w' ⟨h, m, hm⟩ => ⟨h, by rw [hm]; exact drewN_blw _ m⟩
  have C1 : Hid (∀ w', Below (boxs b (boxs a w)).heap.size (boxs b (boxs a w)) w' → Calls Tryz.prog 86 #[.slice a.la a.ln a.lc, .slice b.la b.ln b.lc, .func (.func 25) #[] #[]] w' fun e w'' => e = .returned (.bool (Sv.sameL (a.log.map EV.en) (b.log.map EV.en))) ∧ Below w'.heap.size w' w'') := fun w' hw => eqFuncE_any _ _ _ _ _ _ _ _ _ ((ha.log.below H1.out).below hw) ((hb.log.below H1.out).below hw)
  have C2 : Hid (∀ w', Below (boxs b (boxs a w)).heap.size (boxs b (boxs a w)) w' → Calls Tryz.prog 68 #[.slice a.na a.nn a.nc, .slice b.na b.nn b.nc] w' fun e w'' => e = .returned (.bool (Dc.same a.now b.now)) ∧ Below w'.heap.size w' w'') := fun w' hw => (same_any _ _ _ _ _ _ _ _ _ ((ha.now.below H1.out).below hw) ((hb.now.below H1.out).below hw)).mono fun e w'' ⟨h, m, hm⟩ => ⟨h, by rw [hm]; exact drewN_blw _ m⟩
  clear ha hb
  obtain ⟨r, hr⟩ : ∃ r, Sv.sameS a.se b.se = r := ⟨_, rfl⟩
  rw [hr]
  unfold Sv.sameS at hr
  simp only [SV.se] at hr
  generalize Dc.same a.first b.first = x at *
  generalize Sv.sameL (a.log.map EV.en) (b.log.map EV.en) = y at *
  generalize Dc.same a.now b.now = z at *
  cases x
  · obtain rfl := hr.symm.trans (show _ = false from rfl)
    clear hr
    go_enter Tryz.func24, Tryz.ntmps24
    go_wp2_with fail
    change Calls Tryz.prog 68 _ (boxs b (boxs a w)) _
    refine C0.out.mono ?_
    rintro e w1 ⟨rfl, hb⟩
    have H2 : Hid (Below (boxs b (boxs a w)).heap.size (boxs b (boxs a w)) w1) := hb
    have H2w : Hid (Below w.heap.size w w1) := H1.out.trans (hb.mono H1.out.size)
    clear hb
    go_wp2
    go_ret
    exact ⟨rfl, H2w.out⟩
  · cases y
    · obtain rfl := hr.symm.trans (show _ = false from rfl)
      clear hr
      go_enter Tryz.func24, Tryz.ntmps24
      go_wp2_with fail
      change Calls Tryz.prog 68 _ (boxs b (boxs a w)) _
      refine C0.out.mono ?_
      rintro e w1 ⟨rfl, hb⟩
      have H2 : Hid (Below (boxs b (boxs a w)).heap.size (boxs b (boxs a w)) w1) := hb
      have H2w : Hid (Below w.heap.size w w1) := H1.out.trans (hb.mono H1.out.size)
      clear hb
      have e1 : w1.cell? ⟨w.heap.size, 1, none⟩ = some (.slice a.la a.ln a.lc) := cell_below (HA.out.cell 1) H2.out
      have e2 : w1.cell? ⟨w.heap.size + 1, 1, none⟩ = some (.slice b.la b.ln b.lc) := cell_below (HB.out.cell 1) H2.out
      go_wp2_with fail
      refine (C1.out _ H2.out).mono ?_
      rintro e w2 ⟨rfl, hb⟩
      have H3 : Hid (Below (boxs b (boxs a w)).heap.size (boxs b (boxs a w)) w2) := H2.out.trans (hb.mono H2.out.size)
      have H3w : Hid (Below w.heap.size w w2) := H1.out.trans (H3.out.mono H1.out.size)
      clear hb e1 e2
      go_wp2
      go_ret
      exact ⟨rfl, H3w.out⟩
    · obtain rfl := hr.symm.trans (show _ = z from rfl)
      clear hr
      go_enter Tryz.func24, Tryz.ntmps24
      go_wp2_with fail
      change Calls Tryz.prog 68 _ (boxs b (boxs a w)) _
      refine C0.out.mono ?_
      rintro e w1 ⟨rfl, hb⟩
      have H2 : Hid (Below (boxs b (boxs a w)).heap.size (boxs b (boxs a w)) w1) := hb
      have H2w : Hid (Below w.heap.size w w1) := H1.out.trans (hb.mono H1.out.size)
      clear hb
      have e1 : w1.cell? ⟨w.heap.size, 1, none⟩ = some (.slice a.la a.ln a.lc) := cell_below (HA.out.cell 1) H2.out
      have e2 : w1.cell? ⟨w.heap.size + 1, 1, none⟩ = some (.slice b.la b.ln b.lc) := cell_below (HB.out.cell 1) H2.out
      go_wp2_with fail
      refine (C1.out _ H2.out).mono ?_
      rintro e w2 ⟨rfl, hb⟩
      have H3 : Hid (Below (boxs b (boxs a w)).heap.size (boxs b (boxs a w)) w2) := H2.out.trans (hb.mono H2.out.size)
      have H3w : Hid (Below w.heap.size w w2) := H1.out.trans (H3.out.mono H1.out.size)
      clear hb e1 e2
      have e1 : w2.cell? ⟨w.heap.size, 2, none⟩ = some (.slice a.na a.nn a.nc) := cell_below (HA.out.cell 2) H3.out
      have e2 : w2.cell? ⟨w.heap.size + 1, 2, none⟩ = some (.slice b.na b.nn b.nc) := cell_below (HB.out.cell 2) H3.out
      go_wp2_with fail
      refine (C2.out _ H3.out).mono ?_
      rintro e w3 ⟨rfl, hb⟩
      have H4w : Hid (Below w.heap.size w w3) := H1.out.trans ((H3.out.trans (hb.mono H3.out.size)).mono H1.out.size)
      clear hb e1 e2
      go_wp2
      go_ret
      exact ⟨rfl, H4w.out⟩
end Go.Proofs.YtbhcklkbckacpaaGreatDoor

/-
  Package server: what the operations of a log make of a document; whether it is a server.
-/
namespace Go.Proofs.YtbhcklkbckacpaaGreatDoor
open Go.RowKit
theorem cell_apart {w : World} {g : Nat} {a : Option Addr} {n c : Nat} {T : TypeId} (h : Blk w g [.slice a n c] T) {b o : Nat} {u : Value} (hu : w.cell? ⟨b, o, none⟩ = some u) (hs : ∀ a n c, u ≠ .slice a n c) : b ≠ g := by
  rintro rfl
  rw [h.cell o] at hu
  cases o with
  | zero => exact hs _ _ _ (Option.some.inj hu).symm
  | succ o => cases hu
theorem docN (w : World) : Doc w none 0 0 [] := ⟨fun x hx => absurd hx (by simp), rfl, Nat.le_refl _, by decide, fun h => absurd rfl h⟩
theorem Doc.poke {w : World} {a : Option Addr} {n c : Nat} {l : List It} {g : Nat} {a0 : Option Addr} {n0 c0 : Nat} {T : TypeId} (h : Doc w a n c l) (hB : Blk w g [.slice a0 n0 c0] T) (v : Value) : Doc (w.setCell ⟨g, 0, none⟩ v) a n c l :=
  ⟨h.fit, h.len, h.room, h.big, fun hn => by
    obtain ⟨b, off, e, hA⟩ := h.lies hn
    have hne : b ≠ g := cell_apart hB (hA.c 0 (by rw [h.len]; omega)) (fun _ _ _ e => by cases e)
    have hk := Below.heap_setCell w ⟨g, 0, none⟩ v b hne
    exact ⟨b, off, e, ⟨fun i hi => (World.cell?_of_block (w := w) hk).trans (hA.c i hi), fun i hi => (World.cell?_of_block (w := w) hk).trans (hA.m i hi), fun i hi => (World.cell?_of_block (w := w) hk).trans (hA.l i hi)⟩⟩⟩
theorem Row.poke {w : World} {a : Option Addr} {n c sz : Nat} {cs : List Value} {g : Nat} {a0 : Option Addr} {n0 c0 : Nat} {T : TypeId} (h : Row w a n c sz cs) (hB : Blk w g [.slice a0 n0 c0] T) (hs : n ≠ 0 → ∃ u, cs[0]? = some u ∧ ∀ a n c, u ≠ .slice a n c) (v : Value) : Row (w.setCell ⟨g, 0, none⟩ v) a n c sz cs :=
  ⟨h.len, h.room, h.big, fun hn => by
    obtain ⟨b, off, e, hc⟩ := h.lies hn
    obtain ⟨u, hu, hne⟩ := hs hn
    have hk := Below.heap_setCell w ⟨g, 0, none⟩ v b (cell_apart hB (hc 0 u hu) hne)
    exact ⟨b, off, e, fun j u hu => (World.cell?_of_block (w := w) hk).trans (hc j u hu)⟩⟩
theorem Ops.poke {w : World} {a : Option Addr} {n c : Nat} {vs : List PV} {g : Nat} {a0 : Option Addr} {n0 c0 : Nat} {T : TypeId} (h : Ops w a n c vs) (hB : Blk w g [.slice a0 n0 c0] T) (v : Value) : Ops (w.setCell ⟨g, 0, none⟩ v) a n c vs :=
  ⟨h.row.poke hB (fun hn => by
    have hl := h.len
    match vs, hl with
    | [], hl => exact absurd hl.symm hn
    | x :: vs, _ => exact ⟨.int .i64 x.kind, rfl, fun _ _ _ e => by cases e⟩) v, fun x hx => ⟨(h.pts x hx).doc.poke hB v, (h.pts x hx).fit⟩⟩
theorem Ents.poke {w : World} {a : Option Addr} {n c : Nat} {es : List EV} {g : Nat} {a0 : Option Addr} {n0 c0 : Nat} {T : TypeId} (h : Ents w a n c es) (hB : Blk w g [.slice a0 n0 c0] T) (v : Value) : Ents (w.setCell ⟨g, 0, none⟩ v) a n c es :=
  ⟨h.row.poke hB (fun hn => by
    have hl := h.len
    match es, hl with
    | [], hl => exact absurd hl.symm hn
    | x :: es, _ => exact ⟨.int .i64 x.who, rfl, fun _ _ _ e => by cases e⟩) v, fun x hx => (h.ops x hx).poke hB v⟩
theorem Sch.poke {w : World} {g : Nat} {a0 : Option Addr} {n0 c0 : Nat} {T : TypeId} (h : Sch w) (hB : Blk w g [.slice a0 n0 c0] T) (v : Value) : Sch (w.setCell ⟨g, 0, none⟩ v) := by
  obtain ⟨t, fr, hh⟩ := h
  have hne : 8 ≠ g := by
    rintro rfl
    have e := hh.symm.trans hB
    simp only [Option.some.injEq, Obj.cells.injEq] at e
    have : scells.size = 1 := by rw [e.1]; rfl
    exact absurd this (by decide)
  exact ⟨t, fr, (Below.heap_setCell w ⟨g, 0, none⟩ v _ hne).trans hh⟩

set_option maxRecDepth 100000 in
set_option maxHeartbeats 1600000 in
theorem fold1_any (v : EV) (g : Nat) (a : Option Addr) (n c : Nat) (l : List It) (w : World) (hB : Blk w g [.slice a n c] 34) (hD : Doc w a n c l) (hO : Ops w v.ao v.n v.cap v.vs) (hS : Sch w) :
    Calls Tryz.prog 81 #[.agg #[.int .i64 v.who, .int .i64 v.seq, .slice v.ao v.n v.cap], .pointer (some ⟨g, 0, none⟩)] w fun e w' => e = .returned (.int .i64 (Ac.fitE l v.en.o)) ∧ ∃ w1 a' n' c', w' = w1.setCell ⟨g, 0, none⟩ (.slice a' n' c') ∧ Below w.heap.size w w1 ∧ Doc w1 a' n' c' (Ac.done l v.en.o) := by
  have CA : Hid (Calls Tryz.prog 78 #[.slice a n c, .slice v.ao v.n v.cap] (boxe v w) fun e w' => (∃ a c, e = .returned (.tuple #[.slice a (Ac.done l (v.vs.map PV.pt)).length c, .int .i64 (Ac.fitE l (v.vs.map PV.pt))]) ∧ Doc w' a (Ac.done l (v.vs.map PV.pt)).length c (Ac.done l (v.vs.map PV.pt))) ∧ Below (boxe v w).heap.size (boxe v w) w') := apply_any a v.ao n c v.n v.cap l v.vs _ (hD.below (boxe_below v w)) (hO.below (boxe_below v w)) (hS.below (boxe_below v w))
  have H1 : Hid (Below w.heap.size w (boxe v w)) := boxe_below v w
  have HB : Hid (Blk (boxe v w) g [.slice a n c] 34) := hB.alloc _
  have HT : Hid (Thr (boxe v w) w.heap.size 0 v) := boxe_at v w
  clear hB hD hO hS
  change Calls Tryz.prog _ _ _ fun e w' => e = .returned (.int .i64 (Ac.fitE l (v.vs.map PV.pt))) ∧ ∃ w1 a' n' c', w' = w1.setCell ⟨g, 0, none⟩ (.slice a' n' c') ∧ Below w.heap.size w w1 ∧ Doc w1 a' n' c' (Ac.done l (v.vs.map PV.pt))
  generalize Ac.fitE l (v.vs.map PV.pt) = E at *
  generalize Ac.done l (v.vs.map PV.pt) = D at *
  go_enter Tryz.func81, Tryz.ntmps81
  go_upto_region 1 with fail
  change Code.wp Tryz.prog _ _ _ (boxe v w)
  generalize boxe v w = W at *
  obtain ⟨a0, a1, a2⟩ := HT.out
  simp only [Nat.zero_add] at a0 a1 a2
  have g0 : W.cell? ⟨g, 0, none⟩ = some (.slice a n c) := HB.out.cell 0
  go_wp2_with fail
  refine CA.out.mono ?_
  rintro e w1 ⟨⟨a', c', rfl, hd⟩, hb⟩
  have HD : Hid (Doc w1 a' D.length c' D) := hd
  have H2 : Hid (Below w.heap.size w w1) := H1.out.trans (hb.mono H1.out.size)
  have HB1 : Hid (Blk w1 g [.slice a n c] 34) := (hb.block _ HB.out.lt).trans HB.out
  clear hd hb a0 a1 a2 g0
  have g0 : w1.cell? ⟨g, 0, none⟩ = some (.slice a n c) := HB1.out.cell 0
  have gf := HB1.out.frozen 0
  go_wp2
  go_ret
  exact ⟨rfl, w1, a', _, c', rfl, H2.out, HD.out⟩

theorem eachF_any (B g : Nat) (a : Option Addr) (n c : Nat) (l : List It) (la : Option Addr) (ln lc : Nat) (es : List EV) (w : World) (hg : B ≤ g) (hw : B ≤ w.heap.size) (hB : Blk w g [.slice a n c] 34) (hD : Doc w a n c l) (hE : Ents w la ln lc es) (hS : Sch w) :
    Calls Tryz.prog 80 #[.slice la ln lc, .func (.func 81) #[] #[.pointer (some ⟨g, 0, none⟩)]] w fun e w' => e = .returned (.int .i64 (Sv.foldE l (es.map EV.en))) ∧ (∃ a' n' c', Blk w' g [.slice a' n' c'] 34 ∧ Doc w' a' n' c' (Sv.foldD l (es.map EV.en))) ∧ Below B w w' := by
  refine (each_any 81 (.pointer (some ⟨g, 0, none⟩)) la ln lc es
    (fun k wr => Below B w wr ∧ Ents wr la ln lc es ∧ Sch wr ∧ ∃ a' n' c' l', Blk wr g [.slice a' n' c'] 34 ∧ Doc wr a' n' c' l' ∧ Sv.foldE l' ((es.map EV.en).drop k) = Sv.foldE l (es.map EV.en) ∧ Sv.foldD l' ((es.map EV.en).drop k) = Sv.foldD l (es.map EV.en))
    (fun E wr => Below B w wr ∧ E = Sv.foldE l (es.map EV.en) ∧ ∃ a' n' c', Blk wr g [.slice a' n' c'] 34 ∧ Doc wr a' n' c' (Sv.foldD l (es.map EV.en)))
    w (.inl rfl) ⟨hE.row.room, hE.row.big, hE.len⟩ (fun k wr h => h.2.1) (fun k wr v h => ?_) ⟨Below.refl _ _, hE, hS, a, n, c, l, hB, hD, rfl, rfl⟩ (fun k hk wr h => ?_)).mono ?_
  · obtain ⟨h1, h2, h3, a', n', c', l', h4, h5, h6, h7⟩ := h
    exact ⟨h1.trans ((boxe_below v wr).mono (Nat.le_trans hw h1.size)), h2.below (boxe_below v wr), h3.below (boxe_below v wr), a', n', c', l', h4.alloc _, h5.below (boxe_below v wr), h6, h7⟩
  · obtain ⟨h1, h2, h3, a', n', c', l', h4, h5, h6, h7⟩ := h
    refine (fold1_any es[k] g a' n' c' l' wr h4 h5 (h2.ops _ (List.getElem_mem hk)) h3).mono ?_
    rintro e w' ⟨rfl, w1, a1, n1, c1, rfl, hb, hd⟩
    have hB1 : Blk w1 g [.slice a' n' c'] 34 := (hb.block _ h4.lt).trans h4
    have hbb : Below B w (w1.setCell ⟨g, 0, none⟩ (.slice a1 n1 c1)) := (h1.trans (hb.mono (Nat.le_trans hw h1.size))).setCell hg _
    have hst : ∀ (x : List It), Sv.foldE x ((es.map EV.en).drop k) = (if Ac.fitE x es[k].en.o = 0 then Sv.foldE (Ac.done x es[k].en.o) ((es.map EV.en).drop (k + 1)) else Ac.fitE x es[k].en.o) ∧ Sv.foldD x ((es.map EV.en).drop k) = (if Ac.fitE x es[k].en.o = 0 then Sv.foldD (Ac.done x es[k].en.o) ((es.map EV.en).drop (k + 1)) else Ac.done x es[k].en.o) := fun x => by
      rw [List.drop_eq_getElem_cons (by rw [List.length_map]; exact hk), List.getElem_map]
      exact ⟨rfl, rfl⟩
    obtain ⟨s1, s2⟩ := hst l'
    refine ⟨_, rfl, fun hz => ?_, fun hz => ?_⟩
    · rw [if_pos hz] at s1 s2
      exact ⟨hbb, (h2.below hb).poke hB1 _, (h3.below hb).poke hB1 _, a1, n1, c1, _, hB1.set 0 _, hd.poke hB1 _, by rw [← s1]; exact h6, by rw [← s2]; exact h7⟩
    · rw [if_neg hz] at s1 s2
      exact ⟨hbb, by rw [← s1]; exact h6, a1, n1, c1, hB1.set 0 _, by rw [← h7, s2]; exact hd.poke hB1 _⟩
  · rintro e w' ⟨E, rfl, h0, h1⟩
    by_cases hz : E = 0
    · obtain ⟨b1, -, -, a', n', c', l', b4, b5, b6, b7⟩ := h0 hz
      have hn : (es.map EV.en).drop ln = [] := List.drop_eq_nil_of_le (by rw [List.length_map, hE.len]; exact Nat.le_refl _)
      rw [hn] at b6 b7
      exact ⟨by rw [hz, ← b6]; rfl, ⟨a', n', c', b4, by rw [← b7]; exact b5⟩, b1⟩
    · obtain ⟨b1, b2, b3⟩ := h1 hz
      exact ⟨by rw [b2], b3, b1⟩

set_option maxRecDepth 100000 in
set_option maxHeartbeats 1600000 in
theorem cloneD_any (ao : Option Addr) (n cap : Nat) (l : List It) (w : World) (hD : Doc w ao n cap l) (h0 : 0 < n) (h80 : n ≤ 80) :
    Calls Tryz.prog 79 #[.slice ao n cap] w fun e w' => (∃ g c, e = .returned (.slice (some ⟨g, 0, none⟩) n c) ∧ w.heap.size ≤ g ∧ Doc w' (some ⟨g, 0, none⟩) n c l) ∧ Below w.heap.size w w' := by
  obtain ⟨i0, hi, hz0, hz1, hz2⟩ := info_parts Tryz.infI
  obtain ⟨b, off, rfl, hA⟩ := hD.lies (by omega)
  have HA : Hid (At w b off l) := hA
  have HL : Hid (l.length = n) := hD.len
  have HFT : Hid (Fit l) := hD.fit
  have hnil : ∀ w, (binOp .eql 34 (.slice (some ⟨b, off, none⟩) n cap) (.slice none 0 0)).run Tryz.prog w = .ok (.bool false) w := fun w => Lib.run_eql_slice_nil (P := Tryz.prog) w 34 39 _ _ _ _ _ Tryz.underlying34
  clear hA hD
  go_enter Tryz.func79, Tryz.ntmps79
  go_wp2_with (at_builtin; refine wpList_append_lies _ rfl (.tmp 5) (.tmp 6) 34 rfl w.heap.size 39 i0 (.agg #[.int .u8 0, .int .i64 0, .string ⟨#[]⟩]) 3 32 Tryz.underlying34 hi hz0 hz1 hz2 rfl (by decide) _ 0 [] rfl ?c1 ⟨b, off, none⟩ n cap (itCells l) rfl ?c2 ?c3 (itCells_one l) h0 ?c4 ?c5 ?c6 _ rfl ?c7)
  case c1 => exact World.ownsRow_lit w #[] 0 (Nat.le_refl _) (by decide) rfl
  case c2 => rw [itCells_len, HL.out]
  case c3 => exact at_cells (HA.out.below ((Below.refl _ _).alloc (Nat.le_refl _) _))
  case c4 => unfold maxLen; omega
  case c5 => omega
  case c6 => simp
  case c7 =>
    intro g cap2 w1 hown hgrow _ _
    have H1 : Hid (Below w.heap.size w w1) := ((Below.refl w.heap.size w).alloc (Nat.le_refl _) (.cells #[] 39)).grown hgrow (by simp) (fun k hk => by simp [Value.ownBlock] at hk; omega)
    have hroom : n ≤ cap2 ∧ cap2 ≤ 9223372036854775807 := (own_row hown).elim fun a h => h.elim fun c h => by obtain ⟨e, hr⟩ := h; simp only [Value.slice.injEq] at e; obtain ⟨_, _, rfl⟩ := e; exact ⟨hr.room, hr.big⟩
    have HO : Hid (w.heap.size ≤ g ∧ Doc w1 (some ⟨g, 0, none⟩) n cap2 l) := ⟨ownBlk_ge hown g rfl, HFT.out, HL.out, hroom.1, hroom.2, fun _ => ⟨g, 0, rfl, own_at hown⟩⟩
    clear hown hgrow hroom
    go_wp2
    go_ret
    exact ⟨⟨g, cap2, rfl, HO.out.1, HO.out.2⟩, H1.out⟩
theorem Dc.check_few {l : List It} (h : Dc.check l = 0) : 0 < l.length ∧ l.length ≤ 80 := by
  by_cases h1 : 80 < l.length
  · rw [Dc.check_many h1] at h; cases h
  · refine ⟨?_, by omega⟩
    cases l with
    | nil => exact absurd h (by decide)
    | cons x l => simp
def boxd (a : Option Addr) (n c : Nat) (w : World) : World := w.alloc (.cells #[.slice a n c] 34)
theorem boxd_below (a : Option Addr) (n c : Nat) (w : World) : Below w.heap.size w (boxd a n c w) := (Below.refl _ _).alloc (Nat.le_refl _) _
theorem boxd_blk (a : Option Addr) (n c : Nat) (w : World) : Blk (boxd a n c w) w.heap.size [.slice a n c] 34 := Blk.new w _ _

set_option maxRecDepth 100000 in
set_option maxHeartbeats 1600000 in
theorem fold_any (ao : Option Addr) (n cap : Nat) (d : List It) (la : Option Addr) (ln lc : Nat) (es : List EV) (w : World) (hD : Doc w ao n cap d) (hE : Ents w la ln lc es) (hS : Sch w) :
    Calls Tryz.prog 19 #[.slice ao n cap, .slice la ln lc] w fun e w' => (∃ a n' c, e = .returned (.tuple #[.slice a n' c, .int .i64 (Sv.fldE d (es.map EV.en))]) ∧ Doc w' a n' c (Sv.fldD d (es.map EV.en))) ∧ Below w.heap.size w w' := by
  have CC : Hid (Calls Tryz.prog 74 #[.slice ao n cap] w fun e w' => e = .returned (.int .i64 (Dc.check d)) ∧ Below w.heap.size w w') := check_any ao n cap d w hD hS
  have hlen : (es.map EV.en).length = ln := by rw [List.length_map]; exact hE.len
  by_cases hc : Dc.check d = 0
  · by_cases hm : 60 < ln
    · have hE1 : Sv.fldE d (es.map EV.en) = 2 := by unfold Sv.fldE; rw [if_pos hc, if_pos (by omega)]
      have hD1 : Sv.fldD d (es.map EV.en) = [] := by unfold Sv.fldD; rw [if_pos hc, if_pos (by omega)]
      rw [hE1, hD1]
      rw [hc] at CC
      clear hE1 hD1 hlen hD hE hS hc
      go_enter Tryz.func19, Tryz.ntmps19
      go_wp2_with fail
      refine CC.out.mono ?_
      rintro e w1 ⟨rfl, hb⟩
      have H1 : Hid (Below w.heap.size w w1) := hb
      clear hb
      go_wp2
      exact bodyPost_ret (v := .tuple #[.slice none 0 0, .int .i64 2]) (by simp [results, Tryz.results19, go_sem]) rfl ⟨⟨none, 0, 0, rfl, docN w1⟩, H1.out⟩
    · have hE1 : Sv.fldE d (es.map EV.en) = Sv.foldE d (es.map EV.en) := by unfold Sv.fldE; rw [if_pos hc, if_neg (by omega)]
      have hD1 : Sv.fldD d (es.map EV.en) = Sv.foldD d (es.map EV.en) := by unfold Sv.fldD; rw [if_pos hc, if_neg (by omega)]
      have hf := Dc.check_few hc
      rw [hD.len] at hf
      obtain ⟨f1, f2⟩ := hf
      rw [hE1, hD1]
      rw [hc] at CC
      have CL : Hid (∀ w', Below w.heap.size w w' → Calls Tryz.prog 79 #[.slice ao n cap] w' fun e w'' => (∃ g c, e = .returned (.slice (some ⟨g, 0, none⟩) n c) ∧ w'.heap.size ≤ g ∧ Doc w'' (some ⟨g, 0, none⟩) n c d) ∧ Below w'.heap.size w' w'') := fun w' hb => cloneD_any ao n cap d w' (hD.below hb) f1 f2
      have CE : Hid (∀ a c w', Below w.heap.size w w' → Doc w' a n c d → Calls Tryz.prog 80 #[.slice la ln lc, .func (.func 81) #[] #[.pointer (some ⟨w'.heap.size, 0, none⟩)]] (boxd a n c w') fun e w'' => e = .returned (.int .i64 (Sv.foldE d (es.map EV.en))) ∧ (∃ a' n' c', Blk w'' w'.heap.size [.slice a' n' c'] 34 ∧ Doc w'' a' n' c' (Sv.foldD d (es.map EV.en))) ∧ Below w'.heap.size (boxd a n c w') w'') := fun a c w' hb hd =>
        eachF_any w'.heap.size w'.heap.size a n c d la ln lc es _ (Nat.le_refl _) (by unfold boxd; rw [World.size_alloc]; omega) (boxd_blk a n c w') (hd.below (boxd_below a n c w')) ((hE.below hb).below (boxd_below a n c w')) ((hS.below hb).below (boxd_below a n c w'))
      clear hE1 hD1 hlen hD hE hS hc
      generalize Sv.foldE d (es.map EV.en) = E at *
      generalize Sv.foldD d (es.map EV.en) = D at *
      go_enter Tryz.func19, Tryz.ntmps19
      go_wp2_with fail
      refine CC.out.mono ?_
      rintro e w1 ⟨rfl, hb⟩
      have H1 : Hid (Below w.heap.size w w1) := hb
      clear hb
      go_wp2_with fail
      refine (CL.out _ H1.out).mono ?_
      rintro e w2 ⟨⟨g, c, rfl, -, hd⟩, hb⟩
      have H2 : Hid (Below w.heap.size w w2) := H1.out.trans (hb.mono H1.out.size)
      have CE2 := CE.out _ c w2 H2.out hd
      have H3 : Hid (Below w2.heap.size w2 (boxd (some ⟨g, 0, none⟩) n c w2)) := boxd_below _ _ _ _
      clear hb hd
      go_wp2_with fail
      change Calls Tryz.prog _ _ (boxd (some ⟨g, 0, none⟩) n c w2) _
      generalize boxd (some ⟨g, 0, none⟩) n c w2 = W at *
      refine CE2.mono ?_
      rintro e w3 ⟨rfl, ⟨a', n', c', hB, hd⟩, hb⟩
      have HD : Hid (Doc w3 a' n' c' D) := hd
      have H4 : Hid (Below w.heap.size w w3) := H2.out.trans ((H3.out.trans hb).mono H2.out.size)
      have g0 : w3.cell? ⟨w2.heap.size, 0, none⟩ = some (.slice a' n' c') := hB.cell 0
      clear hd hb hB CE2
      go_wp2
      exact bodyPost_ret (v := .tuple #[.slice a' n' c', .int .i64 E]) (by simp [results, Tryz.results19, go_sem]) rfl ⟨⟨a', n', c', rfl, HD.out⟩, H4.out⟩
  · have hE1 : Sv.fldE d (es.map EV.en) = Dc.check d := by unfold Sv.fldE; rw [if_neg hc]
    have hD1 : Sv.fldD d (es.map EV.en) = [] := by unfold Sv.fldD; rw [if_neg hc]
    rw [hE1, hD1]
    clear hE1 hD1 hlen hD hE hS
    generalize Dc.check d = r at *
    have hne : (r != 0) = true := by simp [hc]
    go_enter Tryz.func19, Tryz.ntmps19
    go_wp2_with fail
    refine CC.out.mono ?_
    rintro e w1 ⟨rfl, hb⟩
    have H1 : Hid (Below w.heap.size w w1) := hb
    clear hb
    go_wp2
    exact bodyPost_ret (v := .tuple #[.slice none 0 0, .int .i64 r]) (by simp [results, Tryz.results19, go_sem]) rfl ⟨⟨none, 0, 0, rfl, docN w1⟩, H1.out⟩

set_option maxRecDepth 100000 in
set_option maxHeartbeats 1600000 in
theorem srvE_any (s : SV) (w : World) (hV : Srv w s) (hS : Sch w) :
    Calls Tryz.prog 23 #[.agg #[.slice s.fa s.fn s.fc, .slice s.la s.ln s.lc, .slice s.na s.nn s.nc]] w fun e w' => e = .returned (.int .i64 (Sv.srvE s.se)) ∧ Below w.heap.size w w' := by
  have H1 : Hid (Below w.heap.size w (boxs s w)) := boxs_below s w
  have HB : Hid (Blk (boxs s w) w.heap.size (svC s) 42) := boxs_blk s w
  have hV1 := hV.below H1.out
  have hS1 := hS.below H1.out
  have C1 : Hid (Calls Tryz.prog 80 #[.slice s.la s.ln s.lc, .func (.func 85) #[] #[]] (boxs s w) fun e w' => e = .returned (.int .i64 (Sv.entsE (s.log.map EV.en))) ∧ Below (boxs s w).heap.size (boxs s w) w') := eachE_any s.la s.ln s.lc s.log _ hV1.log hS1
  have C2 : Hid (∀ w', Below (boxs s w).heap.size (boxs s w) w' → Calls Tryz.prog 19 #[.slice s.fa s.fn s.fc, .slice s.la s.ln s.lc] w' fun e w'' => (∃ a n' c, e = .returned (.tuple #[.slice a n' c, .int .i64 (Sv.fldE s.first (s.log.map EV.en))]) ∧ Doc w'' a n' c (Sv.fldD s.first (s.log.map EV.en))) ∧ Below w'.heap.size w' w'') := fun w' hb => fold_any _ _ _ _ _ _ _ _ _ (hV1.first.below hb) (hV1.log.below hb) (hS1.below hb)
  have C3 : Hid (∀ w' a n c, Below (boxs s w).heap.size (boxs s w) w' → Doc w' a n c (Sv.fldD s.first (s.log.map EV.en)) → Calls Tryz.prog 68 #[.slice s.na s.nn s.nc, .slice a n c] w' fun e w'' => e = .returned (.bool (Dc.same s.now (Sv.fldD s.first (s.log.map EV.en)))) ∧ Below w'.heap.size w' w'') := fun w' a n c hb hd => (same_any _ _ _ _ _ _ _ _ _ (hV1.now.below hb) hd).mono fun e w'' ⟨h, m, hm⟩ => ⟨h, by rw [hm]; exact drewN_blw _ m⟩
  have hlen : (s.log.map EV.en).length = s.ln := by rw [List.length_map]; exact hV.log.len
  have hcap := hV.log.row.room
  have hbig := hV.log.row.big
  clear hV hS hV1 hS1
  obtain ⟨r, hr⟩ : ∃ r, Sv.srvE s.se = r := ⟨_, rfl⟩
  rw [hr]
  change (if 60 < (s.log.map EV.en).length then (2 : Int) else if Sv.entsE (s.log.map EV.en) = 0 then (if Sv.fldE s.first (s.log.map EV.en) = 0 then (if Dc.same s.now (Sv.fldD s.first (s.log.map EV.en)) = true then 0 else 4) else Sv.fldE s.first (s.log.map EV.en)) else Sv.entsE (s.log.map EV.en)) = r at hr
  rw [hlen] at hr
  clear hlen
  generalize Sv.entsE (s.log.map EV.en) = x at *
  generalize Sv.fldE s.first (s.log.map EV.en) = y at *
  generalize Sv.fldD s.first (s.log.map EV.en) = D at *
  generalize Dc.same s.now D = z at *
  by_cases h1 : 60 < s.ln
  · obtain rfl : r = 2 := by rw [← hr, if_pos h1]
    clear hr
    go_enter Tryz.func23, Tryz.ntmps23
    go_upto_region 1 with fail
    change Code.wp Tryz.prog _ _ _ (boxs s w)
    have c0 : (boxs s w).cell? ⟨w.heap.size, 0, none⟩ = some (.slice s.fa s.fn s.fc) := HB.out.cell 0
    have c1 : (boxs s w).cell? ⟨w.heap.size, 1, none⟩ = some (.slice s.la s.ln s.lc) := HB.out.cell 1
    have c2 : (boxs s w).cell? ⟨w.heap.size, 2, none⟩ = some (.slice s.na s.nn s.nc) := HB.out.cell 2
    generalize boxs s w = W at *
    go_wp2
    go_ret
    exact ⟨rfl, H1.out⟩
  · by_cases h2 : x = 0
    · by_cases h3 : y = 0
      · cases z
        · obtain rfl : r = 4 := by rw [← hr, if_neg h1, if_pos h2, if_pos h3]; rfl
          clear hr
          subst h2 h3
          go_enter Tryz.func23, Tryz.ntmps23
          go_upto_region 1 with fail
          change Code.wp Tryz.prog _ _ _ (boxs s w)
          have c0 : (boxs s w).cell? ⟨w.heap.size, 0, none⟩ = some (.slice s.fa s.fn s.fc) := HB.out.cell 0
          have c1 : (boxs s w).cell? ⟨w.heap.size, 1, none⟩ = some (.slice s.la s.ln s.lc) := HB.out.cell 1
          have c2 : (boxs s w).cell? ⟨w.heap.size, 2, none⟩ = some (.slice s.na s.nn s.nc) := HB.out.cell 2
          generalize boxs s w = W at *
          go_wp2_with fail
          refine C1.out.mono ?_
          rintro e w1 ⟨rfl, hb⟩
          have H2 : Hid (Below W.heap.size W w1) := hb
          clear hb c0 c1 c2
          have c0 : w1.cell? ⟨w.heap.size, 0, none⟩ = some (.slice s.fa s.fn s.fc) := cell_below (HB.out.cell 0) H2.out
          have c1 : w1.cell? ⟨w.heap.size, 1, none⟩ = some (.slice s.la s.ln s.lc) := cell_below (HB.out.cell 1) H2.out
          go_wp2_with fail
          refine (C2.out _ H2.out).mono ?_
          rintro e w2 ⟨⟨a, n, c, rfl, hd⟩, hb⟩
          have HD : Hid (Doc w2 a n c D) := hd
          have H3 : Hid (Below W.heap.size W w2) := H2.out.trans (hb.mono H2.out.size)
          clear hb hd c0 c1
          have c2 : w2.cell? ⟨w.heap.size, 2, none⟩ = some (.slice s.na s.nn s.nc) := cell_below (HB.out.cell 2) H3.out
          go_wp2_with fail
          refine (C3.out _ a n c H3.out HD.out).mono ?_
          rintro e w3 ⟨rfl, hb⟩
          have H4 : Hid (Below W.heap.size W w3) := H3.out.trans (hb.mono H3.out.size)
          clear hb c2
          go_wp2
          go_ret
          exact ⟨rfl, H1.out.trans (H4.out.mono H1.out.size)⟩
        · obtain rfl : r = 0 := by rw [← hr, if_neg h1, if_pos h2, if_pos h3]; rfl
          clear hr
          subst h2 h3
          go_enter Tryz.func23, Tryz.ntmps23
          go_upto_region 1 with fail
          change Code.wp Tryz.prog _ _ _ (boxs s w)
          have c0 : (boxs s w).cell? ⟨w.heap.size, 0, none⟩ = some (.slice s.fa s.fn s.fc) := HB.out.cell 0
          have c1 : (boxs s w).cell? ⟨w.heap.size, 1, none⟩ = some (.slice s.la s.ln s.lc) := HB.out.cell 1
          have c2 : (boxs s w).cell? ⟨w.heap.size, 2, none⟩ = some (.slice s.na s.nn s.nc) := HB.out.cell 2
          generalize boxs s w = W at *
          go_wp2_with fail
          refine C1.out.mono ?_
          rintro e w1 ⟨rfl, hb⟩
          have H2 : Hid (Below W.heap.size W w1) := hb
          clear hb c0 c1 c2
          have c0 : w1.cell? ⟨w.heap.size, 0, none⟩ = some (.slice s.fa s.fn s.fc) := cell_below (HB.out.cell 0) H2.out
          have c1 : w1.cell? ⟨w.heap.size, 1, none⟩ = some (.slice s.la s.ln s.lc) := cell_below (HB.out.cell 1) H2.out
          go_wp2_with fail
          refine (C2.out _ H2.out).mono ?_
          rintro e w2 ⟨⟨a, n, c, rfl, hd⟩, hb⟩
          have HD : Hid (Doc w2 a n c D) := hd
          have H3 : Hid (Below W.heap.size W w2) := H2.out.trans (hb.mono H2.out.size)
          clear hb hd c0 c1
          have c2 : w2.cell? ⟨w.heap.size, 2, none⟩ = some (.slice s.na s.nn s.nc) := cell_below (HB.out.cell 2) H3.out
          go_wp2_with fail
          refine (C3.out _ a n c H3.out HD.out).mono ?_
          rintro e w3 ⟨rfl, hb⟩
          have H4 : Hid (Below W.heap.size W w3) := H3.out.trans (hb.mono H3.out.size)
          clear hb c2
          go_wp2
          go_ret
          exact ⟨rfl, H1.out.trans (H4.out.mono H1.out.size)⟩
      · obtain rfl : r = y := by rw [← hr, if_neg h1, if_pos h2, if_neg h3]
        clear hr
        subst h2
        have hne : (r == 0) = false := by simp [h3]
        go_enter Tryz.func23, Tryz.ntmps23
        go_upto_region 1 with fail
        change Code.wp Tryz.prog _ _ _ (boxs s w)
        have c0 : (boxs s w).cell? ⟨w.heap.size, 0, none⟩ = some (.slice s.fa s.fn s.fc) := HB.out.cell 0
        have c1 : (boxs s w).cell? ⟨w.heap.size, 1, none⟩ = some (.slice s.la s.ln s.lc) := HB.out.cell 1
        have c2 : (boxs s w).cell? ⟨w.heap.size, 2, none⟩ = some (.slice s.na s.nn s.nc) := HB.out.cell 2
        generalize boxs s w = W at *
        go_wp2_with fail
        refine C1.out.mono ?_
        rintro e w1 ⟨rfl, hb⟩
        have H2 : Hid (Below W.heap.size W w1) := hb
        clear hb c0 c1 c2
        have c0 : w1.cell? ⟨w.heap.size, 0, none⟩ = some (.slice s.fa s.fn s.fc) := cell_below (HB.out.cell 0) H2.out
        have c1 : w1.cell? ⟨w.heap.size, 1, none⟩ = some (.slice s.la s.ln s.lc) := cell_below (HB.out.cell 1) H2.out
        go_wp2_with fail
        refine (C2.out _ H2.out).mono ?_
        rintro e w2 ⟨⟨a, n, c, rfl, hd⟩, hb⟩
        have HD : Hid (Doc w2 a n c D) := hd
        have H3 : Hid (Below W.heap.size W w2) := H2.out.trans (hb.mono H2.out.size)
        clear hb hd c0 c1
        have c2 : w2.cell? ⟨w.heap.size, 2, none⟩ = some (.slice s.na s.nn s.nc) := cell_below (HB.out.cell 2) H3.out
        go_wp2
        go_ret
        exact ⟨rfl, H1.out.trans (H3.out.mono H1.out.size)⟩
    · obtain rfl : r = x := by rw [← hr, if_neg h1, if_neg h2]
      clear hr
      have hne : (r != 0) = true := by simp [h2]
      go_enter Tryz.func23, Tryz.ntmps23
      go_upto_region 1 with fail
      change Code.wp Tryz.prog _ _ _ (boxs s w)
      have c0 : (boxs s w).cell? ⟨w.heap.size, 0, none⟩ = some (.slice s.fa s.fn s.fc) := HB.out.cell 0
      have c1 : (boxs s w).cell? ⟨w.heap.size, 1, none⟩ = some (.slice s.la s.ln s.lc) := HB.out.cell 1
      have c2 : (boxs s w).cell? ⟨w.heap.size, 2, none⟩ = some (.slice s.na s.nn s.nc) := HB.out.cell 2
      generalize boxs s w = W at *
      go_wp2_with fail
      refine C1.out.mono ?_
      rintro e w1 ⟨rfl, hb⟩
      have H2 : Hid (Below W.heap.size W w1) := hb
      clear hb c0 c1 c2
      have c0 : w1.cell? ⟨w.heap.size, 0, none⟩ = some (.slice s.fa s.fn s.fc) := cell_below (HB.out.cell 0) H2.out
      have c1 : w1.cell? ⟨w.heap.size, 1, none⟩ = some (.slice s.la s.ln s.lc) := cell_below (HB.out.cell 1) H2.out
      go_wp2
      go_ret
      exact ⟨rfl, H1.out.trans (H2.out.mono H1.out.size)⟩
end Go.Proofs.YtbhcklkbckacpaaGreatDoor
