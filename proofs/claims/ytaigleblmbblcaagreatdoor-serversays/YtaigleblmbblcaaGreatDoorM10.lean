/-
  Texts of this proof, one behind the other.
-/
import Derived.Test.YtaigleblmbblcaaGreatDoorM9
import Derived.Test.YtaigleblmbblcaaGreatDoorM6

/-
  Package server: what the log has; servers held against each other.
-/
namespace Go.Proofs.YtaigleblmbblcaaGreatDoor
open Go.RowKit
def boxi (x : Int) (w : World) : World := w.alloc (.cells #[.int .i64 x] 3)
theorem boxi_below (x : Int) (w : World) : Below w.heap.size w (boxi x w) := (Below.refl _ _).alloc (Nat.le_refl _) _
theorem boxi_blk (x : Int) (w : World) : Blk (boxi x w) w.heap.size [.int .i64 x] 3 := Blk.new w _ _

set_option maxRecDepth 100000 in
set_option maxHeartbeats 1600000 in
theorem isE_any (v : EV) (cb qb : Nat) (c q : Int) (w : World) (hc : w.cell? ⟨cb, 0, none⟩ = some (.int .i64 c)) (hq : w.cell? ⟨qb, 0, none⟩ = some (.int .i64 q)) :
    Calls Tryz.prog 50 #[.agg #[.int .i64 v.who, .int .i64 v.seq, .slice v.ao v.n v.cap], .pointer (some ⟨cb, 0, none⟩), .pointer (some ⟨qb, 0, none⟩)] w fun e w' => e = .returned (.bool (Sv.isE c q v.en)) ∧ Below w.heap.size w w' := by
  have H1 : Hid (Below w.heap.size w (boxe v w)) := boxe_below v w
  have c0 : (boxe v w).cell? ⟨cb, 0, none⟩ = some (.int .i64 c) := cell_below hc (boxe_below v w)
  have q0 : (boxe v w).cell? ⟨qb, 0, none⟩ = some (.int .i64 q) := cell_below hq (boxe_below v w)
  have HT : Hid (Thr (boxe v w) w.heap.size 0 v) := boxe_at v w
  clear hc hq
  obtain ⟨r, hr⟩ : ∃ r, Sv.isE c q v.en = r := ⟨_, rfl⟩
  rw [hr]
  unfold Sv.isE at hr
  simp only [EV.en] at hr
  go_enter Tryz.func50, Tryz.ntmps50
  go_upto_region 1 with fail
  change Code.wp Tryz.prog _ _ _ (boxe v w)
  generalize boxe v w = W at *
  obtain ⟨a0, a1, a2⟩ := HT.out
  simp only [Nat.zero_add] at a0 a1 a2
  cases h1 : (v.who == c)
  · obtain rfl := hr.symm.trans (show _ = false by rw [h1]; rfl)
    clear hr
    go_wp2
    go_ret
    exact ⟨rfl, H1.out⟩
  · obtain rfl := hr.symm.trans (show _ = (v.seq == q) by rw [h1]; rfl)
    clear hr
    go_wp2
    go_ret
    exact ⟨rfl, H1.out⟩

set_option maxRecDepth 100000 in
set_option maxHeartbeats 1600000 in
theorem idxE_any (cb qb : Nat) (c q : Int) (ao : Option Addr) (n cap : Nat) (es : List EV) (w : World) (hE : Ents w ao n cap es) (hc : w.cell? ⟨cb, 0, none⟩ = some (.int .i64 c)) (hq : w.cell? ⟨qb, 0, none⟩ = some (.int .i64 q)) :
    Calls Tryz.prog 51 #[.slice ao n cap, .func (.func 50) #[] #[.pointer (some ⟨cb, 0, none⟩), .pointer (some ⟨qb, 0, none⟩)]] w fun e w' => (∃ i : Int, e = .returned (.int .i64 i) ∧ decide (0 ≤ i) = (es.map EV.en).any (Sv.isE c q)) ∧ Below w.heap.size w w' := by
  have HE : Hid (Ents w ao n cap es) := hE
  have HN : Hid (es.length = n) := hE.len
  have HC : Hid (w.cell? ⟨cb, 0, none⟩ = some (.int .i64 c)) := hc
  have HQ : Hid (w.cell? ⟨qb, 0, none⟩ = some (.int .i64 q)) := hq
  have hcap := hE.row.room
  have hbig := hE.row.big
  clear hE hc hq
  obtain ⟨r, hr⟩ : ∃ r, (es.map EV.en).any (Sv.isE c q) = r := ⟨_, rfl⟩
  have HR : Hid ((es.map EV.en).any (Sv.isE c q) = r) := hr
  rw [hr]
  clear hr
  go_enter Tryz.func51, Tryz.ntmps51
  go_wp2
  go_loopw [8] (fun i wr => ∃ k : Nat, k ≤ n ∧ i = .int .i64 k ∧ Below w.heap.size w wr ∧ ((es.map EV.en).drop k).any (Sv.isE c q) = r) (fun i _ => n - (intOf i).toNat)
  case atStart => exact ⟨0, Nat.zero_le _, rfl, Below.refl _ _, HR.out⟩
  case round =>
    obtain ⟨k, hk, rfl, hbr, hsm⟩ := hrel
    have HM : Hid (((es.map EV.en).drop k).any (Sv.isE c q) = r) := hsm
    have HBR : Hid (Below w.heap.size w wr) := hbr
    clear hsm hbr
    by_cases hlt : k < n
    · obtain ⟨b, off, rfl, hGt⟩ := HE.out.get (by omega)
      have h1 : k < es.length := by rw [HN.out]; exact hlt
      have HX : Hid (((es.map EV.en).drop k).any (Sv.isE c q) = (Sv.isE c q es[k].en || ((es.map EV.en).drop (k + 1)).any (Sv.isE c q))) := by
        show _ = _
        rw [List.drop_eq_getElem_cons (by rw [List.length_map]; exact h1), List.any_cons, List.getElem_map]
      obtain ⟨a0, a1, a2⟩ := (hGt k h1).below HBR.out
      clear hGt
      generalize es[k] = v at *
      go_wp2_with fail
      refine (isE_any v cb qb c q _ (cell_below HC.out HBR.out) (cell_below HQ.out HBR.out)).mono ?_
      rintro e w1 ⟨rfl, hb⟩
      have H2 : Hid (Below w.heap.size w w1) := HBR.out.trans (hb.mono HBR.out.size)
      clear hb a0 a1 a2
      cases hal : Sv.isE c q v.en
      · have HM2 : Hid (((es.map EV.en).drop (k + 1)).any (Sv.isE c q) = r) := by show _ = _; rw [← HM.out, HX.out, hal, Bool.false_or]
        clear hal
        go_wp2
        go_roundw
        case rel => exact ⟨k + 1, by omega, by go_num, H2.out, HM2.out⟩
        case measure => simp [intOf]; omega
      · obtain rfl : r = true := by rw [← HM.out, HX.out, hal]; rfl
        clear hal
        go_wp2
        go_ret
        exact ⟨⟨_, rfl, by simp⟩, H2.out⟩
    · obtain rfl : k = n := by omega
      obtain rfl : r = false := by
        rw [← HM.out, List.drop_eq_nil_of_le (by rw [List.length_map, HN.out]; exact Nat.le_refl _)]
        rfl
      go_wp2
      go_ret
      exact ⟨⟨_, rfl, by decide⟩, HBR.out⟩

set_option maxRecDepth 100000 in
set_option maxHeartbeats 1600000 in
theorem contE_any (cb qb : Nat) (c q : Int) (ao : Option Addr) (n cap : Nat) (es : List EV) (w : World) (hE : Ents w ao n cap es) (hc : w.cell? ⟨cb, 0, none⟩ = some (.int .i64 c)) (hq : w.cell? ⟨qb, 0, none⟩ = some (.int .i64 q)) :
    Calls Tryz.prog 19 #[.slice ao n cap, .func (.func 50) #[] #[.pointer (some ⟨cb, 0, none⟩), .pointer (some ⟨qb, 0, none⟩)]] w fun e w' => e = .returned (.bool ((es.map EV.en).any (Sv.isE c q))) ∧ Below w.heap.size w w' := by
  have CI := idxE_any cb qb c q ao n cap es w hE hc hq
  clear hE hc hq
  generalize (es.map EV.en).any (Sv.isE c q) = r at *
  have HI : Hid (Calls Tryz.prog 51 #[.slice ao n cap, .func (.func 50) #[] #[.pointer (some ⟨cb, 0, none⟩), .pointer (some ⟨qb, 0, none⟩)]] w fun e w' => (∃ i : Int, e = .returned (.int .i64 i) ∧ decide (0 ≤ i) = r) ∧ Below w.heap.size w w') := CI
  clear CI
  go_enter Tryz.func19, Tryz.ntmps19
  go_wp2_with fail
  refine HI.out.mono ?_
  rintro e w1 ⟨⟨i, rfl, hi⟩, hb⟩
  have H1 : Hid (Below w.heap.size w w1) := hb
  clear hb
  have HR : Hid (decide (0 ≤ i) = r) := hi
  clear hi
  go_wp2
  go_ret
  exact ⟨by rw [← HR.out]; rfl, H1.out⟩

set_option maxRecDepth 100000 in
set_option maxHeartbeats 1600000 in
theorem has_any (s : SV) (c q : Int) (w : World) (hS : Srv w s) :
    Calls Tryz.prog 18 #[.agg #[.slice s.fa s.fn s.fc, .slice s.la s.ln s.lc, .slice s.na s.nn s.nc], .int .i64 c, .int .i64 q] w fun e w' => e = .returned (.bool (Sv.has s.se c q)) ∧ Below w.heap.size w w' := by
  have H1 : Hid (Below w.heap.size w (boxi q (boxi c (boxs s w)))) := (boxs_below s w).trans (((boxi_below c _).trans ((boxi_below q _).mono (boxi_below c _).size)).mono (boxs_below s w).size)
  have CC : Hid (Calls Tryz.prog 19 #[.slice s.la s.ln s.lc, .func (.func 50) #[] #[.pointer (some ⟨w.heap.size + 1, 0, none⟩), .pointer (some ⟨w.heap.size + 1 + 1, 0, none⟩)]] (boxi q (boxi c (boxs s w))) fun e w' => e = .returned (.bool (Sv.has s.se c q)) ∧ Below (boxi q (boxi c (boxs s w))).heap.size (boxi q (boxi c (boxs s w))) w') :=
    contE_any _ _ c q s.la s.ln s.lc s.log _ (hS.log.below H1.out) (by
      have := cell_below ((boxi_blk c (boxs s w)).cell 0) (boxi_below q _)
      rw [boxs_size] at this
      exact this) (by
      have := (boxi_blk q (boxi c (boxs s w))).cell 0
      rw [show (boxi c (boxs s w)).heap.size = w.heap.size + 1 + 1 by unfold boxi; rw [World.size_alloc, boxs_size]] at this
      exact this)
  clear hS
  generalize Sv.has s.se c q = r at *
  go_enter Tryz.func18, Tryz.ntmps18
  go_wp2_with fail
  change Calls Tryz.prog 19 _ (boxi q (boxi c (boxs s w))) _
  refine CC.out.mono ?_
  rintro e w1 ⟨rfl, hb⟩
  have H2 : Hid (Below w.heap.size w w1) := H1.out.trans (hb.mono H1.out.size)
  clear hb
  go_wp2
  go_ret
  exact ⟨rfl, H2.out⟩

set_option maxRecDepth 100000 in
set_option maxHeartbeats 1600000 in
theorem sameS_any (a b : SV) (w : World) (ha : Srv w a) (hb : Srv w b) :
    Calls Tryz.prog 13 #[.agg #[.slice a.fa a.fn a.fc, .slice a.la a.ln a.lc, .slice a.na a.nn a.nc], .agg #[.slice b.fa b.fn b.fc, .slice b.la b.ln b.lc, .slice b.na b.nn b.nc]] w fun e w' => e = .returned (.bool (Sv.sameS a.se b.se)) ∧ Below w.heap.size w w' := by
  have H1 : Hid (Below w.heap.size w (boxs b (boxs a w))) := (boxs_below a w).trans ((boxs_below b _).mono (boxs_below a w).size)
  have HA : Hid (Blk (boxs b (boxs a w)) w.heap.size (svC a) 26) := (boxs_blk a w).alloc _
  have HB : Hid (Blk (boxs b (boxs a w)) (w.heap.size + 1) (svC b) 26) := by have := boxs_blk b (boxs a w); rw [boxs_size] at this; exact this
  have C0 : Hid (Calls Tryz.prog 45 #[.slice a.fa a.fn a.fc, .slice b.fa b.fn b.fc] (boxs b (boxs a w)) fun e w' => e = .returned (.bool (Dc.same a.first b.first)) ∧ Below (boxs b (boxs a w)).heap.size (boxs b (boxs a w)) w') := (same_any _ _ _ _ _ _ _ _ _ (ha.first.below H1.out) (hb.first.below H1.out)).mono fun e w' ⟨h, m, hm⟩ => ⟨h, by rw [hm]; exact drewN_blw _ m⟩
  have C1 : Hid (∀ w', Below (boxs b (boxs a w)).heap.size (boxs b (boxs a w)) w' → Calls Tryz.prog 46 #[.slice a.la a.ln a.lc, .slice b.la b.ln b.lc, .func (.func 14) #[] #[]] w' fun e w'' => e = .returned (.bool (Sv.sameL (a.log.map EV.en) (b.log.map EV.en))) ∧ Below w'.heap.size w' w'') := fun w' hw => eqFuncE_any _ _ _ _ _ _ _ _ _ ((ha.log.below H1.out).below hw) ((hb.log.below H1.out).below hw)
  have C2 : Hid (∀ w', Below (boxs b (boxs a w)).heap.size (boxs b (boxs a w)) w' → Calls Tryz.prog 45 #[.slice a.na a.nn a.nc, .slice b.na b.nn b.nc] w' fun e w'' => e = .returned (.bool (Dc.same a.now b.now)) ∧ Below w'.heap.size w' w'') := fun w' hw => (same_any _ _ _ _ _ _ _ _ _ ((ha.now.below H1.out).below hw) ((hb.now.below H1.out).below hw)).mono fun e w'' ⟨h, m, hm⟩ => ⟨h, by rw [hm]; exact drewN_blw _ m⟩
  clear ha hb
  obtain ⟨r, hr⟩ : ∃ r, Sv.sameS a.se b.se = r := ⟨_, rfl⟩
  rw [hr]
  unfold Sv.sameS at hr
  simp only [SV.se] at hr
  generalize Dc.same a.first b.first = x at *
  generalize Sv.sameL (a.log.map EV.en) (b.log.map EV.en) = y at *
  generalize Dc.same a.now b.now = z at *
  cases x
  · obtain rfl := hr.symm.trans (show _ = false from rfl)
    clear hr
    go_enter Tryz.func13, Tryz.ntmps13
    go_wp2_with fail
    change Calls Tryz.prog 45 _ (boxs b (boxs a w)) _
    refine C0.out.mono ?_
    rintro e w1 ⟨rfl, hb⟩
    have H2 : Hid (Below (boxs b (boxs a w)).heap.size (boxs b (boxs a w)) w1) := hb
    have H2w : Hid (Below w.heap.size w w1) := H1.out.trans (hb.mono H1.out.size)
    clear hb
    go_wp2
    go_ret
    exact ⟨rfl, H2w.out⟩
  · cases y
    · obtain rfl := hr.symm.trans (show _ = false from rfl)
      clear hr
      go_enter Tryz.func13, Tryz.ntmps13
      go_wp2_with fail
      change Calls Tryz.prog 45 _ (boxs b (boxs a w)) _
      refine C0.out.mono ?_
      rintro e w1 ⟨rfl, hb⟩
      have H2 : Hid (Below (boxs b (boxs a w)).heap.size (boxs b (boxs a w)) w1) := hb
      have H2w : Hid (Below w.heap.size w w1) := H1.out.trans (hb.mono H1.out.size)
      clear hb
      have e1 : w1.cell? ⟨w.heap.size, 1, none⟩ = some (.slice a.la a.ln a.lc) := cell_below (HA.out.cell 1) H2.out
      have e2 : w1.cell? ⟨w.heap.size + 1, 1, none⟩ = some (.slice b.la b.ln b.lc) := cell_below (HB.out.cell 1) H2.out
      go_wp2_with fail
      refine (C1.out _ H2.out).mono ?_
      rintro e w2 ⟨rfl, hb⟩
      have H3 : Hid (Below (boxs b (boxs a w)).heap.size (boxs b (boxs a w)) w2) := H2.out.trans (hb.mono H2.out.size)
      have H3w : Hid (Below w.heap.size w w2) := H1.out.trans (H3.out.mono H1.out.size)
      clear hb e1 e2
      go_wp2
      go_ret
      exact ⟨rfl, H3w.out⟩
    · obtain rfl := hr.symm.trans (show _ = z from rfl)
      clear hr
      go_enter Tryz.func13, Tryz.ntmps13
      go_wp2_with fail
      change Calls Tryz.prog 45 _ (boxs b (boxs a w)) _
      refine C0.out.mono ?_
      rintro e w1 ⟨rfl, hb⟩
      have H2 : Hid (Below (boxs b (boxs a w)).heap.size (boxs b (boxs a w)) w1) := hb
      have H2w : Hid (Below w.heap.size w w1) := H1.out.trans (hb.mono H1.out.size)
      clear hb
      have e1 : w1.cell? ⟨w.heap.size, 1, none⟩ = some (.slice a.la a.ln a.lc) := cell_below (HA.out.cell 1) H2.out
      have e2 : w1.cell? ⟨w.heap.size + 1, 1, none⟩ = some (.slice b.la b.ln b.lc) := cell_below (HB.out.cell 1) H2.out
      go_wp2_with fail
      refine (C1.out _ H2.out).mono ?_
      rintro e w2 ⟨rfl, hb⟩
      have H3 : Hid (Below (boxs b (boxs a w)).heap.size (boxs b (boxs a w)) w2) := H2.out.trans (hb.mono H2.out.size)
      have H3w : Hid (Below w.heap.size w w2) := H1.out.trans (H3.out.mono H1.out.size)
      clear hb e1 e2
      have e1 : w2.cell? ⟨w.heap.size, 2, none⟩ = some (.slice a.na a.nn a.nc) := cell_below (HA.out.cell 2) H3.out
      have e2 : w2.cell? ⟨w.heap.size + 1, 2, none⟩ = some (.slice b.na b.nn b.nc) := cell_below (HB.out.cell 2) H3.out
      go_wp2_with fail
      refine (C2.out _ H3.out).mono ?_
      rintro e w3 ⟨rfl, hb⟩
      have H4w : Hid (Below w.heap.size w w3) := H1.out.trans ((H3.out.trans (hb.mono H3.out.size)).mono H1.out.size)
      clear hb e1 e2
      go_wp2
      go_ret
      exact ⟨rfl, H4w.out⟩
end Go.Proofs.YtaigleblmbblcaaGreatDoor

/-
  Package server: what the operations of a log make of a document; whether it is a server.
-/
namespace Go.Proofs.YtaigleblmbblcaaGreatDoor
open Go.RowKit
theorem cell_apart {w : World} {g : Nat} {a : Option Addr} {n c : Nat} {T : TypeId} (h : Blk w g [.slice a n c] T) {b o : Nat} {u : Value} (hu : w.cell? ⟨b, o, none⟩ = some u) (hs : ∀ a n c, u ≠ .slice a n c) : b ≠ g := by
  rintro rfl
  rw [h.cell o] at hu
  cases o with
  | zero => exact hs _ _ _ (Option.some.inj hu).symm
  | succ o => cases hu
theorem docN (w : World) : Doc w none 0 0 [] := ⟨fun x hx => absurd hx (by simp), rfl, Nat.le_refl _, by decide, fun h => absurd rfl h⟩
theorem Doc.poke {w : World} {a : Option Addr} {n c : Nat} {l : List It} {g : Nat} {a0 : Option Addr} {n0 c0 : Nat} {T : TypeId} (h : Doc w a n c l) (hB : Blk w g [.slice a0 n0 c0] T) (v : Value) : Doc (w.setCell ⟨g, 0, none⟩ v) a n c l :=
  ⟨h.fit, h.len, h.room, h.big, fun hn => by
    obtain ⟨b, off, e, hA⟩ := h.lies hn
    have hne : b ≠ g := cell_apart hB (hA.c 0 (by rw [h.len]; omega)) (fun _ _ _ e => by cases e)
    have hk := Below.heap_setCell w ⟨g, 0, none⟩ v b hne
    exact ⟨b, off, e, ⟨fun i hi => (World.cell?_of_block (w := w) hk).trans (hA.c i hi), fun i hi => (World.cell?_of_block (w := w) hk).trans (hA.m i hi), fun i hi => (World.cell?_of_block (w := w) hk).trans (hA.l i hi)⟩⟩⟩
theorem Row.poke {w : World} {a : Option Addr} {n c sz : Nat} {cs : List Value} {g : Nat} {a0 : Option Addr} {n0 c0 : Nat} {T : TypeId} (h : Row w a n c sz cs) (hB : Blk w g [.slice a0 n0 c0] T) (hs : n ≠ 0 → ∃ u, cs[0]? = some u ∧ ∀ a n c, u ≠ .slice a n c) (v : Value) : Row (w.setCell ⟨g, 0, none⟩ v) a n c sz cs :=
  ⟨h.len, h.room, h.big, fun hn => by
    obtain ⟨b, off, e, hc⟩ := h.lies hn
    obtain ⟨u, hu, hne⟩ := hs hn
    have hk := Below.heap_setCell w ⟨g, 0, none⟩ v b (cell_apart hB (hc 0 u hu) hne)
    exact ⟨b, off, e, fun j u hu => (World.cell?_of_block (w := w) hk).trans (hc j u hu)⟩⟩
theorem Ops.poke {w : World} {a : Option Addr} {n c : Nat} {vs : List PV} {g : Nat} {a0 : Option Addr} {n0 c0 : Nat} {T : TypeId} (h : Ops w a n c vs) (hB : Blk w g [.slice a0 n0 c0] T) (v : Value) : Ops (w.setCell ⟨g, 0, none⟩ v) a n c vs :=
  ⟨h.row.poke hB (fun hn => by
    have hl := h.len
    match vs, hl with
    | [], hl => exact absurd hl.symm hn
    | x :: vs, _ => exact ⟨.int .i64 x.kind, rfl, fun _ _ _ e => by cases e⟩) v, fun x hx => ⟨(h.pts x hx).doc.poke hB v, (h.pts x hx).fit⟩⟩
theorem Ents.poke {w : World} {a : Option Addr} {n c : Nat} {es : List EV} {g : Nat} {a0 : Option Addr} {n0 c0 : Nat} {T : TypeId} (h : Ents w a n c es) (hB : Blk w g [.slice a0 n0 c0] T) (v : Value) : Ents (w.setCell ⟨g, 0, none⟩ v) a n c es :=
  ⟨h.row.poke hB (fun hn => by
    have hl := h.len
    match es, hl with
    | [], hl => exact absurd hl.symm hn
    | x :: es, _ => exact ⟨.int .i64 x.who, rfl, fun _ _ _ e => by cases e⟩) v, fun x hx => (h.ops x hx).poke hB v⟩
theorem Sch.poke {w : World} {g : Nat} {a0 : Option Addr} {n0 c0 : Nat} {T : TypeId} (h : Sch w) (hB : Blk w g [.slice a0 n0 c0] T) (v : Value) : Sch (w.setCell ⟨g, 0, none⟩ v) := by
  obtain ⟨t, fr, hh⟩ := h
  have hne : 0 ≠ g := by
    rintro rfl
    have e := hh.symm.trans hB
    simp only [Option.some.injEq, Obj.cells.injEq] at e
    have : scells.size = 1 := by rw [e.1]; rfl
    exact absurd this (by decide)
  exact ⟨t, fr, (Below.heap_setCell w ⟨g, 0, none⟩ v _ hne).trans hh⟩

set_option maxRecDepth 100000 in
set_option maxHeartbeats 1600000 in
theorem fold1_any (v : EV) (g : Nat) (a : Option Addr) (n c : Nat) (l : List It) (w : World) (hB : Blk w g [.slice a n c] 23) (hD : Doc w a n c l) (hO : Ops w v.ao v.n v.cap v.vs) (hS : Sch w) :
    Calls Tryz.prog 39 #[.agg #[.int .i64 v.who, .int .i64 v.seq, .slice v.ao v.n v.cap], .pointer (some ⟨g, 0, none⟩)] w fun e w' => e = .returned (.int .i64 (Ac.fitE l v.en.o)) ∧ ∃ w1 a' n' c', w' = w1.setCell ⟨g, 0, none⟩ (.slice a' n' c') ∧ Below w.heap.size w w1 ∧ Doc w1 a' n' c' (Ac.done l v.en.o) := by
  have CA : Hid (Calls Tryz.prog 36 #[.slice a n c, .slice v.ao v.n v.cap] (boxe v w) fun e w' => (∃ a c, e = .returned (.tuple #[.slice a (Ac.done l (v.vs.map PV.pt)).length c, .int .i64 (Ac.fitE l (v.vs.map PV.pt))]) ∧ Doc w' a (Ac.done l (v.vs.map PV.pt)).length c (Ac.done l (v.vs.map PV.pt))) ∧ Below (boxe v w).heap.size (boxe v w) w') := apply_any a v.ao n c v.n v.cap l v.vs _ (hD.below (boxe_below v w)) (hO.below (boxe_below v w)) (hS.below (boxe_below v w))
  have H1 : Hid (Below w.heap.size w (boxe v w)) := boxe_below v w
  have HB : Hid (Blk (boxe v w) g [.slice a n c] 23) := hB.alloc _
  have HT : Hid (Thr (boxe v w) w.heap.size 0 v) := boxe_at v w
  clear hB hD hO hS
  change Calls Tryz.prog _ _ _ fun e w' => e = .returned (.int .i64 (Ac.fitE l (v.vs.map PV.pt))) ∧ ∃ w1 a' n' c', w' = w1.setCell ⟨g, 0, none⟩ (.slice a' n' c') ∧ Below w.heap.size w w1 ∧ Doc w1 a' n' c' (Ac.done l (v.vs.map PV.pt))
  generalize Ac.fitE l (v.vs.map PV.pt) = E at *
  generalize Ac.done l (v.vs.map PV.pt) = D at *
  go_enter Tryz.func39, Tryz.ntmps39
  go_upto_region 1 with fail
  change Code.wp Tryz.prog _ _ _ (boxe v w)
  generalize boxe v w = W at *
  obtain ⟨a0, a1, a2⟩ := HT.out
  simp only [Nat.zero_add] at a0 a1 a2
  have g0 : W.cell? ⟨g, 0, none⟩ = some (.slice a n c) := HB.out.cell 0
  go_wp2_with fail
  refine CA.out.mono ?_
  rintro e w1 ⟨⟨a', c', rfl, hd⟩, hb⟩
  have HD : Hid (Doc w1 a' D.length c' D) := hd
  have H2 : Hid (Below w.heap.size w w1) := H1.out.trans (hb.mono H1.out.size)
  have HB1 : Hid (Blk w1 g [.slice a n c] 23) := (hb.block _ HB.out.lt).trans HB.out
  clear hd hb a0 a1 a2 g0
  have g0 : w1.cell? ⟨g, 0, none⟩ = some (.slice a n c) := HB1.out.cell 0
  have gf := HB1.out.frozen 0
  go_wp2
  go_ret
  exact ⟨rfl, w1, a', _, c', rfl, H2.out, HD.out⟩

theorem eachF_any (B g : Nat) (a : Option Addr) (n c : Nat) (l : List It) (la : Option Addr) (ln lc : Nat) (es : List EV) (w : World) (hg : B ≤ g) (hw : B ≤ w.heap.size) (hB : Blk w g [.slice a n c] 23) (hD : Doc w a n c l) (hE : Ents w la ln lc es) (hS : Sch w) :
    Calls Tryz.prog 38 #[.slice la ln lc, .func (.func 39) #[] #[.pointer (some ⟨g, 0, none⟩)]] w fun e w' => e = .returned (.int .i64 (Sv.foldE l (es.map EV.en))) ∧ (∃ a' n' c', Blk w' g [.slice a' n' c'] 23 ∧ Doc w' a' n' c' (Sv.foldD l (es.map EV.en))) ∧ Below B w w' := by
  refine (each_any 39 (.pointer (some ⟨g, 0, none⟩)) la ln lc es
    (fun k wr => Below B w wr ∧ Ents wr la ln lc es ∧ Sch wr ∧ ∃ a' n' c' l', Blk wr g [.slice a' n' c'] 23 ∧ Doc wr a' n' c' l' ∧ Sv.foldE l' ((es.map EV.en).drop k) = Sv.foldE l (es.map EV.en) ∧ Sv.foldD l' ((es.map EV.en).drop k) = Sv.foldD l (es.map EV.en))
    (fun E wr => Below B w wr ∧ E = Sv.foldE l (es.map EV.en) ∧ ∃ a' n' c', Blk wr g [.slice a' n' c'] 23 ∧ Doc wr a' n' c' (Sv.foldD l (es.map EV.en)))
    w (.inl rfl) ⟨hE.row.room, hE.row.big, hE.len⟩ (fun k wr h => h.2.1) (fun k wr v h => ?_) ⟨Below.refl _ _, hE, hS, a, n, c, l, hB, hD, rfl, rfl⟩ (fun k hk wr h => ?_)).mono ?_
  · obtain ⟨h1, h2, h3, a', n', c', l', h4, h5, h6, h7⟩ := h
    exact ⟨h1.trans ((boxe_below v wr).mono (Nat.le_trans hw h1.size)), h2.below (boxe_below v wr), h3.below (boxe_below v wr), a', n', c', l', h4.alloc _, h5.below (boxe_below v wr), h6, h7⟩
  · obtain ⟨h1, h2, h3, a', n', c', l', h4, h5, h6, h7⟩ := h
    refine (fold1_any es[k] g a' n' c' l' wr h4 h5 (h2.ops _ (List.getElem_mem hk)) h3).mono ?_
    rintro e w' ⟨rfl, w1, a1, n1, c1, rfl, hb, hd⟩
    have hB1 : Blk w1 g [.slice a' n' c'] 23 := (hb.block _ h4.lt).trans h4
    have hbb : Below B w (w1.setCell ⟨g, 0, none⟩ (.slice a1 n1 c1)) := (h1.trans (hb.mono (Nat.le_trans hw h1.size))).setCell hg _
    have hst : ∀ (x : List It), Sv.foldE x ((es.map EV.en).drop k) = (if Ac.fitE x es[k].en.o = 0 then Sv.foldE (Ac.done x es[k].en.o) ((es.map EV.en).drop (k + 1)) else Ac.fitE x es[k].en.o) ∧ Sv.foldD x ((es.map EV.en).drop k) = (if Ac.fitE x es[k].en.o = 0 then Sv.foldD (Ac.done x es[k].en.o) ((es.map EV.en).drop (k + 1)) else Ac.done x es[k].en.o) := fun x => by
      rw [List.drop_eq_getElem_cons (by rw [List.length_map]; exact hk), List.getElem_map]
      exact ⟨rfl, rfl⟩
    obtain ⟨s1, s2⟩ := hst l'
    refine ⟨_, rfl, fun hz => ?_, fun hz => ?_⟩
    · rw [if_pos hz] at s1 s2
      exact ⟨hbb, (h2.below hb).poke hB1 _, (h3.below hb).poke hB1 _, a1, n1, c1, _, hB1.set 0 _, hd.poke hB1 _, by rw [← s1]; exact h6, by rw [← s2]; exact h7⟩
    · rw [if_neg hz] at s1 s2
      exact ⟨hbb, by rw [← s1]; exact h6, a1, n1, c1, hB1.set 0 _, by rw [← h7, s2]; exact hd.poke hB1 _⟩
  · rintro e w' ⟨E, rfl, h0, h1⟩
    by_cases hz : E = 0
    · obtain ⟨b1, -, -, a', n', c', l', b4, b5, b6, b7⟩ := h0 hz
      have hn : (es.map EV.en).drop ln = [] := List.drop_eq_nil_of_le (by rw [List.length_map, hE.len]; exact Nat.le_refl _)
      rw [hn] at b6 b7
      exact ⟨by rw [hz, ← b6]; rfl, ⟨a', n', c', b4, by rw [← b7]; exact b5⟩, b1⟩
    · obtain ⟨b1, b2, b3⟩ := h1 hz
      exact ⟨by rw [b2], b3, b1⟩

set_option maxRecDepth 100000 in
set_option maxHeartbeats 1600000 in
theorem cloneD_any (ao : Option Addr) (n cap : Nat) (l : List It) (w : World) (hD : Doc w ao n cap l) (h0 : 0 < n) (h80 : n ≤ 80) :
    Calls Tryz.prog 37 #[.slice ao n cap] w fun e w' => (∃ g c, e = .returned (.slice (some ⟨g, 0, none⟩) n c) ∧ w.heap.size ≤ g ∧ Doc w' (some ⟨g, 0, none⟩) n c l) ∧ Below w.heap.size w w' := by
  obtain ⟨i0, hi, hz0, hz1, hz2⟩ := info_parts Tryz.infI
  obtain ⟨b, off, rfl, hA⟩ := hD.lies (by omega)
  have HA : Hid (At w b off l) := hA
  have HL : Hid (l.length = n) := hD.len
  have HFT : Hid (Fit l) := hD.fit
  have hnil : ∀ w, (binOp .eql 23 (.slice (some ⟨b, off, none⟩) n cap) (.slice none 0 0)).run Tryz.prog w = .ok (.bool false) w := fun w => Lib.run_eql_slice_nil (P := Tryz.prog) w 23 41 _ _ _ _ _ Tryz.underlying23
  clear hA hD
  go_enter Tryz.func37, Tryz.ntmps37
  go_wp2_with (at_builtin; refine wpList_append_lies _ rfl (.tmp 5) (.tmp 6) 23 rfl w.heap.size 41 i0 (.agg #[.int .u8 0, .int .i64 0, .string ⟨#[]⟩]) 3 32 Tryz.underlying23 hi hz0 hz1 hz2 rfl (by decide) _ 0 [] rfl ?c1 ⟨b, off, none⟩ n cap (itCells l) rfl ?c2 ?c3 (itCells_one l) h0 ?c4 ?c5 ?c6 _ rfl ?c7)
  case c1 => exact World.ownsRow_lit w #[] 0 (Nat.le_refl _) (by decide) rfl
  case c2 => rw [itCells_len, HL.out]
  case c3 => exact at_cells (HA.out.below ((Below.refl _ _).alloc (Nat.le_refl _) _))
  case c4 => unfold maxLen; omega
  case c5 => omega
  case c6 => simp
  case c7 =>
    intro g cap2 w1 hown hgrow _ _
    have H1 : Hid (Below w.heap.size w w1) := ((Below.refl w.heap.size w).alloc (Nat.le_refl _) (.cells #[] 41)).grown hgrow (by simp) (fun k hk => by simp [Value.ownBlock] at hk; omega)
    have hroom : n ≤ cap2 ∧ cap2 ≤ 9223372036854775807 := (own_row hown).elim fun a h => h.elim fun c h => by obtain ⟨e, hr⟩ := h; simp only [Value.slice.injEq] at e; obtain ⟨_, _, rfl⟩ := e; exact ⟨hr.room, hr.big⟩
    have HO : Hid (w.heap.size ≤ g ∧ Doc w1 (some ⟨g, 0, none⟩) n cap2 l) := ⟨ownBlk_ge hown g rfl, HFT.out, HL.out, hroom.1, hroom.2, fun _ => ⟨g, 0, rfl, own_at hown⟩⟩
    clear hown hgrow hroom
    go_wp2
    go_ret
    exact ⟨⟨g, cap2, rfl, HO.out.1, HO.out.2⟩, H1.out⟩
theorem Dc.check_few {l : List It} (h : Dc.check l = 0) : 0 < l.length ∧ l.length ≤ 80 := by
  by_cases h1 : 80 < l.length
  · rw [Dc.check_many h1] at h; cases h
  · refine ⟨?_, by omega⟩
    cases l with
    | nil => exact absurd h (by decide)
    | cons x l => simp
def boxd (a : Option Addr) (n c : Nat) (w : World) : World := w.alloc (.cells #[.slice a n c] 23)
theorem boxd_below (a : Option Addr) (n c : Nat) (w : World) : Below w.heap.size w (boxd a n c w) := (Below.refl _ _).alloc (Nat.le_refl _) _
theorem boxd_blk (a : Option Addr) (n c : Nat) (w : World) : Blk (boxd a n c w) w.heap.size [.slice a n c] 23 := Blk.new w _ _

set_option maxRecDepth 100000 in
set_option maxHeartbeats 1600000 in
theorem fold_any (ao : Option Addr) (n cap : Nat) (d : List It) (la : Option Addr) (ln lc : Nat) (es : List EV) (w : World) (hD : Doc w ao n cap d) (hE : Ents w la ln lc es) (hS : Sch w) :
    Calls Tryz.prog 7 #[.slice ao n cap, .slice la ln lc] w fun e w' => (∃ a n' c, e = .returned (.tuple #[.slice a n' c, .int .i64 (Sv.fldE d (es.map EV.en))]) ∧ Doc w' a n' c (Sv.fldD d (es.map EV.en))) ∧ Below w.heap.size w w' := by
  have CC : Hid (Calls Tryz.prog 32 #[.slice ao n cap] w fun e w' => e = .returned (.int .i64 (Dc.check d)) ∧ Below w.heap.size w w') := check_any ao n cap d w hD hS
  have hlen : (es.map EV.en).length = ln := by rw [List.length_map]; exact hE.len
  by_cases hc : Dc.check d = 0
  · by_cases hm : 60 < ln
    · have hE1 : Sv.fldE d (es.map EV.en) = 2 := by unfold Sv.fldE; rw [if_pos hc, if_pos (by omega)]
      have hD1 : Sv.fldD d (es.map EV.en) = [] := by unfold Sv.fldD; rw [if_pos hc, if_pos (by omega)]
      rw [hE1, hD1]
      rw [hc] at CC
      clear hE1 hD1 hlen hD hE hS hc
      go_enter Tryz.func7, Tryz.ntmps7
      go_wp2_with fail
      refine CC.out.mono ?_
      rintro e w1 ⟨rfl, hb⟩
      have H1 : Hid (Below w.heap.size w w1) := hb
      clear hb
      go_wp2
      exact bodyPost_ret (v := .tuple #[.slice none 0 0, .int .i64 2]) (by simp [results, Tryz.results7, go_sem]) rfl ⟨⟨none, 0, 0, rfl, docN w1⟩, H1.out⟩
    · have hE1 : Sv.fldE d (es.map EV.en) = Sv.foldE d (es.map EV.en) := by unfold Sv.fldE; rw [if_pos hc, if_neg (by omega)]
      have hD1 : Sv.fldD d (es.map EV.en) = Sv.foldD d (es.map EV.en) := by unfold Sv.fldD; rw [if_pos hc, if_neg (by omega)]
      have hf := Dc.check_few hc
      rw [hD.len] at hf
      obtain ⟨f1, f2⟩ := hf
      rw [hE1, hD1]
      rw [hc] at CC
      have CL : Hid (∀ w', Below w.heap.size w w' → Calls Tryz.prog 37 #[.slice ao n cap] w' fun e w'' => (∃ g c, e = .returned (.slice (some ⟨g, 0, none⟩) n c) ∧ w'.heap.size ≤ g ∧ Doc w'' (some ⟨g, 0, none⟩) n c d) ∧ Below w'.heap.size w' w'') := fun w' hb => cloneD_any ao n cap d w' (hD.below hb) f1 f2
      have CE : Hid (∀ a c w', Below w.heap.size w w' → Doc w' a n c d → Calls Tryz.prog 38 #[.slice la ln lc, .func (.func 39) #[] #[.pointer (some ⟨w'.heap.size, 0, none⟩)]] (boxd a n c w') fun e w'' => e = .returned (.int .i64 (Sv.foldE d (es.map EV.en))) ∧ (∃ a' n' c', Blk w'' w'.heap.size [.slice a' n' c'] 23 ∧ Doc w'' a' n' c' (Sv.foldD d (es.map EV.en))) ∧ Below w'.heap.size (boxd a n c w') w'') := fun a c w' hb hd =>
        eachF_any w'.heap.size w'.heap.size a n c d la ln lc es _ (Nat.le_refl _) (by unfold boxd; rw [World.size_alloc]; omega) (boxd_blk a n c w') (hd.below (boxd_below a n c w')) ((hE.below hb).below (boxd_below a n c w')) ((hS.below hb).below (boxd_below a n c w'))
      clear hE1 hD1 hlen hD hE hS hc
      generalize Sv.foldE d (es.map EV.en) = E at *
      generalize Sv.foldD d (es.map EV.en) = D at *
      go_enter Tryz.func7, Tryz.ntmps7
      go_wp2_with fail
      refine CC.out.mono ?_
      rintro e w1 ⟨rfl, hb⟩
      have H1 : Hid (Below w.heap.size w w1) := hb
      clear hb
      go_wp2_with fail
      refine (CL.out _ H1.out).mono ?_
      rintro e w2 ⟨⟨g, c, rfl, -, hd⟩, hb⟩
      have H2 : Hid (Below w.heap.size w w2) := H1.out.trans (hb.mono H1.out.size)
      have CE2 := CE.out _ c w2 H2.out hd
      have H3 : Hid (Below w2.heap.size w2 (boxd (some ⟨g, 0, none⟩) n c w2)) := boxd_below _ _ _ _
      clear hb hd
      go_wp2_with fail
      change Calls Tryz.prog _ _ (boxd (some ⟨g, 0, none⟩) n c w2) _
      generalize boxd (some ⟨g, 0, none⟩) n c w2 = W at *
      refine CE2.mono ?_
      rintro e w3 ⟨rfl, ⟨a', n', c', hB, hd⟩, hb⟩
      have HD : Hid (Doc w3 a' n' c' D) := hd
      have H4 : Hid (Below w.heap.size w w3) := H2.out.trans ((H3.out.trans hb).mono H2.out.size)
      have g0 : w3.cell? ⟨w2.heap.size, 0, none⟩ = some (.slice a' n' c') := hB.cell 0
      clear hd hb hB CE2
      go_wp2
      exact bodyPost_ret (v := .tuple #[.slice a' n' c', .int .i64 E]) (by simp [results, Tryz.results7, go_sem]) rfl ⟨⟨a', n', c', rfl, HD.out⟩, H4.out⟩
  · have hE1 : Sv.fldE d (es.map EV.en) = Dc.check d := by unfold Sv.fldE; rw [if_neg hc]
    have hD1 : Sv.fldD d (es.map EV.en) = [] := by unfold Sv.fldD; rw [if_neg hc]
    rw [hE1, hD1]
    clear hE1 hD1 hlen hD hE hS
    generalize Dc.check d = r at *
    have hne : (r != 0) = true := by simp [hc]
    go_enter Tryz.func7, Tryz.ntmps7
    go_wp2_with fail
    refine CC.out.mono ?_
    rintro e w1 ⟨rfl, hb⟩
    have H1 : Hid (Below w.heap.size w w1) := hb
    clear hb
    go_wp2
    exact bodyPost_ret (v := .tuple #[.slice none 0 0, .int .i64 r]) (by simp [results, Tryz.results7, go_sem]) rfl ⟨⟨none, 0, 0, rfl, docN w1⟩, H1.out⟩

set_option maxRecDepth 100000 in
set_option maxHeartbeats 1600000 in
theorem srvE_any (s : SV) (w : World) (hV : Srv w s) (hS : Sch w) :
    Calls Tryz.prog 11 #[.agg #[.slice s.fa s.fn s.fc, .slice s.la s.ln s.lc, .slice s.na s.nn s.nc]] w fun e w' => e = .returned (.int .i64 (Sv.srvE s.se)) ∧ Below w.heap.size w w' := by
  have H1 : Hid (Below w.heap.size w (boxs s w)) := boxs_below s w
  have HB : Hid (Blk (boxs s w) w.heap.size (svC s) 26) := boxs_blk s w
  have hV1 := hV.below H1.out
  have hS1 := hS.below H1.out
  have C1 : Hid (Calls Tryz.prog 38 #[.slice s.la s.ln s.lc, .func (.func 44) #[] #[]] (boxs s w) fun e w' => e = .returned (.int .i64 (Sv.entsE (s.log.map EV.en))) ∧ Below (boxs s w).heap.size (boxs s w) w') := eachE_any s.la s.ln s.lc s.log _ hV1.log hS1
  have C2 : Hid (∀ w', Below (boxs s w).heap.size (boxs s w) w' → Calls Tryz.prog 7 #[.slice s.fa s.fn s.fc, .slice s.la s.ln s.lc] w' fun e w'' => (∃ a n' c, e = .returned (.tuple #[.slice a n' c, .int .i64 (Sv.fldE s.first (s.log.map EV.en))]) ∧ Doc w'' a n' c (Sv.fldD s.first (s.log.map EV.en))) ∧ Below w'.heap.size w' w'') := fun w' hb => fold_any _ _ _ _ _ _ _ _ _ (hV1.first.below hb) (hV1.log.below hb) (hS1.below hb)
  have C3 : Hid (∀ w' a n c, Below (boxs s w).heap.size (boxs s w) w' → Doc w' a n c (Sv.fldD s.first (s.log.map EV.en)) → Calls Tryz.prog 45 #[.slice s.na s.nn s.nc, .slice a n c] w' fun e w'' => e = .returned (.bool (Dc.same s.now (Sv.fldD s.first (s.log.map EV.en)))) ∧ Below w'.heap.size w' w'') := fun w' a n c hb hd => (same_any _ _ _ _ _ _ _ _ _ (hV1.now.below hb) hd).mono fun e w'' ⟨h, m, hm⟩ => ⟨h, by rw [hm]; exact drewN_blw _ m⟩
  have hlen : (s.log.map EV.en).length = s.ln := by rw [List.length_map]; exact hV.log.len
  have hcap := hV.log.row.room
  have hbig := hV.log.row.big
  clear hV hS hV1 hS1
  obtain ⟨r, hr⟩ : ∃ r, Sv.srvE s.se = r := ⟨_, rfl⟩
  rw [hr]
  change (if 60 < (s.log.map EV.en).length then (2 : Int) else if Sv.entsE (s.log.map EV.en) = 0 then (if Sv.fldE s.first (s.log.map EV.en) = 0 then (if Dc.same s.now (Sv.fldD s.first (s.log.map EV.en)) = true then 0 else 4) else Sv.fldE s.first (s.log.map EV.en)) else Sv.entsE (s.log.map EV.en)) = r at hr
  rw [hlen] at hr
  clear hlen
  generalize Sv.entsE (s.log.map EV.en) = x at *
  generalize Sv.fldE s.first (s.log.map EV.en) = y at *
  generalize Sv.fldD s.first (s.log.map EV.en) = D at *
  generalize Dc.same s.now D = z at *
  by_cases h1 : 60 < s.ln
  · obtain rfl : r = 2 := by rw [← hr, if_pos h1]
    clear hr
    go_enter Tryz.func11, Tryz.ntmps11
    go_upto_region 1 with fail
    change Code.wp Tryz.prog _ _ _ (boxs s w)
    have c0 : (boxs s w).cell? ⟨w.heap.size, 0, none⟩ = some (.slice s.fa s.fn s.fc) := HB.out.cell 0
    have c1 : (boxs s w).cell? ⟨w.heap.size, 1, none⟩ = some (.slice s.la s.ln s.lc) := HB.out.cell 1
    have c2 : (boxs s w).cell? ⟨w.heap.size, 2, none⟩ = some (.slice s.na s.nn s.nc) := HB.out.cell 2
    generalize boxs s w = W at *
    go_wp2
    go_ret
    exact ⟨rfl, H1.out⟩
  · by_cases h2 : x = 0
    · by_cases h3 : y = 0
      · cases z
        · obtain rfl : r = 4 := by rw [← hr, if_neg h1, if_pos h2, if_pos h3]; rfl
          clear hr
          subst h2 h3
          go_enter Tryz.func11, Tryz.ntmps11
          go_upto_region 1 with fail
          change Code.wp Tryz.prog _ _ _ (boxs s w)
          have c0 : (boxs s w).cell? ⟨w.heap.size, 0, none⟩ = some (.slice s.fa s.fn s.fc) := HB.out.cell 0
          have c1 : (boxs s w).cell? ⟨w.heap.size, 1, none⟩ = some (.slice s.la s.ln s.lc) := HB.out.cell 1
          have c2 : (boxs s w).cell? ⟨w.heap.size, 2, none⟩ = some (.slice s.na s.nn s.nc) := HB.out.cell 2
          generalize boxs s w = W at *
          go_wp2_with fail
          refine C1.out.mono ?_
          rintro e w1 ⟨rfl, hb⟩
          have H2 : Hid (Below W.heap.size W w1) := hb
          clear hb c0 c1 c2
          have c0 : w1.cell? ⟨w.heap.size, 0, none⟩ = some (.slice s.fa s.fn s.fc) := cell_below (HB.out.cell 0) H2.out
          have c1 : w1.cell? ⟨w.heap.size, 1, none⟩ = some (.slice s.la s.ln s.lc) := cell_below (HB.out.cell 1) H2.out
          go_wp2_with fail
          refine (C2.out _ H2.out).mono ?_
          rintro e w2 ⟨⟨a, n, c, rfl, hd⟩, hb⟩
          have HD : Hid (Doc w2 a n c D) := hd
          have H3 : Hid (Below W.heap.size W w2) := H2.out.trans (hb.mono H2.out.size)
          clear hb hd c0 c1
          have c2 : w2.cell? ⟨w.heap.size, 2, none⟩ = some (.slice s.na s.nn s.nc) := cell_below (HB.out.cell 2) H3.out
          go_wp2_with fail
          refine (C3.out _ a n c H3.out HD.out).mono ?_
          rintro e w3 ⟨rfl, hb⟩
          have H4 : Hid (Below W.heap.size W w3) := H3.out.trans (hb.mono H3.out.size)
          clear hb c2
          go_wp2
          go_ret
          exact ⟨rfl, H1.out.trans (H4.out.mono H1.out.size)⟩
        · obtain rfl : r = 0 := by rw [← hr, if_neg h1, if_pos h2, if_pos h3]; rfl
          clear hr
          subst h2 h3
          go_enter Tryz.func11, Tryz.ntmps11
          go_upto_region 1 with fail
          change Code.wp Tryz.prog _ _ _ (boxs s w)
          have c0 : (boxs s w).cell? ⟨w.heap.size, 0, none⟩ = some (.slice s.fa s.fn s.fc) := HB.out.cell 0
          have c1 : (boxs s w).cell? ⟨w.heap.size, 1, none⟩ = some (.slice s.la s.ln s.lc) := HB.out.cell 1
          have c2 : (boxs s w).cell? ⟨w.heap.size, 2, none⟩ = some (.slice s.na s.nn s.nc) := HB.out.cell 2
          generalize boxs s w = W at *
          go_wp2_with fail
          refine C1.out.mono ?_
          rintro e w1 ⟨rfl, hb⟩
          have H2 : Hid (Below W.heap.size W w1) := hb
          clear hb c0 c1 c2
          have c0 : w1.cell? ⟨w.heap.size, 0, none⟩ = some (.slice s.fa s.fn s.fc) := cell_below (HB.out.cell 0) H2.out
          have c1 : w1.cell? ⟨w.heap.size, 1, none⟩ = some (.slice s.la s.ln s.lc) := cell_below (HB.out.cell 1) H2.out
          go_wp2_with fail
          refine (C2.out _ H2.out).mono ?_
          rintro e w2 ⟨⟨a, n, c, rfl, hd⟩, hb⟩
          have HD : Hid (Doc w2 a n c D) := hd
          have H3 : Hid (Below W.heap.size W w2) := H2.out.trans (hb.mono H2.out.size)
          clear hb hd c0 c1
          have c2 : w2.cell? ⟨w.heap.size, 2, none⟩ = some (.slice s.na s.nn s.nc) := cell_below (HB.out.cell 2) H3.out
          go_wp2_with fail
          refine (C3.out _ a n c H3.out HD.out).mono ?_
          rintro e w3 ⟨rfl, hb⟩
          have H4 : Hid (Below W.heap.size W w3) := H3.out.trans (hb.mono H3.out.size)
          clear hb c2
          go_wp2
          go_ret
          exact ⟨rfl, H1.out.trans (H4.out.mono H1.out.size)⟩
      · obtain rfl : r = y := by rw [← hr, if_neg h1, if_pos h2, if_neg h3]
        clear hr
        subst h2
        have hne : (r == 0) = false := by simp [h3]
        go_enter Tryz.func11, Tryz.ntmps11
        go_upto_region 1 with fail
        change Code.wp Tryz.prog _ _ _ (boxs s w)
        have c0 : (boxs s w).cell? ⟨w.heap.size, 0, none⟩ = some (.slice s.fa s.fn s.fc) := HB.out.cell 0
        have c1 : (boxs s w).cell? ⟨w.heap.size, 1, none⟩ = some (.slice s.la s.ln s.lc) := HB.out.cell 1
        have c2 : (boxs s w).cell? ⟨w.heap.size, 2, none⟩ = some (.slice s.na s.nn s.nc) := HB.out.cell 2
        generalize boxs s w = W at *
        go_wp2_with fail
        refine C1.out.mono ?_
        rintro e w1 ⟨rfl, hb⟩
        have H2 : Hid (Below W.heap.size W w1) := hb
        clear hb c0 c1 c2
        have c0 : w1.cell? ⟨w.heap.size, 0, none⟩ = some (.slice s.fa s.fn s.fc) := cell_below (HB.out.cell 0) H2.out
        have c1 : w1.cell? ⟨w.heap.size, 1, none⟩ = some (.slice s.la s.ln s.lc) := cell_below (HB.out.cell 1) H2.out
        go_wp2_with fail
        refine (C2.out _ H2.out).mono ?_
        rintro e w2 ⟨⟨a, n, c, rfl, hd⟩, hb⟩
        have HD : Hid (Doc w2 a n c D) := hd
        have H3 : Hid (Below W.heap.size W w2) := H2.out.trans (hb.mono H2.out.size)
        clear hb hd c0 c1
        have c2 : w2.cell? ⟨w.heap.size, 2, none⟩ = some (.slice s.na s.nn s.nc) := cell_below (HB.out.cell 2) H3.out
        go_wp2
        go_ret
        exact ⟨rfl, H1.out.trans (H3.out.mono H1.out.size)⟩
    · obtain rfl : r = x := by rw [← hr, if_neg h1, if_neg h2]
      clear hr
      have hne : (r != 0) = true := by simp [h2]
      go_enter Tryz.func11, Tryz.ntmps11
      go_upto_region 1 with fail
      change Code.wp Tryz.prog _ _ _ (boxs s w)
      have c0 : (boxs s w).cell? ⟨w.heap.size, 0, none⟩ = some (.slice s.fa s.fn s.fc) := HB.out.cell 0
      have c1 : (boxs s w).cell? ⟨w.heap.size, 1, none⟩ = some (.slice s.la s.ln s.lc) := HB.out.cell 1
      have c2 : (boxs s w).cell? ⟨w.heap.size, 2, none⟩ = some (.slice s.na s.nn s.nc) := HB.out.cell 2
      generalize boxs s w = W at *
      go_wp2_with fail
      refine C1.out.mono ?_
      rintro e w1 ⟨rfl, hb⟩
      have H2 : Hid (Below W.heap.size W w1) := hb
      clear hb c0 c1 c2
      have c0 : w1.cell? ⟨w.heap.size, 0, none⟩ = some (.slice s.fa s.fn s.fc) := cell_below (HB.out.cell 0) H2.out
      have c1 : w1.cell? ⟨w.heap.size, 1, none⟩ = some (.slice s.la s.ln s.lc) := cell_below (HB.out.cell 1) H2.out
      go_wp2
      go_ret
      exact ⟨rfl, H1.out.trans (H2.out.mono H1.out.size)⟩
end Go.Proofs.YtaigleblmbblcaaGreatDoor

/-
  The reference's check of a part is the program's.
-/
namespace Go.Proofs.YtaigleblmbblcaaGreatDoor
open Go.RowKit
namespace Ac
theorem empty_link {l : ByteArray} : l.toList.isEmpty = true ↔ l = ⟨#[]⟩ := by
  constructor
  · intro h
    refine ext_list ?_
    rw [← Lib.toList_data]
    simpa using h
  · rintro rfl
    rw [Lib.toList_data]
    rfl
theorem e1_keep (n : Int) (items : List It) (st cl : Int) (gs : Bool) (lk : ByteArray) : err1 ⟨1, n, items, st, cl, gs, lk⟩ = if marksBad st cl then 3 else if linkBad gs lk then 4 else if n < 1 ∨ 80 < n then 3 else if items.length = 0 then 0 else 4 := by
  have e0 : err0 ⟨1, n, items, st, cl, gs, lk⟩ = if marksBad st cl then 3 else if linkBad gs lk then 4 else if n < 1 ∨ 80 < n then 3 else 0 := rfl
  unfold err1
  rw [e0]
  cases marksBad st cl
  · cases linkBad gs lk
    · by_cases hn : n < 1 ∨ 80 < n
      · simp [hn]
      · have hs : same1 ⟨1, n, items, st, cl, gs, lk⟩ (usedP ⟨1, n, items, st, cl, gs, lk⟩) = true ↔ items.length = 0 := by
          rw [same1_eq]
          show _ = (⟨1, n, [], st, cl, gs, lk⟩ : Pt) ↔ _
          simp
        by_cases hi : items.length = 0
        · simp only [hn, hi, if_true, if_false, Bool.false_eq_true]
          rw [if_pos (hs.2 hi)]
        · simp only [hn, hi, if_true, if_false, Bool.false_eq_true]
          rw [if_neg (fun h => hi (hs.1 h))]
    · rfl
  · rfl
theorem e1_put (n : Int) (items : List It) (st cl : Int) (gs : Bool) (lk : ByteArray) : err1 ⟨2, n, items, st, cl, gs, lk⟩ = if items.length < 1 ∨ 80 < items.length then 2 else if Dc.errs items = 0 then (if st = 0 ∧ cl = 0 ∧ gs = false ∧ lk.toList.isEmpty = true ∧ n = 0 then 0 else 4) else Dc.errs items := by
  have e0 : err0 ⟨2, n, items, st, cl, gs, lk⟩ = if items.length < 1 ∨ 80 < items.length then 2 else Dc.errs items := rfl
  unfold err1
  rw [e0]
  by_cases hn : items.length < 1 ∨ 80 < items.length
  · rw [if_pos hn, if_pos hn]; rfl
  · rw [if_neg hn, if_neg hn]
    have hs : same1 ⟨2, n, items, st, cl, gs, lk⟩ (usedP ⟨2, n, items, st, cl, gs, lk⟩) = true ↔ st = 0 ∧ cl = 0 ∧ gs = false ∧ lk.toList.isEmpty = true ∧ n = 0 := by
      rw [same1_eq, empty_link]
      show _ = (⟨2, 0, items, 0, 0, false, ⟨#[]⟩⟩ : Pt) ↔ _
      simp only [Pt.mk.injEq, true_and]
      constructor
      · rintro ⟨a, b, c, d, e⟩; exact ⟨b, c, d, e, a⟩
      · rintro ⟨a, b, c, d, e⟩; exact ⟨e, a, b, c, d⟩
    by_cases he : Dc.errs items = 0
    · rw [if_pos he, if_pos he]
      by_cases hz : st = 0 ∧ cl = 0 ∧ gs = false ∧ lk.toList.isEmpty = true ∧ n = 0
      · rw [if_pos hz, if_pos (hs.2 hz)]
      · rw [if_neg hz, if_neg (fun h => hz (hs.1 h))]
    · rw [if_neg he, if_neg he]
theorem e1_cut (n : Int) (items : List It) (st cl : Int) (gs : Bool) (lk : ByteArray) : err1 ⟨3, n, items, st, cl, gs, lk⟩ = if n < 1 ∨ 80 < n then 3 else if st = 0 ∧ cl = 0 ∧ gs = false ∧ lk.toList.isEmpty = true ∧ items.length = 0 then 0 else 4 := by
  have e0 : err0 ⟨3, n, items, st, cl, gs, lk⟩ = if n < 1 ∨ 80 < n then 3 else 0 := rfl
  unfold err1
  rw [e0]
  by_cases hn : n < 1 ∨ 80 < n
  · rw [if_pos hn, if_pos hn]; rfl
  · rw [if_neg hn, if_neg hn, if_pos rfl]
    have hs : same1 ⟨3, n, items, st, cl, gs, lk⟩ (usedP ⟨3, n, items, st, cl, gs, lk⟩) = true ↔ st = 0 ∧ cl = 0 ∧ gs = false ∧ lk.toList.isEmpty = true ∧ items.length = 0 := by
      rw [same1_eq, empty_link, List.length_eq_zero_iff]
      show _ = (⟨3, n, [], 0, 0, false, ⟨#[]⟩⟩ : Pt) ↔ _
      simp only [Pt.mk.injEq, true_and]
      constructor
      · rintro ⟨a, b, c, d, e⟩; exact ⟨b, c, d, e, a⟩
      · rintro ⟨a, b, c, d, e⟩; exact ⟨e, a, b, c, d⟩
    by_cases hz : st = 0 ∧ cl = 0 ∧ gs = false ∧ lk.toList.isEmpty = true ∧ items.length = 0
    · rw [if_pos hz, if_pos (hs.2 hz)]
    · rw [if_neg hz, if_neg (fun h => hz (hs.1 h))]
end Ac

set_option maxRecDepth 100000 in
set_option maxHeartbeats 6400000 in
theorem Rch_cut (n : Int) (ao : Option Addr) (m cap : Nat) (items : List It) (st cl : Int) (gs : Bool) (lk : ByteArray) (w : World) (hl : items.length = m) (r : Int) (hr : Ac.err1 (PV.pt ⟨3, n, ao, m, cap, items, st, cl, gs, lk⟩) = r) : Calls Tryz.prog 89 #[.agg #[.int .i64 3, .int .i64 n, .slice ao m cap, .int .i64 st, .int .i64 cl, .bool gs, .string lk]] w fun e w' => e = .returned (.int .i64 r) ∧ Below w.heap.size w w' := by
  change Ac.err1 ⟨3, n, items, st, cl, gs, lk⟩ = r at hr
  rw [Ac.e1_cut, hl] at hr
  have H1 : Hid (Below w.heap.size w (boxp ⟨3, n, ao, m, cap, items, st, cl, gs, lk⟩ w)) := boxp_below _ w
  have HR : Hid ((if n < 1 ∨ 80 < n then 3 else if st = 0 ∧ cl = 0 ∧ gs = false ∧ lk.toList.isEmpty = true ∧ m = 0 then 0 else 4) = r) := hr
  clear hr hl
  by_cases h1 : n < 1
  · obtain rfl : r = 3 := by rw [← HR.out, if_pos (.inl h1)]
    go_enter Tryz.func89, Tryz.ntmps89
    go_wp2
    go_ret
    exact ⟨rfl, H1.out⟩
  · by_cases h2 : 80 < n
    · obtain rfl : r = 3 := by rw [← HR.out, if_pos (.inr h2)]
      go_enter Tryz.func89, Tryz.ntmps89
      go_wp2
      go_ret
      exact ⟨rfl, H1.out⟩
    · have HR2 : Hid ((if st = 0 ∧ cl = 0 ∧ gs = false ∧ lk.toList.isEmpty = true ∧ m = 0 then 0 else 4) = r) := by show _ = _; rw [← HR.out, if_neg (show ¬ (n < 1 ∨ 80 < n) by omega)]
      clear HR
      by_cases hs : st = 0
      · subst hs
        by_cases hc : cl = 0
        · subst hc
          cases gs
          · cases hk : lk.toList.isEmpty
            · obtain rfl : r = 4 := by rw [← HR2.out, if_neg (fun h => by rw [hk] at h; cases h.2.2.2.1)]
              go_enter Tryz.func89, Tryz.ntmps89
              go_wp2
              go_ret
              exact ⟨rfl, H1.out⟩
            · by_cases hm : m = 0
              · obtain rfl : r = 0 := by rw [← HR2.out, if_pos ⟨rfl, rfl, rfl, hk, hm⟩]
                subst hm
                go_enter Tryz.func89, Tryz.ntmps89
                go_wp2
                go_ret
                exact ⟨rfl, H1.out⟩
              · obtain rfl : r = 4 := by rw [← HR2.out, if_neg (fun h => hm h.2.2.2.2)]
                have hm' : ((m : Int) != 0) = true := by simp; omega
                go_enter Tryz.func89, Tryz.ntmps89
                go_wp2
                go_ret
                exact ⟨rfl, H1.out⟩
          · obtain rfl : r = 4 := by rw [← HR2.out, if_neg (fun h => by cases h.2.2.1)]
            go_enter Tryz.func89, Tryz.ntmps89
            go_wp2
            go_ret
            exact ⟨rfl, H1.out⟩
        · obtain rfl : r = 4 := by rw [← HR2.out, if_neg (fun h => hc h.2.1)]
          have hc' : (cl != 0) = true := by simp [hc]
          go_enter Tryz.func89, Tryz.ntmps89
          go_wp2
          go_ret
          exact ⟨rfl, H1.out⟩
      · obtain rfl : r = 4 := by rw [← HR2.out, if_neg (fun h => hs h.1)]
        have hs' : (st != 0) = true := by simp [hs]
        go_enter Tryz.func89, Tryz.ntmps89
        go_wp2
        go_ret
        exact ⟨rfl, H1.out⟩

set_option maxRecDepth 100000 in
set_option maxHeartbeats 6400000 in
theorem Rch_put (n : Int) (ao : Option Addr) (m cap : Nat) (items : List It) (st cl : Int) (gs : Bool) (lk : ByteArray) (w : World) (hD : Doc w ao m cap items) (r : Int) (hr : Ac.err1 (PV.pt ⟨2, n, ao, m, cap, items, st, cl, gs, lk⟩) = r) : Calls Tryz.prog 89 #[.agg #[.int .i64 2, .int .i64 n, .slice ao m cap, .int .i64 st, .int .i64 cl, .bool gs, .string lk]] w fun e w' => e = .returned (.int .i64 r) ∧ Below w.heap.size w w' := by
  change Ac.err1 ⟨2, n, items, st, cl, gs, lk⟩ = r at hr
  rw [Ac.e1_put, hD.len] at hr
  have H1 : Hid (Below w.heap.size w (boxp ⟨2, n, ao, m, cap, items, st, cl, gs, lk⟩ w)) := boxp_below _ w
  have HSV : Hid (Seven (boxp ⟨2, n, ao, m, cap, items, st, cl, gs, lk⟩ w) w.heap.size 0 ⟨2, n, ao, m, cap, items, st, cl, gs, lk⟩) := boxp_at _ w
  have CIT : Hid (Calls Tryz.prog 49 #[.slice ao m cap] (boxp ⟨2, n, ao, m, cap, items, st, cl, gs, lk⟩ w) fun e w' => e = .returned (.int .i64 (Dc.errs items)) ∧ Below (boxp ⟨2, n, ao, m, cap, items, st, cl, gs, lk⟩ w).heap.size (boxp ⟨2, n, ao, m, cap, items, st, cl, gs, lk⟩ w) w') := CheckItems_any ao _ cap items _ (hD.below H1.out)
  clear hD
  generalize Dc.errs items = ei at *
  have HR : Hid ((if m < 1 ∨ 80 < m then 2 else if ei = 0 then (if st = 0 ∧ cl = 0 ∧ gs = false ∧ lk.toList.isEmpty = true ∧ n = 0 then 0 else 4) else ei) = r) := hr
  clear hr
  by_cases h1 : m < 1
  · obtain rfl : r = 2 := by rw [← HR.out, if_pos (.inl h1)]
    obtain rfl : m = 0 := by omega
    clear CIT HSV
    go_enter Tryz.func89, Tryz.ntmps89
    go_wp2
    go_ret
    exact ⟨rfl, H1.out⟩
  · by_cases h2 : 80 < m
    · obtain rfl : r = 2 := by rw [← HR.out, if_pos (.inr h2)]
      clear CIT HSV
      go_enter Tryz.func89, Tryz.ntmps89
      go_wp2
      go_ret
      exact ⟨rfl, H1.out⟩
    · by_cases he : ei = 0
      · subst he
        have HR2 : Hid ((if st = 0 ∧ cl = 0 ∧ gs = false ∧ lk.toList.isEmpty = true ∧ n = 0 then 0 else 4) = r) := by show _ = _; rw [← HR.out, if_neg (show ¬ (m < 1 ∨ 80 < m) by omega), if_pos rfl]
        clear HR
        by_cases hs : st = 0
        · subst hs
          by_cases hc : cl = 0
          · subst hc
            cases gs
            · cases hk : lk.toList.isEmpty
              · obtain rfl : r = 4 := by rw [← HR2.out, if_neg (fun h => by rw [hk] at h; cases h.2.2.2.1)]
                go_enter Tryz.func89, Tryz.ntmps89
                go_wp2_with fail
                change Calls Tryz.prog 49 _ (boxp ⟨2, n, ao, m, cap, items, 0, 0, false, lk⟩ w) _
                generalize boxp ⟨2, n, ao, m, cap, items, 0, 0, false, lk⟩ w = W5 at *
                obtain ⟨d0, d1, d2, d3, d4, d5, d6⟩ := HSV.out
                simp only [Nat.zero_add] at d0 d1 d2 d3 d4 d5 d6
                refine CIT.out.mono ?_
                rintro e w1 ⟨rfl, hb⟩
                have H2 : Hid (Below w.heap.size w w1) := H1.out.trans (hb.mono H1.out.size)
                obtain ⟨b0, b1, b2, b3, b4, b5, b6⟩ := HSV.out.below hb
                simp only [Nat.zero_add] at b0 b1 b2 b3 b4 b5 b6
                clear hb
                go_wp2
                go_ret
                exact ⟨rfl, H2.out⟩
              · by_cases hm : n = 0
                · obtain rfl : r = 0 := by rw [← HR2.out, if_pos ⟨rfl, rfl, rfl, hk, hm⟩]
                  subst hm
                  go_enter Tryz.func89, Tryz.ntmps89
                  go_wp2_with fail
                  change Calls Tryz.prog 49 _ (boxp ⟨2, 0, ao, m, cap, items, 0, 0, false, lk⟩ w) _
                  generalize boxp ⟨2, 0, ao, m, cap, items, 0, 0, false, lk⟩ w = W5 at *
                  obtain ⟨d0, d1, d2, d3, d4, d5, d6⟩ := HSV.out
                  simp only [Nat.zero_add] at d0 d1 d2 d3 d4 d5 d6
                  refine CIT.out.mono ?_
                  rintro e w1 ⟨rfl, hb⟩
                  have H2 : Hid (Below w.heap.size w w1) := H1.out.trans (hb.mono H1.out.size)
                  obtain ⟨b0, b1, b2, b3, b4, b5, b6⟩ := HSV.out.below hb
                  simp only [Nat.zero_add] at b0 b1 b2 b3 b4 b5 b6
                  clear hb
                  go_wp2
                  go_ret
                  exact ⟨rfl, H2.out⟩
                · obtain rfl : r = 4 := by rw [← HR2.out, if_neg (fun h => hm h.2.2.2.2)]
                  have hm' : (n != 0) = true := by simp [hm]
                  go_enter Tryz.func89, Tryz.ntmps89
                  go_wp2_with fail
                  change Calls Tryz.prog 49 _ (boxp ⟨2, n, ao, m, cap, items, 0, 0, false, lk⟩ w) _
                  generalize boxp ⟨2, n, ao, m, cap, items, 0, 0, false, lk⟩ w = W5 at *
                  obtain ⟨d0, d1, d2, d3, d4, d5, d6⟩ := HSV.out
                  simp only [Nat.zero_add] at d0 d1 d2 d3 d4 d5 d6
                  refine CIT.out.mono ?_
                  rintro e w1 ⟨rfl, hb⟩
                  have H2 : Hid (Below w.heap.size w w1) := H1.out.trans (hb.mono H1.out.size)
                  obtain ⟨b0, b1, b2, b3, b4, b5, b6⟩ := HSV.out.below hb
                  simp only [Nat.zero_add] at b0 b1 b2 b3 b4 b5 b6
                  clear hb
                  go_wp2
                  go_ret
                  exact ⟨rfl, H2.out⟩
            · obtain rfl : r = 4 := by rw [← HR2.out, if_neg (fun h => by cases h.2.2.1)]
              go_enter Tryz.func89, Tryz.ntmps89
              go_wp2_with fail
              change Calls Tryz.prog 49 _ (boxp ⟨2, n, ao, m, cap, items, 0, 0, true, lk⟩ w) _
              generalize boxp ⟨2, n, ao, m, cap, items, 0, 0, true, lk⟩ w = W5 at *
              obtain ⟨d0, d1, d2, d3, d4, d5, d6⟩ := HSV.out
              simp only [Nat.zero_add] at d0 d1 d2 d3 d4 d5 d6
              refine CIT.out.mono ?_
              rintro e w1 ⟨rfl, hb⟩
              have H2 : Hid (Below w.heap.size w w1) := H1.out.trans (hb.mono H1.out.size)
              obtain ⟨b0, b1, b2, b3, b4, b5, b6⟩ := HSV.out.below hb
              simp only [Nat.zero_add] at b0 b1 b2 b3 b4 b5 b6
              clear hb
              go_wp2
              go_ret
              exact ⟨rfl, H2.out⟩
          · obtain rfl : r = 4 := by rw [← HR2.out, if_neg (fun h => hc h.2.1)]
            have hc' : (cl != 0) = true := by simp [hc]
            go_enter Tryz.func89, Tryz.ntmps89
            go_wp2_with fail
            change Calls Tryz.prog 49 _ (boxp ⟨2, n, ao, m, cap, items, 0, cl, gs, lk⟩ w) _
            generalize boxp ⟨2, n, ao, m, cap, items, 0, cl, gs, lk⟩ w = W5 at *
            obtain ⟨d0, d1, d2, d3, d4, d5, d6⟩ := HSV.out
            simp only [Nat.zero_add] at d0 d1 d2 d3 d4 d5 d6
            refine CIT.out.mono ?_
            rintro e w1 ⟨rfl, hb⟩
            have H2 : Hid (Below w.heap.size w w1) := H1.out.trans (hb.mono H1.out.size)
            obtain ⟨b0, b1, b2, b3, b4, b5, b6⟩ := HSV.out.below hb
            simp only [Nat.zero_add] at b0 b1 b2 b3 b4 b5 b6
            clear hb
            go_wp2
            go_ret
            exact ⟨rfl, H2.out⟩
        · obtain rfl : r = 4 := by rw [← HR2.out, if_neg (fun h => hs h.1)]
          have hs' : (st != 0) = true := by simp [hs]
          go_enter Tryz.func89, Tryz.ntmps89
          go_wp2_with fail
          change Calls Tryz.prog 49 _ (boxp ⟨2, n, ao, m, cap, items, st, cl, gs, lk⟩ w) _
          generalize boxp ⟨2, n, ao, m, cap, items, st, cl, gs, lk⟩ w = W5 at *
          obtain ⟨d0, d1, d2, d3, d4, d5, d6⟩ := HSV.out
          simp only [Nat.zero_add] at d0 d1 d2 d3 d4 d5 d6
          refine CIT.out.mono ?_
          rintro e w1 ⟨rfl, hb⟩
          have H2 : Hid (Below w.heap.size w w1) := H1.out.trans (hb.mono H1.out.size)
          obtain ⟨b0, b1, b2, b3, b4, b5, b6⟩ := HSV.out.below hb
          simp only [Nat.zero_add] at b0 b1 b2 b3 b4 b5 b6
          clear hb
          go_wp2
          go_ret
          exact ⟨rfl, H2.out⟩
      · obtain rfl : r = ei := by rw [← HR.out, if_neg (by omega), if_neg he]
        have he' : (r != 0) = true := by simp [he]
        clear HR
        go_enter Tryz.func89, Tryz.ntmps89
        go_wp2_with fail
        change Calls Tryz.prog 49 _ (boxp ⟨2, n, ao, m, cap, items, st, cl, gs, lk⟩ w) _
        generalize boxp ⟨2, n, ao, m, cap, items, st, cl, gs, lk⟩ w = W5 at *
        obtain ⟨d0, d1, d2, d3, d4, d5, d6⟩ := HSV.out
        simp only [Nat.zero_add] at d0 d1 d2 d3 d4 d5 d6
        refine CIT.out.mono ?_
        rintro e w1 ⟨rfl, hb⟩
        have H2 : Hid (Below w.heap.size w w1) := H1.out.trans (hb.mono H1.out.size)
        obtain ⟨b0, b1, b2, b3, b4, b5, b6⟩ := HSV.out.below hb
        simp only [Nat.zero_add] at b0 b1 b2 b3 b4 b5 b6
        clear hb
        go_wp2
        go_ret
        exact ⟨rfl, H2.out⟩
end Go.Proofs.YtaigleblmbblcaaGreatDoor

/-
  The reference's check of a part that keeps, and of any operation, is the program's.
-/
namespace Go.Proofs.YtaigleblmbblcaaGreatDoor
open Go.RowKit

set_option maxRecDepth 100000 in
set_option maxHeartbeats 6400000 in
theorem Rch_keep (n : Int) (ao : Option Addr) (m cap : Nat) (items : List It) (st cl : Int) (gs : Bool) (lk : ByteArray) (w : World) (hl : items.length = m) (hf : lk.size ≤ 9223372036854775807) (r : Int) (hr : Ac.err1 (PV.pt ⟨1, n, ao, m, cap, items, st, cl, gs, lk⟩) = r) : Calls Tryz.prog 89 #[.agg #[.int .i64 1, .int .i64 n, .slice ao m cap, .int .i64 st, .int .i64 cl, .bool gs, .string lk]] w fun e w' => e = .returned (.int .i64 r) ∧ Below w.heap.size w w' := by
  change Ac.err1 ⟨1, n, items, st, cl, gs, lk⟩ = r at hr
  rw [Ac.e1_keep, hl] at hr
  have H1 : Hid (Below w.heap.size w (boxp ⟨1, n, ao, m, cap, items, st, cl, gs, lk⟩ w)) := boxp_below _ w
  have HSV : Hid (Seven (boxp ⟨1, n, ao, m, cap, items, st, cl, gs, lk⟩ w) w.heap.size 0 ⟨1, n, ao, m, cap, items, st, cl, gs, lk⟩) := boxp_at _ w
  have CMB : Hid (Calls Tryz.prog 99 #[.string lk] (boxp ⟨1, n, ao, m, cap, items, st, cl, gs, lk⟩ w) fun e w' => e = .returned (.bool (Lk.may lk.data.toList)) ∧ Below (boxp ⟨1, n, ao, m, cap, items, st, cl, gs, lk⟩ w).heap.size (boxp ⟨1, n, ao, m, cap, items, st, cl, gs, lk⟩ w) w') := MayBe_any lk _ hf
  have HR : Hid ((if Ac.marksBad st cl then 3 else if Ac.linkBad gs lk then 4 else if n < 1 ∨ 80 < n then 3 else if m = 0 then 0 else 4) = r) := hr
  clear hr hl hf
  by_cases h1 : st < 0
  · obtain rfl : r = 3 := by rw [← HR.out]; have : Ac.areM st = false := by unfold Ac.areM; simp; omega
                             unfold Ac.marksBad; rw [this]; rfl
    clear CMB HSV
    go_enter Tryz.func89, Tryz.ntmps89
    go_wp2
    go_ret
    exact ⟨rfl, H1.out⟩
  · by_cases h2 : 3 < st
    · obtain rfl : r = 3 := by rw [← HR.out]; have : Ac.areM st = false := by unfold Ac.areM; simp; omega
                               unfold Ac.marksBad; rw [this]; rfl
      clear CMB HSV
      go_enter Tryz.func89, Tryz.ntmps89
      go_wp2
      go_ret
      exact ⟨rfl, H1.out⟩
    · have a1 : Ac.areM st = true := by unfold Ac.areM; simp; omega
      by_cases h3 : cl < 0
      · obtain rfl : r = 3 := by rw [← HR.out]; have : Ac.areM cl = false := by unfold Ac.areM; simp; omega
                                 unfold Ac.marksBad; rw [a1, this]; rfl
        clear CMB HSV
        go_enter Tryz.func89, Tryz.ntmps89
        go_wp2
        go_ret
        exact ⟨rfl, H1.out⟩
      · by_cases h4 : 3 < cl
        · obtain rfl : r = 3 := by rw [← HR.out]; have : Ac.areM cl = false := by unfold Ac.areM; simp; omega
                                   unfold Ac.marksBad; rw [a1, this]; rfl
          clear CMB HSV
          go_enter Tryz.func89, Tryz.ntmps89
          go_wp2
          go_ret
          exact ⟨rfl, H1.out⟩
        · have a2 : Ac.areM cl = true := by unfold Ac.areM; simp; omega
          have hbits := bits_and a1 a2
          obtain ⟨ab, hab⟩ : ∃ ab, st.toNat &&& cl.toNat = ab := ⟨_, rfl⟩
          have hmb : Ac.marksBad st cl = (ab != 0) := by unfold Ac.marksBad; rw [a1, a2, hab]; rfl
          rw [hab] at hbits
          clear hab a1 a2
          by_cases h0 : ab = 0
          · subst h0
            have HR2 : Hid ((if Ac.linkBad gs lk then 4 else if n < 1 ∨ 80 < n then 3 else if m = 0 then 0 else 4) = r) := by show _ = _; rw [← HR.out, hmb]; rfl
            clear hmb HR
            cases hk : lk.toList.isEmpty
            · cases gs
              · obtain rfl : r = 4 := by rw [← HR2.out]; unfold Ac.linkBad; rw [hk]; rfl
                clear CMB HSV
                go_enter Tryz.func89, Tryz.ntmps89
                go_wp2
                go_ret
                exact ⟨rfl, H1.out⟩
              · cases h7 : Lk.may lk.data.toList
                · obtain rfl : r = 4 := by rw [← HR2.out]; unfold Ac.linkBad; rw [hk, h7]; rfl
                  rw [h7] at CMB
                  go_enter Tryz.func89, Tryz.ntmps89
                  go_wp2_with fail
                  change Calls Tryz.prog 99 _ (boxp ⟨1, n, ao, m, cap, items, st, cl, true, lk⟩ w) _
                  generalize boxp ⟨1, n, ao, m, cap, items, st, cl, true, lk⟩ w = W5 at *
                  refine CMB.out.mono ?_
                  rintro e w1 ⟨rfl, hb⟩
                  have H2 : Hid (Below w.heap.size w w1) := H1.out.trans (hb.mono H1.out.size)
                  obtain ⟨b0, b1, b2, b3, b4, b5, b6⟩ := HSV.out.below hb
                  simp only [Nat.zero_add] at b0 b1 b2 b3 b4 b5 b6
                  clear hb
                  go_wp2
                  go_ret
                  exact ⟨rfl, H2.out⟩
                · have HR3 : Hid ((if n < 1 ∨ 80 < n then 3 else if m = 0 then 0 else 4) = r) := by show _ = _; rw [← HR2.out]; unfold Ac.linkBad; rw [hk, h7]; rfl
                  rw [h7] at CMB
                  clear HR2
                  by_cases h5 : n < 1
                  · obtain rfl : r = 3 := by rw [← HR3.out, if_pos (.inl h5)]
                    go_enter Tryz.func89, Tryz.ntmps89
                    go_wp2_with fail
                    change Calls Tryz.prog 99 _ (boxp ⟨1, n, ao, m, cap, items, st, cl, true, lk⟩ w) _
                    generalize boxp ⟨1, n, ao, m, cap, items, st, cl, true, lk⟩ w = W5 at *
                    refine CMB.out.mono ?_
                    rintro e w1 ⟨rfl, hb⟩
                    have H2 : Hid (Below w.heap.size w w1) := H1.out.trans (hb.mono H1.out.size)
                    obtain ⟨b0, b1, b2, b3, b4, b5, b6⟩ := HSV.out.below hb
                    simp only [Nat.zero_add] at b0 b1 b2 b3 b4 b5 b6
                    clear hb
                    go_wp2
                    go_ret
                    exact ⟨rfl, H2.out⟩
                  · by_cases h6 : 80 < n
                    · obtain rfl : r = 3 := by rw [← HR3.out, if_pos (.inr h6)]
                      go_enter Tryz.func89, Tryz.ntmps89
                      go_wp2_with fail
                      change Calls Tryz.prog 99 _ (boxp ⟨1, n, ao, m, cap, items, st, cl, true, lk⟩ w) _
                      generalize boxp ⟨1, n, ao, m, cap, items, st, cl, true, lk⟩ w = W5 at *
                      refine CMB.out.mono ?_
                      rintro e w1 ⟨rfl, hb⟩
                      have H2 : Hid (Below w.heap.size w w1) := H1.out.trans (hb.mono H1.out.size)
                      obtain ⟨b0, b1, b2, b3, b4, b5, b6⟩ := HSV.out.below hb
                      simp only [Nat.zero_add] at b0 b1 b2 b3 b4 b5 b6
                      clear hb
                      go_wp2
                      go_ret
                      exact ⟨rfl, H2.out⟩
                    · by_cases hm : m = 0
                      · obtain rfl : r = 0 := by rw [← HR3.out, if_neg (show ¬ (n < 1 ∨ 80 < n) by omega), if_pos hm]
                        subst hm
                        go_enter Tryz.func89, Tryz.ntmps89
                        go_wp2_with fail
                        change Calls Tryz.prog 99 _ (boxp ⟨1, n, ao, 0, cap, items, st, cl, true, lk⟩ w) _
                        generalize boxp ⟨1, n, ao, 0, cap, items, st, cl, true, lk⟩ w = W5 at *
                        refine CMB.out.mono ?_
                        rintro e w1 ⟨rfl, hb⟩
                        have H2 : Hid (Below w.heap.size w w1) := H1.out.trans (hb.mono H1.out.size)
                        obtain ⟨b0, b1, b2, b3, b4, b5, b6⟩ := HSV.out.below hb
                        simp only [Nat.zero_add] at b0 b1 b2 b3 b4 b5 b6
                        clear hb
                        go_wp2
                        go_ret
                        exact ⟨rfl, H2.out⟩
                      · obtain rfl : r = 4 := by rw [← HR3.out, if_neg (show ¬ (n < 1 ∨ 80 < n) by omega), if_neg hm]
                        have hm' : ((m : Int) != 0) = true := by simp; omega
                        go_enter Tryz.func89, Tryz.ntmps89
                        go_wp2_with fail
                        change Calls Tryz.prog 99 _ (boxp ⟨1, n, ao, m, cap, items, st, cl, true, lk⟩ w) _
                        generalize boxp ⟨1, n, ao, m, cap, items, st, cl, true, lk⟩ w = W5 at *
                        refine CMB.out.mono ?_
                        rintro e w1 ⟨rfl, hb⟩
                        have H2 : Hid (Below w.heap.size w w1) := H1.out.trans (hb.mono H1.out.size)
                        obtain ⟨b0, b1, b2, b3, b4, b5, b6⟩ := HSV.out.below hb
                        simp only [Nat.zero_add] at b0 b1 b2 b3 b4 b5 b6
                        clear hb
                        go_wp2
                        go_ret
                        exact ⟨rfl, H2.out⟩
            · have HR3 : Hid ((if n < 1 ∨ 80 < n then 3 else if m = 0 then 0 else 4) = r) := by show _ = _; rw [← HR2.out]; unfold Ac.linkBad; rw [hk]; rfl
              clear HR2
              by_cases h5 : n < 1
              · obtain rfl : r = 3 := by rw [← HR3.out, if_pos (.inl h5)]
                clear CMB HSV
                go_enter Tryz.func89, Tryz.ntmps89
                go_wp2
                go_ret
                exact ⟨rfl, H1.out⟩
              · by_cases h6 : 80 < n
                · obtain rfl : r = 3 := by rw [← HR3.out, if_pos (.inr h6)]
                  clear CMB HSV
                  go_enter Tryz.func89, Tryz.ntmps89
                  go_wp2
                  go_ret
                  exact ⟨rfl, H1.out⟩
                · by_cases hm : m = 0
                  · obtain rfl : r = 0 := by rw [← HR3.out, if_neg (show ¬ (n < 1 ∨ 80 < n) by omega), if_pos hm]
                    subst hm
                    clear CMB HSV
                    go_enter Tryz.func89, Tryz.ntmps89
                    go_wp2
                    go_ret
                    exact ⟨rfl, H1.out⟩
                  · obtain rfl : r = 4 := by rw [← HR3.out, if_neg (show ¬ (n < 1 ∨ 80 < n) by omega), if_neg hm]
                    have hm' : ((m : Int) != 0) = true := by simp; omega
                    clear CMB HSV
                    go_enter Tryz.func89, Tryz.ntmps89
                    go_wp2
                    go_ret
                    exact ⟨rfl, H1.out⟩
          · have h0' : decide ((0 : Int) < (ab : Int)) = true := by simp; omega
            obtain rfl : r = 3 := by rw [← HR.out, hmb]; have : (ab != 0) = true := by simp [h0]
                                     rw [this]; rfl
            have h0'' : (0 : Int) < (ab : Int) := by omega
            clear hmb
            clear CMB HSV
            go_enter Tryz.func89, Tryz.ntmps89
            go_wp2
            go_ret
            exact ⟨rfl, H1.out⟩

set_option maxRecDepth 100000 in
set_option maxHeartbeats 1600000 in
theorem Rch_any (v : PV) (w : World) (hP : Pvt w v) : Calls Tryz.prog 89 #[.agg #[.int .i64 v.kind, .int .i64 v.n, .slice v.ao v.m v.cap, .int .i64 v.set, .int .i64 v.clr, .bool v.goes, .string v.link]] w fun e w' => e = .returned (.int .i64 (Ac.err1 v.pt)) ∧ Below w.heap.size w w' := by
  obtain ⟨kind, n, ao, m, cap, items, st, cl, gs, lk⟩ := v
  by_cases h1 : kind = 1
  · subst h1
    exact Rch_keep n ao m cap items st cl gs lk w hP.doc.len hP.fit _ rfl
  · by_cases h2 : kind = 2
    · subst h2
      exact Rch_put n ao m cap items st cl gs lk w hP.doc _ rfl
    · by_cases h3 : kind = 3
      · subst h3
        exact Rch_cut n ao m cap items st cl gs lk w hP.doc.len _ rfl
      · have e4 : Ac.err1 (PV.pt ⟨kind, n, ao, m, cap, items, st, cl, gs, lk⟩) = 4 := by
          have : Ac.err0 (PV.pt ⟨kind, n, ao, m, cap, items, st, cl, gs, lk⟩) = 4 := by show (if kind = 1 then _ else if kind = 2 then _ else if kind = 3 then _ else (4 : Int)) = 4; rw [if_neg h1, if_neg h2, if_neg h3]
          unfold Ac.err1
          rw [this]
          rfl
        rw [e4]
        have H1 : Hid (Below w.heap.size w (boxp ⟨kind, n, ao, m, cap, items, st, cl, gs, lk⟩ w)) := boxp_below _ w
        have k1 : (kind == 1) = false := by simp [h1]
        have k2 : (kind == 2) = false := by simp [h2]
        have k3 : (kind == 3) = false := by simp [h3]
        clear e4 hP h1 h2 h3
        go_enter Tryz.func89, Tryz.ntmps89
        go_wp2
        go_ret
        exact ⟨rfl, H1.out⟩

set_option maxRecDepth 100000 in
set_option maxHeartbeats 3200000 in
theorem CheckOp_any (ao : Option Addr) (n cap : Nat) (vs : List PV) (w : World) (hO : Ops w ao n cap vs) :
    Calls Tryz.prog 62 #[.slice ao n cap] w fun e w' => e = .returned (.int .i64 (Ac.chk (vs.map PV.pt))) ∧ Below w.heap.size w w' := by
  have HO : Hid (Ops w ao n cap vs) := hO
  have hlen : (vs.map PV.pt).length = n := by rw [List.length_map]; exact hO.len
  have HN : Hid ((vs.map PV.pt).length = n) := hlen
  have hcap := hO.row.room
  have hbig := hO.row.big
  have CP : Hid (∀ v ∈ vs, ∀ w', Below w.heap.size w w' → Calls Tryz.prog 89 #[.agg #[.int .i64 v.kind, .int .i64 v.n, .slice v.ao v.m v.cap, .int .i64 v.set, .int .i64 v.clr, .bool v.goes, .string v.link]] w' fun e w'' => e = .returned (.int .i64 (Ac.err1 v.pt)) ∧ Below w'.heap.size w' w'') := fun v hv w' hw => Rch_any v w' ((hO.pts v hv).below hw)
  clear hO hlen
  obtain ⟨r, hr⟩ : ∃ r, Ac.chk (vs.map PV.pt) = r := ⟨_, rfl⟩
  have HR : Hid (Ac.chk (vs.map PV.pt) = r) := hr
  rw [hr]
  clear hr
  by_cases h1 : n < 1
  · obtain rfl : r = 2 := HR.out.symm.trans (Ac.chk_many (by rw [HN.out]; exact .inl h1))
    obtain rfl : n = 0 := by omega
    clear HR CP
    go_enter Tryz.func62, Tryz.ntmps62
    go_wp2
    go_ret
    exact ⟨rfl, Below.refl _ _⟩
  · by_cases h2 : 40 < n
    · obtain rfl : r = 2 := HR.out.symm.trans (Ac.chk_many (by rw [HN.out]; exact .inr h2))
      clear HR CP
      go_enter Tryz.func62, Tryz.ntmps62
      go_wp2
      go_ret
      exact ⟨rfl, Below.refl _ _⟩
    · have HM : Hid (¬ ((vs.map PV.pt).length < 1 ∨ 40 < (vs.map PV.pt).length)) := by show ¬ _; rw [HN.out]; omega
      obtain ⟨b, off, rfl, hG⟩ := HO.out.get (by omega)
      have HG : Hid (∀ i (hi : i < vs.length), Seven w b (off + i * 7) vs[i]) := hG
      clear hG
      go_enter Tryz.func62, Tryz.ntmps62
      go_wp2
      go_loopw [3, 17] (fun s i wr => ∃ k : Nat, ∃ z : Int, k ≤ n ∧ i = .int .i64 k ∧ s = .int .i64 z ∧ 0 ≤ z ∧ z ≤ 80 ∧ Below w.heap.size w wr ∧ Ac.chks 0 (vs.map PV.pt) = Ac.chks z ((vs.map PV.pt).drop k)) (fun _ i _ => n - (intOf i).toNat)
      case atStart => exact ⟨0, 0, Nat.zero_le _, rfl, rfl, by decide, by decide, Below.refl _ _, rfl⟩
      case round =>
        obtain ⟨k, z, hk, rfl, rfl, hz0, hz1, hbr, hch⟩ := hrel
        have HE : Hid (Ac.chks 0 (vs.map PV.pt) = Ac.chks z ((vs.map PV.pt).drop k)) := hch
        have HBR : Hid (Below w.heap.size w wr) := hbr
        clear hch hbr
        by_cases hlt : k < n
        · have hkl : k < (vs.map PV.pt).length := by rw [HN.out]; exact hlt
          have hkv : k < vs.length := by rw [List.length_map] at hkl; exact hkl
          have HX : Hid (Ac.chks z ((vs.map PV.pt).drop k) = if Ac.err1 vs[k].pt = 0 then (if 80 < z + vs[k].n then 2 else Ac.chks (z + vs[k].n) ((vs.map PV.pt).drop (k + 1))) else Ac.err1 vs[k].pt) := by
            have := Ac.chks_step z _ k hkl
            rw [List.getElem_map] at this
            exact this
          obtain ⟨c0, c1, c2, c3, c4, c5, c6⟩ := (HG.out k hkv).below HBR.out
          have CP1 : Hid (∀ w', Below w.heap.size w w' → Calls Tryz.prog 89 #[.agg #[.int .i64 vs[k].kind, .int .i64 vs[k].n, .slice vs[k].ao vs[k].m vs[k].cap, .int .i64 vs[k].set, .int .i64 vs[k].clr, .bool vs[k].goes, .string vs[k].link]] w' fun e w'' => e = .returned (.int .i64 (Ac.err1 vs[k].pt)) ∧ Below w'.heap.size w' w'') := CP.out vs[k] (List.getElem_mem hkv)
          have HB1 : Hid (Below w.heap.size w (boxp vs[k] wr)) := HBR.out.trans ((boxp_below _ wr).mono HBR.out.size)
          have HSV : Hid (Seven (boxp vs[k] wr) wr.heap.size 0 vs[k]) := boxp_at _ wr
          clear hkl
          generalize vs[k] = v at *
          clear hkv
          go_wp2_with fail
          change Calls Tryz.prog 89 _ (boxp v wr) _
          refine (CP1.out _ HB1.out).mono ?_
          rintro e w1 ⟨rfl, hb⟩
          have H2 : Hid (Below w.heap.size w w1) := HB1.out.trans (hb.mono HB1.out.size)
          have d1 : w1.cell? ⟨wr.heap.size, 1, none⟩ = some (.int .i64 v.n) := (HSV.out.below hb).c1
          clear hb c0 c1 c2 c3 c4 c5 c6
          by_cases h0 : Ac.err1 v.pt = 0
          · have hvn : 0 ≤ v.n ∧ v.n ≤ 80 := Ac.err1_n h0
            have HX2 : Hid (Ac.chks z ((vs.map PV.pt).drop k) = if 80 < z + v.n then 2 else Ac.chks (z + v.n) ((vs.map PV.pt).drop (k + 1))) := by show _ = _; rw [HX.out, if_pos h0]
            rw [h0]
            clear h0 HX
            obtain ⟨vn0, vn1⟩ := hvn
            generalize v.n = q at *
            by_cases h80 : 80 < z + q
            · obtain rfl : r = 2 := by
                rw [← HR.out, Ac.chk_bad HM.out (by rw [HE.out, HX2.out, if_pos h80]; decide), HE.out, HX2.out, if_pos h80]
              go_wp2
              go_ret
              exact ⟨rfl, H2.out⟩
            · have HX3 : Hid (Ac.chks 0 (vs.map PV.pt) = Ac.chks (z + q) ((vs.map PV.pt).drop (k + 1))) := by show _ = _; rw [HE.out, HX2.out, if_neg h80]
              go_wp2
              go_roundw
              case rel => exact ⟨k + 1, z + q, by omega, by go_num, by go_num, by omega, by omega, H2.out, HX3.out⟩
              case measure => simp [intOf]; omega
          · have hrr : Ac.err1 v.pt = r := by
              rw [← HR.out, Ac.chk_bad HM.out (by rw [HE.out, HX.out, if_neg h0]; exact h0), HE.out, HX.out, if_neg h0]
            rw [hrr] at h0 ⊢
            clear HR HX hrr
            go_wp2
            go_ret
            exact ⟨rfl, H2.out⟩
        · have hkn : k = n := by omega
          have hc0 : Ac.chks 0 (vs.map PV.pt) = 0 := by rw [HE.out, List.drop_eq_nil_of_le (by rw [HN.out]; omega)]; rfl
          obtain ⟨j, rfl⟩ : ∃ j, n = j + 1 := ⟨n - 1, by omega⟩
          have hjl : j < (vs.map PV.pt).length := by rw [HN.out]; omega
          have hjv : j < vs.length := by rw [List.length_map] at hjl; exact hjl
          have hrl := HR.out.symm.trans (Ac.chk_last HM.out hc0 hjl HN.out)
          rw [List.getElem_map] at hrl
          have cj := ((HG.out j hjv).below HBR.out).c0
          change r = if vs[j].kind = 1 then 0 else 4 at hrl
          generalize vs[j].kind = kd at *
          subst hkn
          clear hjl hjv hc0 HR HE
          by_cases hk1 : kd = 1
          · obtain rfl : r = 0 := by rw [hrl, if_pos hk1]
            subst hk1
            clear hrl
            go_wp2
            go_ret
            exact ⟨rfl, HBR.out⟩
          · obtain rfl : r = 4 := by rw [hrl, if_neg hk1]
            have hk1' : (kd != 1) = true := by simp [hk1]
            clear hrl
            go_wp2
            go_ret
            exact ⟨rfl, HBR.out⟩
end Go.Proofs.YtaigleblmbblcaaGreatDoor
