/-
  Texts of this proof, one behind the other.
-/
import Derived.Test.YtbhcklkbckacpaaGreatDoorTt
import Derived.Test.YtbhcklkbckacpaaGreatDoorG6
import Derived.Maps.OwnSet
import Derived.Maps.OwnOps
import Derived.Test.YtbhcklkbckacpaaGreatDoorG5
import Derived.Deep.CutBlock

/-
  The reference's Read: its maps.
-/
namespace Go.Proofs.YtbhcklkbckacpaaGreatDoor
open Go.RowKit Go.Maps Go.WideMaps
theorem lawS : Keyed Tryz.prog 9 := string_keyed Tryz.underlying9
theorem lawI : Keyed Tryz.prog 3 := int_keyed Tryz.underlying3
theorem zeroI (w : World) : (zeroValue 3).run Tryz.prog w = .ok (.int .i64 0) w := by kernel_rfl
def i64d (n : Int) : DataW Unit := .lit (.int .i64 n)
def D5 : DataW Unit := (((((DataW.map []).put (.string [112]) (i64d 0)).put (.string [100, 105, 118]) (i64d 0)).put (.string [104, 49]) (i64d 1)).put (.string [108, 105]) (i64d 2)).put (.string [104, 50]) (i64d 3)
def D2 : DataW Unit := ((DataW.map []).put (.int .i64 2) (i64d 1)).put (.int .i64 3) (i64d (-1))
theorem key_s (s : ByteArray) (h : s.size ≤ maxLen) : keyOf Tryz.prog 9 (.string s) = some (.string s.data.toList) := WideMaps.keyOf_string_mk Tryz.underlying9 h
theorem d5_has (n : List UInt8) : Maps.has D5 (.string n) = (Sn.blockOf n).isSome := by
  unfold D5 Sn.blockOf
  by_cases h1 : n = [112]
  · subst h1; decide
  by_cases h2 : n = [100, 105, 118]
  · subst h2; decide
  by_cases h3 : n = [104, 49]
  · subst h3; decide
  by_cases h4 : n = [108, 105]
  · subst h4; decide
  by_cases h5 : n = [104, 50]
  · subst h5; decide
  rw [has_put_other (by simpa using h5), has_put_other (by simpa using h4), has_put_other (by simpa using h3), has_put_other (by simpa using h2), has_put_other (by simpa using h1)]
  simp [h1, h2, h3, h4, h5]
  rfl
theorem d5_at (n : List UInt8) : D5.atKey (.string n) (i64d 0) = i64d ((Sn.blockOf n).getD 0) := by
  unfold D5 Sn.blockOf
  by_cases h1 : n = [112]
  · subst h1; rfl
  by_cases h2 : n = [100, 105, 118]
  · subst h2; rfl
  by_cases h3 : n = [104, 49]
  · subst h3; rfl
  by_cases h4 : n = [108, 105]
  · subst h4; rfl
  by_cases h5 : n = [104, 50]
  · subst h5; rfl
  rw [atKey_put_other (by simpa using h5), atKey_put_other (by simpa using h4), atKey_put_other (by simpa using h3), atKey_put_other (by simpa using h2), atKey_put_other (by simpa using h1)]
  simp [h1, h2, h3, h4, h5]
  rfl
theorem d2_at (k : Int) : D2.atKey (.int .i64 k) (i64d 0) = i64d (Sn.one k) := by
  unfold D2 Sn.one
  by_cases h1 : k = 2
  · subst h1; rfl
  by_cases h2 : k = 3
  · subst h2; rfl
  rw [atKey_put_other (by simpa using h2), atKey_put_other (by simpa using h1)]
  simp [h1, h2]
  rfl
end Go.Proofs.YtbhcklkbckacpaaGreatDoor

/-
  The reference's Read at work: what lies in memory; its inner function, which ends a block.
-/
namespace Go.Proofs.YtbhcklkbckacpaaGreatDoor
open Go.RowKit Go.Maps Go.WideMaps
structure RdM (w1 : World) (b : Nat) (s : Sn.S) (v : Value) (wr : World) : Prop where
  lo : b + 4 ≤ w1.heap.size
  mp : w1.ownsMap Tryz.prog 9 (plainElem Tryz.prog 3) b 5 D5
  kp : Kept w1 wr [b + 1, b + 2, b + 3]
  db : Blk wr (b + 1) [v] 34
  kb : Blk wr (b + 2) [.int .i64 s.kind] 3
  ob : Blk wr (b + 3) [.bool s.opened] 4
  own : wr.ownsRow w1.heap.size 39 3 v s.d.length (itCells s.d)
theorem RdM.far {w1 : World} {b : Nat} {s : Sn.S} {v : Value} {wr w2 : World} (h : RdM w1 b s v wr) (hb : Below wr.heap.size wr w2) : RdM w1 b s v w2 :=
  ⟨h.lo, h.mp, h.kp.trans (Kept.of hb _), (hb.block _ h.db.lt).trans h.db, (hb.block _ h.kb.lt).trans h.kb, (hb.block _ h.ob.lt).trans h.ob, own_under h.own hb⟩
theorem RdM.map {w1 : World} {b : Nat} {s : Sn.S} {v : Value} {wr : World} (h : RdM w1 b s v wr) : wr.ownsMap Tryz.prog 9 (plainElem Tryz.prog 3) b 5 D5 := by
  obtain ⟨es, clock, hb, hF, hs, hD⟩ := h.mp
  have := h.lo
  exact ⟨es, clock, (h.kp.block b (by omega) (by simp)).trans hb, hF, hs, hD⟩
theorem RdM.setK {w1 : World} {b : Nat} {s s' : Sn.S} {v : Value} {wr : World} (h : RdM w1 b s v wr) (hd : s'.d = s.d) (ho : s'.opened = s.opened) : RdM w1 b s' v (wr.setCell ⟨b + 2, 0, none⟩ (.int .i64 s'.kind)) := by
  have hl := h.lo
  have hz := h.kp.size
  refine ⟨h.lo, h.mp, h.kp.setCell _ _ (.inl (by simp)), h.db.other _ _ (by show b + 1 ≠ b + 2; omega), h.kb.set 0 _, ?_, ?_⟩
  · rw [ho]; exact h.ob.other _ _ (by show b + 3 ≠ b + 2; omega)
  · rw [hd]; exact ownsRow_setCell_below h.own (by show b + 2 < _; omega) _
theorem RdM.setO {w1 : World} {b : Nat} {s s' : Sn.S} {v : Value} {wr : World} (h : RdM w1 b s v wr) (hd : s'.d = s.d) (hk : s'.kind = s.kind) : RdM w1 b s' v (wr.setCell ⟨b + 3, 0, none⟩ (.bool s'.opened)) := by
  have hl := h.lo
  refine ⟨h.lo, h.mp, h.kp.setCell _ _ (.inl (by simp)), h.db.other _ _ (by show b + 1 ≠ b + 3; omega), ?_, h.ob.set 0 _, ?_⟩
  · rw [hk]; exact h.kb.other _ _ (by show b + 2 ≠ b + 3; omega)
  · rw [hd]; exact ownsRow_setCell_below h.own (by show b + 3 < _; omega) _
theorem RdM.same {w1 : World} {b : Nat} {s s' : Sn.S} {v : Value} {wr : World} (h : RdM w1 b s v wr) (hd : s'.d = s.d) (ho : s'.opened = s.opened) (hk : s'.kind = s.kind) : RdM w1 b s' v wr :=
  ⟨h.lo, h.mp, h.kp, h.db, by rw [hk]; exact h.kb, by rw [ho]; exact h.ob, by rw [hd]; exact h.own⟩
def Sn.S.more (s : Sn.S) (x : It) : Sn.S := { s with d := s.d ++ [x] }
theorem RdM.push {w1 : World} {b : Nat} {s : Sn.S} {ao : Option Addr} {n cap g cap2 : Nat} {wr w3 : World} {x : It} (h : RdM w1 b s (.slice ao n cap) wr) (hn : s.d.length = n)
    (hown : w3.ownsRow w1.heap.size 39 3 (.slice (some ⟨g, 0, none⟩) (n + 1) cap2) (n + 1) (itCells s.d ++ itCells [x])) (hgrow : wr.grownBy w3 (Value.slice ao n cap).ownBlock) :
    RdM w1 b (s.more x) (.slice (some ⟨g, 0, none⟩) (n + 1) cap2) (w3.setCell ⟨b + 1, 0, none⟩ (.slice (some ⟨g, 0, none⟩) (n + 1) cap2)) := by
  have hl := h.lo
  have hz := h.kp.size
  have hge : ∀ k, (Value.slice ao n cap).ownBlock = some k → w1.heap.size ≤ k := ownBlk_ge h.own
  have hk3 : Kept w1 w3 [b + 1, b + 2, b + 3] := ⟨hgrow.os.trans h.kp.os, hgrow.tape.trans h.kp.tape, hgrow.output.trans h.kp.output, Nat.le_trans h.kp.size hgrow.size, fun k hk hS => (hgrow.block k (by omega) (fun e => by have := hge k e.symm; omega)).trans (h.kp.block k hk hS)⟩
  have hB : ∀ {j : Nat} {cs : List Value} {t : TypeId}, j < w1.heap.size → Blk wr j cs t → Blk w3 j cs t := fun hj hb => (hgrow.block _ (by omega) (fun e => by have := hge _ e.symm; omega)).trans hb
  refine ⟨h.lo, h.mp, hk3.setCell _ _ (.inl (by simp)), (hB (by omega) h.db).set 0 _, (hB (by omega) h.kb).other _ _ (by show b + 2 ≠ b + 1; omega), (hB (by omega) h.ob).other _ _ (by show b + 3 ≠ b + 1; omega), ?_⟩
  show World.ownsRow _ w1.heap.size 39 3 _ (s.d ++ [x]).length (itCells (s.d ++ [x]))
  rw [List.length_append, hn, itCells_app]
  exact ownsRow_setCell_below hown (by show b + 1 < _; omega) _
theorem rwhole_last (k : List It) (x : It) : Sn.whole (k ++ [x]) = Dc.ends x := by
  unfold Sn.whole
  rw [List.getLast?_concat]
theorem rshut_put (s : Sn.S) (h : (s.opened || !Sn.whole s.d) = true) : Sn.shut s = { s with d := s.d ++ [Sn.endOf s.kind], opened := false, kind := 0 } := by
  unfold Sn.shut; rw [if_pos h]
theorem rshut_no (s : Sn.S) (h : (s.opened || !Sn.whole s.d) = false) : Sn.shut s = { s with opened := false, kind := 0 } := by
  unfold Sn.shut; rw [h, if_neg Bool.false_ne_true]
end Go.Proofs.YtbhcklkbckacpaaGreatDoor

/-
  The reference's Read: its inner function, which ends a block.
-/
namespace Go.Proofs.YtbhcklkbckacpaaGreatDoor
open Go.RowKit Go.Maps Go.WideMaps
theorem RdM.dbAt {w1 : World} {b : Nat} {s : Sn.S} {ao : Option Addr} {n cap : Nat} {wr w3 : World} (h : RdM w1 b s (.slice ao n cap) wr) (hgrow : wr.grownBy w3 (Value.slice ao n cap).ownBlock) : Blk w3 (b + 1) [.slice ao n cap] 34 := by
  have hl := h.lo
  have hz := h.kp.size
  exact (hgrow.block _ (by omega) (fun e => by have := ownBlk_ge h.own _ e.symm; omega)).trans h.db
theorem grown_keptR {w w' : World} {v : Value} {a b c : Nat} (h : w.grownBy w' v.ownBlock) : Kept w w' (a :: b :: c :: ob v) :=
  ⟨h.os, h.tape, h.output, h.size, fun k hk hn => h.block k hk (fun e => hn (by unfold ob; rw [← e]; simp))⟩
set_option maxRecDepth 100000 in
set_option maxHeartbeats 1600000 in
theorem endR_any (w1 : World) (b : Nat) (s : Sn.S) (v : Value) (w : World) (hR : RdM w1 b s v w) (hn : s.d.length ≤ 1000000) :
    Calls Tryz.prog 69 #[.pointer (some ⟨b + 3, 0, none⟩), .pointer (some ⟨b + 1, 0, none⟩), .pointer (some ⟨b + 2, 0, none⟩)] w fun e w' => e = .returned (.tuple #[]) ∧ (∃ v', RdM w1 b (Sn.shut s) v' w') ∧ Kept w w' ((b + 1) :: (b + 2) :: (b + 3) :: ob v) := by
  have HR : Hid (RdM w1 b s v w) := hR
  obtain ⟨ao, cap, hv, hrow⟩ := own_row hR.own
  subst hv
  have c1 : w.cell? ⟨b + 1, 0, none⟩ = some (.slice ao s.d.length cap) := hR.db.cell 0
  have c2 : w.cell? ⟨b + 2, 0, none⟩ = some (.int .i64 s.kind) := hR.kb.cell 0
  have c3 : w.cell? ⟨b + 3, 0, none⟩ = some (.bool s.opened) := hR.ob.cell 0
  have f2 := hR.kb.frozen 0
  have f3 := hR.ob.frozen 0
  have hroom := hrow.room
  have hbig := hrow.big
  have hlo := hR.lo
  have hsz := hR.kp.size
  obtain ⟨i0, hi, hz0, hz1, hz2⟩ := info_parts Tryz.info39
  obtain ⟨n, hnn⟩ : ∃ n, s.d.length = n := ⟨_, rfl⟩
  have HN : Hid (s.d.length = n) := hnn
  have HO : Hid (w.ownsRow w1.heap.size 39 3 (.slice ao n cap) n (itCells s.d)) := by have := hR.own; rw [hnn] at this; exact this
  rw [hnn] at c1 hroom hn HR ⊢
  clear hR
  cases ho : s.opened
  · rw [ho] at c3
    rcases List.eq_nil_or_concat s.d with h | ⟨k, x, h⟩
    · have HS : Hid (Sn.shut s = { s with opened := false, kind := 0 }) := rshut_no s (by rw [ho, h]; rfl)
      obtain rfl : n = 0 := by rw [← hnn, h]; rfl
      clear h ho hnn hrow
      go_enter Tryz.func69, Tryz.ntmps69
      go_wp2
      go_end0
      exact ⟨rfl, ⟨_, HS.out ▸ (HR.out.setO (s' := { s with opened := false }) rfl rfl).setK (s' := { s with opened := false, kind := 0 }) rfl rfl⟩, ((Kept.refl w _).setCell ⟨b + 3, 0, none⟩ _ (.inl (by simp))).setCell ⟨b + 2, 0, none⟩ _ (.inl (by simp))⟩
    · rw [List.concat_eq_append] at h
      obtain ⟨g0, off, rfl, hc⟩ := hrow.lies (by rw [h]; simp)
      have hx := hc (k.length * 3) (.int .u8 x.c.toNat) (by
        rw [h]
        have := (itCells_at (k ++ [x]) k.length (by simp)).1
        rw [this]
        simp)
      obtain ⟨m, rfl⟩ : ∃ m, n = m + 1 := ⟨k.length, by rw [← hnn, h]; simp⟩
      have hm : k.length = m := by rw [h] at hnn; simp at hnn; exact hnn
      rw [hm] at hx
      cases hq : Dc.ends x
      · have HS : Hid (Sn.shut s = { s with d := s.d ++ [Sn.endOf s.kind], opened := false, kind := 0 }) := rshut_put s (by rw [ho, h, rwhole_last, hq]; rfl)
        have hqq : ((x.c.toNat : Int) != 10) = true := by have e : (!Dc.ends x) = ((x.c.toNat : Int) != 10) := rfl; rw [← e, hq]; rfl
        clear h ho hnn hrow hc hm hq
        generalize x.c = xc at *
        go_enter Tryz.func69, Tryz.ntmps69
        go_wp2_with (at_builtin; refine wpList_append_lies _ rfl (.tmp 19) (.tmp 22) 34 rfl w1.heap.size 39 i0 (.agg #[.int .u8 0, .int .i64 0, .string ⟨#[]⟩]) 3 32 Tryz.underlying34 hi hz0 hz1 hz2 rfl (by decide) _ (m + 1) (itCells s.d) rfl ?c1 ⟨w.heap.size, 0, none⟩ 1 1 (itCells [Sn.endOf s.kind]) rfl rfl ?c2 (itCells_one [Sn.endOf s.kind]) (by decide) ?c4 ?c5 ?c6 _ rfl ?c7)
        case c1 => exact HO.out.alloc _
        case c2 => first | exact fun _ _ h => h | exact World.news_of_block (heap_alloc_new w _)
        case c4 => unfold maxLen; omega
        case c5 => omega
        case c6 => first | omega | (simp; omega)
        case c7 =>
          intro g cap2 w3 hown hgrow hg hlt
          have HA : Hid (RdM w1 b s (.slice (some ⟨g0, off, none⟩) (m + 1) cap) (w.alloc (.cells #[.int .u8 10, .int .i64 s.kind, .string ⟨#[]⟩] 39))) := HR.out.far ((Below.refl _ _).alloc (Nat.le_refl _) _)
          have hB := HA.out.dbAt hgrow
          have e1 : w3.cell? ⟨b + 1, 0, none⟩ = some (.slice (some ⟨g0, off, none⟩) (m + 1) cap) := hB.cell 0
          have e2 := hB.frozen 0
          have HKp : Hid (Kept w (w3.setCell ⟨b + 1, 0, none⟩ (.slice (some ⟨g, 0, none⟩) (m + 1 + 1) cap2)) ((b + 1) :: (b + 2) :: (b + 3) :: ob (.slice (some ⟨g0, off, none⟩) (m + 1) cap))) := (((Kept.refl w _).alloc _).trans (grown_keptR hgrow)).setCell _ _ (.inl (by simp))
          have HP : Hid (RdM w1 b (s.more (Sn.endOf s.kind)) (.slice (some ⟨g, 0, none⟩) (m + 1 + 1) cap2) (w3.setCell ⟨b + 1, 0, none⟩ (.slice (some ⟨g, 0, none⟩) (m + 1 + 1) cap2))) := HA.out.push HN.out hown hgrow
          clear hB hown hgrow hg hlt HA c1 c2 c3 f2 f3 HO HR
          go_upto_region 2 with fail
          change Code.wp Tryz.prog _ _ _ (w3.setCell ⟨b + 1, 0, none⟩ (.slice (some ⟨g, 0, none⟩) (m + 1 + 1) cap2))
          generalize w3.setCell ⟨b + 1, 0, none⟩ (.slice (some ⟨g, 0, none⟩) (m + 1 + 1) cap2) = w4 at *
          clear e1 e2
          have d2 : w4.cell? ⟨b + 2, 0, none⟩ = some (.int .i64 (s.more (Sn.endOf s.kind)).kind) := HP.out.kb.cell 0
          have d3 : w4.cell? ⟨b + 3, 0, none⟩ = some (.bool (s.more (Sn.endOf s.kind)).opened) := HP.out.ob.cell 0
          have g2 := HP.out.kb.frozen 0
          have g3 := HP.out.ob.frozen 0
          go_wp2
          go_end0
          exact ⟨rfl, ⟨_, HS.out ▸ (HP.out.setO (s' := { s.more (Sn.endOf s.kind) with opened := false }) rfl rfl).setK (s' := { s with d := s.d ++ [Sn.endOf s.kind], opened := false, kind := 0 }) rfl rfl⟩, (HKp.out.setCell ⟨b + 3, 0, none⟩ _ (.inl (by simp))).setCell ⟨b + 2, 0, none⟩ _ (.inl (by simp))⟩
      · have HS : Hid (Sn.shut s = { s with opened := false, kind := 0 }) := rshut_no s (by rw [ho, h, rwhole_last, hq]; rfl)
        have hqq : ((x.c.toNat : Int) != 10) = false := by have e : (!Dc.ends x) = ((x.c.toNat : Int) != 10) := rfl; rw [← e, hq]; rfl
        clear h ho hnn hrow hc hm hq
        generalize x.c = xc at *
        go_enter Tryz.func69, Tryz.ntmps69
        go_wp2
        go_end0
        exact ⟨rfl, ⟨_, HS.out ▸ (HR.out.setO (s' := { s with opened := false }) rfl rfl).setK (s' := { s with opened := false, kind := 0 }) rfl rfl⟩, ((Kept.refl w _).setCell ⟨b + 3, 0, none⟩ _ (.inl (by simp))).setCell ⟨b + 2, 0, none⟩ _ (.inl (by simp))⟩
  · have HS : Hid (Sn.shut s = { s with d := s.d ++ [Sn.endOf s.kind], opened := false, kind := 0 }) := rshut_put s (by rw [ho]; rfl)
    rw [ho] at c3
    clear ho hnn hrow
    go_enter Tryz.func69, Tryz.ntmps69
    go_wp2_with (at_builtin; refine wpList_append_lies _ rfl (.tmp 19) (.tmp 22) 34 rfl w1.heap.size 39 i0 (.agg #[.int .u8 0, .int .i64 0, .string ⟨#[]⟩]) 3 32 Tryz.underlying34 hi hz0 hz1 hz2 rfl (by decide) _ n (itCells s.d) rfl ?c1 ⟨w.heap.size, 0, none⟩ 1 1 (itCells [Sn.endOf s.kind]) rfl rfl ?c2 (itCells_one [Sn.endOf s.kind]) (by decide) ?c4 ?c5 ?c6 _ rfl ?c7)
    case c1 => exact HO.out.alloc _
    case c2 => first | exact fun _ _ h => h | exact World.news_of_block (heap_alloc_new w _)
    case c4 => unfold maxLen; omega
    case c5 => omega
    case c6 => first | omega | (simp; omega)
    case c7 =>
      intro g cap2 w3 hown hgrow hg hlt
      have HA : Hid (RdM w1 b s (.slice ao n cap) (w.alloc (.cells #[.int .u8 10, .int .i64 s.kind, .string ⟨#[]⟩] 39))) := HR.out.far ((Below.refl _ _).alloc (Nat.le_refl _) _)
      have hB := HA.out.dbAt hgrow
      have e1 : w3.cell? ⟨b + 1, 0, none⟩ = some (.slice ao n cap) := hB.cell 0
      have e2 := hB.frozen 0
      have HKp : Hid (Kept w (w3.setCell ⟨b + 1, 0, none⟩ (.slice (some ⟨g, 0, none⟩) (n + 1) cap2)) ((b + 1) :: (b + 2) :: (b + 3) :: ob (.slice ao n cap))) := (((Kept.refl w _).alloc _).trans (grown_keptR hgrow)).setCell _ _ (.inl (by simp))
      have HP : Hid (RdM w1 b (s.more (Sn.endOf s.kind)) (.slice (some ⟨g, 0, none⟩) (n + 1) cap2) (w3.setCell ⟨b + 1, 0, none⟩ (.slice (some ⟨g, 0, none⟩) (n + 1) cap2))) := HA.out.push HN.out hown hgrow
      clear hB hown hgrow hg hlt HA c1 c2 c3 f2 f3 HO HR
      go_upto_region 2 with fail
      change Code.wp Tryz.prog _ _ _ (w3.setCell ⟨b + 1, 0, none⟩ (.slice (some ⟨g, 0, none⟩) (n + 1) cap2))
      generalize w3.setCell ⟨b + 1, 0, none⟩ (.slice (some ⟨g, 0, none⟩) (n + 1) cap2) = w4 at *
      clear e1 e2
      have d2 : w4.cell? ⟨b + 2, 0, none⟩ = some (.int .i64 (s.more (Sn.endOf s.kind)).kind) := HP.out.kb.cell 0
      have d3 : w4.cell? ⟨b + 3, 0, none⟩ = some (.bool (s.more (Sn.endOf s.kind)).opened) := HP.out.ob.cell 0
      have g2 := HP.out.kb.frozen 0
      have g3 := HP.out.ob.frozen 0
      go_wp2
      go_end0
      exact ⟨rfl, ⟨_, HS.out ▸ (HP.out.setO (s' := { s.more (Sn.endOf s.kind) with opened := false }) rfl rfl).setK (s' := { s with d := s.d ++ [Sn.endOf s.kind], opened := false, kind := 0 }) rfl rfl⟩, (HKp.out.setCell ⟨b + 3, 0, none⟩ _ (.inl (by simp))).setCell ⟨b + 2, 0, none⟩ _ (.inl (by simp))⟩
end Go.Proofs.YtbhcklkbckacpaaGreatDoor

/-
  The reference's Read: what its maps answer.
-/
namespace Go.Proofs.YtbhcklkbckacpaaGreatDoor
open Go.RowKit Go.Maps Go.WideMaps
theorem look5 {w : World} {b : Nat} (h : w.ownsMap Tryz.prog 9 (plainElem Tryz.prog 3) b 5 D5) (n : List UInt8) (hn : n.length ≤ 1000000) :
    (Instr.lookup 102 (.map (some b)) (.string (B n)) true).run Tryz.prog w = .ok (.tuple #[.int .i64 ((Sn.blockOf n).getD 0), .bool (Sn.blockOf n).isSome]) w := by
  obtain ⟨v, ps, hrun, hv⟩ := h.look_ok lawS Tryz.underlying102 (zeroI w) (plainElem_int Tryz.underlying3 (by decide)) (key_s (B n) (by rw [B_size]; unfold maxLen; omega))
  obtain ⟨c, rfl, hc, _⟩ := plainElem_int_inv Tryz.underlying3 hv
  rw [B_data] at hrun hc
  have e := d5_at n
  unfold i64d at e
  rw [e] at hc
  simp only [Prod.mk.injEq, DataW.lit.injEq, Lit.int.injEq, true_and] at hc
  rw [hrun, d5_has, hc.1]
theorem below_grown {b : Nat} {w w1 w2 : World} (h : Below b w w1) (hb : b ≤ w1.heap.size) (hg : w1.grownBy w2 (some b)) : Below b w w2 := h.grown hg hb (fun k hk => by cases hk; exact Nat.le_refl _)
theorem count2 (w : World) (k : Int) (hk : (Lit.int .i64 k).wf = true) : ∃ w1 w2, (Instr.mapUpdate 105 (.map (some w.heap.size)) (.int .i64 2) (.int .i64 1)).run Tryz.prog (w.alloc (.map #[] 0)) = .ok () w1 ∧
    (Instr.mapUpdate 105 (.map (some w.heap.size)) (.int .i64 3) (.int .i64 (-1))).run Tryz.prog w1 = .ok () w2 ∧ (Instr.lookup 105 (.map (some w.heap.size)) (.int .i64 k) false).run Tryz.prog w2 = .ok (.int .i64 (Sn.one k)) w2 ∧ Below w.heap.size w w2 := by
  have h0 := World.ownsMap_made (H := Unit) w Tryz.prog 3 (plainElem Tryz.prog 3)
  obtain ⟨w1, r1, o1, g1⟩ := h0.update lawI Tryz.underlying105 (by unfold maxLen; omega) (keyOf_int_mk (a := 2) Tryz.underlying3 (by decide)) (plainElem_int (a := 1) Tryz.underlying3 (by decide))
  obtain ⟨w2, r2, o2, g2⟩ := o1.update lawI Tryz.underlying105 (by unfold maxLen; omega) (keyOf_int_mk (a := 3) Tryz.underlying3 (by decide)) (plainElem_int (a := -1) Tryz.underlying3 (by decide))
  obtain ⟨c, r3, hat, _⟩ := o2.lookup_int lawI Tryz.underlying105 Tryz.underlying3 (zeroI w2) (keyOf_int_mk (a := k) Tryz.underlying3 hk)
  have e := d2_at k
  unfold i64d D2 i64d at e
  rw [e] at hat
  simp only [DataW.lit.injEq, Lit.int.injEq, true_and] at hat
  rw [← hat] at r3
  have hb0 : Below w.heap.size w (w.alloc (.map #[] 0)) := (Below.refl _ _).alloc (Nat.le_refl _) _
  have hb1 := below_grown hb0 (hb0.size) g1
  exact ⟨w1, w2, r1, r2, r3, below_grown hb1 hb1.size g2⟩
theorem five5 (w : World) : ∃ w1 w2 w3 w4 w5, (Instr.mapUpdate 102 (.map (some w.heap.size)) (.string ⟨#[112]⟩) (.int .i64 0)).run Tryz.prog (w.alloc (.map #[] 0)) = .ok () w1 ∧
    (Instr.mapUpdate 102 (.map (some w.heap.size)) (.string ⟨#[100, 105, 118]⟩) (.int .i64 0)).run Tryz.prog w1 = .ok () w2 ∧ (Instr.mapUpdate 102 (.map (some w.heap.size)) (.string ⟨#[104, 49]⟩) (.int .i64 1)).run Tryz.prog w2 = .ok () w3 ∧
    (Instr.mapUpdate 102 (.map (some w.heap.size)) (.string ⟨#[108, 105]⟩) (.int .i64 2)).run Tryz.prog w3 = .ok () w4 ∧ (Instr.mapUpdate 102 (.map (some w.heap.size)) (.string ⟨#[104, 50]⟩) (.int .i64 3)).run Tryz.prog w4 = .ok () w5 ∧
    w5.ownsMap Tryz.prog 9 (plainElem Tryz.prog 3) w.heap.size 5 D5 ∧ Below w.heap.size w w5 ∧ w5.heap.size = w.heap.size + 1 := by
  have h0 := World.ownsMap_made (H := Unit) w Tryz.prog 9 (plainElem Tryz.prog 3)
  obtain ⟨w1, r1, o1, g1⟩ := h0.store lawS Tryz.underlying102 (by unfold maxLen; omega) (key_s ⟨#[112]⟩ (by decide)) (plainElem_int (a := 0) Tryz.underlying3 (by decide))
  obtain ⟨w2, r2, o2, g2⟩ := o1.store lawS Tryz.underlying102 (by unfold maxLen; omega) (key_s ⟨#[100, 105, 118]⟩ (by decide)) (plainElem_int (a := 0) Tryz.underlying3 (by decide))
  obtain ⟨w3, r3, o3, g3⟩ := o2.store lawS Tryz.underlying102 (by unfold maxLen; omega) (key_s ⟨#[104, 49]⟩ (by decide)) (plainElem_int (a := 1) Tryz.underlying3 (by decide))
  obtain ⟨w4, r4, o4, g4⟩ := o3.store lawS Tryz.underlying102 (by unfold maxLen; omega) (key_s ⟨#[108, 105]⟩ (by decide)) (plainElem_int (a := 2) Tryz.underlying3 (by decide))
  obtain ⟨w5, r5, o5, g5⟩ := o4.store lawS Tryz.underlying102 (by unfold maxLen; omega) (key_s ⟨#[104, 50]⟩ (by decide)) (plainElem_int (a := 3) Tryz.underlying3 (by decide))
  have hb0 : Below w.heap.size w (w.alloc (.map #[] 0)) := (Below.refl _ _).alloc (Nat.le_refl _) _
  have hb1 := below_grown hb0 hb0.size g1.grown
  have hb2 := below_grown hb1 hb1.size g2.grown
  have hb3 := below_grown hb2 hb2.size g3.grown
  have hb4 := below_grown hb3 hb3.size g4.grown
  have hz : ∀ {a c : World}, a.mapTurned c w.heap.size → c.heap.size = a.heap.size := fun h => by
    obtain ⟨_, _, _, _, _, rfl⟩ := h
    simp [Go.ChangeMaps.setBlock]
  refine ⟨w1, w2, w3, w4, w5, r1, r2, r3, r4, r5, o5, below_grown hb4 hb4.size g5.grown, ?_⟩
  rw [hz g5, hz g4, hz g3, hz g2, hz g1]
  simp
end Go.Proofs.YtbhcklkbckacpaaGreatDoor

/-
  The reference's Read: its frames.
-/
namespace Go.Proofs.YtbhcklkbckacpaaGreatDoor
open Go.RowKit Go.Maps Go.WideMaps
def blockOn (n : Nat) : Code → Option Code
  | .loop c => blockOn n c
  | .seq a b => match blockOn n a with
    | some c => some c
    | none => blockOn n b
  | .block m c => if m == n then some (.block m c) else blockOn n c
  | .scope c => blockOn n c
  | .cond _ a b => match blockOn n a with
    | some c => some c
    | none => blockOn n b
  | _ => none
set_option maxRecDepth 1000000 in
def frmR (b : Nat) (ta : Option Addr) (nt tc : Nat) (s : Sn.S) (j : Nat) (us : Nat → Value) : Act := ⟨#[us 0, us 1, us 2, us 3, .map (some b), .pointer (some ⟨b + 1, 0, none⟩), .int .i64 s.bold, .int .i64 s.slant, .pointer (some ⟨b + 2, 0, none⟩), .string (B s.link), .string (B s.hides), .pointer (some ⟨b + 3, 0, none⟩), .func (.func 69) #[] #[.pointer (some ⟨b + 3, 0, none⟩), .pointer (some ⟨b + 1, 0, none⟩), .pointer (some ⟨b + 2, 0, none⟩)], us 13, us 14, us 15, us 16, us 17, us 18, us 19, us 20, us 21, us 22, us 23, us 24, .slice ta nt tc, .int .i64 nt, .int .i64 j, us 28, us 29, us 30, us 31, us 32, us 33, us 34, us 35, us 36, us 37, us 38, us 39, us 40, us 41, us 42, us 43, us 44, us 45, us 46, us 47, us 48, us 49, us 50, us 51, us 52, us 53, us 54, us 55, us 56, us 57, us 58, us 59, us 60, us 61, us 62, us 63, us 64, us 65, us 66, us 67, us 68, us 69, us 70, us 71, us 72, us 73, us 74, us 75, us 76, us 77, us 78, us 79, us 80, us 81, us 82, us 83, us 84, us 85, us 86, us 87, us 88, us 89, us 90, us 91, us 92, us 93, us 94, us 95, us 96, us 97, us 98, us 99, us 100, us 101, us 102, us 103, us 104, us 105, us 106, us 107, us 108, us 109, us 110, us 111, us 112, us 113, us 114, us 115, us 116, us 117, us 118, us 119, us 120, us 121, us 122, us 123, us 124, us 125, us 126, us 127, us 128, us 129, us 130, us 131, us 132, us 133, us 134, us 135, us 136, us 137, us 138, us 139, us 140, us 141, us 142, us 143, us 144, us 145, us 146, us 147, us 148, us 149, us 150, us 151, us 152, us 153, us 154, us 155, us 156, us 157, us 158, us 159, us 160, us 161, us 162, us 163, us 164, us 165, us 166, us 167, us 168, us 169, us 170, us 171, us 172, us 173, us 174, us 175, us 176, us 177, us 178, us 179, us 180, us 181, us 182], []⟩
set_option maxRecDepth 1000000 in
def frmS (b : Nat) (ta : Option Addr) (nt tc : Nat) (s : Sn.S) (j tb : Nat) (bk : Int) (isb : Bool) (us : Nat → Value) : Act := ⟨#[us 0, us 1, us 2, us 3, .map (some b), .pointer (some ⟨b + 1, 0, none⟩), .int .i64 s.bold, .int .i64 s.slant, .pointer (some ⟨b + 2, 0, none⟩), .string (B s.link), .string (B s.hides), .pointer (some ⟨b + 3, 0, none⟩), .func (.func 69) #[] #[.pointer (some ⟨b + 3, 0, none⟩), .pointer (some ⟨b + 1, 0, none⟩), .pointer (some ⟨b + 2, 0, none⟩)], us 13, .pointer (some ⟨tb, 0, none⟩), .int .i64 bk, .bool isb, us 17, us 18, us 19, us 20, us 21, us 22, us 23, us 24, .slice ta nt tc, .int .i64 nt, .int .i64 j, us 28, us 29, us 30, us 31, us 32, us 33, us 34, us 35, us 36, us 37, us 38, us 39, us 40, us 41, us 42, us 43, us 44, us 45, us 46, us 47, us 48, us 49, us 50, us 51, us 52, us 53, us 54, us 55, us 56, us 57, us 58, us 59, us 60, us 61, us 62, us 63, us 64, us 65, us 66, us 67, us 68, us 69, us 70, us 71, us 72, us 73, us 74, us 75, us 76, us 77, us 78, us 79, us 80, us 81, us 82, us 83, us 84, us 85, us 86, us 87, us 88, us 89, us 90, us 91, us 92, us 93, us 94, us 95, us 96, us 97, us 98, us 99, us 100, us 101, us 102, us 103, us 104, us 105, us 106, us 107, us 108, us 109, us 110, us 111, us 112, us 113, us 114, us 115, us 116, us 117, us 118, us 119, us 120, us 121, us 122, us 123, us 124, us 125, us 126, us 127, us 128, us 129, us 130, us 131, us 132, us 133, us 134, us 135, us 136, us 137, us 138, us 139, us 140, us 141, us 142, us 143, us 144, us 145, us 146, us 147, us 148, us 149, us 150, us 151, us 152, us 153, us 154, us 155, us 156, us 157, us 158, us 159, us 160, us 161, us 162, us 163, us 164, us 165, us 166, us 167, us 168, us 169, us 170, us 171, us 172, us 173, us 174, us 175, us 176, us 177, us 178, us 179, us 180, us 181, us 182], []⟩
def rdMu (n : Nat) (a : Act) : Nat := n - (intOf (a.tmps.getD 27 undef)).toNat
theorem rdMu_of (n b : Nat) (ta : Option Addr) (nt tc : Nat) (s : Sn.S) (j : Nat) (us : Nat → Value) : rdMu n (frmR b ta nt tc s j us) = n - j := rfl
structure RdAt (w1 : World) (b nt : Nat) (T : List Tk) (R : Option Sn.S) (s : Sn.S) (v : Value) (j : Nat) (wr : World) : Prop where
  mem : RdM w1 b s v wr
  go : Sn.run s (T.drop j) = R
  few : s.d.length ≤ 80
  b0 : 0 ≤ s.bold
  b1 : s.bold ≤ j
  s0 : 0 ≤ s.slant
  s1 : s.slant ≤ j
  le : j ≤ nt
def RdI (w1 : World) (b : Nat) (ta : Option Addr) (nt tc : Nat) (T : List Tk) (R : Option Sn.S) (a : Act) (wr : World) : Prop := ∃ s v j us, a = frmR b ta nt tc s j us ∧ RdAt w1 b nt T R s v j wr
theorem RdI.start {w1 : World} {b : Nat} {ta : Option Addr} {nt tc : Nat} {T : List Tk} {R : Option Sn.S} {a : Act} {wr : World} {s : Sn.S} {v : Value} {j : Nat} (hf : a = frmR b ta nt tc s j (fun k => a.tmps.getD k undef)) (h : RdAt w1 b nt T R s v j wr) : RdI w1 b ta nt tc T R a wr := ⟨s, v, j, _, hf, h⟩
theorem RdI.step {w1 : World} {b : Nat} {ta : Option Addr} {nt tc : Nat} {T : List Tk} {R : Option Sn.S} {a : Act} {wr : World} {s : Sn.S} {v : Value} {j j0 : Nat} (hf : a = frmR b ta nt tc s j (fun k => a.tmps.getD k undef)) (h : RdAt w1 b nt T R s v j wr) (hj : j0 < j) : RdI w1 b ta nt tc T R a wr ∧ rdMu nt a < nt - j0 := by
  refine ⟨RdI.start hf h, ?_⟩
  rw [hf, rdMu_of]
  have := h.le
  omega
structure AtTk (w1 : World) (b : Nat) (s : Sn.S) (v : Value) (tb : Nat) (t : Tk) (w2 : World) : Prop where
  mem : RdM w1 b s v w2
  blk : Blk w2 tb (tkC t) 30
  ne : v.ownBlock ≠ some tb
  lo : w1.heap.size ≤ tb
  few : s.d.length ≤ 80
theorem tag_name (s : Bool) (u : List UInt8) : ∀ k ∈ (Tk.tag s u).1, k.name.length ≤ u.length := by
  unfold Tk.tag
  intro k hk
  cases h : Tk.attr (u.dropWhile Tk.nam) none with
  | none => rw [h] at hk; cases hk
  | some x =>
    obtain ⟨a, r⟩ := x
    rw [h] at hk
    rw [List.mem_singleton.1 hk]
    show (Lk.small (u.takeWhile Tk.nam)).length ≤ _
    unfold Lk.small
    rw [List.length_map]
    exact (List.takeWhile_sublist _).length_le
end Go.Proofs.YtbhcklkbckacpaaGreatDoor
