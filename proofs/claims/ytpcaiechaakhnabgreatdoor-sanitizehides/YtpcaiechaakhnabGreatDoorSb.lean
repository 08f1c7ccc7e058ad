/-
  Package sanitize, a page at work: how items are put behind each other, how a block is ended.
-/
import Derived.Test.YtpcaiechaakhnabGreatDoorSa
import Derived.Test.YtpcaiechaakhnabGreatDoorXc
import Derived.Deep.RegionWith
namespace Go.Proofs.YtpcaiechaakhnabGreatDoor
open Go.RowKit

/-- A page at work lies in block b, what is made of it so far in a row of its own. -/
structure Wk (w : World) (b : Nat) (s : Sn.S) (v : Value) : Prop where
  blk : Blk w b (zcells v s) 58
  own : w.ownsRow (b + 1) 39 3 v s.d.length (itCells s.d)
/-- The block that a row lies in. -/
def ob (v : Value) : List Nat := v.ownBlock.toList
theorem ob_mem {v : Value} {x : Nat} (h : x ∈ ob v) : v.ownBlock = some x := by
  unfold ob at h
  simpa using h
theorem Wk.blw {w w' : World} {b : Nat} {s : Sn.S} {v : Value} (h : Wk w b s v) (hk : Kept w w' (b :: ob v)) : Below b w w' :=
  hk.below (Nat.le_of_lt h.blk.lt) (fun x hx => by
    rcases List.mem_cons.1 hx with rfl | hx
    · exact Nat.le_refl _
    · have := ownBlk_ge h.own x (ob_mem hx); omega)
theorem Wk.under {w w' : World} {b : Nat} {s : Sn.S} {v : Value} (h : Wk w b s v) (hb : Below w.heap.size w w') : Wk w' b s v :=
  ⟨(hb.block b h.blk.lt).trans h.blk, own_under h.own hb⟩
/-- Behind stores into its own block. -/
theorem Wk.over {w w' : World} {b : Nat} {s s' : Sn.S} {v : Value} (h : Wk w b s v) (hB : Blk w' b (zcells v s') 58) (hk : Kept w w' [b]) (hd : s'.d = s.d) : Wk w' b s' v :=
  ⟨hB, by rw [hd]; exact own_kept h.own hk (Nat.lt_succ_self _)⟩
theorem kept_set (w : World) (b j : Nat) (v : Value) (S : List Nat) (h : b ∈ S) : Kept w (w.setCell ⟨b, j, none⟩ v) S := (Kept.refl w S).setCell _ _ (.inl h)
theorem Wk.big {w : World} {b : Nat} {s : Sn.S} {v : Value} (h : Wk w b s v) : b < w.heap.size := h.blk.lt

theorem whole_nil : Sn.whole [] = true := rfl
theorem whole_last (k : List It) (x : It) : Sn.whole (k ++ [x]) = Dc.ends x := by
  unfold Sn.whole
  rw [List.getLast?_concat]

set_option maxRecDepth 100000 in
set_option maxHeartbeats 800000 in
theorem behind_any (b : Nat) (s : Sn.S) (v : Value) (w : World) (hW : Wk w b s v) : Calls Tryz.prog 63 #[.pointer (some ⟨b, 0, none⟩)] w fun e w' => e = .returned (.bool (!Sn.whole s.d)) ∧ w' = w := by
  obtain ⟨ao, cap, rfl, hR⟩ := own_row hW.own
  have c0 : w.cell? ⟨b, 0, none⟩ = some (.slice ao s.d.length cap) := hW.blk.cell 0
  have hroom := hR.room
  have hbig := hR.big
  clear hW
  rcases List.eq_nil_or_concat s.d with h | ⟨k, x, h⟩
  · rw [h] at c0 ⊢
    rw [whole_nil]
    clear h hR hroom
    change w.cell? ⟨b, 0, none⟩ = some (.slice ao 0 cap) at c0
    go_enter Tryz.func63, Tryz.ntmps63
    go_wp2
    go_ret
    exact ⟨rfl, rfl⟩
  · rw [List.concat_eq_append] at h
    rw [h] at c0 hR hroom ⊢
    rw [whole_last]
    obtain ⟨g, off, rfl, hc⟩ := hR.lies (by simp)
    have hx := hc (k.length * 3) (.int .u8 x.c.toNat) (by
      have := (itCells_at (k ++ [x]) k.length (by simp)).1
      rw [this]
      simp)
    have e : (!Dc.ends x) = ((x.c.toNat : Int) != 10) := rfl
    rw [e]
    simp only [List.length_append, List.length_cons, List.length_nil, Nat.zero_add] at c0 hroom
    clear h hR hc e
    obtain ⟨m, hm⟩ : ∃ m, k.length = m := ⟨_, rfl⟩
    rw [hm] at c0 hroom hx
    clear hm
    go_enter Tryz.func63, Tryz.ntmps63
    go_wp2
    go_ret
    exact ⟨rfl, rfl⟩

/-- A page with an item more. -/
def Sn.S.plus (s : Sn.S) (x : It) : Sn.S := { s with d := s.d ++ [x] }
theorem itC_one (x : It) : itCells [x] = [.int .u8 x.c.toNat, .int .i64 x.m, .string x.l] := rfl

/-- What is known behind something that was put. -/
structure PutTo (w : World) (b : Nat) (v : Value) (w' : World) (s' : Sn.S) : Prop where
  at_ : ∃ v', Wk w' b s' v' ∧ (v'.ownBlock = v.ownBlock ∨ ∀ k, v'.ownBlock = some k → w.heap.size ≤ k)
  kept : Kept w w' (b :: ob v)

set_option maxRecDepth 100000 in
set_option maxHeartbeats 1600000 in
theorem put_any (b : Nat) (s : Sn.S) (v : Value) (x : It) (w : World) (hW : Wk w b s v) (hn : s.d.length ≤ 1000000) : Calls Tryz.prog 34 #[.pointer (some ⟨b, 0, none⟩), .int .u8 x.c.toNat, .int .i64 x.m, .string x.l] w fun e w' => e = .returned (.tuple #[]) ∧ PutTo w b v w' (s.plus x) := by
  have HW : Hid (Wk w b s v) := hW
  have c0 : w.cell? ⟨b, 0, none⟩ = some v := hW.blk.cell 0
  have f0 := hW.blk.frozen 0
  obtain ⟨ao, cap, hv, -⟩ := own_row hW.own
  have hbs := hW.big
  obtain ⟨n, hnn⟩ : ∃ n, s.d.length = n := ⟨_, rfl⟩
  have HN : Hid (s.d.length = n) := hnn
  rw [hnn] at hv hn
  obtain ⟨i0, hi, hz0, hz1, hz2⟩ := info_parts Tryz.info39
  have HO : Hid (w.ownsRow (b + 1) 39 3 v n (itCells s.d)) := by have := hW.own; rw [hnn] at this; exact this
  clear hW hnn
  have HV : Hid (v = .slice ao n cap) := hv
  subst hv
  go_enter Tryz.func34, Tryz.ntmps34
  go_wp2_with (at_builtin; refine wpList_append_lies _ rfl (.tmp 12) (.tmp 17) 34 rfl (b + 1) 39 i0 (.agg #[.int .u8 0, .int .i64 0, .string ⟨#[]⟩]) 3 32 Tryz.underlying34 hi hz0 hz1 hz2 rfl (by decide) _ n (itCells s.d) rfl ?c1 ⟨w.heap.size, 0, none⟩ 1 1 (itCells [x]) rfl rfl ?c2 (itCells_one [x]) (by decide) ?c4 ?c5 ?c6 _ rfl ?c7)
  case c1 => exact HO.out.alloc _
  case c2 => exact fun _ _ h => h
  case c4 => unfold maxLen; omega
  case c5 => omega
  case c6 => first | omega | (simp; omega)
  case c7 =>
    intro g cap2 w3 hown hgrow hg hlt
    have hal : Kept w (w.alloc (.cells #[.int .u8 x.c.toNat, .int .i64 x.m, .string x.l] 39)) (b :: ob (.slice ao n cap)) := (Kept.refl w _).alloc _
    have hgr : Kept (w.alloc (.cells #[.int .u8 x.c.toNat, .int .i64 x.m, .string x.l] 39)) w3 (ob (.slice ao n cap)) :=
      ⟨hgrow.os, hgrow.tape, hgrow.output, hgrow.size, fun k hk hn => hgrow.block k hk (fun e => hn (by unfold ob; rw [← e]; simp))⟩
    have hbo : b ∉ ob (.slice ao n cap) := fun hm => by have := ownBlk_ge HO.out b (ob_mem hm); omega
    have hB3 : Blk w3 b (zcells (.slice ao n cap) s) 58 := hgr.blk (HW.out.blk.alloc _) hbo
    have HB3 : Hid (Blk w3 b (zcells (.slice ao n cap) s) 58) := hB3
    have f3 := hB3.frozen 0
    have c3 : w3.cell? ⟨b, 0, none⟩ = some (.slice ao n cap) := hB3.cell 0
    have HOW : Hid (w3.ownsRow (b + 1) 39 3 (.slice (some ⟨g, 0, none⟩) (n + 1) cap2) (n + 1) (itCells s.d ++ itCells [x])) := hown
    have HK : Hid (Kept w w3 (b :: ob (.slice ao n cap))) := hal.trans (hgr.mono fun y hy => List.mem_cons_of_mem _ hy)
    have HG : Hid ((Value.slice ao n cap).ownBlock = some g ∨ g = w.heap.size + 1) := by
      rcases hg with h | h
      · exact .inl h
      · exact .inr (by rw [h])
    clear hal hgr hbo hB3 hown hgrow hg hlt HO
    go_wp2
    go_end0
    refine ⟨rfl, ⟨_, ⟨HB3.out.set 0 _, ?_⟩, ?_⟩, HK.out.setCell _ _ (.inl (List.mem_cons_self ..))⟩
    · show World.ownsRow _ (b + 1) 39 3 _ (s.d ++ [x]).length (itCells (s.d ++ [x]))
      rw [List.length_append, HN.out, itCells_app]
      exact own_kept HOW.out (kept_set w3 b 0 _ [b] (List.mem_singleton.2 rfl)) (Nat.lt_succ_self _)
    · rcases HG.out with h | h
      · exact .inl (by rw [h]; rfl)
      · exact .inr (fun k hk => by simp [Value.ownBlock] at hk; omega)
end Go.Proofs.YtpcaiechaakhnabGreatDoor
