/-
  Package sanitize, a page at work: a block is ended, broken; a text is taken.
-/
import Derived.Test.YtpcaiechaakhnabGreatDoorSb
namespace Go.Proofs.YtpcaiechaakhnabGreatDoor
open Go.RowKit

theorem PutTo.next {w wr w2 : World} {b : Nat} {v v' : Value} {s : Sn.S} (hv : v'.ownBlock = v.ownBlock ∨ ∀ k, v'.ownBlock = some k → w.heap.size ≤ k) (hk : Kept w wr (b :: ob v)) (h2 : PutTo wr b v' w2 s) : PutTo w b v w2 s := by
  obtain ⟨⟨v2, hW, h3⟩, h4⟩ := h2
  refine ⟨⟨v2, hW, ?_⟩, hk.trans_new h4 (fun x hx => ?_)⟩
  · rcases h3 with h | h
    · rw [h]; exact hv
    · exact .inr fun k hk2 => Nat.le_trans hk.size (h k hk2)
  · rcases List.mem_cons.1 hx with rfl | hx
    · exact .inl (List.mem_cons_self ..)
    · rcases hv with h | h
      · exact .inl (List.mem_cons_of_mem _ (by unfold ob at hx ⊢; rw [← h]; exact hx))
      · exact .inr (h x (ob_mem hx))
theorem PutTo.pre {w w1 w2 : World} {b : Nat} {v : Value} {s : Sn.S} (hb : Below w.heap.size w w1) (h : PutTo w1 b v w2 s) : PutTo w b v w2 s :=
  PutTo.next (.inl rfl) (Kept.of hb _) h
theorem PutTo.refl {w : World} {b : Nat} {v : Value} {s : Sn.S} (h : Wk w b s v) : PutTo w b v w s := ⟨⟨v, h, .inl rfl⟩, Kept.refl _ _⟩
/-- Behind stores into its own block. -/
theorem PutTo.over {w w1 w2 : World} {b : Nat} {v v1 : Value} {s1 s2 : Sn.S} (hv : v1.ownBlock = v.ownBlock ∨ ∀ k, v1.ownBlock = some k → w.heap.size ≤ k) (hk : Kept w w1 (b :: ob v)) (hW : Wk w1 b s1 v1)
    (hB : Blk w2 b (zcells v1 s2) 58) (hk2 : Kept w1 w2 [b]) (hd : s2.d = s1.d) : PutTo w b v w2 s2 :=
  ⟨⟨v1, hW.over hB hk2 hd, hv⟩, hk.trans (hk2.mono fun x hx => by rw [List.mem_singleton.1 hx]; exact List.mem_cons_self ..)⟩
theorem kept_set2 (w : World) (b i j : Nat) (u v : Value) : Kept w ((w.setCell ⟨b, i, none⟩ u).setCell ⟨b, j, none⟩ v) [b] :=
  (kept_set w b i u [b] (List.mem_singleton.2 rfl)).trans (kept_set _ b j v [b] (List.mem_singleton.2 rfl))
theorem kept_set1 (w : World) (b i : Nat) (u : Value) : Kept w (w.setCell ⟨b, i, none⟩ u) [b] := kept_set w b i u [b] (List.mem_singleton.2 rfl)

theorem shut_put (s : Sn.S) (h : (s.opened || !Sn.whole s.d) = true) : Sn.shut s = { s with d := s.d ++ [Sn.endOf s.kind], opened := false, kind := 0 } := by
  unfold Sn.shut; rw [if_pos h]
theorem shut_no (s : Sn.S) (h : (s.opened || !Sn.whole s.d) = false) : Sn.shut s = { s with opened := false, kind := 0 } := by
  unfold Sn.shut; rw [h, if_neg Bool.false_ne_true]

theorem B_nil : B [] = ⟨#[]⟩ := rfl

set_option maxRecDepth 100000 in
set_option maxHeartbeats 1600000 in
theorem endBlock_any (b : Nat) (s : Sn.S) (v : Value) (w : World) (hW : Wk w b s v) (hn : s.d.length ≤ 1000000) : Calls Tryz.prog 33 #[.pointer (some ⟨b, 0, none⟩)] w fun e w' => e = .returned (.tuple #[]) ∧ PutTo w b v w' (Sn.shut s) := by
  have HW : Hid (Wk w b s v) := hW
  have c5 : w.cell? ⟨b, 5, none⟩ = some (.bool s.opened) := hW.blk.cell 5
  have c4 : w.cell? ⟨b, 4, none⟩ = some (.int .i64 s.kind) := hW.blk.cell 4
  have f5 := hW.blk.frozen 5
  have f4 := hW.blk.frozen 4
  have CB : Hid (∀ w', Wk w' b s v → Calls Tryz.prog 63 #[.pointer (some ⟨b, 0, none⟩)] w' fun e w2 => e = .returned (.bool (!Sn.whole s.d)) ∧ w2 = w') := fun w' h => behind_any b s v w' h
  have CP : Hid (∀ w', Wk w' b s v → Calls Tryz.prog 34 #[.pointer (some ⟨b, 0, none⟩), .int .u8 10, .int .i64 s.kind, .string ⟨#[]⟩] w' fun e w2 => e = .returned (.tuple #[]) ∧ PutTo w' b v w2 (s.plus (Sn.endOf s.kind))) := fun w' h => put_any b s v (Sn.endOf s.kind) w' h hn
  clear hW hn
  cases ho : s.opened
  · cases hz : Sn.whole s.d
    · have hs := shut_put s (by rw [ho, hz]; rfl)
      have HS : Hid (Sn.shut s = { s with d := s.d ++ [Sn.endOf s.kind], opened := false, kind := 0 }) := hs
      rw [ho] at c5
      rw [hz] at CB
      clear ho hz hs
      go_enter Tryz.func33, Tryz.ntmps33
      go_wp2_with fail
      refine (CB.out _ HW.out).mono ?_
      rintro e w1 ⟨rfl, rfl⟩
      go_wp2_with fail
      refine (CP.out _ HW.out).mono ?_
      rintro e w2 ⟨rfl, ⟨v1, hW1, hv1⟩, hK1⟩
      have H1 : Hid (Wk w2 b (s.plus (Sn.endOf s.kind)) v1) := hW1
      have HV : Hid (v1.ownBlock = v.ownBlock ∨ ∀ k, v1.ownBlock = some k → w1.heap.size ≤ k) := hv1
      have HK : Hid (Kept w1 w2 (b :: ob v)) := hK1
      have d5 : w2.cell? ⟨b, 5, none⟩ = some (.bool s.opened) := hW1.blk.cell 5
      have d4 : w2.cell? ⟨b, 4, none⟩ = some (.int .i64 s.kind) := hW1.blk.cell 4
      have g5 := hW1.blk.frozen 5
      have g4 := hW1.blk.frozen 4
      clear hW1 hv1 hK1 c5 c4 f5 f4
      go_wp2
      go_end0
      refine ⟨rfl, ?_⟩
      rw [HS.out]
      exact PutTo.over HV.out HK.out H1.out ((H1.out.blk.set 5 _).set 4 _) (kept_set2 ..) rfl
    · have hs := shut_no s (by rw [ho, hz]; rfl)
      have HS : Hid (Sn.shut s = { s with opened := false, kind := 0 }) := hs
      rw [ho] at c5
      rw [hz] at CB
      clear ho hz hs
      go_enter Tryz.func33, Tryz.ntmps33
      go_wp2_with fail
      refine (CB.out _ HW.out).mono ?_
      rintro e w1 ⟨rfl, rfl⟩
      go_wp2
      go_end0
      refine ⟨rfl, ?_⟩
      rw [HS.out]
      exact PutTo.over (.inl rfl) (Kept.refl _ _) HW.out ((HW.out.blk.set 5 _).set 4 _) (kept_set2 ..) rfl
  · have hs := shut_put s (by rw [ho]; rfl)
    have HS : Hid (Sn.shut s = { s with d := s.d ++ [Sn.endOf s.kind], opened := false, kind := 0 }) := hs
    rw [ho] at c5
    clear ho hs
    go_enter Tryz.func33, Tryz.ntmps33
    go_wp2_with fail
    refine (CP.out _ HW.out).mono ?_
    rintro e w2 ⟨rfl, ⟨v1, hW1, hv1⟩, hK1⟩
    have H1 : Hid (Wk w2 b (s.plus (Sn.endOf s.kind)) v1) := hW1
    have HV : Hid (v1.ownBlock = v.ownBlock ∨ ∀ k, v1.ownBlock = some k → w.heap.size ≤ k) := hv1
    have HK : Hid (Kept w w2 (b :: ob v)) := hK1
    have d5 : w2.cell? ⟨b, 5, none⟩ = some (.bool s.opened) := hW1.blk.cell 5
    have d4 : w2.cell? ⟨b, 4, none⟩ = some (.int .i64 s.kind) := hW1.blk.cell 4
    have g5 := hW1.blk.frozen 5
    have g4 := hW1.blk.frozen 4
    clear hW1 hv1 hK1 c5 c4 f5 f4
    go_wp2
    go_end0
    refine ⟨rfl, ?_⟩
    rw [HS.out]
    exact PutTo.over HV.out HK.out H1.out ((H1.out.blk.set 5 _).set 4 _) (kept_set2 ..) rfl

set_option maxRecDepth 100000 in
set_option maxHeartbeats 1600000 in
theorem break_any (b : Nat) (s : Sn.S) (v : Value) (w : World) (hW : Wk w b s v) (hn : s.d.length ≤ 1000000) : Calls Tryz.prog 94 #[.pointer (some ⟨b, 0, none⟩)] w fun e w' => e = .returned (.tuple #[]) ∧ PutTo w b v w' { Sn.shut { s with opened := true } with kind := s.kind } := by
  have HW : Hid (Wk w b s v) := hW
  have c5 : w.cell? ⟨b, 5, none⟩ = some (.bool s.opened) := hW.blk.cell 5
  have c4 : w.cell? ⟨b, 4, none⟩ = some (.int .i64 s.kind) := hW.blk.cell 4
  have f5 := hW.blk.frozen 5
  have f4 := hW.blk.frozen 4
  have HN : Hid (s.d.length ≤ 1000000) := hn
  have W1 : Hid (Wk (w.setCell ⟨b, 5, none⟩ (.bool true)) b { s with opened := true } v) := hW.over (hW.blk.set 5 _) (kept_set1 ..) rfl
  clear hW hn
  go_enter Tryz.func94, Tryz.ntmps94
  go_wp2_with fail
  refine (endBlock_any b { s with opened := true } v _ W1.out HN.out).mono ?_
  rintro e w2 ⟨rfl, ⟨v1, hW1, hv1⟩, hK1⟩
  have H1 : Hid (Wk w2 b (Sn.shut { s with opened := true }) v1) := hW1
  have HV : Hid (v1.ownBlock = v.ownBlock ∨ ∀ k, v1.ownBlock = some k → (w.setCell ⟨b, 5, none⟩ (.bool true)).heap.size ≤ k) := hv1
  have HK : Hid (Kept (w.setCell ⟨b, 5, none⟩ (.bool true)) w2 (b :: ob v)) := hK1
  have d4 : w2.cell? ⟨b, 4, none⟩ = some (.int .i64 (Sn.shut { s with opened := true }).kind) := hW1.blk.cell 4
  have g4 := hW1.blk.frozen 4
  clear hW1 hv1 hK1 c5 c4 f5 f4
  go_wp2
  go_end0
  refine ⟨rfl, ?_⟩
  have k1 : Kept w (w.setCell ⟨b, 5, none⟩ (.bool true)) (b :: ob v) := kept_set _ _ _ _ _ (List.mem_cons_self ..)
  refine PutTo.over ?_ (k1.trans HK.out) H1.out (H1.out.blk.set 4 _) (kept_set1 ..) rfl
  rcases HV.out with h | h
  · exact .inl h
  · exact .inr fun k hk => Nat.le_trans k1.size (h k hk)

/-- A page with the items of a text more. -/
def Sn.S.chars (s : Sn.S) (u : List UInt8) : Sn.S := { s with d := s.d ++ u.map (Sn.item s) }
theorem chars_nil (s : Sn.S) : s.chars [] = s := by unfold Sn.S.chars; simp
theorem chars_snoc (s : Sn.S) (u : List UInt8) (k : Nat) (h : k < u.length) : (s.chars (u.take k)).plus (Sn.item s u[k]) = s.chars (u.take (k + 1)) := by
  unfold Sn.S.chars Sn.S.plus
  simp only
  rw [List.take_succ_eq_append_getElem h, List.map_append, List.append_assoc]
  rfl
theorem item_eq (s : Sn.S) (u : List UInt8) (c : UInt8) : Sn.item s c = ⟨Sn.chr c, zmarks (s.chars u), B s.link⟩ := rfl
theorem own_lt {w : World} {base : Nat} {e : TypeId} {size : Nat} {v : Value} {n : Nat} {xs : List Value} (h : w.ownsRow base e size v n xs) : ∀ k, v.ownBlock = some k → k < w.heap.size := by
  intro k hk
  rcases h.2 with ⟨rfl, _⟩ | ⟨g, cap, cur, rfl, hg, hh, _⟩
  · cases hk
  · simp [Value.ownBlock] at hk
    subst hk
    exact (Array.getElem?_eq_some_iff.1 hh).1
end Go.Proofs.YtpcaiechaakhnabGreatDoor
