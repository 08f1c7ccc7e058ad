/-
  The four ways of writing, added to the replacer's tree one behind the other.
-/
import Derived.Test.YtbhcklkbckacpaaGreatDoorGen0
namespace Go.Proofs.YtbhcklkbckacpaaGreatDoor
open Go.RowKit

def rootN (tb : Nat) : List Value := node ⟨#[]⟩ 0 ⟨#[]⟩ (.pointer none) (tabV tb)
/-- The replacer's cells, its root's table in block tb. -/
def RC (tb : Nat) : List Value := rarr (rootN tb) 11 (GG 256)

theorem RC_map (tb k : Nat) (h : k < 256) (v : Int) (hv : FIN k = v) : (RC tb)[6 + k]? = some (.int .u8 v) := by
  rw [RC, rarr_map _ _ _ rfl k h, GG_all k h, hv]
theorem RC_ts (tb : Nat) : (RC tb)[5]? = some (.int .i64 11) := rarr_ts _ _ _ rfl
theorem RC_root (tb j : Nat) (h : j < 5) : (RC tb)[j]? = (rootN tb)[j]? := rarr_root _ _ _ rfl j h
theorem fin38 : FIN 38 = 0 := by decide +kernel
theorem fin97 : FIN 97 = 2 := by decide +kernel
theorem fin108 : FIN 108 = 4 := by decide +kernel
theorem fin103 : FIN 103 = 3 := by decide +kernel
theorem fin113 : FIN 113 = 8 := by decide +kernel

theorem bne_list (s : ByteArray) (h : s.data.toList ≠ []) : s.toList.isEmpty = false := by
  rw [Lib.toList_data]
  cases hh : s.data.toList with
  | nil => exact absurd hh h
  | cons => rfl

/-- Behind '&amp;'. -/
theorem add1 (n tb : Nat) (w : World) (hR : Blk w n (RC tb) 356) (hT : Blk w tb (nils 11) 351) (hne : n ≠ tb) :
    Calls Tryz.prog 293 #[ptr n, .string ⟨#[38, 97, 109, 112, 59]⟩, .string ⟨#[38]⟩, .int .i64 8, ptr n] w fun e w' => e = .returned (.tuple #[]) ∧
      (Blk w' tb ((nils 11).set 0 (ptr w.heap.size)) 351 ∧ Blk w' w.heap.size (node ⟨#[]⟩ 0 ampS (ptr (w.heap.size + 1)) nilS) 354 ∧ Blk w' (w.heap.size + 1) (leafN ⟨#[38]⟩ 8) 354 ∧ Kept w w' [tb] ∧ w'.heap.size = w.heap.size + 2) := by
  refine add_new n tb n ⟨#[38, 97, 109, 112, 59]⟩ ampS ⟨#[38]⟩ 8 38 0 w (fun e w' => Blk w' tb ((nils 11).set 0 (ptr w.heap.size)) 351 ∧ Blk w' w.heap.size (node ⟨#[]⟩ 0 ampS (ptr (w.heap.size + 1)) nilS) 354 ∧ Blk w' (w.heap.size + 1) (leafN ⟨#[38]⟩ 8) 354 ∧ Kept w w' [tb] ∧ w'.heap.size = w.heap.size + 2)
    (bne_list _ (by simp)) (by decide) (by decide) (by decide) hR.lt hT.lt hne (fun _ => by kernel_rfl) (fun _ => by kernel_rfl) ?_ ?_ ?_ ?_ (hT.frozen 0) ?_
  · exact (hR.cell 2).trans (RC_root tb 2 (by omega))
  · exact (hR.cell 4).trans (RC_root tb 4 (by omega))
  · exact (hR.cell _).trans (RC_map tb 38 (by omega) 0 fin38)
  · exact hT.cell 0
  · intro m
    have hX := Blk.newAt (w.setCell ⟨tb, 0, none⟩ (ptr w.heap.size)) w.heap.size emptyN 354 (by simp)
    have hS : (((w.setCell ⟨tb, 0, none⟩ (ptr w.heap.size)).alloc (.cells emptyN.toArray 354)).drewN m).heap.size = w.heap.size + 1 := by simp
    have := add_plain w.heap.size ampS ⟨#[38]⟩ 8 (ptr n) _ (hX.drewN m) (bne_list _ (by simp [ampS]))
    rw [hS] at this
    refine this.mono ?_
    rintro e w' ⟨he, k1, k2, k3, k4⟩
    refine ⟨he, ?_, k1, k2, ?_, by omega⟩
    · exact k3.blk (((hT.set 0 _).alloc _).drewN m) (by have := hT.lt; simp; omega)
    · exact (((((Kept.refl w [tb]).setCell _ _ (.inl (by simp))).alloc _).drewN m).trans_new k3 (by simp))

/-- The first table's second one, with nothing but '&amp;' and '&lt;' in it. -/
def tab2 (c d : Nat) : List Value := ((nils 11).set 2 (ptr c)).set 4 (ptr d)
/-- What stands behind a node's text, of two blocks: the node, and the leaf. -/
def Leads (w : World) (x y : Nat) (pre val : ByteArray) (pri : Int) : Prop := Blk w x (node ⟨#[]⟩ 0 pre (ptr y) nilS) 354 ∧ Blk w y (leafN val pri) 354

/-- Behind '&lt;'. -/
theorem add2 (n tb a b : Nat) (T : List Value) (w : World) (hR : Blk w n (RC tb) 356) (hT : Blk w tb T 351) (h0 : T[0]? = some (ptr a)) (hA : Blk w a (node ⟨#[]⟩ 0 ampS (ptr b) nilS) 354) (hne : n ≠ a) :
    Calls Tryz.prog 293 #[ptr n, .string ⟨#[38, 108, 116, 59]⟩, .string ⟨#[60]⟩, .int .i64 6, ptr n] w fun e w' => e = .returned (.tuple #[]) ∧
      (Blk w' a (rootN (w.heap.size + 2)) 354 ∧ Blk w' w.heap.size (node ⟨#[]⟩ 0 mpS (ptr b) nilS) 354 ∧ Leads w' (w.heap.size + 1) (w.heap.size + 3) ⟨#[116, 59]⟩ ⟨#[60]⟩ 6 ∧
       Blk w' (w.heap.size + 2) (tab2 w.heap.size (w.heap.size + 1)) 351 ∧ Kept w w' [a] ∧ w'.heap.size = w.heap.size + 4) := by
  refine add_on n tb n a ⟨#[38, 108, 116, 59]⟩ ⟨#[108, 116, 59]⟩ ⟨#[60]⟩ 6 38 0 w (fun e w' => Blk w' a (rootN (w.heap.size + 2)) 354 ∧ Blk w' w.heap.size (node ⟨#[]⟩ 0 mpS (ptr b) nilS) 354 ∧ Leads w' (w.heap.size + 1) (w.heap.size + 3) ⟨#[116, 59]⟩ ⟨#[60]⟩ 6 ∧
       Blk w' (w.heap.size + 2) (tab2 w.heap.size (w.heap.size + 1)) 351 ∧ Kept w w' [a] ∧ w'.heap.size = w.heap.size + 4)
    (bne_list _ (by simp)) (by decide) (by decide) (by decide) (fun _ => by kernel_rfl) (fun _ => by kernel_rfl) ?_ ?_ ?_ ?_ ?_
  · exact (hR.cell 2).trans (RC_root tb 2 (by omega))
  · exact (hR.cell 4).trans (RC_root tb 4 (by omega))
  · exact (hR.cell _).trans (RC_map tb 38 (by omega) 0 fin38)
  · exact (hT.cell 0).trans h0
  · intro m
    refine (add_split a n b (RC tb) (w.drewN m) hne (hA.drewN m) (hR.drewN m) (RC_ts tb) (RC_map tb 97 (by omega) 2 fin97) (RC_map tb 108 (by omega) 4 fin108)).mono ?_
    rintro e w' ⟨he, k1, k2, k3, k4, k5, k6, k7⟩
    exact ⟨he, k1, k2, ⟨k3, k5⟩, k4, ((Kept.refl w [a]).drewN m).trans k6, k7⟩

/-- Behind '&gt;' and '&quot;': a place of the second table that is free. -/
theorem add34 (n tb a t1 : Nat) (T T1 : List Value) (key key1 key2 val : ByteArray) (pri c : Int) (k m : Nat) (w : World) (hR : Blk w n (RC tb) 356) (hT : Blk w tb T 351) (h0 : T[0]? = some (ptr a)) (hA : Blk w a (rootN t1) 354) (hT1 : Blk w t1 T1 351) (hm : m < 11)
    (hT1m : T1[m]? = some (.pointer none)) (hat : a ≠ t1) (hk : key.data.toList ≠ []) (hk1 : key1.data.toList ≠ []) (hk2 : key2.data.toList ≠ []) (hck : c = k) (hk256 : k < 256) (hfin : FIN k = m)
    (hix : ∀ w, (Instr.index 9 (.string key) (.int .i64 0)).run Tryz.prog w = .ok (.int .u8 38) w)
    (hsl : ∀ w, (Instr.slice 9 (.string key) (some (.int .i64 1)) none none).run Tryz.prog w = .ok (.string key1) w)
    (hix1 : ∀ w, (Instr.index 9 (.string key1) (.int .i64 0)).run Tryz.prog w = .ok (.int .u8 c) w)
    (hsl1 : ∀ w, (Instr.slice 9 (.string key1) (some (.int .i64 1)) none none).run Tryz.prog w = .ok (.string key2) w) :
    Calls Tryz.prog 293 #[ptr n, .string key, .string val, .int .i64 pri, ptr n] w fun e w' => e = .returned (.tuple #[]) ∧
      (Blk w' t1 (T1.set m (ptr w.heap.size)) 351 ∧ Leads w' w.heap.size (w.heap.size + 1) key2 val pri ∧ Kept w w' [t1] ∧ w'.heap.size = w.heap.size + 2) := by
  have hin : ∀ j, Calls Tryz.prog 293 #[ptr a, .string key1, .string val, .int .i64 pri, ptr n] (w.drewN j) fun e w' => e = .returned (.tuple #[]) ∧
      (Blk w' t1 (T1.set m (ptr w.heap.size)) 351 ∧ Leads w' w.heap.size (w.heap.size + 1) key2 val pri ∧ Kept w w' [t1] ∧ w'.heap.size = w.heap.size + 2) := by
    intro j
    refine add_new a t1 n key1 key2 val pri c m (w.drewN j) (fun e w' => Blk w' t1 (T1.set m (ptr w.heap.size)) 351 ∧ Leads w' w.heap.size (w.heap.size + 1) key2 val pri ∧ Kept w w' [t1] ∧ w'.heap.size = w.heap.size + 2)
      (bne_list _ hk1) (by omega) (by omega) hm hA.lt hT1.lt hat hix1 hsl1 ?_ ?_ ?_ ?_ (hT1.frozen m) ?_
    · exact hA.cell 2
    · exact hA.cell 4
    · have h6 : (6 + c.toNat) = 6 + k := by omega
      rw [h6]
      exact (hR.cell _).trans (RC_map tb k hk256 m hfin)
    · exact (hT1.cell m).trans hT1m
    · intro i
      have hX := Blk.newAt ((w.drewN j).setCell ⟨t1, m, none⟩ (ptr w.heap.size)) w.heap.size emptyN 354 (by simp)
      have hS : ((((w.drewN j).setCell ⟨t1, m, none⟩ (ptr w.heap.size)).alloc (.cells emptyN.toArray 354)).drewN i).heap.size = w.heap.size + 1 := by simp
      have := add_plain w.heap.size key2 val pri (ptr n) _ (hX.drewN i) (bne_list _ hk2)
      rw [hS] at this
      refine this.mono ?_
      rintro e w' ⟨he, k1, k2, k3, k4⟩
      refine ⟨he, ?_, ⟨k1, k2⟩, ?_, by omega⟩
      · exact k3.blk ((((hT1.drewN j).set m _).alloc _).drewN i) (by have := hT1.lt; simp; omega)
      · exact ((((((Kept.refl w [t1]).drewN j).setCell _ _ (.inl (by simp))).alloc _).drewN i).trans_new k3 (by simp))
  refine add_on n tb n a key key1 val pri 38 0 w _ (bne_list _ hk) (by decide) (by decide) (by decide) hix hsl ?_ ?_ ?_ ?_ hin
  · exact (hR.cell 2).trans (RC_root tb 2 (by omega))
  · exact (hR.cell 4).trans (RC_root tb 4 (by omega))
  · exact (hR.cell _).trans (RC_map tb 38 (by omega) 0 fin38)
  · exact (hT.cell 0).trans h0
end Go.Proofs.YtbhcklkbckacpaaGreatDoor
