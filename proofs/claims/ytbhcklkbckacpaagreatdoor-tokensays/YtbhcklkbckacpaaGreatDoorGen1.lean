/-
  The replacer's tree in memory, addition by addition.
-/
import Derived.Test.YtbhcklkbckacpaaGreatDoorAdds
namespace Go.Proofs.YtbhcklkbckacpaaGreatDoor
open Go.RowKit

/-- The replacer's tree, as it lies in memory. -/
def Trie (w : World) (n : Nat) : Prop := ∃ tb a t1 c b d e f g h i : Nat, Blk w n (RC tb) 356 ∧ Blk w tb ((nils 11).set 0 (ptr a)) 351 ∧ Blk w a (rootN t1) 354 ∧ Blk w t1 (((tab2 c d).set 3 (ptr f)).set 8 (ptr h)) 351 ∧
  Leads w c b mpS ⟨#[38]⟩ 8 ∧ Leads w d e ⟨#[116, 59]⟩ ⟨#[60]⟩ 6 ∧ Leads w f g ⟨#[116, 59]⟩ ⟨#[62]⟩ 4 ∧ Leads w h i ⟨#[117, 111, 116, 59]⟩ ⟨#[34]⟩ 2

/-- The world ahead of the first addition. -/
def genW (wr : World) (n : Nat) : World := (wr.setCell ⟨n, 4, none⟩ (tabV wr.heap.size)).alloc (.cells (nils 11).toArray 351)
theorem genW_facts (w wr : World) (n ob : Nat) (ex : List Value) (hR : Blk wr n (rarr emptyN 11 (GG 256)) 356) (hK : Kept w wr []) (hO : Blk w ob (onCells ++ ex) 9) (hn : n = w.heap.size) :
    Blk (genW wr n) n (RC wr.heap.size) 356 ∧ Blk (genW wr n) wr.heap.size (nils 11) 351 ∧ Blk (genW wr n) ob (onCells ++ ex) 9 ∧ Kept w (genW wr n) [] ∧ (genW wr n).heap.size = wr.heap.size + 1 := by
  subst hn
  refine ⟨?_, ?_, ?_, ?_, ?_⟩
  · have := (hR.set 4 (tabV wr.heap.size)).alloc (.cells (nils 11).toArray 351)
    rw [rarr_set_root emptyN 11 _ rfl 4 (by omega)] at this
    exact this
  · exact Blk.newAt _ _ (nils 11) 351 (by simp)
  · exact ((hK.blk hO (by simp)).other _ _ (by have := hO.lt; simp; omega)).alloc _
  · exact (hK.setCell _ _ (.inr (Nat.le_refl _))).alloc _
  · simp [genW]

/-- What lies there besides: the eight texts, and all that was there. -/
def Bes (w : World) (n ob : Nat) (ex : List Value) (wx : World) : Prop := Blk wx ob (onCells ++ ex) 9 ∧ Kept w wx [] ∧ n = w.heap.size ∧ ob < w.heap.size
/-- The tree behind q additions. -/
def St (w : World) (n ob : Nat) (ex : List Value) (q : Nat) (wx : World) : Prop := Bes w n ob ex wx ∧
  match q with
  | 0 => ∃ tb, n < tb ∧ Blk wx n (RC tb) 356 ∧ Blk wx tb (nils 11) 351
  | 1 => ∃ tb a b, n < tb ∧ n < a ∧ Blk wx n (RC tb) 356 ∧ Blk wx tb ((nils 11).set 0 (ptr a)) 351 ∧ Blk wx a (node ⟨#[]⟩ 0 ampS (ptr b) nilS) 354 ∧ Blk wx b (leafN ⟨#[38]⟩ 8) 354 ∧ tb < a ∧ a < b
  | 2 => ∃ tb a t1 c b d e, n < tb ∧ tb < a ∧ a < b ∧ b < c ∧ c < d ∧ d < t1 ∧ t1 < e ∧ Blk wx n (RC tb) 356 ∧ Blk wx tb ((nils 11).set 0 (ptr a)) 351 ∧ Blk wx a (rootN t1) 354 ∧ Blk wx t1 (tab2 c d) 351 ∧ Leads wx c b mpS ⟨#[38]⟩ 8 ∧ Leads wx d e ⟨#[116, 59]⟩ ⟨#[60]⟩ 6
  | 3 => ∃ tb a t1 c b d e f g, n < tb ∧ tb < a ∧ a < b ∧ b < c ∧ c < d ∧ d < t1 ∧ t1 < e ∧ e < f ∧ f < g ∧ Blk wx n (RC tb) 356 ∧ Blk wx tb ((nils 11).set 0 (ptr a)) 351 ∧ Blk wx a (rootN t1) 354 ∧ Blk wx t1 ((tab2 c d).set 3 (ptr f)) 351 ∧ Leads wx c b mpS ⟨#[38]⟩ 8 ∧ Leads wx d e ⟨#[116, 59]⟩ ⟨#[60]⟩ 6 ∧ Leads wx f g ⟨#[116, 59]⟩ ⟨#[62]⟩ 4
  | _ => Trie wx n

theorem Leads.kept {w w' : World} {S : List Nat} {x y : Nat} {p v : ByteArray} {i : Int} (h : Leads w x y p v i) (k : Kept w w' S) (hx : x ∉ S) (hy : y ∉ S) : Leads w' x y p v i := ⟨k.blk h.1 hx, k.blk h.2 hy⟩
theorem Leads.lt {w : World} {x y : Nat} {p v : ByteArray} {i : Int} (h : Leads w x y p v i) : x < w.heap.size ∧ y < w.heap.size := ⟨h.1.lt, h.2.lt⟩
theorem Bes.kept {w : World} {n ob : Nat} {ex : List Value} {wx w' : World} {S : List Nat} (h : Bes w n ob ex wx) (k : Kept wx w' S) (hS : ∀ x ∈ S, n < x) : Bes w n ob ex w' := by
  obtain ⟨hO, hK, hn, ho⟩ := h
  refine ⟨k.blk hO (fun hm => by have := hS ob hm; omega), ?_, hn, ho⟩
  exact hK.trans_new k (fun x hx => .inr (by have := hS x hx; omega))

theorem step0 (w : World) (n ob : Nat) (ex : List Value) (V : World) (h : St w n ob ex 0 V) : Calls Tryz.prog 293 #[ptr n, .string ⟨#[38, 97, 109, 112, 59]⟩, .string ⟨#[38]⟩, .int .i64 8, ptr n] V.drew fun e w' => e = .returned (.tuple #[]) ∧ St w n ob ex 1 w' := by
  obtain ⟨hB, tb, hnt, hR, hT⟩ := h
  refine (add1 n tb V.drew hR.drew hT.drew (by omega)).mono ?_
  rintro e w' ⟨he, k1, k2, k3, k4, k5⟩
  have hlt := hT.lt
  refine ⟨he, hB.kept ((Kept.refl V [tb]).drew.trans k4) (by simp; omega), tb, V.heap.size, V.heap.size + 1, hnt, by omega, ?_, k1, k2, k3, hlt, by omega⟩
  exact k4.blk hR (by simp; omega)

theorem step1 (w : World) (n ob : Nat) (ex : List Value) (V : World) (h : St w n ob ex 1 V) : Calls Tryz.prog 293 #[ptr n, .string ⟨#[38, 108, 116, 59]⟩, .string ⟨#[60]⟩, .int .i64 6, ptr n] V.drew fun e w' => e = .returned (.tuple #[]) ∧ St w n ob ex 2 w' := by
  obtain ⟨hB, tb, a, b, hnt, hna, hR, hT, hA, hb, hta, hab⟩ := h
  refine (add2 n tb a b _ V.drew hR.drew hT.drew rfl hA.drew (by omega)).mono ?_
  rintro e w' ⟨he, k1, k2, k3, k4, k5, k6⟩
  have hl := hb.lt
  refine ⟨he, hB.kept ((Kept.refl V [a]).drew.trans k5) (by simp; omega), tb, a, V.heap.size + 2, V.heap.size, b, V.heap.size + 1, V.heap.size + 3, hnt, hta, hab, hl, by omega, by omega, by omega, ?_, ?_, k1, k4, ⟨k2, ?_⟩, k3⟩
  · exact k5.blk hR (by simp; omega)
  · exact k5.blk hT (by simp; omega)
  · exact k5.blk hb (by simp; omega)

theorem step2 (w : World) (n ob : Nat) (ex : List Value) (V : World) (h : St w n ob ex 2 V) : Calls Tryz.prog 293 #[ptr n, .string ⟨#[38, 103, 116, 59]⟩, .string ⟨#[62]⟩, .int .i64 4, ptr n] V.drew fun e w' => e = .returned (.tuple #[]) ∧ St w n ob ex 3 w' := by
  obtain ⟨hB, tb, a, t1, c, b, d, e, l1, l2, l3, l4, l5, l6, l7, hR, hT, hA, hT1, hC, hD⟩ := h
  refine (add34 n tb a t1 _ _ ⟨#[38, 103, 116, 59]⟩ ⟨#[103, 116, 59]⟩ ⟨#[116, 59]⟩ ⟨#[62]⟩ 4 103 103 3 V.drew hR.drew hT.drew rfl hA.drew hT1.drew (by omega) rfl (by omega) (by simp) (by simp) (by simp) rfl (by omega) fin103 (fun _ => by kernel_rfl) (fun _ => by kernel_rfl) (fun _ => by kernel_rfl) (fun _ => by kernel_rfl)).mono ?_
  rintro e' w' ⟨he, k1, k2, k3, k4⟩
  have hl := hD.lt.2
  refine ⟨he, hB.kept ((Kept.refl V [t1]).drew.trans k3) (by simp; omega), tb, a, t1, c, b, d, e, V.heap.size, V.heap.size + 1, l1, l2, l3, l4, l5, l6, l7, hl, by omega, ?_, ?_, ?_, k1, ?_, ?_, k2⟩
  · exact k3.blk hR (by simp; omega)
  · exact k3.blk hT (by simp; omega)
  · exact k3.blk hA (by simp; omega)
  · exact hC.kept ((Kept.refl V [t1]).drew.trans k3) (by simp; omega) (by simp; omega)
  · exact hD.kept ((Kept.refl V [t1]).drew.trans k3) (by simp; omega) (by simp; omega)

theorem step3 (w : World) (n ob : Nat) (ex : List Value) (V : World) (h : St w n ob ex 3 V) : Calls Tryz.prog 293 #[ptr n, .string ⟨#[38, 113, 117, 111, 116, 59]⟩, .string ⟨#[34]⟩, .int .i64 2, ptr n] V.drew fun e w' => e = .returned (.tuple #[]) ∧ St w n ob ex 4 w' := by
  obtain ⟨hB, tb, a, t1, c, b, d, e, f, g, l1, l2, l3, l4, l5, l6, l7, l8, l9, hR, hT, hA, hT1, hC, hD, hF⟩ := h
  refine (add34 n tb a t1 _ _ ⟨#[38, 113, 117, 111, 116, 59]⟩ ⟨#[113, 117, 111, 116, 59]⟩ ⟨#[117, 111, 116, 59]⟩ ⟨#[34]⟩ 2 113 113 8 V.drew hR.drew hT.drew rfl hA.drew hT1.drew (by omega) rfl (by omega) (by simp) (by simp) (by simp) rfl (by omega) fin113 (fun _ => by kernel_rfl) (fun _ => by kernel_rfl) (fun _ => by kernel_rfl) (fun _ => by kernel_rfl)).mono ?_
  rintro e' w' ⟨he, k1, k2, k3, k4⟩
  refine ⟨he, hB.kept ((Kept.refl V [t1]).drew.trans k3) (by simp; omega), tb, a, t1, c, b, d, e, f, g, V.heap.size, V.heap.size + 1, ?_, ?_, ?_, k1, ?_, ?_, ?_, k2⟩
  · exact k3.blk hR (by simp; omega)
  · exact k3.blk hT (by simp; omega)
  · exact k3.blk hA (by simp; omega)
  · exact hC.kept ((Kept.refl V [t1]).drew.trans k3) (by simp; omega) (by simp; omega)
  · exact hD.kept ((Kept.refl V [t1]).drew.trans k3) (by simp; omega) (by simp; omega)
  · exact hF.kept ((Kept.refl V [t1]).drew.trans k3) (by simp; omega) (by simp; omega)

/-- An addition, whichever: its two texts, and the tree behind it. -/
theorem step_any (w : World) (n ob : Nat) (ex : List Value) (q : Nat) (V : World) (hq : q < 4) (h : St w n ob ex q V) : ∃ key val : ByteArray, V.cell? ⟨ob, 2 * q, none⟩ = some (.string key) ∧ V.cell? ⟨ob, 2 * q + 1, none⟩ = some (.string val) ∧
    Calls Tryz.prog 293 #[ptr n, .string key, .string val, .int .i64 (8 - 2 * (q : Int)), ptr n] V.drew fun e w' => e = .returned (.tuple #[]) ∧ St w n ob ex (q + 1) w' := by
  have hO := h.1.1
  have : q = 0 ∨ q = 1 ∨ q = 2 ∨ q = 3 := by omega
  rcases this with rfl | rfl | rfl | rfl
  · exact ⟨_, _, hO.cell 0, hO.cell 1, step0 w n ob ex V h⟩
  · exact ⟨_, _, hO.cell 2, hO.cell 3, step1 w n ob ex V h⟩
  · exact ⟨_, _, hO.cell 4, hO.cell 5, step2 w n ob ex V h⟩
  · exact ⟨_, _, hO.cell 6, hO.cell 7, step3 w n ob ex V h⟩

theorem genW_st (w wr : World) (ob : Nat) (ex : List Value) (hR : Blk wr w.heap.size (rarr emptyN 11 (GG 256)) 356) (hK : Kept w wr []) (hO : Blk w ob (onCells ++ ex) 9) : St w w.heap.size ob ex 0 (genW wr w.heap.size) := by
  obtain ⟨g1, g2, g3, g4, g5⟩ := genW_facts w wr w.heap.size ob ex hR hK hO rfl
  exact ⟨⟨g3, g4, rfl, hO.lt⟩, wr.heap.size, hR.lt, g1, g2⟩
end Go.Proofs.YtbhcklkbckacpaaGreatDoor
