/-
  A lookup in the tree of the four ways of writing: what the text begins with when it is read.
-/
import Derived.Test.YtbhcklkbckacpaaGreatDoorLook
import Derived.Test.YtbhcklkbckacpaaGreatDoorG0
import Derived.Lib.IndexBytes
namespace Go.Proofs.YtbhcklkbckacpaaGreatDoor
open Go.RowKit

theorem head_of {w : World} {n tb a t1 : Nat} {T1 : List Value} (hR : Blk w n (RC tb) 356) (hT : Blk w tb ((nils 11).set 0 (ptr a)) 351) (hA : Blk w a (rootN t1) 354) (_ : Blk w t1 T1 351) : Head w n tb a t1 :=
  ⟨(hR.cell 1).trans (RC_root tb 1 (by omega)), (hR.cell 4).trans (RC_root tb 4 (by omega)), (hR.cell 5).trans (RC_ts tb), (hR.cell 44).trans (RC_map tb 38 (by omega) 0 fin38), hT.cell 0, hA.cell 1, hA.cell 4⟩

def lookOf (l : List UInt8) : Value := if (Esc.fst1 l).2 = 1 then look ⟨#[]⟩ 0 false else look ⟨#[(Esc.fst1 l).1]⟩ (Esc.fst1 l).2 true

theorem fst1_a (r : List UInt8) : Esc.fst1 (38 :: 97 :: r) = if ([109, 112, 59] : List UInt8).isPrefixOf r then (38, 5) else (38, 1) := by simp [Esc.fst1, List.isPrefixOf]
theorem fst1_l (r : List UInt8) : Esc.fst1 (38 :: 108 :: r) = if ([116, 59] : List UInt8).isPrefixOf r then (60, 4) else (38, 1) := by simp [Esc.fst1, List.isPrefixOf]
theorem fst1_g (r : List UInt8) : Esc.fst1 (38 :: 103 :: r) = if ([116, 59] : List UInt8).isPrefixOf r then (62, 4) else (38, 1) := by simp [Esc.fst1, List.isPrefixOf]
theorem fst1_q (r : List UInt8) : Esc.fst1 (38 :: 113 :: r) = if ([117, 111, 116, 59] : List UInt8).isPrefixOf r then (34, 6) else (38, 1) := by simp [Esc.fst1, List.isPrefixOf]
theorem fst1_o (x : UInt8) (r : List UInt8) (h1 : x ≠ 97) (h2 : x ≠ 108) (h3 : x ≠ 103) (h4 : x ≠ 113) : Esc.fst1 (38 :: x :: r) = (38, 1) := by
  simp [Esc.fst1, List.isPrefixOf, Ne.symm h1, Ne.symm h2, Ne.symm h3, Ne.symm h4]
theorem fst1_n : Esc.fst1 [38] = (38, 1) := rfl

theorem fin_cases : ∀ x : Fin 256, x.val ≠ 97 → x.val ≠ 108 → x.val ≠ 103 → x.val ≠ 113 → FIN x.val = 11 ∨ (FIN x.val = 0 ∨ FIN x.val = 1 ∨ FIN x.val = 5 ∨ FIN x.val = 6 ∨ FIN x.val = 7 ∨ FIN x.val = 9 ∨ FIN x.val = 10) := by decide +kernel

theorem emp_iff (s : ByteArray) (b : Bool) (h : s.data.toList.isEmpty = b) : s.toList.isEmpty = b := by rw [Lib.toList_data]; exact h
theorem sl_at (s : ByteArray) (k : Nat) (h : k ≤ s.size) (w : World) : (Instr.slice 9 (.string s) (some (.int .i64 k)) none none).run Tryz.prog w = .ok (.string (s.extract k s.size)) w := by
  have := run_slice_string_l w 9 s Tryz.underlying9 .i64 (k : Int) (by omega) (by omega)
  simpa using this
theorem ix_at (s : ByteArray) (x : UInt8) (r : List UInt8) (h : s.data.toList = x :: r) (w : World) : (Instr.index 9 (.string s) (.int .i64 0)).run Tryz.prog w = .ok (.int .u8 x.toNat) w := by
  have hl : 0 < s.size := by rw [Lib.size_eq, h]; simp
  have h0 := run_index_at s 0 hl w
  have hx : s[0]'hl = x := by
    have := Lib.data_getElem? s 0 hl
    rw [h] at this
    simpa using this.symm
  rw [hx] at h0
  exact h0

set_option maxHeartbeats 1600000 in
theorem look_amp (n : Nat) (s : ByteArray) (r : List UInt8) (w : World) (hT : Trie w n) (hs : s.data.toList = 38 :: r) :
    Calls Tryz.prog 360 #[ptr n, .string s, .bool false] w fun e w' => e = .returned (lookOf s.data.toList) ∧ ∃ k, w' = w.drewN k := by
  obtain ⟨tb, a, t1, c, b, d, e, f, g, h, i, hR, hTb, hA, hT1, hC, hD, hF, hH⟩ := hT
  have H := head_of hR hTb hA hT1
  have hsz : s.size = r.length + 1 := by rw [Lib.size_eq, hs]; simp
  have es := emp_iff s false (by rw [hs]; rfl)
  have ix := ix_at s 38 r hs
  have sl := sl_at s 1 (by omega)
  have hs1 : (s.extract 1 s.size).data.toList = r := by rw [Lib.extract_to_end, hs]; rfl
  rw [hs]
  cases r with
  | nil =>
    rw [lookOf, fst1_n]
    exact look_one n tb a t1 s _ w H (emp_iff _ true (by rw [hs1]; rfl)) es ix sl
  | cons x r2 =>
    have es1 := emp_iff (s.extract 1 s.size) false (by rw [hs1]; rfl)
    have ix1 := ix_at (s.extract 1 s.size) x r2 hs1
    have hsz1 : (s.extract 1 s.size).size = r2.length + 1 := by rw [Lib.size_eq, hs1]; simp
    have sl1 := sl_at (s.extract 1 s.size) 1 (by omega)
    have hs2 : ((s.extract 1 s.size).extract 1 (s.extract 1 s.size).size).data.toList = r2 := by rw [Lib.extract_to_end, hs1]; rfl
    generalize s.extract 1 s.size = s1 at *
    generalize s1.extract 1 s1.size = s2 at *
    have hx := x.toNat_lt
    have hmap : ∀ v : Int, FIN x.toNat = v → w.cell? ⟨n, 6 + ((x.toNat : Nat) : Int).toNat, none⟩ = some (.int .u8 v) := fun v hv => by
      rw [Int.toNat_natCast]; exact (hR.cell _).trans (RC_map tb x.toNat hx v hv)
    -- a place of the second table that leads on
    have key : ∀ (m c b : Nat) (pre val : ByteArray) (pri : Int), m < 11 → FIN x.toNat = m → w.cell? ⟨t1, m, none⟩ = some (ptr c) → Leads w c b pre val pri → 0 < pri → pre.data.toList ≠ [] → pre.size ≤ 10 →
        Calls Tryz.prog 360 #[ptr n, .string s, .bool false] w fun e w' => e = .returned (if pre.data.toList.isPrefixOf r2 then look val (2 + pre.size) true else look ⟨#[]⟩ 0 false) ∧ ∃ k, w' = w.drewN k := by
      intro m c b pre val pri hm hfin htm hL hpri hpre hps
      obtain ⟨l1, l2⟩ := hL
      have epre := emp_iff pre false (by cases hh : pre.data.toList with | nil => exact absurd hh hpre | cons => rfl)
      have hm' := hmap m hfin
      cases e2 : s2.data.toList.isEmpty
      · have es2 := emp_iff s2 false e2
        cases hp : pre.data.toList.isPrefixOf r2
        · exact look_miss n tb a t1 m c s s1 s2 pre x.toNat w H hm (by omega) (by omega) hm' htm (l1.cell 1) (l1.cell 2) (l1.cell 4) epre es2 (by rw [hs2]; exact hp) es1 ix1 sl1 es ix sl
        · have hlen : pre.size ≤ s2.size := by rw [Lib.size_eq, Lib.size_eq, hs2]; exact Esc.prefix_le hp
          exact look_hit n tb a t1 c b m pre val s s1 s2 _ x.toNat pri w H hm (by omega) (by omega) hm' htm (l1.cell 1) (l1.cell 2) (l1.cell 3) (l1.cell 4) (l2.cell 0) (l2.cell 1) (l2.cell 2) (l2.cell 4) hpri epre hps es es1 es2 ix ix1 sl sl1 (sl_at s2 pre.size hlen) (by rw [hs2]; exact hp)
      · have hr2 : r2 = [] := by rw [← hs2]; exact List.isEmpty_iff.1 e2
        have hno : pre.data.toList.isPrefixOf r2 = false := by
          rw [hr2]
          cases hh : pre.data.toList with
          | nil => exact absurd hh hpre
          | cons => rfl
        rw [hno]
        exact look_short n tb a t1 m c s s1 s2 x.toNat w H hm (by omega) (by omega) hm' htm (l1.cell 1) (emp_iff s2 true e2) es1 ix1 sl1 es ix sl
    by_cases x1 : x = 97
    · subst x1
      have := key 2 c b mpS ⟨#[38]⟩ 8 (by omega) fin97 (hT1.cell 2) hC (by omega) (by simp [mpS]) (by decide)
      rw [lookOf, fst1_a]
      refine this.mono ?_
      rintro e w' ⟨he, hk⟩
      refine ⟨he.trans ?_, hk⟩
      rw [show mpS.data.toList = [109, 112, 59] from rfl]
      split <;> rfl
    by_cases x2 : x = 108
    · subst x2
      have := key 4 d e ⟨#[116, 59]⟩ ⟨#[60]⟩ 6 (by omega) fin108 (hT1.cell 4) hD (by omega) (by simp) (by decide)
      rw [lookOf, fst1_l]
      refine this.mono ?_
      rintro e w' ⟨he, hk⟩
      refine ⟨he.trans ?_, hk⟩
      rw [show (ByteArray.mk #[116, 59]).data.toList = [116, 59] from rfl]
      split <;> rfl
    by_cases x3 : x = 103
    · subst x3
      have := key 3 f g ⟨#[116, 59]⟩ ⟨#[62]⟩ 4 (by omega) fin103 (hT1.cell 3) hF (by omega) (by simp) (by decide)
      rw [lookOf, fst1_g]
      refine this.mono ?_
      rintro e w' ⟨he, hk⟩
      refine ⟨he.trans ?_, hk⟩
      rw [show (ByteArray.mk #[116, 59]).data.toList = [116, 59] from rfl]
      split <;> rfl
    by_cases x4 : x = 113
    · subst x4
      have := key 8 h i ⟨#[117, 111, 116, 59]⟩ ⟨#[34]⟩ 2 (by omega) fin113 (hT1.cell 8) hH (by omega) (by simp) (by decide)
      rw [lookOf, fst1_q]
      refine this.mono ?_
      rintro e w' ⟨he, hk⟩
      refine ⟨he.trans ?_, hk⟩
      rw [show (ByteArray.mk #[117, 111, 116, 59]).data.toList = [117, 111, 116, 59] from rfl]
      split <;> rfl
    rw [lookOf, fst1_o x r2 x1 x2 x3 x4]
    have ne : ∀ k : UInt8, x ≠ k → x.toNat ≠ k.toNat := fun k hk e => hk (UInt8.toNat_inj.1 e)
    have hno : ∀ m : Nat, m < 11 → FIN x.toNat = m → w.cell? ⟨t1, m, none⟩ = some (.pointer none) → Calls Tryz.prog 360 #[ptr n, .string s, .bool false] w fun e w' => e = .returned (look ⟨#[]⟩ 0 false) ∧ ∃ k, w' = w.drewN k := fun m hm hfin htm =>
      look_nil n tb a t1 m s s1 s2 x.toNat w H hm (by omega) (by omega) (hmap m hfin) htm es1 ix1 sl1 es ix sl
    rcases fin_cases ⟨x.toNat, hx⟩ (ne 97 x1) (ne 108 x2) (ne 103 x3) (ne 113 x4) with h11 | h0 | h0 | h0 | h0 | h0 | h0 | h0
    · exact look_out n tb a t1 s s1 x.toNat w H (by omega) (by omega) (hmap 11 h11) es1 ix1 es ix sl
    · exact hno 0 (by omega) h0 (hT1.cell 0)
    · exact hno 1 (by omega) h0 (hT1.cell 1)
    · exact hno 5 (by omega) h0 (hT1.cell 5)
    · exact hno 6 (by omega) h0 (hT1.cell 6)
    · exact hno 7 (by omega) h0 (hT1.cell 7)
    · exact hno 9 (by omega) h0 (hT1.cell 9)
    · exact hno 10 (by omega) h0 (hT1.cell 10)
end Go.Proofs.YtbhcklkbckacpaaGreatDoor
