/-
  Texts of this proof, one behind the other.
-/
import Derived.Test.YtbhcklkbckacpaaGreatDoorXq
import Derived.Test.YtbhcklkbckacpaaGreatDoorG10
import Derived.Test.YtbhcklkbckacpaaGreatDoorG3
import Derived.Test.YtbhcklkbckacpaaGreatDoorG6
import Derived.Test.YtbhcklkbckacpaaGreatDoorG2

/-
  The closed fact 'exported', and the law ExportSays: it returns true at whatever list of items.
-/
namespace Go.Proofs.YtbhcklkbckacpaaGreatDoor
open Go.RowKit

def smallPage : List UInt8 := [60, 104, 49, 62, 97, 60, 98, 62, 98, 60, 47, 98, 62, 60, 47, 104, 49, 62, 60, 117, 108, 62, 60, 108, 105, 62, 60, 97, 32, 104, 114, 101].append [102, 61, 34, 104, 116, 116, 112, 58, 38, 97, 109, 112, 59, 34, 62, 38, 108, 116, 59, 60, 47, 97, 62, 60, 47, 108, 105, 62, 60, 47, 117, 108, 62]
theorem small_page : Dc.page smallDoc = smallPage := by decide +kernel

end Go.Proofs.YtbhcklkbckacpaaGreatDoor

/-
  The laws' closed fact of a page: paged.
-/
namespace Go.Proofs.YtbhcklkbckacpaaGreatDoor
open Go.RowKit

structure Tz (w : World) : Prop where
  tabs : Tabs w
  bn : Bn w
  hn : Hn w
  mx : Mxl w
theorem Tz.zt {w : World} (h : Tz w) : Zt w w.heap.size := ⟨h.bn, h.hn, h.tabs.sch, h.bn.pos, h.hn.pos, h.tabs.sch.pos⟩
theorem Tz.env {w : World} (h : Tz w) : Env w w.heap.size := by
  obtain ⟨m, hm⟩ := h.mx
  exact ⟨h.tabs.pairs, ⟨m, hm⟩, ⟨h.tabs.pairs.pos, World.block_lt_of_cell? _ _ hm⟩, Nat.le_refl _⟩
theorem Tz.below {w w' : World} (h : Tz w) (hb : Below w.heap.size w w') : Tz w' :=
  ⟨h.tabs.below hb, h.bn.below hb h.bn.pos, h.hn.below hb h.hn.pos, by obtain ⟨m, hm⟩ := h.mx; exact ⟨m, cell_under hm hb⟩⟩

def pagedL : List UInt8 := [97, 60, 98, 62, 98, 60, 47, 98, 62, 60, 104, 49, 62, 60, 47, 104, 49, 62, 60, 115, 99, 114, 105, 112, 116, 62, 120, 60, 47, 115, 99, 114, 105, 112, 116, 62]
def pagedD : List It := [⟨97, 0, B []⟩, ⟨98, 1, B []⟩, ⟨10, 0, B []⟩, ⟨10, 1, B []⟩]
set_option maxRecDepth 100000 in
theorem paged_read : Sn.read (Tk.toks pagedL) = some pagedD := by rfl
def constW (w : World) (l : List UInt8) : World := w.alloc (.cells (l.map b8).toArray 5 (l.length, l.length + 1))
theorem paged_fit : Fit pagedD := by
  intro x hx
  simp only [pagedD, List.mem_cons, List.not_mem_nil, or_false] at hx
  rcases hx with rfl | rfl | rfl | rfl <;> exact Nat.zero_le _
theorem paged_at (w : World) : Doc (w.alloc (.cells (itCells pagedD).toArray 39)) (some ⟨w.heap.size, 0, none⟩) 4 4 pagedD :=
  ⟨paged_fit, rfl, Nat.le_refl _, by decide, fun _ => ⟨_, _, rfl, at_block (heap_alloc_new ..)⟩⟩
theorem dsame_self : ∀ l : List It, Dc.same l l = true
  | [] => rfl
  | x :: t => by
    show (Dc.alike x x && Dc.same t t) = true
    rw [dsame_self t]
    unfold Dc.alike
    simp

set_option maxRecDepth 100000 in
set_option maxHeartbeats 3200000 in
theorem paged_any (w : World) (hT : Tz w) : Calls Tryz.prog 14 #[] w fun e w' => e = .returned (.bool true) ∧ Below w.heap.size w w' := by
  have HT : Hid (Tz w) := hT
  clear hT
  have CP : Hid (∀ ao w, Doc w ao 5 5 smallDoc → Tabs w → Calls Tryz.prog 66 #[.slice ao 5 5] w fun e w' => e = .returned (.tuple #[.string (B smallPage), .int .i64 0]) ∧ Below w.heap.size w w') := fun ao w hD hS => by
    have := page_any ao 5 5 smallDoc w hD hS
    rw [small_page, small_check] at this
    exact this
  go_enter Tryz.func14, Tryz.ntmps14
  go_wp2_with fail
  refine (smallD _).mono ?_
  rintro e w1 ⟨rfl, hd, hb⟩
  have H1 : Hid (Below w.heap.size w w1) := hb
  have D1 : Hid (Doc w1 (some ⟨w.heap.size, 0, none⟩) 5 5 smallDoc) := hd
  have T1 : Hid (Tz w1) := HT.out.below hb
  clear hb hd
  go_wp2_with fail
  refine (CP.out _ _ D1.out T1.out.tabs).mono ?_
  rintro e w2 ⟨rfl, hb⟩
  have H2 : Hid (Below w.heap.size w w2) := H1.out.trans (hb.mono H1.out.size)
  have T2 : Hid (Tz w2) := T1.out.below hb
  clear hb D1 T1 H1 CP
  have heq : (B smallPage).toList = smallPage := by rw [Lib.toList_data, B_data]
  have hb1 : Below w2.heap.size w2 (constW w2 tornL) := (Below.refl _ _).alloc (Nat.le_refl _) _
  have hB : Byt (constW w2 tornL) (some ⟨w2.heap.size, 0, none⟩) 21 21 tornL := row_new w2 1 21 (tornL.map b8) 5 (21, 22) rfl (by decide)
  have C1 := tpage_ok _ 21 21 tornL (constW w2 tornL) hB (T2.out.below hb1).env (by decide)
  rw [torn_toks] at C1
  have HC : Hid (Calls Tryz.prog 9 #[.slice (some ⟨w2.heap.size, 0, none⟩) 21 21] (constW w2 tornL) fun e w' => (∃ ao' cap', e = .returned (.tuple #[.slice ao' 3 cap', .int .i64 0]) ∧ Tks w' ao' 3 cap' tornT) ∧ Below (constW w2 tornL).heap.size (constW w2 tornL) w') := C1
  have H3 : Hid (Below w.heap.size w (constW w2 tornL)) := H2.out.trans (hb1.mono H2.out.size)
  have T3 : Hid (Tz (constW w2 tornL)) := T2.out.below hb1
  have hcs := Lib.run_convert_bytes_const (P := Tryz.prog) w2 22 5 (tornL.map b8).toArray 21 21 Tryz.underlying22 Tryz.underlying5
  change (convert 22 22 _).run Tryz.prog (w2.alloc (.cells #[.int .u8 60, .int .u8 97, .int .u8 32, .int .u8 104, .int .u8 114, .int .u8 101, .int .u8 102, .int .u8 61, .int .u8 39, .int .u8 120, .int .u8 39, .int .u8 62, .int .u8 38, .int .u8 108, .int .u8 116, .int .u8 59, .int .u8 60, .int .u8 33, .int .u8 45, .int .u8 45, .int .u8 121] 5)) = .ok _ (constW w2 tornL) at hcs
  clear hB C1 hb1
  generalize constW w2 tornL = wt at *
  go_wp2_with fail
  refine HC.out.mono ?_
  rintro e w4 ⟨⟨ao', cap', rfl, hT⟩, hb⟩
  have HTK : Hid (Tks w4 ao' 3 cap' tornT) := hT
  have H4 : Hid (Below w.heap.size w w4) := H3.out.trans (hb.mono H3.out.size)
  have T4 : Hid (Tz w4) := T3.out.below hb
  clear hT hb hcs HC H3 T3
  have hb1 : Below w4.heap.size w4 (constW w4 pagedL) := (Below.refl _ _).alloc (Nat.le_refl _) _
  have hB : Byt (constW w4 pagedL) (some ⟨w4.heap.size, 0, none⟩) 36 36 pagedL := row_new w4 1 36 (pagedL.map b8) 5 (36, 37) rfl (by decide)
  have C1 := zpage_ok _ 36 36 pagedL (constW w4 pagedL) hB (T4.out.below hb1).env (T4.out.below hb1).zt (by decide)
  rw [paged_read] at C1
  have HC : Hid (Calls Tryz.prog 13 #[.slice (some ⟨w4.heap.size, 0, none⟩) 36 36] (constW w4 pagedL) fun e w' => (∃ ao cap, e = .returned (.tuple #[.slice ao 4 cap, .int .i64 0]) ∧ Doc w' ao 4 cap pagedD) ∧ Below (constW w4 pagedL).heap.size (constW w4 pagedL) w') := C1
  have H5 : Hid (Below w.heap.size w (constW w4 pagedL)) := H4.out.trans (hb1.mono H4.out.size)
  have K5 : Hid (Tks (constW w4 pagedL) ao' 3 cap' tornT) := HTK.out.below hb1
  have hcs := Lib.run_convert_bytes_const (P := Tryz.prog) w4 22 5 (pagedL.map b8).toArray 36 36 Tryz.underlying22 Tryz.underlying5
  change (convert 22 22 _).run Tryz.prog (w4.alloc (.cells #[.int .u8 97, .int .u8 60, .int .u8 98, .int .u8 62, .int .u8 98, .int .u8 60, .int .u8 47, .int .u8 98, .int .u8 62, .int .u8 60, .int .u8 104, .int .u8 49, .int .u8 62, .int .u8 60, .int .u8 47, .int .u8 104, .int .u8 49, .int .u8 62, .int .u8 60, .int .u8 115, .int .u8 99, .int .u8 114, .int .u8 105, .int .u8 112, .int .u8 116, .int .u8 62, .int .u8 120, .int .u8 60, .int .u8 47, .int .u8 115, .int .u8 99, .int .u8 114, .int .u8 105, .int .u8 112, .int .u8 116, .int .u8 62] 5)) = .ok _ (constW w4 pagedL) at hcs
  clear hB C1 hb1
  generalize constW w4 pagedL = wp at *
  go_wp2_with fail
  refine HC.out.mono ?_
  rintro e w5 ⟨⟨ao2, cap2, rfl, hD⟩, hb⟩
  have HD : Hid (Doc w5 ao2 4 cap2 pagedD) := hD
  have K6 : Hid (Tks w5 ao' 3 cap' tornT) := K5.out.below hb
  have H6 : Hid (Below w.heap.size w w5) := H5.out.trans (hb.mono H5.out.size)
  clear hD hb hcs HC
  go_wp2_with fail
  refine (equalTk_any ao' (some ⟨w5.heap.size, 0, none⟩) 3 cap' 3 3 tornT tornT (w5.alloc (.cells (tkCells tornT).toArray 30)) (K6.out.below ((Below.refl _ _).alloc (Nat.le_refl _) _)) (row_new w5 4 3 (tkCells tornT) 30 (0, 0) rfl (by decide))).mono ?_
  rintro e w6 ⟨rfl, m, rfl⟩
  rw [Tk.same_self]
  have hb7 : Below w5.heap.size w5 ((w5.alloc (.cells (tkCells tornT).toArray 30)).drewN m) := Go.below_drewN ((Below.refl _ _).alloc (Nat.le_refl _) _) m
  have H7 : Hid (Below w.heap.size w ((w5.alloc (.cells (tkCells tornT).toArray 30)).drewN m)) := H6.out.trans (hb7.mono H6.out.size)
  have D7 : Hid (Doc ((w5.alloc (.cells (tkCells tornT).toArray 30)).drewN m) ao2 4 cap2 pagedD) := HD.out.below hb7
  clear hb7
  generalize (w5.alloc (.cells (tkCells tornT).toArray 30)).drewN m = w7 at *
  go_wp2_with fail
  refine (same_any ao2 (some ⟨w7.heap.size, 0, none⟩) 4 cap2 4 4 pagedD pagedD (w7.alloc (.cells (itCells pagedD).toArray 39)) (D7.out.below ((Below.refl _ _).alloc (Nat.le_refl _) _)) (paged_at w7)).mono ?_
  rintro e w8 ⟨rfl, m2, rfl⟩
  rw [dsame_self]
  have H8 : Hid (Below w.heap.size w ((w7.alloc (.cells (itCells pagedD).toArray 39)).drewN m2)) := Go.below_drewN (H7.out.alloc H7.out.size _) m2
  generalize (w7.alloc (.cells (itCells pagedD).toArray 39)).drewN m2 = w9 at *
  go_wp2
  go_ret
  exact ⟨rfl, H8.out⟩
end Go.Proofs.YtbhcklkbckacpaaGreatDoor

/-
  SanitizeBack: what is made of a page is a document; what is written of a document is read as itself.
-/
namespace Go.Proofs.YtbhcklkbckacpaaGreatDoor
open Go.RowKit

end Go.Proofs.YtbhcklkbckacpaaGreatDoor

/-
  SanitizeHides: what stands in what is hidden doesn't matter, nor do other tags.
-/
namespace Go.Proofs.YtbhcklkbckacpaaGreatDoor
open Go.RowKit

theorem zread_any (w : World) (ao : Option Addr) (n cap : Nat) (l : List UInt8) (hB : Byt w ao n cap l) (hT : Tz w) (hn : n ≤ 20000) (r : Option (List It)) (hr : Sn.read (Tk.toks l) = r) : Calls Tryz.prog 13 #[.slice ao n cap] w fun e w' => (∃ ao' cap', e = .returned (.tuple #[.slice ao' (r.getD []).length cap', .int .i64 (if r.isNone then 2 else 0)]) ∧ Doc w' ao' (r.getD []).length cap' (r.getD [])) ∧ Below w.heap.size w w' := by
  have := zpage_ok ao n cap l w hB hT.env hT.zt hn
  rw [hr] at this
  cases r with
  | some d => exact this
  | none => exact this.mono fun e w' h => ⟨⟨none, 0, h.1, fun x hx => (by cases hx), rfl, Nat.le_refl _, by decide, fun h0 => absurd rfl h0⟩, h.2⟩
def hx0 (li : List UInt8) : ByteArray := (⟨#[60, 115, 99, 114, 105, 112, 116, 62]⟩ ++ B li ++ ⟨#[60, 47, 115, 99, 114, 105, 112, 116, 62]⟩)
def hx1 (li : List UInt8) : ByteArray := (⟨#[60, 83, 84, 89, 76, 69, 32, 120, 61, 121, 62]⟩ ++ B li ++ ⟨#[60, 47, 115, 116, 121, 108, 101, 62]⟩)
def hx2 : ByteArray := ⟨#[60, 117, 62, 60, 47, 117, 62]⟩
def hx3 : ByteArray := ⟨#[60, 115, 112, 97, 110, 62]⟩
end Go.Proofs.YtbhcklkbckacpaaGreatDoor

/-
  What is written of a document is short, and its items are good; the bytes of a text as a row.
-/
namespace Go.Proofs.YtbhcklkbckacpaaGreatDoor
open Go.RowKit

end Go.Proofs.YtbhcklkbckacpaaGreatDoor
