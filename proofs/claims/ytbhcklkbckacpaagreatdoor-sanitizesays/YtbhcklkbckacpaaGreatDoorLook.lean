/-
  (*strings.genericReplacer).lookup in the tree of the four ways of writing.
-/
import Derived.Test.YtbhcklkbckacpaaGreatDoorG1
import Derived.Test.YtbhcklkbckacpaaGreatDoorG0
namespace Go.Proofs.YtbhcklkbckacpaaGreatDoor
open Go.RowKit

def look (val : ByteArray) (n : Int) (b : Bool) : Value := .tuple #[.string val, .int .i64 n, .bool b]

set_option maxRecDepth 100000 in
set_option maxHeartbeats 1600000 in
theorem look_empty (n tb : Nat) (w : World) (hR : Blk w n (RC tb) 356) :
    Calls Tryz.prog 360 #[ptr n, .string ⟨#[]⟩, .bool false] w fun e w' => e = .returned (look ⟨#[]⟩ 0 false) ∧ ∃ k, w' = w.drewN k := by
  have h1 : w.cell? ⟨n, 1, none⟩ = some (.int .i64 0) := (hR.cell 1).trans (RC_root tb 1 (by omega))
  clear hR
  go_enter Tryz.func360, Tryz.ntmps360
  go_wp2_with fail
  refine wp_loop_rounds 1 ?_
  rw [rounds_succ]
  go_wp2
  go_ret3
  exact ⟨rfl, 0, rfl⟩

structure Head (w : World) (n tb a t1 : Nat) : Prop where
  h1 : w.cell? ⟨n, 1, none⟩ = some (.int .i64 0)
  h4 : w.cell? ⟨n, 4, none⟩ = some (.slice (some ⟨tb, 0, none⟩) 11 11)
  h5 : w.cell? ⟨n, 5, none⟩ = some (.int .i64 11)
  h38 : w.cell? ⟨n, 44, none⟩ = some (.int .u8 0)
  t0 : w.cell? ⟨tb, 0, none⟩ = some (ptr a)
  a1 : w.cell? ⟨a, 1, none⟩ = some (.int .i64 0)
  a4 : w.cell? ⟨a, 4, none⟩ = some (.slice (some ⟨t1, 0, none⟩) 11 11)

set_option maxRecDepth 100000 in
set_option maxHeartbeats 3200000 in
theorem look_hit (n tb a t1 c b m : Nat) (pre val s s1 s2 s3 : ByteArray) (x pri : Int) (w : World) (H : Head w n tb a t1)
    (hm : m < 11) (hx0 : 0 ≤ x) (hx1 : x < 256) (hxm : w.cell? ⟨n, 6 + x.toNat, none⟩ = some (.int .u8 m)) (htm : w.cell? ⟨t1, m, none⟩ = some (ptr c))
    (c1 : w.cell? ⟨c, 1, none⟩ = some (.int .i64 0)) (c2 : w.cell? ⟨c, 2, none⟩ = some (.string pre)) (c3 : w.cell? ⟨c, 3, none⟩ = some (ptr b)) (c4 : w.cell? ⟨c, 4, none⟩ = some nilS)
    (d0 : w.cell? ⟨b, 0, none⟩ = some (.string val)) (d1 : w.cell? ⟨b, 1, none⟩ = some (.int .i64 pri)) (d2 : w.cell? ⟨b, 2, none⟩ = some (.string ⟨#[]⟩)) (d4 : w.cell? ⟨b, 4, none⟩ = some nilS) (hpri : 0 < pri)
    (hpre : pre.toList.isEmpty = false) (hps : pre.size ≤ 10)
    (es : s.toList.isEmpty = false) (es1 : s1.toList.isEmpty = false) (es2 : s2.toList.isEmpty = false)
    (ix : ∀ w, (Instr.index 9 (.string s) (.int .i64 0)).run Tryz.prog w = .ok (.int .u8 38) w)
    (ix1 : ∀ w, (Instr.index 9 (.string s1) (.int .i64 0)).run Tryz.prog w = .ok (.int .u8 x) w)
    (sl : ∀ w, (Instr.slice 9 (.string s) (some (.int .i64 1)) none none).run Tryz.prog w = .ok (.string s1) w)
    (sl1 : ∀ w, (Instr.slice 9 (.string s1) (some (.int .i64 1)) none none).run Tryz.prog w = .ok (.string s2) w)
    (sl2 : ∀ w, (Instr.slice 9 (.string s2) (some (.int .i64 pre.size)) none none).run Tryz.prog w = .ok (.string s3) w)
    (hp : Hid (Lib.hasPrefix s2.data.toList pre.data.toList = true)) :
    Calls Tryz.prog 360 #[ptr n, .string s, .bool false] w fun e w' => e = .returned (look val (2 + pre.size) true) ∧ ∃ k, w' = w.drewN k := by
  obtain ⟨h1, h4, h5, h38, t0, a1, a4⟩ := H
  have hnq := fun w => run_neq_slice_nil (P := Tryz.prog) w 352 351 (some ⟨tb, 0, none⟩) 11 11 Tryz.underlying352
  have hnq1 := fun w => run_neq_slice_nil (P := Tryz.prog) w 352 351 (some ⟨t1, 0, none⟩) 11 11 Tryz.underlying352
  have hnq2 := fun w => run_neq_slice_nil (P := Tryz.prog) w 352 351 none 0 0 Tryz.underlying352
  have hne : ((m : Int) == 11) = false := beq_eq_false_iff_ne.2 (by omega)
  have HHP : Hid (∀ w, Calls Tryz.prog 57 #[.string s2, .string pre] w fun e w' => e = .returned (.bool true) ∧ w' = w) := fun w => by
    have := Tryz.strings_HasPrefix s2 pre w
    rw [hp.out] at this
    exact this
  go_enter Tryz.func360, Tryz.ntmps360
  go_wp2_with fail
  refine wp_loop_rounds 4 ?_
  rw [rounds_succ]
  go_wp2_with fail
  go_quiet (fail)
  go_wp2_with fail
  rw [rounds_succ]
  go_wp2_with fail
  go_quiet (fail)
  go_wp2_with fail
  rw [rounds_succ]
  go_wp2_with fail
  refine (HHP.out _).mono ?_
  rintro e w1 ⟨rfl, hw1⟩
  rw [hw1]
  clear hw1
  go_wp2_with fail
  rw [rounds_succ]
  cases es3 : s3.toList.isEmpty
  all_goals
    go_wp2
    go_ret3
    exact ⟨rfl, _, rfl⟩

set_option maxRecDepth 100000 in
set_option maxHeartbeats 3200000 in
theorem look_one (n tb a t1 : Nat) (s s1 : ByteArray) (w : World) (H : Head w n tb a t1)
    (es1 : s1.toList.isEmpty = true)
    (es : s.toList.isEmpty = false)
    (ix : ∀ w, (Instr.index 9 (.string s) (.int .i64 0)).run Tryz.prog w = .ok (.int .u8 38) w)
    (sl : ∀ w, (Instr.slice 9 (.string s) (some (.int .i64 1)) none none).run Tryz.prog w = .ok (.string s1) w) :
    Calls Tryz.prog 360 #[ptr n, .string s, .bool false] w fun e w' => e = .returned (look ⟨#[]⟩ 0 false) ∧ ∃ k, w' = w.drewN k := by
  obtain ⟨h1, h4, h5, h38, t0, a1, a4⟩ := H
  have hnq := fun w => run_neq_slice_nil (P := Tryz.prog) w 352 351 (some ⟨tb, 0, none⟩) 11 11 Tryz.underlying352
  have hnq1 := fun w => run_neq_slice_nil (P := Tryz.prog) w 352 351 (some ⟨t1, 0, none⟩) 11 11 Tryz.underlying352
  have hnq2 := fun w => run_neq_slice_nil (P := Tryz.prog) w 352 351 none 0 0 Tryz.underlying352
  go_enter Tryz.func360, Tryz.ntmps360
  go_wp2_with fail
  refine wp_loop_rounds 4 ?_
  rw [rounds_succ]
  go_wp2_with fail
  go_quiet (fail)
  go_wp2_with fail
  rw [rounds_succ]
  go_wp2
  go_ret3
  exact ⟨rfl, _, rfl⟩

set_option maxRecDepth 100000 in
set_option maxHeartbeats 3200000 in
theorem look_out (n tb a t1 : Nat) (s s1 : ByteArray) (x : Int) (w : World) (H : Head w n tb a t1)
    (hx0 : 0 ≤ x) (hx1 : x < 256) (hxm : w.cell? ⟨n, 6 + x.toNat, none⟩ = some (.int .u8 11))
    (es1 : s1.toList.isEmpty = false)
    (ix1 : ∀ w, (Instr.index 9 (.string s1) (.int .i64 0)).run Tryz.prog w = .ok (.int .u8 x) w)
    (es : s.toList.isEmpty = false)
    (ix : ∀ w, (Instr.index 9 (.string s) (.int .i64 0)).run Tryz.prog w = .ok (.int .u8 38) w)
    (sl : ∀ w, (Instr.slice 9 (.string s) (some (.int .i64 1)) none none).run Tryz.prog w = .ok (.string s1) w) :
    Calls Tryz.prog 360 #[ptr n, .string s, .bool false] w fun e w' => e = .returned (look ⟨#[]⟩ 0 false) ∧ ∃ k, w' = w.drewN k := by
  obtain ⟨h1, h4, h5, h38, t0, a1, a4⟩ := H
  have hnq := fun w => run_neq_slice_nil (P := Tryz.prog) w 352 351 (some ⟨tb, 0, none⟩) 11 11 Tryz.underlying352
  have hnq1 := fun w => run_neq_slice_nil (P := Tryz.prog) w 352 351 (some ⟨t1, 0, none⟩) 11 11 Tryz.underlying352
  have hnq2 := fun w => run_neq_slice_nil (P := Tryz.prog) w 352 351 none 0 0 Tryz.underlying352
  go_enter Tryz.func360, Tryz.ntmps360
  go_wp2_with fail
  refine wp_loop_rounds 4 ?_
  rw [rounds_succ]
  go_wp2_with fail
  go_quiet (fail)
  go_wp2_with fail
  rw [rounds_succ]
  go_wp2_with fail
  go_quiet (fail)
  go_wp2_with fail
  go_ret3
  exact ⟨rfl, _, rfl⟩

set_option maxRecDepth 100000 in
set_option maxHeartbeats 3200000 in
theorem look_nil (n tb a t1 m : Nat) (s s1 s2 : ByteArray) (x : Int) (w : World) (H : Head w n tb a t1)
    (hm : m < 11) (hx0 : 0 ≤ x) (hx1 : x < 256) (hxm : w.cell? ⟨n, 6 + x.toNat, none⟩ = some (.int .u8 m))
    (htm : w.cell? ⟨t1, m, none⟩ = some (.pointer none))
    (es1 : s1.toList.isEmpty = false)
    (ix1 : ∀ w, (Instr.index 9 (.string s1) (.int .i64 0)).run Tryz.prog w = .ok (.int .u8 x) w)
    (sl1 : ∀ w, (Instr.slice 9 (.string s1) (some (.int .i64 1)) none none).run Tryz.prog w = .ok (.string s2) w)
    (es : s.toList.isEmpty = false)
    (ix : ∀ w, (Instr.index 9 (.string s) (.int .i64 0)).run Tryz.prog w = .ok (.int .u8 38) w)
    (sl : ∀ w, (Instr.slice 9 (.string s) (some (.int .i64 1)) none none).run Tryz.prog w = .ok (.string s1) w) :
    Calls Tryz.prog 360 #[ptr n, .string s, .bool false] w fun e w' => e = .returned (look ⟨#[]⟩ 0 false) ∧ ∃ k, w' = w.drewN k := by
  obtain ⟨h1, h4, h5, h38, t0, a1, a4⟩ := H
  have hnq := fun w => run_neq_slice_nil (P := Tryz.prog) w 352 351 (some ⟨tb, 0, none⟩) 11 11 Tryz.underlying352
  have hnq1 := fun w => run_neq_slice_nil (P := Tryz.prog) w 352 351 (some ⟨t1, 0, none⟩) 11 11 Tryz.underlying352
  have hnq2 := fun w => run_neq_slice_nil (P := Tryz.prog) w 352 351 none 0 0 Tryz.underlying352
  have hne : ((m : Int) == 11) = false := beq_eq_false_iff_ne.2 (by omega)
  go_enter Tryz.func360, Tryz.ntmps360
  go_wp2_with fail
  refine wp_loop_rounds 4 ?_
  rw [rounds_succ]
  go_wp2_with fail
  go_quiet (fail)
  go_wp2_with fail
  rw [rounds_succ]
  go_wp2_with fail
  go_quiet (fail)
  go_wp2_with fail
  rw [rounds_succ]
  go_wp2
  go_ret3
  exact ⟨rfl, _, rfl⟩

set_option maxRecDepth 100000 in
set_option maxHeartbeats 3200000 in
theorem look_short (n tb a t1 m c : Nat) (s s1 s2 : ByteArray) (x : Int) (w : World) (H : Head w n tb a t1)
    (hm : m < 11) (hx0 : 0 ≤ x) (hx1 : x < 256) (hxm : w.cell? ⟨n, 6 + x.toNat, none⟩ = some (.int .u8 m))
    (htm : w.cell? ⟨t1, m, none⟩ = some (ptr c)) (c1 : w.cell? ⟨c, 1, none⟩ = some (.int .i64 0)) (es2 : s2.toList.isEmpty = true)
    (es1 : s1.toList.isEmpty = false)
    (ix1 : ∀ w, (Instr.index 9 (.string s1) (.int .i64 0)).run Tryz.prog w = .ok (.int .u8 x) w)
    (sl1 : ∀ w, (Instr.slice 9 (.string s1) (some (.int .i64 1)) none none).run Tryz.prog w = .ok (.string s2) w)
    (es : s.toList.isEmpty = false)
    (ix : ∀ w, (Instr.index 9 (.string s) (.int .i64 0)).run Tryz.prog w = .ok (.int .u8 38) w)
    (sl : ∀ w, (Instr.slice 9 (.string s) (some (.int .i64 1)) none none).run Tryz.prog w = .ok (.string s1) w) :
    Calls Tryz.prog 360 #[ptr n, .string s, .bool false] w fun e w' => e = .returned (look ⟨#[]⟩ 0 false) ∧ ∃ k, w' = w.drewN k := by
  obtain ⟨h1, h4, h5, h38, t0, a1, a4⟩ := H
  have hnq := fun w => run_neq_slice_nil (P := Tryz.prog) w 352 351 (some ⟨tb, 0, none⟩) 11 11 Tryz.underlying352
  have hnq1 := fun w => run_neq_slice_nil (P := Tryz.prog) w 352 351 (some ⟨t1, 0, none⟩) 11 11 Tryz.underlying352
  have hnq2 := fun w => run_neq_slice_nil (P := Tryz.prog) w 352 351 none 0 0 Tryz.underlying352
  have hne : ((m : Int) == 11) = false := beq_eq_false_iff_ne.2 (by omega)
  go_enter Tryz.func360, Tryz.ntmps360
  go_wp2_with fail
  refine wp_loop_rounds 4 ?_
  rw [rounds_succ]
  go_wp2_with fail
  go_quiet (fail)
  go_wp2_with fail
  rw [rounds_succ]
  go_wp2_with fail
  go_quiet (fail)
  go_wp2_with fail
  rw [rounds_succ]
  go_wp2
  go_ret3
  exact ⟨rfl, _, rfl⟩

set_option maxRecDepth 100000 in
set_option maxHeartbeats 3200000 in
theorem look_miss (n tb a t1 m c : Nat) (s s1 s2 pre : ByteArray) (x : Int) (w : World) (H : Head w n tb a t1)
    (hm : m < 11) (hx0 : 0 ≤ x) (hx1 : x < 256) (hxm : w.cell? ⟨n, 6 + x.toNat, none⟩ = some (.int .u8 m))
    (htm : w.cell? ⟨t1, m, none⟩ = some (ptr c)) (c1 : w.cell? ⟨c, 1, none⟩ = some (.int .i64 0)) (c2 : w.cell? ⟨c, 2, none⟩ = some (.string pre)) (c4 : w.cell? ⟨c, 4, none⟩ = some nilS)
    (hpre : pre.toList.isEmpty = false) (es2 : s2.toList.isEmpty = false) (hp : Hid (Lib.hasPrefix s2.data.toList pre.data.toList = false))
    (es1 : s1.toList.isEmpty = false)
    (ix1 : ∀ w, (Instr.index 9 (.string s1) (.int .i64 0)).run Tryz.prog w = .ok (.int .u8 x) w)
    (sl1 : ∀ w, (Instr.slice 9 (.string s1) (some (.int .i64 1)) none none).run Tryz.prog w = .ok (.string s2) w)
    (es : s.toList.isEmpty = false)
    (ix : ∀ w, (Instr.index 9 (.string s) (.int .i64 0)).run Tryz.prog w = .ok (.int .u8 38) w)
    (sl : ∀ w, (Instr.slice 9 (.string s) (some (.int .i64 1)) none none).run Tryz.prog w = .ok (.string s1) w) :
    Calls Tryz.prog 360 #[ptr n, .string s, .bool false] w fun e w' => e = .returned (look ⟨#[]⟩ 0 false) ∧ ∃ k, w' = w.drewN k := by
  obtain ⟨h1, h4, h5, h38, t0, a1, a4⟩ := H
  have hnq := fun w => run_neq_slice_nil (P := Tryz.prog) w 352 351 (some ⟨tb, 0, none⟩) 11 11 Tryz.underlying352
  have hnq1 := fun w => run_neq_slice_nil (P := Tryz.prog) w 352 351 (some ⟨t1, 0, none⟩) 11 11 Tryz.underlying352
  have hnq2 := fun w => run_neq_slice_nil (P := Tryz.prog) w 352 351 none 0 0 Tryz.underlying352
  have hne : ((m : Int) == 11) = false := beq_eq_false_iff_ne.2 (by omega)
  have HHP : Hid (∀ w, Calls Tryz.prog 57 #[.string s2, .string pre] w fun e w' => e = .returned (.bool false) ∧ w' = w) := fun w => by
    have := Tryz.strings_HasPrefix s2 pre w
    rw [hp.out] at this
    exact this
  go_enter Tryz.func360, Tryz.ntmps360
  go_wp2_with fail
  refine wp_loop_rounds 4 ?_
  rw [rounds_succ]
  go_wp2_with fail
  go_quiet (fail)
  go_wp2_with fail
  rw [rounds_succ]
  go_wp2_with fail
  go_quiet (fail)
  go_wp2_with fail
  rw [rounds_succ]
  go_wp2_with fail
  refine (HHP.out _).mono ?_
  rintro e w1 ⟨rfl, hw1⟩
  rw [hw1]
  clear hw1
  go_wp2
  go_ret3
  exact ⟨rfl, _, rfl⟩
end Go.Proofs.YtbhcklkbckacpaaGreatDoor
