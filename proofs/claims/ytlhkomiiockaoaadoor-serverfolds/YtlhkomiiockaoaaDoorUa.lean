/-
  Package ot, its small functions: how long a part is, which one is at hand, how much of it is left.
-/
import Derived.Test.YtlhkomiiockaoaaDoorOq
import Derived.Test.YtlhkomiiockaoaaDoorPf
namespace Go.Proofs.YtlhkomiiockaoaaDoor
open Go.RowKit

def lgV (v : PV) : Int := if v.kind = 2 then (v.m : Int) else v.n
set_option maxRecDepth 100000 in
set_option maxHeartbeats 1600000 in
theorem longp_any (v : PV) (w : World) : Calls Tryd.prog 93 #[.agg #[.int .i64 v.kind, .int .i64 v.n, .slice v.ao v.m v.cap, .int .i64 v.set, .int .i64 v.clr, .bool v.goes, .string v.link]] w fun e w' => e = .returned (.int .i64 (lgV v)) ∧ Below w.heap.size w w' := by
  have H1 : Hid (Below w.heap.size w (boxp v w)) := boxp_below v w
  obtain ⟨r, hr⟩ : ∃ r, lgV v = r := ⟨_, rfl⟩
  rw [hr]
  unfold lgV at hr
  by_cases h2 : v.kind = 2
  · rw [if_pos h2] at hr
    subst hr
    have hk : (v.kind == 2) = true := by simp [h2]
    clear h2
    go_enter Tryd.func93, Tryd.ntmps93
    go_wp2
    go_ret
    exact ⟨rfl, H1.out⟩
  · rw [if_neg h2] at hr
    subst hr
    have hk : (v.kind == 2) = false := by simp [h2]
    clear h2
    go_enter Tryd.func93, Tryd.ntmps93
    go_wp2
    go_ret
    exact ⟨rfl, H1.out⟩
/-- Whether the part at hand is of that kind. -/
def atK (vs : List PV) (k : Int) : Bool := match vs with
  | [] => false
  | v :: _ => v.kind == k
theorem Ops.head {w : World} {ao : Option Addr} {n cap : Nat} {v : PV} {t : List PV} (h : Ops w ao n cap (v :: t)) : ∃ b off, ao = some ⟨b, off, none⟩ ∧ Seven w b off v ∧ 0 < n ∧ n = t.length + 1 := by
  have hl := h.len
  rw [List.length_cons] at hl
  obtain ⟨b, off, e, hG⟩ := h.get (by omega)
  have := hG 0 (by simp)
  rw [Nat.zero_mul, Nat.add_zero] at this
  exact ⟨b, off, e, this, by omega, hl.symm⟩
set_option maxRecDepth 100000 in
set_option maxHeartbeats 1600000 in
theorem isAt_any (b off : Nat) (ao : Option Addr) (n cap : Nat) (vs : List PV) (k : Int) (w : World) (h0 : w.cell? ⟨b, off, none⟩ = some (.slice ao n cap)) (hO : Ops w ao n cap vs) :
    Calls Tryd.prog 65 #[.pointer (some ⟨b, off, none⟩), .int .i64 k] w fun e w' => e = .returned (.bool (atK vs k)) ∧ w' = w := by
  cases vs with
  | nil =>
    have hn : n = 0 := hO.len.symm
    subst hn
    clear hO
    go_enter Tryd.func65, Tryd.ntmps65
    go_wp2
    go_ret
    exact ⟨rfl, rfl⟩
  | cons v t =>
    obtain ⟨pb, po, rfl, hsv, hn, -⟩ := hO.head
    have c0 := hsv.c0
    have hn' : (0 : Int) < (n : Int) := by omega
    have hd : decide (0 < n) = true := by simp [hn]
    have hbig := hO.row.big
    have hroom := hO.row.room
    clear hO hsv
    unfold atK
    simp only
    generalize v.kind = q at *
    go_enter Tryd.func65, Tryd.ntmps65
    go_wp2
    go_ret
    exact ⟨rfl, rfl⟩

set_option maxRecDepth 100000 in
set_option maxHeartbeats 1600000 in
theorem left_any (b off : Nat) (ao : Option Addr) (n cap : Nat) (v : PV) (t : List PV) (g : Nat) (w : World) (h0 : w.cell? ⟨b, off, none⟩ = some (.slice ao n cap)) (h1 : w.cell? ⟨b, off + 1, none⟩ = some (.int .i64 g)) (hO : Ops w ao n cap (v :: t)) (hg : (g : Int) ≤ lgV v) (hl : lgV v ≤ 1000) :
    Calls Tryd.prog 80 #[.pointer (some ⟨b, off, none⟩)] w fun e w' => e = .returned (.int .i64 (lgV v - g)) ∧ Below w.heap.size w w' := by
  obtain ⟨pb, po, rfl, hsv, hn, -⟩ := hO.head
  obtain ⟨c0, c1, c2, c3, c4, c5, c6⟩ := hsv
  have hn' : (0 : Int) < (n : Int) := by omega
  have hbig := hO.row.big
  have hroom := hO.row.room
  have CL : Hid (∀ w', Calls Tryd.prog 93 #[.agg #[.int .i64 v.kind, .int .i64 v.n, .slice v.ao v.m v.cap, .int .i64 v.set, .int .i64 v.clr, .bool v.goes, .string v.link]] w' fun e w'' => e = .returned (.int .i64 (lgV v)) ∧ Below w'.heap.size w' w'') := fun w' => longp_any v w'
  have HB : Hid (∀ w', Below w.heap.size w.drew w' → w'.cell? ⟨b, off + 1, none⟩ = some (.int .i64 g)) := fun w' hb => (hb.cell (p := ⟨b, off + 1, none⟩) (cell_lt h1)).trans h1
  have HF : Hid (∀ w', Below w.heap.size w.drew w' → Below w.heap.size w w') := fun w' hb => (Below.refl _ _).drew.trans hb
  clear hO
  have hwr : wrap64 (lgV v - g) = lgV v - g := by unfold wrap64; omega
  have hwi : IntKind.i64.wrap (lgV v - g) = lgV v - g := IntWalk.i64_in _ ⟨by omega, by omega⟩
  generalize lgV v = L at *
  go_enter Tryd.func80, Tryd.ntmps80
  go_upto_region 1 with fail
  go_region_with ((go_at_call 93; refine (CL.out _).mono ?_; rintro e w1 ⟨rfl, hb⟩; have hq := HB.out _ hb; have HFF := HF.out _ hb; clear hb))
  all_goals
    go_wp2
    go_ret
    exact ⟨rfl, by assumption⟩
end Go.Proofs.YtlhkomiiockaoaaDoor
