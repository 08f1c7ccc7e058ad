/-
  The laws' closed fact of one operation; Apply and Tidy, in one form each.
-/
import Derived.Test.YtlhkomiiockaoaaDoorOo
import Derived.Test.YtlhkomiiockaoaaDoorPd
namespace Go.Proofs.YtlhkomiiockaoaaDoor
open Go.RowKit

theorem apply_any (ao ao' : Option Addr) (n cap n' cap' : Nat) (l : List It) (vs : List PV) (w : World) (hD : Doc w ao n cap l) (hO : Ops w ao' n' cap' vs) (hS : Sch w) :
    Calls Tryd.prog 21 #[.slice ao n cap, .slice ao' n' cap'] w fun e w' => (∃ a c, e = .returned (.tuple #[.slice a (Ac.done l (vs.map PV.pt)).length c, .int .i64 (Ac.fitE l (vs.map PV.pt))]) ∧ Doc w' a (Ac.done l (vs.map PV.pt)).length c (Ac.done l (vs.map PV.pt))) ∧ Below w.heap.size w w' := by
  unfold Ac.done
  by_cases h : Ac.fitE l (vs.map PV.pt) = 0
  · rw [if_pos h, h]
    exact apply_ok ao ao' n cap n' cap' l vs w hD hO hS h
  · rw [if_neg h]
    refine (apply_bad ao ao' n cap n' cap' l vs w hD hO hS h).mono ?_
    rintro e w' ⟨he, hb⟩
    exact ⟨⟨none, 0, he, doc_none w'⟩, hb⟩
/-- What an operation is when it is made tidy; nothing where it is none. -/
def Ac.tid (o : List Ac.Pt) : List Ac.Pt := if Ac.chk o = 0 then (Ac.ts o).out else []
theorem ops_nil (w : World) : Ops w none 0 0 [] := ⟨Row.nil w 7, fun v hv => absurd hv (by simp)⟩
theorem Ac.ts_all {o : List Ac.Pt} (h : ∀ p ∈ o, Ac.err1 p = 0) : (Ac.ts o).out ++ Ac.flushP (Ac.ts o).put (Ac.ts o).cut = Ac.tidy o := by
  have := Ac.tdy_fold o ⟨[], [], 0⟩ [] h
  rw [List.append_nil] at this
  unfold Ac.tidy
  rw [show Ac.tdy [] [] 0 (Ac.acts o) = _ from this]
  rfl
/-- Parts that are made tidy, unchecked. -/
theorem made_tidy (ao : Option Addr) (n cap : Nat) (vs : List PV) (w : World) (hO : Ops w ao n cap vs) (hok : ∀ v ∈ vs, Ac.err1 v.pt = 0) (hfew : vs.length ≤ 100) :
    Calls Tryd.prog 26 #[.slice ao n cap] w fun e w' => (∃ tv us, e = .returned tv ∧ Tide w' w.heap.size tv us ∧ us.map PV.pt = Ac.tidy (vs.map PV.pt)) ∧ Below w.heap.size w w' := by
  have hOKL : ∀ p ∈ vs.map PV.pt, Ac.err1 p = 0 := fun p hp => by
    obtain ⟨v, hv, rfl⟩ := List.mem_map.1 hp
    exact hok v hv
  have := tidied0_any ao n cap vs w hO hok hfew
  rw [Ac.ts_all hOKL] at this
  exact this
theorem eql_items (x y : It) (w : World) : (binOp .eql 68 (.agg #[.int .u8 x.c.toNat, .int .i64 x.m, .string x.l]) (.agg #[.int .u8 y.c.toNat, .int .i64 y.m, .string y.l])).run Tryd.prog w = .ok (.bool (Dc.alike x y)) w := by
  rw [run_eql_struct, run_equalIn_agg w 9999 68 _ _ under36 held36]
  have hu := Tryd.underlying68
  simp [go_sem, hu, Program.fieldsOf]
  unfold Dc.alike
  by_cases h1 : (x.c.toNat : Int) = (y.c.toNat : Int)
  · by_cases h2 : x.m = y.m
    · by_cases h3 : x.l.toList = y.l.toList
      · simp [h1, h2, h3]
      · simp [h1, h2, h3]
    · simp [h1, h2]
  · simp [h1]

/-- The operation of the closed fact. -/
def o1V (g : Nat) : List PV := [⟨1, 1, none, 0, 0, [], 2, 1, true, ⟨#[104, 116, 116, 112, 58, 120]⟩⟩, ⟨3, 1, none, 0, 0, [], 0, 0, false, ⟨#[]⟩⟩, ⟨2, 0, some ⟨g, 0, none⟩, 1, 1, [⟨122, 0, ⟨#[]⟩⟩], 0, 0, false, ⟨#[]⟩⟩, ⟨1, 3, none, 0, 0, [], 0, 0, false, ⟨#[]⟩⟩]
def o1P : List Ac.Pt := [⟨1, 1, [], 2, 1, true, ⟨#[104, 116, 116, 112, 58, 120]⟩⟩, ⟨3, 1, [], 0, 0, false, ⟨#[]⟩⟩, ⟨2, 0, [⟨122, 0, ⟨#[]⟩⟩], 0, 0, false, ⟨#[]⟩⟩, ⟨1, 3, [], 0, 0, false, ⟨#[]⟩⟩]
theorem o1_pt (g : Nat) : (o1V g).map PV.pt = o1P := rfl
theorem o1_fit : Ac.fitE smallDoc o1P = 0 := by decide +kernel
theorem o1_chk : Ac.chk o1P = 0 := by decide +kernel
theorem o1_long : Ac.lf o1P = 5 ∧ Ac.lt o1P = 5 := by decide +kernel
theorem o1_made : Ac.done smallDoc o1P = [⟨97, 2, ⟨#[104, 116, 116, 112, 58, 120]⟩⟩, ⟨122, 0, ⟨#[]⟩⟩, ⟨10, 1, ⟨#[]⟩⟩, ⟨60, 0, ⟨#[104, 116, 116, 112, 58, 38]⟩⟩, ⟨10, 2, ⟨#[]⟩⟩] := (its_same _ _).1 (by decide +kernel)
theorem o1_tid : (Ac.tid o1P).map (fun p => p.kind) = [1, 2, 3, 1] := by decide +kernel
/-- Where the closed fact's operation is laid. -/
def o1W (w : World) : World := (w.alloc (.cells #[.int .u8 122, .int .i64 0, .string ⟨#[]⟩] 68)).alloc (.cells #[.int .i64 1, .int .i64 1, .slice none 0 0, .int .i64 2, .int .i64 1, .bool true, .string ⟨#[104, 116, 116, 112, 58, 120]⟩, .int .i64 3, .int .i64 1, .slice none 0 0, .int .i64 0, .int .i64 0, .bool false, .string ⟨#[]⟩, .int .i64 2, .int .i64 0, .slice (some ⟨w.heap.size, 0, none⟩) 1 1, .int .i64 0, .int .i64 0, .bool false, .string ⟨#[]⟩, .int .i64 1, .int .i64 3, .slice none 0 0, .int .i64 0, .int .i64 0, .bool false, .string ⟨#[]⟩] 66)
theorem o1_below (w : World) : Below w.heap.size w (o1W w) := ((Below.refl _ _).alloc (Nat.le_refl _) _).alloc (by simp) _
theorem o1_ops (w : World) : Ops (o1W w) (some ⟨w.heap.size + 1, 0, none⟩) 4 4 (o1V w.heap.size) := by
  have h1 : Blk (w.alloc (.cells #[.int .u8 122, .int .i64 0, .string ⟨#[]⟩] 68)) w.heap.size (itCells [⟨122, 0, ⟨#[]⟩⟩]) 68 := Blk.new w _ _
  have hP : Blk (o1W w) (w.heap.size + 1) (pvCells (o1V w.heap.size)) 66 := Blk.newAt _ _ _ _ (World.size_alloc ..)
  have hI : Blk (o1W w) w.heap.size (itCells [⟨122, 0, ⟨#[]⟩⟩]) 68 := h1.alloc _
  have hA : At (o1W w) w.heap.size 0 [⟨122, 0, ⟨#[]⟩⟩] := at_block hI
  refine ⟨⟨rfl, Nat.le_refl _, by decide, fun _ => ⟨_, 0, rfl, fun j u hu => ?_⟩⟩, fun v hv => ?_⟩
  · rw [Nat.zero_add]
    exact (hP.cell j).trans hu
  · simp only [o1V, List.mem_cons, List.not_mem_nil, or_false] at hv
    rcases hv with rfl | rfl | rfl | rfl
    · exact ⟨doc_none _, by decide⟩
    · exact ⟨doc_none _, by decide⟩
    · exact ⟨⟨fun x hx => by rw [List.mem_singleton.1 hx]; decide, rfl, Nat.le_refl _, (by decide : 1 ≤ 9223372036854775807), fun _ => ⟨_, 0, rfl, hA⟩⟩, Nat.zero_le _⟩
    · exact ⟨doc_none _, by decide⟩

end Go.Proofs.YtlhkomiiockaoaaDoor
