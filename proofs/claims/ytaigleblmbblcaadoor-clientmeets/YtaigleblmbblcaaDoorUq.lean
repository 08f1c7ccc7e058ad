/-
  Two parts in a block.
-/
import Derived.Test.YtaigleblmbblcaaDoorUc
namespace Go.Proofs.YtaigleblmbblcaaDoor
open Go.RowKit

/-- Two parts in a block. -/
def ppC (u v : PV) : List Value := [.int .i64 u.kind, .int .i64 u.n, .slice u.ao u.m u.cap, .int .i64 u.set, .int .i64 u.clr, .bool u.goes, .string u.link, .int .i64 v.kind, .int .i64 v.n, .slice v.ao v.m v.cap, .int .i64 v.set, .int .i64 v.clr, .bool v.goes, .string v.link]
def boxq (u v : PV) (w : World) : World := w.alloc (.cells #[.int .i64 u.kind, .int .i64 u.n, .slice u.ao u.m u.cap, .int .i64 u.set, .int .i64 u.clr, .bool u.goes, .string u.link, .int .i64 v.kind, .int .i64 v.n, .slice v.ao v.m v.cap, .int .i64 v.set, .int .i64 v.clr, .bool v.goes, .string v.link] 93)
theorem boxq_blk (u v : PV) (w : World) : Blk (boxq u v w) w.heap.size (ppC u v) 93 := Blk.new w _ _
theorem boxq_below (u v : PV) (w : World) : Below w.heap.size w (boxq u v w) := (Below.refl _ _).alloc (Nat.le_refl _) _
theorem boxq_size (u v : PV) (w : World) : (boxq u v w).heap.size = w.heap.size + 1 := World.size_alloc ..
theorem szPP (u v : PV) : (Tryd.prog.info? 93).map (·.size) = some (ppC u v).toArray.size := by
  have h : (Tryd.prog.info? 93).map (·.size) = some 14 := by kernel_rfl
  exact h
theorem ret_pp {fn : Func} {p : Tmp} {u v : PV} {w : World} {g : Nat} (h : fn.results = #[.cell p 93]) (tmps : Array Value) (hp : tmps.getD p undef = .pointer (some ⟨g, 0, none⟩)) (hB : Blk w g (ppC u v) 93) : (results fn tmps).run Tryd.prog w = .ok (.agg #[.int .i64 u.kind, .int .i64 u.n, .slice u.ao u.m u.cap, .int .i64 u.set, .int .i64 u.clr, .bool u.goes, .string u.link, .int .i64 v.kind, .int .i64 v.n, .slice v.ao v.m v.cap, .int .i64 v.set, .int .i64 v.clr, .bool v.goes, .string v.link]) w :=
  results_cell_row h tmps w g 93 (ppC u v).toArray (0, 0) _ hp hB Tryd.underlying93 rfl (szPP u v)
def putQ (w : World) (g : Nat) (u v : PV) : World := (((((((putP w g u).setCell ⟨g, 7, none⟩ (.int .i64 v.kind)).setCell ⟨g, 8, none⟩ (.int .i64 v.n)).setCell ⟨g, 9, none⟩ (.slice v.ao v.m v.cap)).setCell ⟨g, 10, none⟩ (.int .i64 v.set)).setCell ⟨g, 11, none⟩ (.int .i64 v.clr)).setCell ⟨g, 12, none⟩ (.bool v.goes)).setCell ⟨g, 13, none⟩ (.string v.link)
theorem putQ_blk {w : World} {g : Nat} {a b u v : PV} (h : Blk w g (ppC a b) 93) : Blk (putQ w g u v) g (ppC u v) 93 :=
  (((((((((((((h.set 0 (.int .i64 u.kind)).set 1 (.int .i64 u.n)).set 2 (.slice u.ao u.m u.cap)).set 3 (.int .i64 u.set)).set 4 (.int .i64 u.clr)).set 5 (.bool u.goes)).set 6 (.string u.link)).set 7 (.int .i64 v.kind)).set 8 (.int .i64 v.n)).set 9 (.slice v.ao v.m v.cap)).set 10 (.int .i64 v.set)).set 11 (.int .i64 v.clr)).set 12 (.bool v.goes)).set 13 (.string v.link)
theorem putQ_kept (w : World) (g : Nat) (u v : PV) (S : List Nat) (h : g ∈ S) : Kept w (putQ w g u v) S := by
  unfold putQ
  exact (((((((putP_kept w g u S h).setCell _ _ (.inl h)).setCell _ _ (.inl h)).setCell _ _ (.inl h)).setCell _ _ (.inl h)).setCell _ _ (.inl h)).setCell _ _ (.inl h)).setCell _ _ (.inl h)

end Go.Proofs.YtaigleblmbblcaaDoor
