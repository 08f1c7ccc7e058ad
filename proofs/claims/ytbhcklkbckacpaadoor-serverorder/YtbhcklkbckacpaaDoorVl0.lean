/-
  Package server: a log, up to a revision.
-/
import Derived.Test.YtbhcklkbckacpaaDoorVk
namespace Go.Proofs.YtbhcklkbckacpaaDoor
open Go.RowKit
theorem slice_entsH (a : Option Addr) (n cap r : Nat) (hr : r ≤ n) (hc : n ≤ cap) (w : World) : (Instr.slice 33 (.slice a n cap) none (some (.int .i64 r)) none).run Tryd.prog w = .ok (.slice (subE a 0 cap) r cap) w := by
  rw [run_slice_h (P := Tryd.prog) (w := w) 33 a n cap under_le .i64 (r : Int) (by omega) (by omega), elemLE, Tryd.sizeOf37 w]
  rfl
theorem Ents.take {w : World} {a : Option Addr} {n c : Nat} {es : List EV} (h : Ents w a n c es) (r : Nat) (hr : r ≤ n) : Ents w (subE a 0 c) r c (es.take r) := by
  have hl := h.len
  have h1 := h.row.room
  have h2 := h.row.big
  refine ⟨⟨by rw [evCells_len, List.length_take, hl, Nat.min_eq_left hr], by omega, by omega, fun hn => ?_⟩, fun v hv => h.ops v (List.mem_of_mem_take hv)⟩
  obtain ⟨b, off, e, hc⟩ := h.row.lies (by omega)
  refine ⟨b, off, ?_, fun j u hj => hc j u ?_⟩
  · unfold subE
    rw [if_neg (by omega), e, Option.map_some, add_off, Nat.zero_mul, Nat.add_zero]
  · have e2 : evCells es = evCells (es.take r) ++ evCells (es.drop r) := by rw [← evCells_app, List.take_append_drop]
    have hlt : j < (evCells (es.take r)).length := by
      rcases Nat.lt_or_ge j (evCells (es.take r)).length with h | h
      · exact h
      · rw [List.getElem?_eq_none h] at hj; cases hj
    rw [e2, List.getElem?_append_left hlt]
    exact hj
end Go.Proofs.YtbhcklkbckacpaaDoor
