/-
  Texts of this proof, one behind the other.
-/
import Derived.Test.YtbhcklkbckacpaaGreatDoorXn

/-
  The reference's PageOf of any document.
-/
namespace Go.Proofs.YtbhcklkbckacpaaGreatDoor
open Go.RowKit

structure Fine (x : It) : Prop where
  lo : 0 ≤ x.m
  hi : x.m ≤ 3
  short : x.l.size ≤ 24
  ends : Dc.ends x = true → x.l = B []
theorem weighs {l : List It} (hF : ∀ x ∈ l, Fine x) (h80 : l.length ≤ 80) (k : Nat) : (Pg.bytes (Pg.run (l.take k)).page).length ≤ 16480 ∧ (Pg.bytes (Pg.run (l.take k)).ins).length ≤ 16480 ∧ (Pg.run (l.take k)).text.length ≤ 3000 ∧ (Pg.bytes (Pg.flush (Pg.run (l.take k))).ins).length ≤ 16480 := by
  have hall : ∀ x ∈ l.take k, x.l.size ≤ 24 := fun x hx => (hF x (List.mem_of_mem_take hx)).short
  have h := Pg.run_weight (l.take k) hall
  have h2 : (l.take k).length ≤ l.length := List.length_take_le' _ _
  have h3 := Pg.flush_weight (Pg.run (l.take k)) (Pg.last_short (l.take k) Pg.st0 (fun h => absurd rfl h) hall)
  have e1 : Pg.weight (Pg.run (l.take k)) = (Pg.bytes (Pg.run (l.take k)).page).length + (Pg.bytes (Pg.run (l.take k)).ins).length + Pg.pend (Pg.run (l.take k)).text := rfl
  have e2 : Pg.weight (Pg.flush (Pg.run (l.take k))) = (Pg.bytes (Pg.flush (Pg.run (l.take k))).page).length + (Pg.bytes (Pg.flush (Pg.run (l.take k))).ins).length + 0 := rfl
  refine ⟨by omega, by omega, ?_, by omega⟩
  unfold Pg.pend at e1
  cases ht : (Pg.run (l.take k)).text.isEmpty
  · rw [ht] at e1
    simp at e1
    omega
  · have : (Pg.run (l.take k)).text = [] := by simpa using ht
    rw [this]
    simp

end Go.Proofs.YtbhcklkbckacpaaGreatDoor

/-
  The reference's page at work: a run is written.
-/
namespace Go.Proofs.YtbhcklkbckacpaaGreatDoor
open Go.RowKit

end Go.Proofs.YtbhcklkbckacpaaGreatDoor
