/-
  Chapter 8 on acts: what is turned, and joined, is right but perhaps for its size; what it is for, and leaves; and that it ends with a Keep.
-/
import Derived.Test.YtbhcklkbckacpaaGreatDoorM9
namespace Go.Proofs.YtbhcklkbckacpaaGreatDoor
open Go.RowKit
namespace Ac
def pn : List A → Nat
  | [] => 0
  | some (.inr _) :: r => pn r + 1
  | some (.inl _) :: r => pn r
  | none :: r => pn r
theorem Right.snoc {o : List Pt} (h : Right o) : ∃ l c, acts o = l ++ [.keep c] := by
  obtain ⟨o', p, e, hk⟩ := h.last
  obtain ⟨_, _, h1, _⟩ := keep_m4 (h.ok p (by rw [e]; simp)) hk
  obtain ⟨m, hm⟩ : ∃ m : Nat, p.n.toNat = m + 1 := ⟨p.n.toNat - 1, by omega⟩
  refine ⟨acts o' ++ List.replicate m (A.keep (chOf p)), chOf p, ?_⟩
  rw [e, acts_app, acts_one, List.append_assoc]
  congr 1
  unfold acts1
  rw [if_neg (by omega), if_pos hk, hm, List.replicate_succ']
theorem Right.need {o : List Pt} (h : Right o) : Ac.need (acts o) = nd o ∧ leave (acts o) = lv o := need_acts (kinds_of h.ok)
end Ac
end Go.Proofs.YtbhcklkbckacpaaGreatDoor
