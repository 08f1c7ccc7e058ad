/-
  The reference's Small and SchemeOf: as link.smallLetters and link.Scheme have it.
-/
import Derived.Test.YtdlacdoakkklaabDoorSc
import Derived.Test.YtdlacdoakkklaabDoorS1
namespace Go.Proofs.YtdlacdoakkklaabDoor
open Go.RowKit

theorem scheme_k (l : List UInt8) (k : Nat) (h : Lib.indexByte l 58 = k) (hc : Lib.containsAny (Lk.head l) Lk.path = false) : Lk.scheme l = Lk.small (Lk.head l) := by
  unfold Lk.scheme
  rw [(Lk.head_at l k h).2.2, hc]
  rfl
theorem scheme_path (l : List UInt8) (hc : Lib.containsAny (Lk.head l) Lk.path = true) : Lk.scheme l = [] := by
  unfold Lk.scheme
  rw [hc]
  simp
theorem scheme_none (l : List UInt8) (h : l.contains 58 = false) : Lk.scheme l = [] := by
  unfold Lk.scheme
  rw [h]
  rfl

end Go.Proofs.YtdlacdoakkklaabDoor
