/-
  What is written of a document is short, and its items are good; the bytes of a text as a row.
-/
import Derived.Test.YtpcaiechaakhnabGreatDoorXq
import Derived.Test.YtpcaiechaakhnabGreatDoorTp
import Derived.Test.YtpcaiechaakhnabGreatDoorTr
namespace Go.Proofs.YtpcaiechaakhnabGreatDoor
open Go.RowKit

theorem good_of {l : List It} (h : Dc.check l = 0) : ∀ x ∈ l, Tk.Good x := by
  have h80 := Dc.check_ok h
  by_cases h0 : Dc.errs l = 0
  · intro x hx
    have he := errs_all h0 x hx
    unfold Dc.err at he
    by_cases h1 : (!Dc.ends x && !Dc.isChar x) = true
    · rw [if_pos h1] at he; cases he
    rw [if_neg h1] at he
    by_cases h2 : (!Dc.marks x) = true
    · rw [if_pos h2] at he; cases he
    rw [if_neg h2] at he
    by_cases h3 : (!Dc.link x) = true
    · rw [if_pos h3] at he; cases he
    have hm : Dc.marks x = true := by simpa using h2
    have hl : Dc.link x = true := by simpa using h3
    unfold Dc.marks at hm
    simp only [Bool.and_eq_true, decide_eq_true_eq] at hm
    unfold Dc.link at hl
    simp only [Bool.or_eq_true, Bool.and_eq_true] at hl
    exact ⟨hm.1, hm.2, hl.imp id (fun h => h.2)⟩
  · rw [Dc.check_errs (by omega) h0] at h
    exact absurd h h0
theorem page_few {l : List It} (h : Dc.check l = 0) : (Pg.page l).length ≤ 20000 := by
  have d := docu_of h
  have := Pg.page_len l (fun x hx => (d.fine x hx).short)
  have := d.few
  omega
theorem byt_world (w : World) (s : ByteArray) (hs : s.size ≤ 20000) : Byt (Lib.bytesWorld w 5 s) (some ⟨w.heap.size, 0, none⟩) s.size (grownCap w s.size 0 5) s.data.toList := by
  have hS := SBuf.start w s
  have hc := grownCap_le_maxLen w s.size 0 5 (by unfold maxLen; omega)
  refine ⟨by simp, grownCap_ge w s.size 0 5, by unfold maxLen at hc; exact hc, fun _ => ⟨_, _, rfl, fun j u hu => ?_⟩⟩
  have hj : j < s.data.toList.length := by
    have := (List.getElem?_eq_some_iff.1 hu).1
    simpa using this
  rw [Nat.zero_add, hS.cell j hj, ← hu, List.getElem?_map, List.getElem?_eq_getElem hj]
  rfl
end Go.Proofs.YtpcaiechaakhnabGreatDoor
