/-
  The reference's RunsOf: as doc.Runs has it.
-/
import Derived.Test.YtmifcioccnmlaaaDoorDe
namespace Go.Proofs.YtmifcioccnmlaaaDoor
open Go.RowKit

theorem own1 {w : World} {base : Nat} {v : Value} {n : Nat} {xs : List Value} (h : w.ownsRow base 3 1 v n xs) (nq : Nat) (x : It) : ((boxed x w).drewN nq).ownsRow base 3 1 v n xs :=
  World.ownsRow.alloc (w := w.drewN nq) h _
theorem own2 {w : World} {base : Nat} {v : Value} {n : Nat} {xs : List Value} (h : w.ownsRow base 3 1 v n xs) (nq : Nat) (x : It) (k : Nat) : (((boxed x w).drewN nq).alloc (.cells #[.int .i64 k] 3)).ownsRow base 3 1 v n xs :=
  World.ownsRow.alloc (own1 h nq x) _
theorem below1 (w : World) (nq : Nat) (x : It) : Below w.heap.size w ((boxed x w).drewN nq) := Below.alloc (a := w) (w := w.drewN nq) ⟨rfl, rfl, rfl, Nat.le_refl _, fun _ _ => rfl⟩ (Nat.le_refl _) _
theorem below2 (w : World) (nq : Nat) (x : It) (k : Nat) : Below w.heap.size w (((boxed x w).drewN nq).alloc (.cells #[.int .i64 k] 3)) := (below1 w nq x).alloc (below1 w nq x).size _
theorem news2 (w : World) (nq : Nat) (x : It) (k : Nat) : ∀ j u, [Value.int .i64 k][j]? = some u → (((boxed x w).drewN nq).alloc (.cells #[.int .i64 k] 3)).cell? ((⟨w.heap.size + 1, 0, none⟩ : Addr).add j) = some u := by
  have h := heap_alloc_new ((boxed x w).drewN nq) (.cells #[.int .i64 k] 3)
  have e : ((boxed x w).drewN nq).heap.size = w.heap.size + 1 := World.size_alloc ..
  rw [e] at h
  exact World.news_of_block (cs := #[.int .i64 k]) h

namespace Dc
theorem to_yes {l : List It} {k : Nat} (h : runB l k = true) : runsTo l (k + 1) = runsTo l k ++ [k] := by rw [runsTo_succ, if_pos h]
theorem to_no {l : List It} {k : Nat} (h : runB l k = false) : runsTo l (k + 1) = runsTo l k := by rw [runsTo_succ, if_neg (by rw [h]; exact Bool.false_ne_true)]
end Dc

set_option maxRecDepth 100000 in
set_option maxHeartbeats 8000000 in
theorem RunsOf_any (ao : Option Addr) (n cap : Nat) (l : List It) (w : World) (hD : Doc w ao n cap l) (h80 : n ≤ 80) :
    Calls Tryd.prog 44 #[.slice ao n cap] w fun e w' => (∃ v, e = .returned v ∧ w'.ownsRow w.heap.size 3 1 v (Dc.runsTo l n).length ((Dc.runsTo l n).map ci)) ∧ Below w.heap.size w w' := by
  obtain ⟨i0, hi, hz0, hz1, hz2⟩ := info_parts Tryd.info3
  have HD : Hid (Doc w ao n cap l) := hD
  clear hD
  go_enter Tryd.func44, Tryd.ntmps44
  go_wp2
  go_loopw [3, 9] (fun v i wr => ∃ k : Nat, k ≤ n ∧ i = .int .i64 k ∧ Below w.heap.size w wr ∧ wr.ownsRow w.heap.size 3 1 v (Dc.runsTo l k).length ((Dc.runsTo l k).map ci)) (fun _ i _ => n - (intOf i).toNat)
  case atStart => exact ⟨0, Nat.zero_le _, rfl, Below.refl _ _, World.ownsRow_nil _ _ _ _⟩
  case round =>
    obtain ⟨k, hk, rfl, hbr, hown⟩ := hrel
    have HBR : Hid (Below w.heap.size w wr) := hbr
    have HO : Hid (wr.ownsRow w.heap.size 3 1 u3 (Dc.runsTo l k).length ((Dc.runsTo l k).map ci)) := hown
    have hrl := Dc.runsTo_len l k
    have hws := hbr.size
    clear hown hbr
    by_cases hlt : k < n
    · obtain ⟨b, off, rfl, A0⟩ := HD.out.lies (by omega)
      have A1 := A0.below HBR.out
      have hkl : k < l.length := by rw [HD.out.len]; exact hlt
      obtain ⟨hx0, hx1, hx2⟩ := A1.get (List.getElem?_eq_getElem hkl)
      have hb0 : b < wr.heap.size := cell_lt hx0
      by_cases hk0 : k = 0
      · have HRT : Hid (Dc.runsTo l (k + 1) = Dc.runsTo l k ++ [k]) := by subst hk0; exact Dc.to_yes rfl
        have q5 : decide (0 < k) = false := by simp; omega
        clear A0 A1 hk0
        generalize l[k] = x at *
        go_wp2
        go_quiet (fail)
        go_wp2_with (at_builtin; refine wpList_append_lies _ rfl (.tmp 54) (.tmp 56) 38 rfl w.heap.size 3 i0 (.int .i64 0) 1 8 Tryd.underlying38 hi hz0 hz1 hz2 rfl (by decide) u3 (Dc.runsTo l k).length ((Dc.runsTo l k).map ci) rfl (own2 HO.out nq x k) ⟨wr.heap.size + 1, 0, none⟩ 1 1 [.int .i64 k] rfl rfl (news2 wr nq x k) (by intro u hu; simp at hu; subst hu; rfl) (by decide) (by unfold maxLen; omega) (by omega) (by simp; omega) _ rfl ?_)
        intro g cap2 w2 hown hgrow _ _
        have HG : Hid (w2.ownsRow w.heap.size 3 1 (.slice (some ⟨g, 0, none⟩) ((Dc.runsTo l k).length + 1) cap2) (Dc.runsTo l (k + 1)).length ((Dc.runsTo l (k + 1)).map ci) ∧ Below w.heap.size w w2) := by
          rw [HRT.out, List.length_append, List.map_append]
          exact ⟨hown, HBR.out.trans ((below2 wr nq x k).mono HBR.out.size |>.grown hgrow (Nat.le_trans HBR.out.size (below2 wr nq x k).size) (fun q hq => ownBlock_ge HO.out q hq))⟩
        clear hown hgrow
        go_wp2
        go_roundw
        case rel => exact ⟨k + 1, by omega, by go_num, HG.out.2, HG.out.1⟩
        case measure => simp [intOf]; omega
      · obtain ⟨j, hj⟩ : ∃ j, k = j + 1 := ⟨k - 1, by omega⟩
        have hjl : j < l.length := by omega
        have hrb : Dc.runB l k = Dc.turns l[j] l[k] := by subst hj; exact Dc.runB_succ hkl
        obtain ⟨ha0, ha1, ha2⟩ := A1.get (List.getElem?_eq_getElem hjl)
        have hw : IntKind.i64.wrap ((k : Int) - 1) = (j : Int) := by rw [show (k : Int) - 1 = (j : Int) by omega]; exact IntWalk.i64_in _ ⟨by omega, by omega⟩
        have q1 : (0 : Int) ≤ (j : Int) := by omega
        have q2 : (j : Int) < (n : Int) := by omega
        have q5 : decide (0 < k) = true := by simp; omega
        clear A0 A1 hj
        generalize l[k] = x at *
        generalize l[j] = a at *
        cases hex : Dc.ends x
        · have hnx : ((x.c.toNat : Int) != 10) = true := by rw [show ((x.c.toNat : Int) != 10) = !Dc.ends x from rfl, hex]; rfl
          cases hea : Dc.ends a
          · have hna : ((a.c.toNat : Int) != 10) = true := by rw [show ((a.c.toNat : Int) != 10) = !Dc.ends a from rfl, hea]; rfl
            cases hm : (x.m == a.m)
            · have HRT : Hid (Dc.runsTo l (k + 1) = Dc.runsTo l k ++ [k]) := Dc.to_yes (by rw [hrb]; unfold Dc.turns; simp [bne, hm])
              clear hrb
              go_wp2
              go_quiet (fail)
              go_wp2_with (at_builtin; refine wpList_append_lies _ rfl (.tmp 54) (.tmp 56) 38 rfl w.heap.size 3 i0 (.int .i64 0) 1 8 Tryd.underlying38 hi hz0 hz1 hz2 rfl (by decide) u3 (Dc.runsTo l k).length ((Dc.runsTo l k).map ci) rfl (own2 HO.out nq x k) ⟨wr.heap.size + 1, 0, none⟩ 1 1 [.int .i64 k] rfl rfl (news2 wr nq x k) (by intro u hu; simp at hu; subst hu; rfl) (by decide) (by unfold maxLen; omega) (by omega) (by simp; omega) _ rfl ?_)
              intro g cap2 w2 hown hgrow _ _
              have HG : Hid (w2.ownsRow w.heap.size 3 1 (.slice (some ⟨g, 0, none⟩) ((Dc.runsTo l k).length + 1) cap2) (Dc.runsTo l (k + 1)).length ((Dc.runsTo l (k + 1)).map ci) ∧ Below w.heap.size w w2) := by
                rw [HRT.out, List.length_append, List.map_append]
                exact ⟨hown, HBR.out.trans ((below2 wr nq x k).mono HBR.out.size |>.grown hgrow (Nat.le_trans HBR.out.size (below2 wr nq x k).size) (fun q hq => ownBlock_ge HO.out q hq))⟩
              clear hown hgrow
              go_wp2
              go_roundw
              case rel => exact ⟨k + 1, by omega, by go_num, HG.out.2, HG.out.1⟩
              case measure => simp [intOf]; omega
            · cases hl : (x.l.toList == a.l.toList)
              · have HRT : Hid (Dc.runsTo l (k + 1) = Dc.runsTo l k ++ [k]) := Dc.to_yes (by rw [hrb]; unfold Dc.turns; simp [hl])
                clear hrb
                go_wp2
                go_quiet (fail)
                go_wp2_with (at_builtin; refine wpList_append_lies _ rfl (.tmp 54) (.tmp 56) 38 rfl w.heap.size 3 i0 (.int .i64 0) 1 8 Tryd.underlying38 hi hz0 hz1 hz2 rfl (by decide) u3 (Dc.runsTo l k).length ((Dc.runsTo l k).map ci) rfl (own2 HO.out nq x k) ⟨wr.heap.size + 1, 0, none⟩ 1 1 [.int .i64 k] rfl rfl (news2 wr nq x k) (by intro u hu; simp at hu; subst hu; rfl) (by decide) (by unfold maxLen; omega) (by omega) (by simp; omega) _ rfl ?_)
                intro g cap2 w2 hown hgrow _ _
                have HG : Hid (w2.ownsRow w.heap.size 3 1 (.slice (some ⟨g, 0, none⟩) ((Dc.runsTo l k).length + 1) cap2) (Dc.runsTo l (k + 1)).length ((Dc.runsTo l (k + 1)).map ci) ∧ Below w.heap.size w w2) := by
                  rw [HRT.out, List.length_append, List.map_append]
                  exact ⟨hown, HBR.out.trans ((below2 wr nq x k).mono HBR.out.size |>.grown hgrow (Nat.le_trans HBR.out.size (below2 wr nq x k).size) (fun q hq => ownBlock_ge HO.out q hq))⟩
                clear hown hgrow
                go_wp2
                go_roundw
                case rel => exact ⟨k + 1, by omega, by go_num, HG.out.2, HG.out.1⟩
                case measure => simp [intOf]; omega
              · have HRT : Hid (Dc.runsTo l (k + 1) = Dc.runsTo l k) := Dc.to_no (by rw [hrb]; unfold Dc.turns; rw [hex, hea, hl]; simp [bne, hm])
                clear hrb
                go_wp2
                go_quiet (fail)
                go_wp2
                go_roundw
                case rel => exact ⟨k + 1, by omega, by go_num, HBR.out.trans ((below1 wr nq x).mono HBR.out.size), by rw [HRT.out]; exact own1 HO.out nq x⟩
                case measure => simp [intOf]; omega
          · have hna : ((a.c.toNat : Int) != 10) = false := by rw [show ((a.c.toNat : Int) != 10) = !Dc.ends a from rfl, hea]; rfl
            have HRT : Hid (Dc.runsTo l (k + 1) = Dc.runsTo l k ++ [k]) := Dc.to_yes (by rw [hrb]; unfold Dc.turns; rw [hea]; rfl)
            clear hrb
            go_wp2
            go_quiet (fail)
            go_wp2_with (at_builtin; refine wpList_append_lies _ rfl (.tmp 54) (.tmp 56) 38 rfl w.heap.size 3 i0 (.int .i64 0) 1 8 Tryd.underlying38 hi hz0 hz1 hz2 rfl (by decide) u3 (Dc.runsTo l k).length ((Dc.runsTo l k).map ci) rfl (own2 HO.out nq x k) ⟨wr.heap.size + 1, 0, none⟩ 1 1 [.int .i64 k] rfl rfl (news2 wr nq x k) (by intro u hu; simp at hu; subst hu; rfl) (by decide) (by unfold maxLen; omega) (by omega) (by simp; omega) _ rfl ?_)
            intro g cap2 w2 hown hgrow _ _
            have HG : Hid (w2.ownsRow w.heap.size 3 1 (.slice (some ⟨g, 0, none⟩) ((Dc.runsTo l k).length + 1) cap2) (Dc.runsTo l (k + 1)).length ((Dc.runsTo l (k + 1)).map ci) ∧ Below w.heap.size w w2) := by
              rw [HRT.out, List.length_append, List.map_append]
              exact ⟨hown, HBR.out.trans ((below2 wr nq x k).mono HBR.out.size |>.grown hgrow (Nat.le_trans HBR.out.size (below2 wr nq x k).size) (fun q hq => ownBlock_ge HO.out q hq))⟩
            clear hown hgrow
            go_wp2
            go_roundw
            case rel => exact ⟨k + 1, by omega, by go_num, HG.out.2, HG.out.1⟩
            case measure => simp [intOf]; omega
        · have hnx : ((x.c.toNat : Int) != 10) = false := by rw [show ((x.c.toNat : Int) != 10) = !Dc.ends x from rfl, hex]; rfl
          have HRT : Hid (Dc.runsTo l (k + 1) = Dc.runsTo l k ++ [k]) := Dc.to_yes (by rw [hrb]; unfold Dc.turns; rw [hex]; simp)
          clear hrb
          go_wp2
          go_quiet (fail)
          go_wp2_with (at_builtin; refine wpList_append_lies _ rfl (.tmp 54) (.tmp 56) 38 rfl w.heap.size 3 i0 (.int .i64 0) 1 8 Tryd.underlying38 hi hz0 hz1 hz2 rfl (by decide) u3 (Dc.runsTo l k).length ((Dc.runsTo l k).map ci) rfl (own2 HO.out nq x k) ⟨wr.heap.size + 1, 0, none⟩ 1 1 [.int .i64 k] rfl rfl (news2 wr nq x k) (by intro u hu; simp at hu; subst hu; rfl) (by decide) (by unfold maxLen; omega) (by omega) (by simp; omega) _ rfl ?_)
          intro g cap2 w2 hown hgrow _ _
          have HG : Hid (w2.ownsRow w.heap.size 3 1 (.slice (some ⟨g, 0, none⟩) ((Dc.runsTo l k).length + 1) cap2) (Dc.runsTo l (k + 1)).length ((Dc.runsTo l (k + 1)).map ci) ∧ Below w.heap.size w w2) := by
            rw [HRT.out, List.length_append, List.map_append]
            exact ⟨hown, HBR.out.trans ((below2 wr nq x k).mono HBR.out.size |>.grown hgrow (Nat.le_trans HBR.out.size (below2 wr nq x k).size) (fun q hq => ownBlock_ge HO.out q hq))⟩
          clear hown hgrow
          go_wp2
          go_roundw
          case rel => exact ⟨k + 1, by omega, by go_num, HG.out.2, HG.out.1⟩
          case measure => simp [intOf]; omega
    · obtain rfl : k = n := by omega
      go_wp2
      go_ret
      exact ⟨⟨_, rfl, HO.out⟩, HBR.out⟩
end Go.Proofs.YtmifcioccnmlaaaDoor
