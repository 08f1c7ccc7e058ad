/-
  doc.Check of any list of items, and the reference's CheckDoc: what is wrong with it as a document.
-/
import Derived.Test.YtgidmnoinbbajaaDoorDk
namespace Go.Proofs.YtgidmnoinbbajaaDoor
open Go.RowKit
namespace Dc
def check (l : List It) : Int := if 80 < l.length then 2 else if errs l ≠ 0 then errs l else if h : l.length - 1 < l.length then (if ends l[l.length - 1] then 0 else 4) else 4
theorem check_many {l : List It} (h : 80 < l.length) : check l = 2 := by unfold check; rw [if_pos h]
theorem check_errs {l : List It} (h : ¬ 80 < l.length) (h0 : ¬ errs l = 0) : check l = errs l := by unfold check; rw [if_neg h, if_pos h0]
theorem check_none {l : List It} (h0 : errs l = 0) (hn : l.length = 0) : check l = 4 := by
  unfold check
  rw [if_neg (by omega), if_neg (by simpa using h0), dif_neg (by omega)]
theorem check_last {l : List It} {k : Nat} (h : ¬ 80 < l.length) (h0 : errs l = 0) (hk : k < l.length) (hl : l.length = k + 1) : check l = if ends l[k] then 0 else 4 := by
  unfold check
  rw [if_neg h, if_neg (by simpa using h0), dif_pos (by omega)]
  obtain rfl : k = l.length - 1 := by omega
  rfl
end Dc
theorem At.get {w : World} {b off : Nat} {l : List It} (h : At w b off l) {k : Nat} {x : It} (hx : l[k]? = some x) :
    w.cell? ⟨b, off + k * 3, none⟩ = some (.int .u8 x.c.toNat) ∧ w.cell? ⟨b, off + k * 3 + 1, none⟩ = some (.int .i64 x.m) ∧ w.cell? ⟨b, off + k * 3 + 2, none⟩ = some (.string x.l) := by
  obtain ⟨hk, rfl⟩ := List.getElem?_eq_some_iff.1 hx
  exact ⟨h.c k hk, h.m k hk, h.l k hk⟩

set_option maxHeartbeats 1600000 in
theorem check_any (ao : Option Addr) (n cap : Nat) (l : List It) (w : World) (hD : Doc w ao n cap l) (hS : Sch w) :
    Calls Tryd.prog 22 #[.slice ao n cap] w fun e w' => e = .returned (.int .i64 (Dc.check l)) ∧ Below w.heap.size w w' := by
  have HD : Hid (Doc w ao n cap l) := hD
  have HN : Hid (l.length = n) := hD.len
  have hcap := hD.room
  have hbig := hD.big
  have CI : Hid (Calls Tryd.prog 44 #[.slice ao n cap] w fun e w' => e = .returned (.int .i64 (Dc.errs l)) ∧ Below w.heap.size w w') := items_any ao _ cap l w hD hS
  clear hD hS
  obtain ⟨r, hr⟩ : ∃ r, Dc.check l = r := ⟨_, rfl⟩
  have HR : Hid (Dc.check l = r) := hr
  rw [hr]
  clear hr
  by_cases h80 : 80 < n
  · have : r = 2 := HR.out.symm.trans (Dc.check_many (by rw [HN.out]; exact h80))
    subst this
    clear HR CI
    go_enter Tryd.func22, Tryd.ntmps22
    go_wp2
    go_ret
    exact ⟨rfl, Below.refl _ _⟩
  · by_cases h0 : Dc.errs l = 0
    · rw [h0] at CI
      by_cases hn0 : n = 0
      · have : r = 4 := HR.out.symm.trans (Dc.check_none h0 (HN.out.trans hn0))
        subst this
        subst hn0
        clear HR h0
        go_enter Tryd.func22, Tryd.ntmps22
        go_wp2_with fail
        refine CI.out.mono ?_
        rintro e w1 ⟨rfl, hb⟩
        have H1 : Hid (Below w.heap.size w w1) := hb
        clear hb
        go_wp2
        go_ret
        exact ⟨rfl, H1.out⟩
      · obtain ⟨k, rfl⟩ : ∃ k, n = k + 1 := ⟨n - 1, by omega⟩
        obtain ⟨b, off, rfl, A0⟩ := HD.out.lies hn0
        have HA : Hid (At w b off l) := A0
        obtain ⟨x, hx, hrl⟩ : ∃ x, l[k]? = some x ∧ r = if Dc.ends x then 0 else 4 := by
          have hl := HN.out
          have hk : k < l.length := by omega
          exact ⟨l[k], List.getElem?_eq_getElem hk, HR.out.symm.trans (Dc.check_last (by omega) h0 hk hl)⟩
        have HX : Hid (l[k]? = some x) := hx
        clear HR h0 A0 hx
        cases he : Dc.ends x
        all_goals
          rw [he] at hrl
          first | (have : r = 0 := hrl; subst this) | (have : r = 4 := hrl; subst this)
          clear hrl
          go_enter Tryd.func22, Tryd.ntmps22
          go_wp2_with fail
          refine CI.out.mono ?_
          rintro e w1 ⟨rfl, hb⟩
          have H1 : Hid (Below w.heap.size w w1) := hb
          obtain ⟨hc0, hc1, hc2⟩ := (HA.out.below hb).get HX.out
          clear hb
          go_wp2_with fail
          refine (ends_any x _).mono ?_
          rintro e w2 ⟨rfl, hb⟩
          rw [he]
          have H2 : Hid (Below w.heap.size w w2) := H1.out.trans (hb.mono H1.out.size)
          clear hb
          go_wp2
          go_ret
          exact ⟨rfl, H2.out⟩
    · have hrr : Dc.errs l = r := (Dc.check_errs (by rw [HN.out]; exact h80) h0).symm.trans HR.out
      rw [hrr] at CI h0
      clear HR hrr
      go_enter Tryd.func22, Tryd.ntmps22
      go_wp2_with fail
      refine CI.out.mono ?_
      rintro e w1 ⟨rfl, hb⟩
      have H1 : Hid (Below w.heap.size w w1) := hb
      clear hb
      go_wp2
      go_ret
      exact ⟨rfl, H1.out⟩

set_option maxHeartbeats 1600000 in
theorem CheckDoc_any (ao : Option Addr) (n cap : Nat) (l : List It) (w : World) (hD : Doc w ao n cap l) :
    Calls Tryd.prog 33 #[.slice ao n cap] w fun e w' => e = .returned (.int .i64 (Dc.check l)) ∧ Below w.heap.size w w' := by
  have HD : Hid (Doc w ao n cap l) := hD
  have HN : Hid (l.length = n) := hD.len
  have hcap := hD.room
  have hbig := hD.big
  have CI : Hid (Calls Tryd.prog 55 #[.slice ao n cap] w fun e w' => e = .returned (.int .i64 (Dc.errs l)) ∧ Below w.heap.size w w') := CheckItems_any ao _ cap l w hD
  clear hD
  obtain ⟨r, hr⟩ : ∃ r, Dc.check l = r := ⟨_, rfl⟩
  have HR : Hid (Dc.check l = r) := hr
  rw [hr]
  clear hr
  by_cases h80 : 80 < n
  · have : r = 2 := HR.out.symm.trans (Dc.check_many (by rw [HN.out]; exact h80))
    subst this
    clear HR CI
    go_enter Tryd.func33, Tryd.ntmps33
    go_wp2
    go_ret
    exact ⟨rfl, Below.refl _ _⟩
  · by_cases h0 : Dc.errs l = 0
    · rw [h0] at CI
      by_cases hn0 : n = 0
      · have : r = 4 := HR.out.symm.trans (Dc.check_none h0 (HN.out.trans hn0))
        subst this
        subst hn0
        clear HR h0
        go_enter Tryd.func33, Tryd.ntmps33
        go_wp2_with fail
        refine CI.out.mono ?_
        rintro e w1 ⟨rfl, hb⟩
        have H1 : Hid (Below w.heap.size w w1) := hb
        clear hb
        go_wp2
        go_ret
        exact ⟨rfl, H1.out⟩
      · obtain ⟨k, rfl⟩ : ∃ k, n = k + 1 := ⟨n - 1, by omega⟩
        obtain ⟨b, off, rfl, A0⟩ := HD.out.lies hn0
        have HA : Hid (At w b off l) := A0
        obtain ⟨x, hx, hrl⟩ : ∃ x, l[k]? = some x ∧ r = if Dc.ends x then 0 else 4 := by
          have hl := HN.out
          have hk : k < l.length := by omega
          exact ⟨l[k], List.getElem?_eq_getElem hk, HR.out.symm.trans (Dc.check_last (by omega) h0 hk hl)⟩
        have HX : Hid (l[k]? = some x) := hx
        clear HR h0 A0 hx
        cases he : Dc.ends x
        all_goals
          rw [he] at hrl
          first | (have : r = 0 := hrl; subst this) | (have : r = 4 := hrl; subst this)
          clear hrl
          go_enter Tryd.func33, Tryd.ntmps33
          go_wp2_with fail
          refine CI.out.mono ?_
          rintro e w1 ⟨rfl, hb⟩
          have H1 : Hid (Below w.heap.size w w1) := hb
          obtain ⟨hc0, hc1, hc2⟩ := (HA.out.below hb).get HX.out
          clear hb
          have hne : ((x.c.toNat : Int) != 10) = (!Dc.ends x) := rfl
          rw [he] at hne
          clear he
          have hz : ((k : Int) + 1 == 0) = false := by simp; omega
          simp only [Bool.not_true, Bool.not_false] at hne
          go_wp2
          go_ret
          exact ⟨rfl, H1.out⟩
    · have hrr : Dc.errs l = r := (Dc.check_errs (by rw [HN.out]; exact h80) h0).symm.trans HR.out
      rw [hrr] at CI h0
      clear HR hrr
      go_enter Tryd.func33, Tryd.ntmps33
      go_wp2_with fail
      refine CI.out.mono ?_
      rintro e w1 ⟨rfl, hb⟩
      have H1 : Hid (Below w.heap.size w w1) := hb
      clear hb
      go_wp2
      go_ret
      exact ⟨rfl, H1.out⟩
end Go.Proofs.YtgidmnoinbbajaaDoor
