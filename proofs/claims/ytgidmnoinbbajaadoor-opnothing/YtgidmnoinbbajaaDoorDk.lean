/-
  The reference's CheckItem and CheckItems: as doc.Item and doc.Items have it.
-/
import Derived.Test.YtgidmnoinbbajaaDoorDi
namespace Go.Proofs.YtgidmnoinbbajaaDoor
open Go.RowKit

set_option maxHeartbeats 3200000 in
theorem CheckItem_any (x : It) (w : World) (hl : x.l.size ≤ 9223372036854775807) : Calls Tryd.prog 72 #[.agg #[.int .u8 x.c.toNat, .int .i64 x.m, .string x.l]] w fun e w' => e = .returned (.int .i64 (Dc.err x)) ∧ Below w.heap.size w w' := by
  have H1 : Hid (Below w.heap.size w (boxed x w)) := boxed_below x w
  have CM : Hid (∀ w, Calls Tryd.prog 56 #[.string x.l] w fun e w' => e = .returned (.bool (Lk.may x.l.data.toList)) ∧ Below w.heap.size w w') := fun w => MayBe_any x.l w hl
  obtain ⟨r, hr⟩ : ∃ r, Dc.err x = r := ⟨_, rfl⟩
  have HR : Hid (Dc.err x = r) := hr
  rw [hr]
  clear hr
  by_cases h10 : (x.c.toNat : Int) = 10
  · have he : Dc.ends x = true := by unfold Dc.ends; simpa using h10
    by_cases hm : x.m < 0
    · have : r = 3 := HR.out.symm.trans (err_marks (.inl he) (.inl hm))
      subst this
      clear HR
      go_enter Tryd.func72, Tryd.ntmps72
      go_wp2
      go_ret
      exact ⟨rfl, (Below.refl _ _).alloc (Nat.le_refl _) _⟩
    · by_cases hm3 : 3 < x.m
      · have : r = 3 := HR.out.symm.trans (err_marks (.inl he) (.inr hm3))
        subst this
        clear HR
        go_enter Tryd.func72, Tryd.ntmps72
        go_wp2
        go_ret
        exact ⟨rfl, (Below.refl _ _).alloc (Nat.le_refl _) _⟩
      · have hk := err_link (.inl he) (by omega) (by omega)
        cases h0 : x.l.toList.isEmpty
        · rw [show Dc.link x = false by unfold Dc.link; rw [h0, he]; rfl] at hk
          have : r = 4 := HR.out.symm.trans (hk)
          subst this
          clear HR
          go_enter Tryd.func72, Tryd.ntmps72
          go_wp2
          go_ret
          exact ⟨rfl, (Below.refl _ _).alloc (Nat.le_refl _) _⟩
        · rw [show Dc.link x = true by unfold Dc.link; rw [h0]; rfl] at hk
          have : r = 0 := HR.out.symm.trans (hk)
          subst this
          clear HR
          go_enter Tryd.func72, Tryd.ntmps72
          go_wp2
          go_ret
          exact ⟨rfl, (Below.refl _ _).alloc (Nat.le_refl _) _⟩
  · have he : Dc.ends x = false := by unfold Dc.ends; simpa using h10
    by_cases hlo : (x.c.toNat : Int) < 32
    · have hch : Dc.isChar x = false := by unfold Dc.isChar; rw [decide_eq_false (by omega)]; rfl
      have : r = 1 := HR.out.symm.trans (err_text he hch)
      subst this
      clear HR
      go_enter Tryd.func72, Tryd.ntmps72
      go_wp2
      go_ret
      exact ⟨rfl, (Below.refl _ _).alloc (Nat.le_refl _) _⟩
    · by_cases hhi : 126 < (x.c.toNat : Int)
      · have hch : Dc.isChar x = false := by unfold Dc.isChar; rw [decide_eq_false (show ¬ (x.c.toNat : Int) ≤ 126 by omega)]; simp
        have : r = 1 := HR.out.symm.trans (err_text he hch)
        subst this
        clear HR
        go_enter Tryd.func72, Tryd.ntmps72
        go_wp2
        go_ret
        exact ⟨rfl, (Below.refl _ _).alloc (Nat.le_refl _) _⟩
      · have hch : Dc.isChar x = true := by unfold Dc.isChar; rw [decide_eq_true (show (x.c.toNat : Int) ≤ 126 by omega), decide_eq_true (show 32 ≤ (x.c.toNat : Int) by omega)]; rfl
        by_cases hm : x.m < 0
        · have : r = 3 := HR.out.symm.trans (err_marks (.inr hch) (.inl hm))
          subst this
          clear HR
          go_enter Tryd.func72, Tryd.ntmps72
          go_wp2
          go_ret
          exact ⟨rfl, (Below.refl _ _).alloc (Nat.le_refl _) _⟩
        · by_cases hm3 : 3 < x.m
          · have : r = 3 := HR.out.symm.trans (err_marks (.inr hch) (.inr hm3))
            subst this
            clear HR
            go_enter Tryd.func72, Tryd.ntmps72
            go_wp2
            go_ret
            exact ⟨rfl, (Below.refl _ _).alloc (Nat.le_refl _) _⟩
          · have hk := err_link (.inr hch) (by omega) (by omega)
            cases h0 : x.l.toList.isEmpty
            · cases hmay : Lk.may x.l.data.toList
              · rw [show Dc.link x = false by unfold Dc.link; rw [h0, he, hmay]; rfl] at hk
                rw [hmay] at CM
                have : r = 4 := HR.out.symm.trans (hk)
                subst this
                clear HR
                go_enter Tryd.func72, Tryd.ntmps72
                go_wp2_with fail
                refine (CM.out _).mono ?_
                rintro e w2 ⟨rfl, hb⟩
                have H2 : Hid (Below w.heap.size w w2) := H1.out.trans (hb.mono H1.out.size)
                clear hb
                go_wp2
                go_ret
                exact ⟨rfl, H2.out⟩
              · rw [show Dc.link x = true by unfold Dc.link; rw [h0, he, hmay]; rfl] at hk
                rw [hmay] at CM
                have : r = 0 := HR.out.symm.trans (hk)
                subst this
                clear HR
                go_enter Tryd.func72, Tryd.ntmps72
                go_wp2_with fail
                refine (CM.out _).mono ?_
                rintro e w2 ⟨rfl, hb⟩
                have H2 : Hid (Below w.heap.size w w2) := H1.out.trans (hb.mono H1.out.size)
                clear hb
                go_wp2
                go_ret
                exact ⟨rfl, H2.out⟩
            · rw [show Dc.link x = true by unfold Dc.link; rw [h0]; rfl] at hk
              have : r = 0 := HR.out.symm.trans (hk)
              subst this
              clear HR
              go_enter Tryd.func72, Tryd.ntmps72
              go_wp2
              go_ret
              exact ⟨rfl, (Below.refl _ _).alloc (Nat.le_refl _) _⟩

set_option maxHeartbeats 1600000 in
theorem CheckItems_any (ao : Option Addr) (n cap : Nat) (l : List It) (w : World) (hD : Doc w ao n cap l) :
    Calls Tryd.prog 55 #[.slice ao n cap] w fun e w' => e = .returned (.int .i64 (Dc.errs l)) ∧ Below w.heap.size w w' := by
  have HD : Hid (Doc w ao n cap l) := hD
  have hn := hD.len
  subst hn
  have hcap := hD.room
  have hbig := hD.big
  clear hD
  obtain ⟨r, hr⟩ : ∃ r, Dc.errs l = r := ⟨_, rfl⟩
  have HR : Hid (Dc.errs l = r) := hr
  rw [hr]
  clear hr
  go_enter Tryd.func55, Tryd.ntmps55
  go_wp2
  go_loopw [8] (fun i wr => ∃ k : Nat, k ≤ l.length ∧ i = .int .i64 k ∧ Below w.heap.size w wr ∧ Dc.errs (l.drop k) = r) (fun i _ => l.length - (intOf i).toNat)
  case atStart => exact ⟨0, Nat.zero_le _, rfl, Below.refl _ _, HR.out⟩
  case round =>
    obtain ⟨k, hk, rfl, hbr, her⟩ := hrel
    have HE : Hid (Dc.errs (l.drop k) = r) := her
    have HBR : Hid (Below w.heap.size w wr) := hbr
    clear her hbr
    by_cases hlt : k < l.length
    · obtain ⟨b, off, rfl, A0⟩ := HD.out.lies (by omega)
      have A1 := A0.below HBR.out
      have hc0 := A1.c k hlt
      have hc1 := A1.m k hlt
      have hc2 := A1.l k hlt
      have hfx := HD.out.fit _ (List.getElem_mem hlt)
      have HX : Hid (Dc.errs (l.drop k) = if Dc.err l[k] = 0 then Dc.errs (l.drop (k + 1)) else Dc.err l[k]) := Dc.errs_step l k hlt
      clear A1 A0
      generalize hx : l[k] = x at *
      have H1 : Hid (Below w.heap.size w (boxed x wr)) := HBR.out.trans ((boxed_below x wr).mono HBR.out.size)
      clear hx
      go_wp2_with fail
      change Calls Tryd.prog 72 _ (boxed x wr) _
      refine (CheckItem_any x _ hfx).mono ?_
      rintro e w1 ⟨rfl, hb⟩
      have H2 : Hid (Below w.heap.size w w1) := H1.out.trans (hb.mono H1.out.size)
      clear hb
      by_cases h0 : Dc.err x = 0
      · have HN : Hid (Dc.errs (l.drop (k + 1)) = r) := by show _ = _; rw [← HE.out, HX.out, if_pos h0]
        rw [h0]
        clear h0
        go_wp2
        go_roundw
        case rel => exact ⟨k + 1, by omega, by go_num, H2.out, HN.out⟩
        case measure => simp [intOf]; omega
      · have hrr : Dc.err x = r := by rw [← HE.out, HX.out, if_neg h0]
        rw [hrr] at h0 ⊢
        clear hrr
        go_wp2
        go_ret
        exact ⟨rfl, H2.out⟩
    · have : r = 0 := by rw [← HE.out, List.drop_eq_nil_of_le (by omega)]; rfl
      subst this
      go_wp2
      go_ret
      exact ⟨rfl, HBR.out⟩
end Go.Proofs.YtgidmnoinbbajaaDoor
