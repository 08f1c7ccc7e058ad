/-
  TokenSays: any page is taken apart as the document's own reckoning says, errors too.
-/
import Derived.Test.YtbhcklkbckacpaaGreatDoorTt
import Derived.Test.YtbhcklkbckacpaaGreatDoorTn
namespace Go.Proofs.YtbhcklkbckacpaaGreatDoor
open Go.RowKit
structure TAt (w : World) (ao : Option Addr) (n cap : Nat) (l : List UInt8) (wr : World) : Prop where
  below : Below w.heap.size w wr
  b : Byt wr ao n cap l
  env : Env wr wr.heap.size
theorem TAt.far {w : World} {ao : Option Addr} {n cap : Nat} {l : List UInt8} {wr w2 : World} (h : TAt w ao n cap l wr) (hb : Below wr.heap.size wr w2) : TAt w ao n cap l w2 :=
  ⟨h.below.trans (hb.mono h.below.size), h.b.below hb, h.env.top hb⟩
set_option maxRecDepth 100000 in
set_option maxHeartbeats 1600000 in
theorem tsays_any (ao : Option Addr) (n cap : Nat) (l : List UInt8) (w : World) (hB : Byt w ao n cap l) (hE : Env w w.heap.size) :
    Calls Tryz.prog 3 #[.slice ao n cap] w fun e w' => e = .returned (.bool true) ∧ Below w.heap.size w w' := by
  have hbig := hB.big
  have hcap := hB.room
  have H0 : Hid (TAt w ao n cap l w) := ⟨Below.refl _ _, hB, hE⟩
  have CT : Hid (∀ w', Env w' w'.heap.size → Calls Tryz.prog 10 #[] w' fun e w2 => e = .returned (.bool true) ∧ Below w'.heap.size w' w2) := fun w' h => torn_any w' h
  clear hB hE
  by_cases hn : n ≤ 20000
  · obtain ⟨T, hT⟩ : ∃ T, Tk.toks l = T := ⟨_, rfl⟩
    obtain ⟨n1, hn1⟩ : ∃ n1, T.length = n1 := ⟨_, rfl⟩
    have CP : Hid (Calls Tryz.prog 9 #[.slice ao n cap] w fun e w' => (∃ ao' cap', e = .returned (.tuple #[.slice ao' n1 cap', .int .i64 0]) ∧ Tks w' ao' n1 cap' T) ∧ Below w.heap.size w w') := by
      have := tpage_ok ao n cap l w H0.out.b H0.out.env hn
      rw [hT, hn1] at this
      exact this
    have CR : Hid (∀ w', TAt w ao n cap l w' → Calls Tryz.prog 12 #[.slice ao n cap] w' fun e w2 => (∃ a' n' c', e = .returned (.slice a' n' c') ∧ Tks w2 a' n' c' T) ∧ Below w'.heap.size w' w2) := fun w' h => by
      have := tokensR_any ao n cap l w' h.b h.env.mx hn
      rw [hT] at this
      exact this
    clear hT hn1
    go_enter Tryz.func3, Tryz.ntmps3
    go_wp2_with fail
    refine CP.out.mono ?_
    rintro e w1 ⟨⟨a1, c1, rfl, ht⟩, hb⟩
    have H1 : Hid (TAt w ao n cap l w1) := H0.out.far hb
    have HT1 : Hid (Tks w1 a1 n1 c1 T) := ht
    clear ht hb CP
    go_wp2_with fail
    refine (CT.out w1 H1.out.env).mono ?_
    rintro e w2 ⟨rfl, hb⟩
    have H2 : Hid (TAt w ao n cap l w2) := H1.out.far hb
    have HT2 : Hid (Tks w2 a1 n1 c1 T) := HT1.out.below hb
    clear hb
    go_wp2_with fail
    refine (CR.out w2 H2.out).mono ?_
    rintro e w3 ⟨⟨a3, n3, c3, rfl, ht⟩, hb⟩
    have H3 : Hid (TAt w ao n cap l w3) := H2.out.far hb
    have HT3 : Hid (Tks w3 a1 n1 c1 T) := HT2.out.below hb
    have HR3 : Hid (Tks w3 a3 n3 c3 T) := ht
    clear ht hb
    go_wp2_with fail
    refine (equalTk_any a1 a3 n1 c1 n3 c3 T T w3 HT3.out HR3.out).mono ?_
    rintro e w4 ⟨rfl, m, hw⟩
    rw [Tk.same_self]
    have HW : Hid (Below w.heap.size w w4) := by rw [hw]; exact H3.out.below.trans ⟨rfl, rfl, rfl, Nat.le_refl _, fun _ _ => rfl⟩
    clear hw
    go_wp2
    go_ret
    exact ⟨rfl, HW.out⟩
  · have hgt : decide ((20000 : Int) < (n : Int)) = true := by simp; omega
    have CP : Hid (Calls Tryz.prog 9 #[.slice ao n cap] w fun e w' => e = .returned (.tuple #[.slice none 0 0, .int .i64 2]) ∧ w' = w) := tpage_many ao n cap w (by omega)
    go_enter Tryz.func3, Tryz.ntmps3
    go_wp2_with fail
    refine CP.out.mono ?_
    rintro e w1 ⟨rfl, hw⟩
    rw [hw]
    clear hw w1
    go_wp2_with fail
    refine (CT.out w H0.out.env).mono ?_
    rintro e w2 ⟨rfl, hb⟩
    have H2 : Hid (TAt w ao n cap l w2) := H0.out.far hb
    clear hb
    go_wp2_with fail
    refine (CT.out w2 H2.out.env).mono ?_
    rintro e w3 ⟨rfl, hb⟩
    have H3 : Hid (TAt w ao n cap l w3) := H2.out.far hb
    clear hb
    go_wp2
    go_ret
    exact ⟨rfl, H3.out.below⟩
end Go.Proofs.YtbhcklkbckacpaaGreatDoor
