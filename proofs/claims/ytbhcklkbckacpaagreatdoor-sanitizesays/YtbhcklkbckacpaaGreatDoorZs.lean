/-
  SanitizeSays: any page is made a document as the document's own reckoning says, errors too.
-/
import Derived.Test.YtbhcklkbckacpaaGreatDoorG15
import Derived.Test.YtbhcklkbckacpaaGreatDoorG13
namespace Go.Proofs.YtbhcklkbckacpaaGreatDoor
open Go.RowKit
structure ZAt (w : World) (ao : Option Addr) (n cap : Nat) (l : List UInt8) (wr : World) : Prop where
  below : Below w.heap.size w wr
  b : Byt wr ao n cap l
  t : Tz wr
theorem ZAt.far {w : World} {ao : Option Addr} {n cap : Nat} {l : List UInt8} {wr w2 : World} (h : ZAt w ao n cap l wr) (hb : Below wr.heap.size wr w2) : ZAt w ao n cap l w2 :=
  ⟨h.below.trans (hb.mono h.below.size), h.b.below hb, h.t.below hb⟩
set_option maxRecDepth 100000 in
set_option maxHeartbeats 1600000 in
theorem zsays_any (ao : Option Addr) (n cap : Nat) (l : List UInt8) (w : World) (hB : Byt w ao n cap l) (hT : Tz w) (hTab : ∀ w', Below w.heap.size w w' → Lib.TabIs Tryz.prog w' "strings.asciiSpace" .u8 Lib.asciiSpaceTab) :
    Calls Tryz.prog 4 #[.slice ao n cap] w fun e w' => e = .returned (.bool true) ∧ Below w.heap.size w w' := by
  have hbig := hB.big
  have hcap := hB.room
  have H0 : Hid (ZAt w ao n cap l w) := ⟨Below.refl _ _, hB, hT⟩
  have CT : Hid (∀ w', Tz w' → Calls Tryz.prog 14 #[] w' fun e w2 => e = .returned (.bool true) ∧ Below w'.heap.size w' w2) := fun w' h => paged_any w' h
  have HTab : Hid (∀ w', Below w.heap.size w w' → Lib.TabIs Tryz.prog w' "strings.asciiSpace" .u8 Lib.asciiSpaceTab) := hTab
  clear hB hT hTab
  by_cases hn : n ≤ 20000
  · obtain ⟨r, hr⟩ : ∃ r, Sn.read (Tk.toks l) = r := ⟨_, rfl⟩
    obtain ⟨d, hd⟩ : ∃ d, r.getD [] = d := ⟨_, rfl⟩
    obtain ⟨n1, hn1⟩ : ∃ n1, d.length = n1 := ⟨_, rfl⟩
    obtain ⟨er, her⟩ : ∃ er : Int, (if r.isNone then 2 else 0) = er := ⟨_, rfl⟩
    have CP : Hid (Calls Tryz.prog 13 #[.slice ao n cap] w fun e w' => (∃ ao' cap', e = .returned (.tuple #[.slice ao' n1 cap', .int .i64 er]) ∧ Doc w' ao' n1 cap' d) ∧ Below w.heap.size w w') := by
      have := zread_any w ao n cap l H0.out.b H0.out.t hn r hr
      rw [hd, hn1, her] at this
      exact this
    have CR : Hid (∀ w', ZAt w ao n cap l w' → Calls Tryz.prog 15 #[.slice ao n cap] w' fun e w2 => (∃ ao' cap', e = .returned (.tuple #[.slice ao' n1 cap', .int .i64 er]) ∧ Doc w2 ao' n1 cap' d) ∧ Below w'.heap.size w' w2) := fun w' h => by
      have := readR_any ao n cap l w' h.b h.t.mx hn (fun w2 hb => HTab.out w2 (h.below.trans (hb.mono h.below.size))) r hr
      unfold RdAns at this
      rw [hd, hn1, her] at this
      exact this
    clear hr hd hn1 her
    go_enter Tryz.func4, Tryz.ntmps4
    go_wp2_with fail
    refine CP.out.mono ?_
    rintro e w1 ⟨⟨a1, c1, rfl, ht⟩, hb⟩
    have H1 : Hid (ZAt w ao n cap l w1) := H0.out.far hb
    have HT1 : Hid (Doc w1 a1 n1 c1 d) := ht
    clear ht hb CP
    go_wp2_with fail
    refine (CT.out w1 H1.out.t).mono ?_
    rintro e w2 ⟨rfl, hb⟩
    have H2 : Hid (ZAt w ao n cap l w2) := H1.out.far hb
    have HT2 : Hid (Doc w2 a1 n1 c1 d) := HT1.out.below hb
    clear hb
    go_wp2_with fail
    refine (CR.out w2 H2.out).mono ?_
    rintro e w3 ⟨⟨a3, c3, rfl, ht⟩, hb⟩
    have H3 : Hid (ZAt w ao n cap l w3) := H2.out.far hb
    have HT3 : Hid (Doc w3 a1 n1 c1 d) := HT2.out.below hb
    have HR3 : Hid (Doc w3 a3 n1 c3 d) := ht
    clear ht hb
    go_wp2_with fail
    refine (equal_any a1 a3 n1 c1 n1 c3 d d w3 HT3.out HR3.out).mono ?_
    rintro e w4 ⟨rfl, m, hw⟩
    rw [dsame_self]
    have HW : Hid (Below w.heap.size w w4) := by rw [hw]; exact H3.out.below.trans ⟨rfl, rfl, rfl, Nat.le_refl _, fun _ _ => rfl⟩
    clear hw
    go_wp2
    go_ret
    exact ⟨rfl, HW.out⟩
  · have hgt : decide ((20000 : Int) < (n : Int)) = true := by simp; omega
    have CP : Hid (Calls Tryz.prog 13 #[.slice ao n cap] w fun e w' => e = .returned (.tuple #[.slice none 0 0, .int .i64 2]) ∧ Below w.heap.size w w') := (zpage_many ao n cap w (by omega)).mono fun e w' h => by first | exact h | (obtain ⟨h1, rfl⟩ := h; exact ⟨h1, Below.refl _ _⟩)
    go_enter Tryz.func4, Tryz.ntmps4
    go_wp2_with fail
    refine CP.out.mono ?_
    rintro e w1 ⟨rfl, hb⟩
    have H1 : Hid (ZAt w ao n cap l w1) := H0.out.far hb
    clear hb
    go_wp2_with fail
    refine (CT.out w1 H1.out.t).mono ?_
    rintro e w2 ⟨rfl, hb⟩
    have H2 : Hid (ZAt w ao n cap l w2) := H1.out.far hb
    clear hb
    go_wp2_with fail
    refine (CT.out w2 H2.out.t).mono ?_
    rintro e w3 ⟨rfl, hb⟩
    have H3 : Hid (ZAt w ao n cap l w3) := H2.out.far hb
    clear hb
    go_wp2
    go_ret
    exact ⟨rfl, H3.out.below⟩
end Go.Proofs.YtbhcklkbckacpaaGreatDoor
