/-
  OpNothing: who keeps all changes nothing.
-/
import Derived.Test.YtgidmnoinbbajaaDoorOq
namespace Go.Proofs.YtgidmnoinbbajaaDoor
open Go.RowKit

/-- A Keep of n items that changes nothing. -/
def kv (n : Nat) : PV := ⟨1, n, none, 0, 0, [], 0, 0, false, ⟨#[]⟩⟩
theorem kv_pt (n : Nat) : [kv n].map PV.pt = [Ac.keepP Ac.nop n] := rfl
def kvW (n : Nat) (w : World) : World := w.alloc (.cells #[.int .i64 1, .int .i64 n, .slice none 0 0, .int .i64 0, .int .i64 0, .bool false, .string ⟨#[]⟩] 44)
theorem kv_below (n : Nat) (w : World) : Below w.heap.size w (kvW n w) := (Below.refl _ _).alloc (Nat.le_refl _) _
theorem kv_ops (n : Nat) (w : World) : Ops (kvW n w) (some ⟨w.heap.size, 0, none⟩) 1 1 [kv n] := by
  have hP : Blk (kvW n w) w.heap.size (pvCells [kv n]) 44 := Blk.new w _ _
  refine ⟨⟨rfl, Nat.le_refl _, by decide, fun _ => ⟨_, 0, rfl, fun j u hu => ?_⟩⟩, fun v hv => ?_⟩
  · rw [Nat.zero_add]
    exact (hP.cell j).trans hu
  · rw [List.mem_singleton.1 hv]
    exact ⟨doc_none _, Nat.zero_le _⟩

set_option maxRecDepth 100000 in
set_option maxHeartbeats 3200000 in
theorem nothing_any (ao ao' : Option Addr) (n cap n' cap' : Nat) (l : List It) (vs : List PV) (w : World) (hD : Doc w ao n cap l) (hO : Ops w ao' n' cap' vs) (hS : Sch w) :
    Calls Tryd.prog 5 #[.slice ao n cap, .slice ao' n' cap'] w fun e w' => e = .returned (.bool true) ∧ Below w.heap.size w w' := by
  have CA := apply_any ao ao' n cap n' cap' l vs w hD hO hS
  have HS : Hid (∀ w', Below w.heap.size w w' → Sch w') := fun w' h => hS.below h
  have HD : Hid (∀ w', Below w.heap.size w w' → Doc w' ao n cap l) := fun w' h => hD.below h
  have HL : Hid (l.length = n) := hD.len
  have CO : Hid (∀ w', Below w.heap.size w w' → Calls Tryd.prog 16 #[] w' fun e w'' => e = .returned (.bool true) ∧ Below w'.heap.size w' w'') := fun w' h => opened_any w' (hS.below h)
  clear hD hO hS
  by_cases hE : Ac.fitE l (vs.map PV.pt) = 0
  · obtain ⟨hck, hri, hnd, hlv⟩ := Ac.fit_0 hE
    have hdn : Ac.done l (vs.map PV.pt) = (Ac.mk l (vs.map PV.pt)).1 := if_pos hE
    obtain ⟨hmc, hml, -⟩ := Ac.made_doc hck hri hnd hlv
    rw [hE, hdn] at CA
    have hk1 := Ac.keep_all hck
    have hk2 := Ac.keep_all hmc
    rw [HL.out] at hk1
    generalize (Ac.mk l (vs.map PV.pt)).1 = c at *
    obtain ⟨m, hm⟩ : ∃ m, c.length = m := ⟨_, rfl⟩
    rw [hm] at CA hk2
    have HE1 : Hid (Ac.done l [Ac.keepP Ac.nop n] = l ∧ Ac.fitE l [Ac.keepP Ac.nop n] = 0) := ⟨by unfold Ac.done; rw [if_pos hk1.1]; exact hk1.2, hk1.1⟩
    have HE2 : Hid (Ac.done c [Ac.keepP Ac.nop m] = c ∧ Ac.fitE c [Ac.keepP Ac.nop m] = 0) := ⟨by unfold Ac.done; rw [if_pos hk2.1]; exact hk2.2, hk2.1⟩
    have HM : Hid (c.length = m) := hm
    have HCA : Hid (Calls Tryd.prog 10 #[.slice ao n cap, .slice ao' n' cap'] w fun e w' => (∃ a k, e = .returned (.tuple #[.slice a m k, .int .i64 0]) ∧ Doc w' a m k c) ∧ Below w.heap.size w w') := CA
    clear CA hE hck hri hnd hlv hdn hmc hml hk1 hk2 hm
    go_enter Tryd.func5, Tryd.ntmps5
    go_wp2_with fail
    refine HCA.out.mono ?_
    rintro e w1 ⟨⟨a, k, rfl, hD1⟩, hb⟩
    have H1 : Hid (Below w.heap.size w w1) := hb
    have HD1 : Hid (Doc w1 a m k c) := hD1
    clear hb hD1 HCA
    go_wp2_with fail
    refine (CO.out _ H1.out).mono ?_
    rintro e w2 ⟨rfl, hb⟩
    have H2 : Hid (Below w.heap.size w w2) := H1.out.trans (hb.mono H1.out.size)
    have HD2 : Hid (Doc w2 a m k c) := HD1.out.below hb
    have H2K : Hid (Below w.heap.size w (kvW n w2)) := H2.out.trans ((kv_below n w2).mono H2.out.size)
    have CA1 : Hid (Calls Tryd.prog 10 #[.slice ao n cap, .slice (some ⟨w2.heap.size, 0, none⟩) 1 1] (kvW n w2) fun e w' => (∃ a k, e = .returned (.tuple #[.slice a n k, .int .i64 0]) ∧ Doc w' a n k l) ∧ Below (kvW n w2).heap.size (kvW n w2) w') := by
      have := apply_any ao (some ⟨w2.heap.size, 0, none⟩) n cap 1 1 l [kv n] (kvW n w2) (HD.out _ H2K.out) (kv_ops n w2) (HS.out _ H2K.out)
      rw [kv_pt, HE1.out.1, HE1.out.2, HL.out] at this
      exact this
    have HD2K : Hid (Doc (kvW n w2) a m k c) := HD2.out.below (kv_below n w2)
    clear hb
    go_wp2_with fail
    change Calls Tryd.prog 10 _ (kvW n w2) _
    refine CA1.out.mono ?_
    rintro e w3 ⟨⟨xa, xk, rfl, hX⟩, hb⟩
    have H3 : Hid (Below w.heap.size w w3) := H2K.out.trans (hb.mono H2K.out.size)
    have HX3 : Hid (Doc w3 xa n xk l) := hX
    have HD3 : Hid (Doc w3 a m k c) := HD2K.out.below hb
    have H3K : Hid (Below w.heap.size w (kvW m w3)) := H3.out.trans ((kv_below m w3).mono H3.out.size)
    have CA2 : Hid (Calls Tryd.prog 10 #[.slice a m k, .slice (some ⟨w3.heap.size, 0, none⟩) 1 1] (kvW m w3) fun e w' => (∃ a k, e = .returned (.tuple #[.slice a m k, .int .i64 0]) ∧ Doc w' a m k c) ∧ Below (kvW m w3).heap.size (kvW m w3) w') := by
      have := apply_any a (some ⟨w3.heap.size, 0, none⟩) m k 1 1 c [kv m] (kvW m w3) (HD3.out.below (kv_below m w3)) (kv_ops m w3) (HS.out _ H3K.out)
      rw [kv_pt, HE2.out.1, HE2.out.2, HM.out] at this
      exact this
    clear hb hX CA1
    go_wp2_with fail
    change Calls Tryd.prog 10 _ (kvW m w3) _
    refine CA2.out.mono ?_
    rintro e w4 ⟨⟨ya, yk, rfl, hY⟩, hb⟩
    have hb4 : Below w3.heap.size w3 w4 := (kv_below m w3).trans (hb.mono (kv_below m w3).size)
    have H4 : Hid (Below w.heap.size w w4) := H3.out.trans (hb4.mono H3.out.size)
    have C1 : Hid (Calls Tryd.prog 23 #[.slice xa n xk, .slice ao n cap] w4 fun e w' => e = .returned (.bool true) ∧ ∃ m, w' = w4.drewN m) := by
      have := same_any xa ao n xk n cap l l w4 (HX3.out.below hb4) (HD.out _ H4.out)
      rw [(its_same _ _).2 rfl] at this
      exact this
    have C2 : Hid (∀ q, Calls Tryd.prog 23 #[.slice ya m yk, .slice a m k] (w4.drewN q) fun e w' => e = .returned (.bool true) ∧ ∃ m, w' = (w4.drewN q).drewN m) := fun q => by
      have := same_any ya a m yk m k c c (w4.drewN q) (hY.below (drewN_blw _ _)) ((HD3.out.below hb4).below (drewN_blw _ _))
      rw [(its_same _ _).2 rfl] at this
      exact this
    clear hb hY CA2 hb4
    go_wp2_with fail
    refine C1.out.mono ?_
    rintro e w5 ⟨rfl, q, rfl⟩
    go_wp2_with fail
    refine (C2.out q).mono ?_
    rintro e w6 ⟨rfl, q', rfl⟩
    go_wp2
    go_ret
    exact ⟨rfl, H4.out.trans ((drewN_blw _ _).mono H4.out.size)⟩
  · have HCA : Hid (Calls Tryd.prog 10 #[.slice ao n cap, .slice ao' n' cap'] w fun e w' => (∃ a k, e = .returned (.tuple #[.slice a (Ac.done l (vs.map PV.pt)).length k, .int .i64 (Ac.fitE l (vs.map PV.pt))])) ∧ Below w.heap.size w w') := CA.mono (fun e w' ⟨⟨a, k, h, _⟩, hb⟩ => ⟨⟨a, k, h⟩, hb⟩)
    clear CA
    generalize (Ac.done l (vs.map PV.pt)).length = dl at *
    generalize Ac.fitE l (vs.map PV.pt) = r at *
    have hE' : (r != 0) = true := by simp [hE]
    go_enter Tryd.func5, Tryd.ntmps5
    go_wp2_with fail
    refine HCA.out.mono ?_
    rintro e w1 ⟨⟨a, k, rfl⟩, hb⟩
    have H1 : Hid (Below w.heap.size w w1) := hb
    clear hb HCA
    go_wp2_with fail
    refine (CO.out _ H1.out).mono ?_
    rintro e w2 ⟨rfl, hb⟩
    have H2 : Hid (Below w.heap.size w w2) := H1.out.trans (hb.mono H1.out.size)
    clear hb
    go_wp2_with fail
    refine (CO.out _ H2.out).mono ?_
    rintro e w3 ⟨rfl, hb⟩
    have H3 : Hid (Below w.heap.size w w3) := H2.out.trans (hb.mono H2.out.size)
    clear hb
    go_wp2
    go_ret
    exact ⟨rfl, H3.out⟩
end Go.Proofs.YtgidmnoinbbajaaDoor
