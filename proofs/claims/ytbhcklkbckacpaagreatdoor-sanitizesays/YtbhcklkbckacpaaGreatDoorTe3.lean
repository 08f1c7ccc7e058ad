/-
  The reference's Tokens: a round over the attributes.
-/
import Derived.Test.YtbhcklkbckacpaaGreatDoorTe2
namespace Go.Proofs.YtbhcklkbckacpaaGreatDoor
open Go.RowKit
set_option maxRecDepth 1000000 in
set_option maxHeartbeats 12800000 in
theorem att_round (w : World) (bb off n cap : Nat) (l : List UInt8) (v : Value) (pre : List Tk) (tb : Nat) (kd : Int) (nm : List UInt8) (i : Nat) (shut : Bool) (m : Nat) (R : Option (Option (List UInt8) × List UInt8)) (k : Nat) (h : Option (List UInt8)) (us : Nat → Value) (w5 : World) (Q : Exit → Act → World → Prop) (hn : n ≤ 20000) (hA : AttAt w bb off n cap l v pre tb ⟨kd, nm, [], []⟩ m R w5 k h) (hQ : ∀ us', (∀ hk : k < l.length, l[k] = 62) → Q (.exit 7) (frmA w.heap.size v i shut tb k h us') w5) :
    Code.wp Tryz.prog (((Tryz.f12.body.map loopsOf).getD []).getD 3 .skip) (Exit.then (fun a' w' => AttI w bb off n cap l v pre tb ⟨kd, nm, [], []⟩ m R i shut a' w' ∧ attMu n a' < n - k) Q) (frmA w.heap.size v i shut tb k h us) w5 := by
  have hA0 := hA
  obtain ⟨hk1, hk2, hk5, hk4, hT⟩ := hA
  have HT5 : Hid (TagM w bb off n cap l v pre tb ⟨kd, nm, [], []⟩ w5) := hT
  have HA : Hid (Tk.attr (l.drop k) h = R) := hk4
  have hll := hT.m.bytes.bytes
  have hcap := hT.m.bytes.room
  clear hT hk4
  have HQ : Hid (∀ us', (∀ hk : k < l.length, l[k] = 62) → Q (.exit 7) (frmA w.heap.size v i shut tb k h us') w5) := hQ
  clear hQ
  by_cases hkl : k < l.length
  · by_cases g62 : l[k] = 62
    · have h62' : ∀ hk : k < l.length, l[k] = 62 := fun _ => g62
      clear hA0
      have hkn : k < n := by omega
      have c0 : w5.cell? ⟨w.heap.size, 0, none⟩ = some (.slice (some ⟨bb, off, none⟩) n cap) := HT5.out.m.box.cell 0
      obtain ⟨b', off', he, hcs⟩ := HT5.out.m.bytes.byte (by omega)
      cases he
      have HC : Hid (∀ i (hi : i < l.length), w5.cell? ⟨bb, off + i, none⟩ = some (.int .u8 l[i].toNat)) := hcs
      clear hcs
      have ck := HC.out k hkl
      obtain ⟨c, hc⟩ : ∃ c, l[k] = c := ⟨_, rfl⟩
      rw [hc] at ck
      have HCC : Hid (l[k] = c) := hc
      clear hc
      have h62 : c = 62 := by rw [← HCC.out]; exact g62
      have b62 : ((c.toNat : Int) != 62) = false := by rw [h62]; rfl
      have H62 : Hid (∀ hk : k < l.length, l[k] = 62) := h62'
      clear h62' g62 h62 HCC
      unfold frmA frm4
      conv => arg 2; whnf
      go_wp2
      exact as_frame (K := Q (.exit 7)) (frmA w.heap.size v i shut tb k h) (by kernel_rfl) (fun us' => HQ.out us' H62.out)
    · cases gs : Tk.sp l[k]
      · by_cases g47 : l[k] = 47
        · clear hA0
          have hkn : k < n := by omega
          have c0 : w5.cell? ⟨w.heap.size, 0, none⟩ = some (.slice (some ⟨bb, off, none⟩) n cap) := HT5.out.m.box.cell 0
          obtain ⟨b', off', he, hcs⟩ := HT5.out.m.bytes.byte (by omega)
          cases he
          have HC : Hid (∀ i (hi : i < l.length), w5.cell? ⟨bb, off + i, none⟩ = some (.int .u8 l[i].toNat)) := hcs
          clear hcs
          have ck := HC.out k hkl
          obtain ⟨c, hc⟩ : ∃ c, l[k] = c := ⟨_, rfl⟩
          rw [hc] at ck
          have HCC : Hid (l[k] = c) := hc
          clear hc
          have h47 : c = 47 := by rw [← HCC.out]; exact g47
          have hs : Tk.sp c = false := by rw [← HCC.out]; exact gs
          have b62 : ((c.toNat : Int) != 62) = true := u8_ne c 62 (by rw [← HCC.out]; exact g62)
          have b47 : ((c.toNat : Int) == 47) = true := by rw [h47]; rfl
          have HA2 : Hid (Tk.attr (l.drop (k + 1)) h = R) := by rw [← HA.out, drop_at hkl, HCC.out, Tk.attr_sl1 _ _ _ (by rw [h47]; rfl)]; rfl
          clear HA HCC h47 g62 g47 gs HQ
          unfold frmA frm4
          conv => arg 2; whnf
          go_wp2_with fail
          refine (space_any c _).mono ?_
          rintro e wx ⟨rfl, hw⟩
          rw [hw, hs]
          clear hw wx
          go_wp2
          exact AttI.step (by kernel_rfl) ⟨by omega, by omega, hk5, HA2.out, HT5.out⟩ (Nat.lt_succ_self _)
        · exact att_go w bb off n cap l v pre tb kd nm i shut m R k h us w5 Q hn hA0 hkl g62 g47 gs
      · clear hA0
        have hkn : k < n := by omega
        have c0 : w5.cell? ⟨w.heap.size, 0, none⟩ = some (.slice (some ⟨bb, off, none⟩) n cap) := HT5.out.m.box.cell 0
        obtain ⟨b', off', he, hcs⟩ := HT5.out.m.bytes.byte (by omega)
        cases he
        have HC : Hid (∀ i (hi : i < l.length), w5.cell? ⟨bb, off + i, none⟩ = some (.int .u8 l[i].toNat)) := hcs
        clear hcs
        have ck := HC.out k hkl
        obtain ⟨c, hc⟩ : ∃ c, l[k] = c := ⟨_, rfl⟩
        rw [hc] at ck
        have HCC : Hid (l[k] = c) := hc
        clear hc
        have hs : Tk.sp c = true := by rw [← HCC.out]; exact gs
        have b62 : ((c.toNat : Int) != 62) = true := u8_ne c 62 (by rw [← HCC.out]; exact g62)
        have HA2 : Hid (Tk.attr (l.drop (k + 1)) h = R) := by rw [← HA.out, drop_at hkl, HCC.out, Tk.attr_sl1 _ _ _ (by unfold Tk.sl; rw [hs]; rfl)]; rfl
        clear HA HCC g62 gs HQ
        unfold frmA frm4
        conv => arg 2; whnf
        go_wp2_with fail
        refine (space_any c _).mono ?_
        rintro e wx ⟨rfl, hw⟩
        rw [hw, hs]
        clear hw wx
        go_wp2
        exact AttI.step (by kernel_rfl) ⟨by omega, by omega, hk5, HA2.out, HT5.out⟩ (Nat.lt_succ_self _)
  · have H62 : Hid (∀ hk : k < l.length, l[k] = 62) := fun hk => absurd hk hkl
    have c0 : w5.cell? ⟨w.heap.size, 0, none⟩ = some (.slice (some ⟨bb, off, none⟩) n cap) := HT5.out.m.box.cell 0
    have hkn : ¬ k < n := by omega
    clear hA0
    unfold frmA frm4
    conv => arg 2; whnf
    go_wp2
    exact as_frame (K := Q (.exit 7)) (frmA w.heap.size v i shut tb k h) (by kernel_rfl) (fun us' => HQ.out us' H62.out)
end Go.Proofs.YtbhcklkbckacpaaGreatDoor
