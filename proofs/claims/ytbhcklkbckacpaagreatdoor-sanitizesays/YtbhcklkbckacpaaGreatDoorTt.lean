/-
  The reference's Tokens: a page, of few enough bytes, is taken apart as chapter 5 says.
-/
import Derived.Test.YtbhcklkbckacpaaGreatDoorTx
import Derived.Test.YtbhcklkbckacpaaGreatDoorTe
namespace Go.Proofs.YtbhcklkbckacpaaGreatDoor
open Go.RowKit
theorem first_60 (t : List UInt8) : Tk.first 60 t = Tk.angle t := rfl
theorem u8_eqf (c d : UInt8) (h : ¬ c = d) : ((c.toNat : Int) == (d.toNat : Int)) = false := by have := u8_ne c d h; simpa using this
theorem ref_round (w : World) (bb off n cap i : Nat) (l : List UInt8) (v : Value) (wr : World) (pre : List Tk) (us : Nat → Value) (Q0 : Exit → Act → World → Prop) (hS : RefAt w bb off n cap l v wr pre i) (hn : n ≤ 20000) (hi : i < l.length) (hQ : RefO w bb off n cap l Q0) :
    Code.wp Tryz.prog ((Tryz.f12.body.bind firstLoop).getD .skip) (Exit.then (fun a' w' => RefI w bb off n cap l a' w' ∧ frmMu n a' < n - i) Q0) (frm w.heap.size v i us) wr := by
  cases hc : ((l[i].toNat : Int) != 60)
  · have h60 : l[i] = 60 := UInt8.toNat_inj.1 (by have : (l[i].toNat : Int) = 60 := (by simpa using hc); show l[i].toNat = 60; omega)
    have hdr : l.drop i = 60 :: l.drop (i + 1) := by rw [drop_at hi, h60]
    cases hpx : ([60, 33, 45, 45] : List UInt8).isPrefixOf (l.drop i)
    · have hp3 : ¬ ([33, 45, 45] : List UInt8).isPrefixOf (l.drop (i + 1)) = true := by rw [hdr, pre4] at hpx; rw [hpx]; exact Bool.false_ne_true
      by_cases hi1 : i + 1 < l.length
      · have hd1 : l.drop (i + 1) = l[i + 1] :: l.drop (i + 2) := drop_at hi1
        rw [hd1] at hp3
        by_cases h33 : l[i + 1] = 33
        · exact ref_bang w bb off n cap i l v wr pre us Q0 hS hn hi hc hpx hi1 h33
        by_cases h63 : l[i + 1] = 63
        · exact ref_quest w bb off n cap i l v wr pre us Q0 hS hn hi hc hpx hi1 h63
        have e33 : (l[i + 1] == 33 || l[i + 1] == 63) = false := by simp [h33, h63]
        by_cases h47 : l[i + 1] = 47
        · have hA : Tk.first 60 (l.drop (i + 1)) = Tk.shutAt (l.drop (i + 2)) := by
            rw [first_60, hd1, Tk.angle_cons, if_neg hp3, e33, if_neg Bool.false_ne_true, h47]
            rfl
          by_cases hi2 : i + 2 < l.length
          · have hd2 : l.drop (i + 2) = l[i + 2] :: l.drop (i + 3) := drop_at hi2
            cases hlet : Tk.letter l[i + 2]
            · exact ref_shutno w bb off n cap i l v wr pre us Q0 hS hn hi hc hpx (by rw [hA, hd2, Tk.shutAt, hlet, hd1, h47, hd2]; rfl) hi1 h47 hi2 hlet
            · exact ref_tag w bb off n cap i l v wr pre us Q0 hS hn hi hc hpx true (i + 2) hi1 (by rw [h47]; rfl) (by rw [h47]; rfl) (by rw [h47]; rfl) rfl hi2 hlet (by rw [hA, hd2, Tk.shutAt, hlet]; rfl) hQ
          · exact ref_shutlast w bb off n cap i l v wr pre us Q0 hS hn hi hc hpx (by rw [hA, hd1, h47, List.drop_eq_nil_of_le (by omega)]; rfl) hi1 h47 hi2
        · have e47 : (l[i + 1] == 47) = false := by simpa using h47
          cases hlet : Tk.letter l[i + 1]
          · exact ref_noletter w bb off n cap i l v wr pre us Q0 hS hn hi hc hpx (by
              rw [first_60, hd1, Tk.angle_cons, if_neg hp3, e33, if_neg Bool.false_ne_true, e47, if_neg Bool.false_ne_true, hlet]
              rfl) hi1 (u8_eqf _ 47 h47) (u8_eqf _ 33 h33) (u8_eqf _ 63 h63) hlet
          · exact ref_tag w bb off n cap i l v wr pre us Q0 hS hn hi hc hpx false (i + 1) hi1 (u8_eqf _ 47 h47) (u8_eqf _ 33 h33) (u8_eqf _ 63 h63) rfl hi1 hlet (by
              rw [first_60, hd1, Tk.angle_cons, if_neg hp3, e33, if_neg Bool.false_ne_true, e47, if_neg Bool.false_ne_true, hlet]
              rfl) hQ
      · exact ref_last w bb off n cap i l v wr pre us Q0 hS hn hi hc hpx (by rw [List.drop_eq_nil_of_le (by omega)]; rfl) hi1
    · exact ref_comment w bb off n cap i l v wr pre us Q0 hS hn hi hc hpx
  · exact ref_text w bb off n cap i l v wr pre us Q0 hS hn hi hc
theorem RefI.start {w : World} {bb off n cap : Nat} {l : List UInt8} {a : Act} {w' : World} {v : Value} {pre : List Tk} {i : Nat} (hf : a = frm w.heap.size v i (fun k => a.tmps.getD k undef)) (h : RefAt w bb off n cap l v w' pre i) : RefI w bb off n cap l a w' := ⟨v, pre, i, _, hf, h⟩
set_option maxRecDepth 1000000 in
set_option maxHeartbeats 1600000 in
theorem tokensR_own (ao : Option Addr) (n cap : Nat) (l : List UInt8) (w : World) (hB : Byt w ao n cap l) (hM : Mxl w) (hn : n ≤ 20000) :
    Calls Tryz.prog 12 #[.slice ao n cap] w fun e w' => (∃ v, e = .returned v ∧ w'.ownsRow (w.heap.size + 1) 30 4 v (Tk.toks l).length (tkCells (Tk.toks l))) ∧ Below w.heap.size w w' := by
  have hll := hB.bytes
  by_cases h0 : n = 0
  · subst h0
    obtain rfl : l = [] := List.length_eq_zero_iff.1 hll
    have HB : Hid (Below w.heap.size w (w.alloc (.cells #[.slice ao 0 cap] 22))) := (Below.refl _ _).alloc (Nat.le_refl _) _
    have k0 : (w.alloc (.cells #[.slice ao 0 cap] 22)).cell? ⟨w.heap.size, 0, none⟩ = some (.slice ao 0 cap) := (Blk.new w [.slice ao 0 cap] 22).cell 0
    clear hB hM
    go_enter Tryz.func12, Tryz.ntmps12
    go_wp2_with fail
    go_loopw [3, 6] (fun s3 s wx => s3 = .slice none 0 0 ∧ s = .int .i64 0 ∧ wx = w.alloc (.cells #[.slice ao 0 cap] 22)) (fun _ _ _ => 0)
    case atStart => exact ⟨rfl, rfl, rfl⟩
    case round =>
      obtain ⟨rfl, rfl, rfl⟩ := hrel
      go_wp2
      go_ret
      exact ⟨⟨.slice none 0 0, rfl, ⟨rfl, .inl ⟨rfl, rfl⟩⟩⟩, HB.out⟩
  · obtain ⟨bb, off, he, _⟩ := hB.byte h0
    subst he
    have HR0 : Hid (RefAt w bb off n cap l (.slice none 0 0) (w.alloc (.cells #[.slice (some ⟨bb, off, none⟩) n cap] 22)) [] 0) := ⟨rfl, ⟨rfl, .inl ⟨rfl, rfl⟩⟩, Blk.new w [.slice (some ⟨bb, off, none⟩) n cap] 22, (Below.refl _ _).alloc (Nat.le_refl _) _, hB, hM, Nat.le_refl _, Nat.zero_le _⟩
    go_enter Tryz.func12, Tryz.ntmps12
    go_wp2_with fail
    refine wp_loop (RefI w bb off n cap l) (fun a _ => frmMu n a) ?_ ?_
    · exact RefI.start (by kernel_rfl) HR0.out
    · rintro a wr ⟨v, pre, i, us, rfl, hS⟩
      show Code.wp _ _ (Exit.then (fun a' w' => RefI w bb off n cap l a' w' ∧ frmMu n a' < n - i) _) _ _
      by_cases hi : i < l.length
      · refine ref_round w bb off n cap i l v wr pre us _ hS hn hi ?_
        intro a w' v hm h2 hd
        have hz : bodyPost Tryz.prog Tryz.f12 (fun e w' => (∃ v, e = .returned v ∧ w'.ownsRow (w.heap.size + 1) 30 4 v (Tk.toks l).length (tkCells (Tk.toks l))) ∧ Below w.heap.size w w') .ret a w' := bodyPost_ret (by rw [results_tmp (t := 2) rfl, h2]) hd ⟨⟨v, rfl, hm.own⟩, hm.below⟩
        exact hz
      · have hin : i = n := by have := hS.le; omega
        have HS : Hid (RefAt w bb off n cap l v wr pre i) := hS
        have c0 : wr.cell? ⟨w.heap.size, 0, none⟩ = some (.slice (some ⟨bb, off, none⟩) n cap) := hS.box.cell 0
        have hg : decide (i < n) = false := by simp; omega
        clear hS
        unfold frm
        have HP : Hid (pre = Tk.toks l) := by
          have := HS.out.go
          rw [List.drop_eq_nil_of_le (by omega)] at this
          rw [← this]
          exact (List.append_nil _).symm
        go_wp2
        go_ret
        exact ⟨⟨v, rfl, HP.out ▸ HS.out.own⟩, HS.out.below⟩
end Go.Proofs.YtbhcklkbckacpaaGreatDoor
