/-
  The reference's Tokens, at work: its frame, and what holds of it.
-/
import Derived.Test.YtbhcklkbckacpaaGreatDoorG2
import Derived.Test.YtbhcklkbckacpaaGreatDoorG3
import Derived.Test.YtbhcklkbckacpaaGreatDoorReadSo
import Derived.Deep.CutRange
import Derived.Deep.CutBlock
namespace Go.Proofs.YtbhcklkbckacpaaGreatDoor
open Go.RowKit

def firstLoop : Code → Option Code
  | .loop c => some c
  | .seq a b => match firstLoop a with
    | some c => some c
    | none => firstLoop b
  | .block _ c => firstLoop c
  | .scope c => firstLoop c
  | .cond _ a b => match firstLoop a with
    | some c => some c
    | none => firstLoop b
  | _ => none
set_option maxRecDepth 1000000 in
def frm (h : Nat) (v : Value) (i : Nat) (us : Nat → Value) : Act := ⟨#[us 0, .pointer (some ⟨h, 0, none⟩), us 2, v, .func (.func 53) #[] #[.pointer (some ⟨h, 0, none⟩)], .func (.func 54) #[] #[.pointer (some ⟨h, 0, none⟩)], .int .i64 i, us 7, us 8, us 9, us 10, us 11, us 12, us 13, us 14, us 15, us 16, us 17, us 18, us 19, us 20, us 21, us 22, us 23, us 24, us 25, us 26, us 27, us 28, us 29, us 30, us 31, us 32, us 33, us 34, us 35, us 36, us 37, us 38, us 39, us 40, us 41, us 42, us 43, us 44, us 45, us 46, us 47, us 48, us 49, us 50, us 51, us 52, us 53, us 54, us 55, us 56, us 57, us 58, us 59, us 60, us 61, us 62, us 63, us 64, us 65, us 66, us 67, us 68, us 69, us 70, us 71, us 72, us 73, us 74, us 75, us 76, us 77, us 78, us 79, us 80, us 81, us 82, us 83, us 84, us 85, us 86, us 87, us 88, us 89, us 90, us 91, us 92, us 93, us 94, us 95, us 96, us 97, us 98, us 99, us 100, us 101, us 102, us 103, us 104, us 105, us 106, us 107, us 108, us 109, us 110, us 111, us 112, us 113, us 114, us 115, us 116, us 117, us 118, us 119, us 120, us 121, us 122, us 123, us 124, us 125, us 126, us 127, us 128, us 129, us 130, us 131, us 132, us 133, us 134, us 135, us 136, us 137, us 138, us 139, us 140, us 141, us 142, us 143, us 144, us 145, us 146, us 147, us 148, us 149, us 150, us 151, us 152, us 153, us 154, us 155, us 156, us 157, us 158, us 159, us 160, us 161, us 162, us 163, us 164, us 165, us 166, us 167, us 168, us 169, us 170, us 171, us 172, us 173, us 174, us 175, us 176, us 177, us 178, us 179, us 180, us 181, us 182, us 183, us 184, us 185, us 186, us 187, us 188, us 189, us 190, us 191, us 192, us 193, us 194, us 195, us 196, us 197, us 198, us 199, us 200, us 201, us 202, us 203, us 204, us 205, us 206, us 207, us 208, us 209, us 210, us 211, us 212, us 213, us 214, us 215, us 216, us 217, us 218, us 219, us 220, us 221, us 222, us 223, us 224, us 225, us 226, us 227, us 228, us 229, us 230, us 231, us 232, us 233, us 234, us 235, us 236, us 237, us 238, us 239, us 240, us 241, us 242, us 243, us 244, us 245, us 246, us 247, us 248, us 249, us 250, us 251, us 252, us 253, us 254, us 255, us 256, us 257, us 258, us 259, us 260, us 261, us 262, us 263, us 264, us 265, us 266, us 267, us 268, us 269, us 270, us 271, us 272, us 273, us 274, us 275, us 276, us 277, us 278, us 279, us 280, us 281, us 282, us 283, us 284, us 285, us 286, us 287, us 288, us 289, us 290, us 291, us 292, us 293, us 294, us 295, us 296, us 297, us 298, us 299, us 300, us 301, us 302, us 303, us 304, us 305, us 306, us 307, us 308, us 309, us 310, us 311, us 312, us 313, us 314, us 315, us 316, us 317, us 318, us 319, us 320, us 321, us 322, us 323, us 324, us 325, us 326, us 327, us 328, us 329, us 330, us 331, us 332, us 333, us 334, us 335, us 336, us 337, us 338, us 339, us 340, us 341, us 342, us 343, us 344, us 345, us 346, us 347, us 348], []⟩
def frmMu (n : Nat) (a : Act) : Nat := n - (intOf (a.tmps.getD 6 undef)).toNat
theorem frmMu_of (n h i : Nat) (v : Value) (us : Nat → Value) : frmMu n (frm h v i us) = n - i := rfl
structure RefAt (w : World) (bb off n cap : Nat) (l : List UInt8) (v : Value) (wr : World) (pre : List Tk) (i : Nat) : Prop where
  go : pre ++ Tk.toks (l.drop i) = Tk.toks l
  own : wr.ownsRow (w.heap.size + 1) 30 4 v pre.length (tkCells pre)
  box : Blk wr w.heap.size [.slice (some ⟨bb, off, none⟩) n cap] 22
  below : Below w.heap.size w wr
  b0 : Byt w (some ⟨bb, off, none⟩) n cap l
  m0 : Mxl w
  len : pre.length ≤ i
  le : i ≤ n
theorem RefAt.bytes {w : World} {bb off n cap : Nat} {l : List UInt8} {v : Value} {wr : World} {pre : List Tk} {i : Nat} (h : RefAt w bb off n cap l v wr pre i) : Byt wr (some ⟨bb, off, none⟩) n cap l := h.b0.below h.below
def RefI (w : World) (bb off n cap : Nat) (l : List UInt8) (a : Act) (wr : World) : Prop := ∃ v pre i us, a = frm w.heap.size v i us ∧ RefAt w bb off n cap l v wr pre i
theorem RefI.step {w : World} {bb off n cap i j : Nat} {l : List UInt8} {a : Act} {w' : World} {v' : Value} {pre' : List Tk} (hf : a = frm w.heap.size v' j (fun k => a.tmps.getD k undef)) (hnew : RefAt w bb off n cap l v' w' pre' j) (hij : i < j) : RefI w bb off n cap l a w' ∧ frmMu n a < n - i := by
  refine ⟨⟨v', pre', j, _, hf, hnew⟩, ?_⟩
  rw [hf, frmMu_of]
  have := hnew.le
  omega
theorem RefAt.far {w : World} {bb off n cap : Nat} {l : List UInt8} {v : Value} {wr w2 : World} {pre : List Tk} {i : Nat} (h : RefAt w bb off n cap l v wr pre i) (hb : Below wr.heap.size wr w2) : RefAt w bb off n cap l v w2 pre i :=
  ⟨h.go, own_under h.own hb, (hb.block _ h.box.lt).trans h.box, h.below.trans (hb.mono h.below.size), h.b0, h.m0, h.len, h.le⟩
theorem RefAt.push {w : World} {bb off n cap : Nat} {l : List UInt8} {v : Value} {wr w2 w3 : World} {pre : List Tk} {i j g cap2 : Nat} {k : Tk} (h : RefAt w bb off n cap l v wr pre i) (hb : Below wr.heap.size wr w2)
    (hown : w3.ownsRow (w.heap.size + 1) 30 4 (.slice (some ⟨g, 0, none⟩) (pre.length + 1) cap2) (pre.length + 1) (tkCells pre ++ tkC k)) (hgrow : w2.grownBy w3 v.ownBlock)
    (hgo : (pre ++ [k]) ++ Tk.toks (l.drop j) = Tk.toks l) (hij : i < j) (hj : j ≤ n) : RefAt w bb off n cap l (.slice (some ⟨g, 0, none⟩) (pre.length + 1) cap2) w3 (pre ++ [k]) j := by
  have h2 := h.far hb
  have hs : w.heap.size + 1 ≤ w2.heap.size := h2.box.lt
  have hb2 : Below (w.heap.size + 1) w2 w3 := (Below.refl _ _).grown hgrow hs (fun k hk => ownBlk_ge h.own k hk)
  have hl := h.len
  exact ⟨hgo, by rw [List.length_append, tkCells_app, tkCells_one]; exact hown, (hb2.block _ (Nat.lt_succ_self _)).trans h2.box, h2.below.trans (hb2.mono (Nat.le_succ _)), h.b0, h.m0, by simp; omega, hj⟩
structure RefM (w : World) (bb off n cap : Nat) (l : List UInt8) (v : Value) (wr : World) (pre : List Tk) : Prop where
  own : wr.ownsRow (w.heap.size + 1) 30 4 v pre.length (tkCells pre)
  box : Blk wr w.heap.size [.slice (some ⟨bb, off, none⟩) n cap] 22
  below : Below w.heap.size w wr
  b0 : Byt w (some ⟨bb, off, none⟩) n cap l
  m0 : Mxl w
theorem RefAt.mem {w : World} {bb off n cap : Nat} {l : List UInt8} {v : Value} {wr : World} {pre : List Tk} {i : Nat} (h : RefAt w bb off n cap l v wr pre i) : RefM w bb off n cap l v wr pre := ⟨h.own, h.box, h.below, h.b0, h.m0⟩
theorem RefM.full {w : World} {bb off n cap : Nat} {l : List UInt8} {v : Value} {wr : World} {pre : List Tk} {i : Nat} (h : RefM w bb off n cap l v wr pre) (go : pre ++ Tk.toks (l.drop i) = Tk.toks l) (len : pre.length ≤ i) (le : i ≤ n) : RefAt w bb off n cap l v wr pre i := ⟨go, h.own, h.box, h.below, h.b0, h.m0, len, le⟩
theorem RefM.bytes {w : World} {bb off n cap : Nat} {l : List UInt8} {v : Value} {wr : World} {pre : List Tk} (h : RefM w bb off n cap l v wr pre) : Byt wr (some ⟨bb, off, none⟩) n cap l := h.b0.below h.below
theorem RefM.mx {w : World} {bb off n cap : Nat} {l : List UInt8} {v : Value} {wr : World} {pre : List Tk} (h : RefM w bb off n cap l v wr pre) : Mxl wr := by
  obtain ⟨m, hm⟩ := h.m0
  exact ⟨m, cell_under hm h.below⟩
theorem RefM.far {w : World} {bb off n cap : Nat} {l : List UInt8} {v : Value} {wr w2 : World} {pre : List Tk} (h : RefM w bb off n cap l v wr pre) (hb : Below wr.heap.size wr w2) : RefM w bb off n cap l v w2 pre :=
  ⟨own_under h.own hb, (hb.block _ h.box.lt).trans h.box, h.below.trans (hb.mono h.below.size), h.b0, h.m0⟩
theorem RefM.push {w : World} {bb off n cap : Nat} {l : List UInt8} {v : Value} {w2 w3 : World} {pre : List Tk} {g cap2 : Nat} {k : Tk} (h : RefM w bb off n cap l v w2 pre)
    (hown : w3.ownsRow (w.heap.size + 1) 30 4 (.slice (some ⟨g, 0, none⟩) (pre.length + 1) cap2) (pre.length + 1) (tkCells pre ++ tkC k)) (hgrow : w2.grownBy w3 v.ownBlock) : RefM w bb off n cap l (.slice (some ⟨g, 0, none⟩) (pre.length + 1) cap2) w3 (pre ++ [k]) := by
  have hs : w.heap.size + 1 ≤ w2.heap.size := h.box.lt
  have hb2 : Below (w.heap.size + 1) w2 w3 := (Below.refl _ _).grown hgrow hs (fun k hk => ownBlk_ge h.own k hk)
  exact ⟨by rw [List.length_append, tkCells_app, tkCells_one]; exact hown, (hb2.block _ (Nat.lt_succ_self _)).trans h.box, h.below.trans (hb2.mono (Nat.le_succ _)), h.b0, h.m0⟩
theorem Fd.drop {l s : List UInt8} {i k : Nat} (h : Fd l i s k) (hs : s ≠ []) : l.drop k = (Tk.after s (l.drop i)).getD [] ∧ k ≤ l.length := by
  rcases h with ⟨h1, rfl⟩ | ⟨j, h1, rfl, h2⟩
  · rcases Tk.after_index s hs (l.drop i) with ⟨_, h3⟩ | ⟨j, h3, _⟩
    · rw [h3, List.drop_length]
      exact ⟨rfl, Nat.le_refl _⟩
    · rw [h1] at h3; omega
  · rcases Tk.after_index s hs (l.drop i) with ⟨h3, _⟩ | ⟨j', h3, _, h4⟩
    · rw [h1] at h3; omega
    · rw [h1] at h3
      obtain rfl : j = j' := by omega
      rw [h4, Option.getD_some, List.drop_drop]
      exact ⟨by rw [Nat.add_assoc], h2⟩
theorem Tryz.infoTr : (Tryz.prog.info? 30).map (fun i => (i.zero, i.size, i.bytes)) = some (some (tkA tk0), 4, 56) := by kernel_rfl
theorem drop_at {l : List UInt8} {i : Nat} (h : i < l.length) : l.drop i = l[i] :: l.drop (i + 1) := List.drop_eq_getElem_cons h
theorem B_len_take (l : List UInt8) (p : UInt8 → Bool) : (B (l.takeWhile p)).size ≤ l.length := by rw [B_size]; exact (List.takeWhile_sublist p).length_le
set_option maxRecDepth 1000000 in
set_option maxHeartbeats 1600000 in
theorem ref_text (w : World) (bb off n cap i : Nat) (l : List UInt8) (v : Value) (wr : World) (pre : List Tk) (us : Nat → Value) (Q0 : Exit → Act → World → Prop) (hS : RefAt w bb off n cap l v wr pre i) (hn : n ≤ 20000) (hi : i < l.length) (hc : ((l[i].toNat : Int) != 60) = true) :
    Code.wp Tryz.prog ((Tryz.f12.body.bind firstLoop).getD .skip) (Exit.then (fun a' w' => RefI w bb off n cap l a' w' ∧ frmMu n a' < n - i) Q0) (frm w.heap.size v i us) wr := by
  have HS : Hid (RefAt w bb off n cap l v wr pre i) := hS
  have hll := hS.bytes.bytes
  have hcap := hS.bytes.room
  have hpre := hS.len
  have c0 : wr.cell? ⟨w.heap.size, 0, none⟩ = some (.slice (some ⟨bb, off, none⟩) n cap) := hS.box.cell 0
  obtain ⟨b', off', he, hcs⟩ := hS.bytes.byte (by omega)
  cases he
  have HC : Hid (∀ i (hi : i < l.length), wr.cell? ⟨bb, off + i, none⟩ = some (.int .u8 l[i].toNat)) := hcs
  have c1 := hcs i hi
  have hin : i < n := by omega
  obtain ⟨i0, hif, hz0, hz1, hz2⟩ := info_parts Tryz.infoTr
  clear hcs hS
  have hne : l[i] ≠ 60 := fun e => by rw [e] at hc; cases hc
  have HF : Hid (Tk.first l[i] (l.drop (i + 1)) = ([Tk.txt (Esc.rd ((l.drop i).takeWhile (Tk.not 60)))], (l.drop i).dropWhile (Tk.not 60))) := by rw [drop_at hi]; exact first_text _ _ hne
  have hfirst : Tk.not 60 l[i] = true := by unfold Tk.not; simpa using hne
  unfold frm
  conv => arg 2; whnf
  go_upto_block 2 with fail
  go_cut [7] from 21 to 347 (fun s7 wx => ∃ m : Nat, s7 = .int .i64 m ∧ i < m ∧ m ≤ n ∧ l.drop m = (l.drop i).dropWhile (Tk.not 60) ∧ wx = wr)
  case first =>
    go_wp2_with fail
    go_loopw [7] (fun s wx => ∃ m : Nat, m ≤ n ∧ i ≤ m ∧ s = .int .i64 m ∧ (l.drop m).dropWhile (Tk.not 60) = (l.drop i).dropWhile (Tk.not 60) ∧ wx = wr) (fun s _ => n - (intOf s).toNat)
    case atStart => exact ⟨i, by omega, Nat.le_refl _, rfl, rfl, rfl⟩
    case round =>
      obtain ⟨m, hm, him, rfl, hd, rfl⟩ := hrel
      have HD : Hid ((l.drop m).dropWhile (Tk.not 60) = (l.drop i).dropWhile (Tk.not 60)) := hd
      clear hd
      by_cases hmn : m < n
      · have hml : m < l.length := by omega
        have cm := HC.out m hml
        cases hp : Tk.not 60 l[m]
        · have hb : ((l[m].toNat : Int) != 60) = false := by
            have : l[m] = 60 := by unfold Tk.not at hp; simpa using hp
            rw [this]
            rfl
          have hlt : i < m := by
            rcases Nat.lt_or_ge i m with h | h
            · exact h
            · have : i = m := by omega
              subst this
              rw [hfirst] at hp
              cases hp
          have HE : Hid (l.drop m = (l.drop i).dropWhile (Tk.not 60)) := by rw [← HD.out]; exact (Tk.dw_stop hml hp).symm
          clear hp
          generalize l[m] = c at *
          go_wp2
          go_meet
          case rel => exact ⟨m, rfl, hlt, hm, HE.out, rfl⟩
        · have hb : ((l[m].toNat : Int) != 60) = true := by
            rw [bne_iff_ne]
            intro e
            have : l[m] = 60 := UInt8.toNat_inj.1 (by show l[m].toNat = 60; omega)
            rw [this] at hp
            cases hp
          have HE : Hid ((l.drop (m + 1)).dropWhile (Tk.not 60) = (l.drop i).dropWhile (Tk.not 60)) := (Tk.dw_go hml hp).trans HD.out
          clear hp
          generalize l[m] = c at *
          go_wp2
          go_roundw
          case rel => exact ⟨m + 1, by omega, by omega, by go_num, HE.out, trivial⟩
          case measure => simp [intOf]; omega
      · have HE : Hid (l.drop m = (l.drop i).dropWhile (Tk.not 60)) := by rw [← HD.out]; exact (Tk.dw_end (by omega)).symm
        go_wp2
        go_meet
        case rel => exact ⟨m, rfl, by omega, hm, HE.out, rfl⟩
  case rest =>
    obtain ⟨m, rfl, him, hm, hd, rfl⟩ := hcut
    have HD : Hid (l.drop m = (l.drop i).dropWhile (Tk.not 60)) := hd
    have htw := Tk.tw_of_dw (l := l) (p := Tk.not 60) (Nat.le_of_lt him) (by omega) hd
    have hsl := slice_lh bb off n cap i m (Nat.le_of_lt him) hm hcap
    have hcv := conv_byt (HS.out.bytes.part i m (Nat.le_of_lt him) hm)
    rw [htw] at hcv
    have hsz := B_len_take (l.drop i) (Tk.not 60)
    rw [List.length_drop] at hsz
    have HGo : Hid ((pre ++ [Tk.txt (Esc.rd ((l.drop i).takeWhile (Tk.not 60)))]) ++ Tk.toks (l.drop m) = Tk.toks l) := by
      show _ = _
      rw [HD.out, ← HS.out.go, drop_at hi, Tk.toks_cons, HF.out, drop_at hi, List.append_assoc]
    clear hd htw
    generalize subA bb off cap i = sa at *
    generalize (l.drop i).takeWhile (Tk.not 60) = tw at *
    go_wp2_with fail
    refine (readSo_any (B tw) _ (by omega)).mono ?_
    rintro e w2 ⟨rfl, hb⟩
    have HBW : Hid (Below wc.heap.size wc w2) := hb
    clear hb
    rw [B_data]
    go_wp2_with (at_builtin; refine wpList_append_lies _ rfl (.tmp 44) (.tmp 52) 23 rfl (w.heap.size + 1) 30 i0 (tkA tk0) 4 56 Tryz.underlying23 hif hz0 hz1 hz2 rfl (by decide) v pre.length (tkCells pre) rfl ?c1 ⟨w2.heap.size, 0, none⟩ 1 1 (tkC (Tk.txt (Esc.rd tw))) rfl rfl ?c2 ?c3 (by decide) ?c4 ?c5 ?c6 _ rfl ?c7)
    case c1 => exact World.ownsRow.alloc (own_under HS.out.own HBW.out) _
    case c2 => first | exact fun _ _ h => h | exact World.news_of_block (heap_alloc_new w2 _)
    case c3 => rw [← tkCells_one]; exact tkCells_oneCell _
    case c4 => unfold maxLen; omega
    case c5 => omega
    case c6 =>
      have := HBW.out.size
      have := HS.out.box.lt
      first | omega | (simp; omega)
    case c7 =>
      intro g cap2 w3 hown hgrow _ _
      have HN : Hid (RefAt w bb off n cap l (.slice (some ⟨g, 0, none⟩) (pre.length + 1) cap2) w3 (pre ++ [(Tk.txt (Esc.rd tw))]) m) := HS.out.push (HBW.out.trans (((Below.refl _ _).alloc (Nat.le_refl _) _).mono HBW.out.size)) hown hgrow HGo.out him hm
      have hbox : w3.cell? ⟨w.heap.size, 0, none⟩ = some (.slice (some ⟨bb, off, none⟩) n cap) := HN.out.box.cell 0
      clear hown hgrow
      go_wp2
      exact RefI.step (by kernel_rfl) HN.out him
end Go.Proofs.YtbhcklkbckacpaaGreatDoor
