/-
  The reference's Tokens: what is no tag, behind a '<'.
-/
import Derived.Test.YtbhcklkbckacpaaGreatDoorTw
import Derived.Test.YtbhcklkbckacpaaGreatDoorTv5
namespace Go.Proofs.YtbhcklkbckacpaaGreatDoor
open Go.RowKit

set_option maxRecDepth 1000000 in
set_option maxHeartbeats 1600000 in
theorem ref_comment (w : World) (bb off n cap i : Nat) (l : List UInt8) (v : Value) (wr : World) (pre : List Tk) (us : Nat → Value) (Q0 : Exit → Act → World → Prop) (hS : RefAt w bb off n cap l v wr pre i) (hn : n ≤ 20000) (hi : i < l.length) (hc : ((l[i].toNat : Int) != 60) = false) (hpx : ([60, 33, 45, 45] : List UInt8).isPrefixOf (l.drop i) = true) :
    Code.wp Tryz.prog ((Tryz.f12.body.bind firstLoop).getD .skip) (Exit.then (fun a' w' => RefI w bb off n cap l a' w' ∧ frmMu n a' < n - i) Q0) (frm w.heap.size v i us) wr := by
  have HS : Hid (RefAt w bb off n cap l v wr pre i) := hS
  have hll := hS.bytes.bytes
  have hcap := hS.bytes.room
  have hpre := hS.len
  have c0 : wr.cell? ⟨w.heap.size, 0, none⟩ = some (.slice (some ⟨bb, off, none⟩) n cap) := hS.box.cell 0
  obtain ⟨b', off', he, hcs⟩ := hS.bytes.byte (by omega)
  cases he
  have HC : Hid (∀ i (hi : i < l.length), wr.cell? ⟨bb, off + i, none⟩ = some (.int .u8 l[i].toNat)) := hcs
  have c1 := hcs i hi
  have hin : i < n := by omega
  obtain ⟨i0, hif, hz0, hz1, hz2⟩ := info_parts Tryz.infoTr
  clear hcs hS
  have h60 : l[i] = 60 := UInt8.toNat_inj.1 (by have : (l[i].toNat : Int) = 60 := (by simpa using hc); show l[i].toNat = 60; omega)
  have hdr : l.drop i = 60 :: l.drop (i + 1) := by rw [drop_at hi, h60]
  have HM : Hid (RefM w bb off n cap l v wr pre) := HS.out.mem
  have hsl := slice_l bb off n cap i (Nat.le_of_lt hin)
  have hcv := conv_byt (HS.out.bytes.part i n (Nat.le_of_lt hin) (Nat.le_refl _))
  rw [List.take_of_length_le (by rw [List.length_drop]; omega)] at hcv
  have HP : Hid (∀ w, Calls Tryz.prog 57 #[.string (B (l.drop i)), .string (B [60, 33, 45, 45])] w fun e w' => e = .returned (.bool true) ∧ w' = w) := fun w => by
    have := Tryz.strings_HasPrefix (B (l.drop i)) (B [60, 33, 45, 45]) w
    rw [B_data, B_data] at this
    unfold Lib.hasPrefix at this
    rw [hpx] at this
    exact this
  generalize subA bb off cap i = sa at *
  have hi1 : i + 1 < l.length := by
    have := (List.isPrefixOf_iff_prefix.1 hpx).length_le
    rw [List.length_drop] at this
    simp at this
    omega
  have A1 : Hid (Calls Tryz.prog 53 #[.int .i64 ((i : Int) + 1), .pointer (some ⟨w.heap.size, 0, none⟩)] wr fun e w' => e = .returned (.int .u8 l[i + 1].toNat) ∧ w' = wr) := at_in w.heap.size bb off n cap (i + 1) l wr HS.out.box HS.out.bytes hi1
  have d1 := HC.out (i + 1) hi1
  have hi1n : i + 1 < n := by omega
  have q1 : (i : Int) + 1 < (n : Int) := by omega
  have q2 : (0 : Int) ≤ (i : Int) + 1 := by omega
  have q3 : ((i : Int) + 1).toNat = i + 1 := by omega
  have d1' := d1
  rw [← Nat.add_assoc] at d1'
  have hd1 : l.drop (i + 1) = l[i + 1] :: l.drop (i + 2) := drop_at hi1
  have hpx' : ([33, 45, 45] : List UInt8).isPrefixOf (l.drop (i + 1)) = true := by rw [hdr, pre4] at hpx; exact hpx
  have hd33 : l[i + 1] = 33 := by rw [hd1] at hpx'; simp [List.isPrefixOf] at hpx'; exact hpx'.1.symm
  have hb47 : ((l[i + 1].toNat : Int) == 47) = false := by rw [hd33]; rfl
  have HF : Hid (Tk.toks (l.drop i) = [Tk.oth] ++ Tk.toks ((Tk.after [45, 45, 62] (l.drop (i + 4))).getD [])) := by
    show _ = _
    rw [hdr, Tk.toks_cons, show Tk.first 60 (l.drop (i + 1)) = Tk.angle (l.drop (i + 1)) from rfl]
    unfold Tk.angle
    rw [if_pos hpx', List.drop_drop]
  clear hpx hpx' hdr hd1 hd33
  generalize l[i + 1] = d at *
  unfold frm
  conv => arg 2; whnf
  go_wp2_with fail
  refine (A1.out).mono ?_
  rintro e wx ⟨rfl, hw⟩
  rw [hw]
  clear hw wx
  go_wp2_with fail
  refine (HP.out _).mono ?_
  rintro e wx ⟨rfl, hw⟩
  rw [hw]
  clear hw wx
  go_wp2_with (at_builtin; refine wpList_append_lies _ rfl (.tmp 70) (.tmp 72) 23 rfl (w.heap.size + 1) 30 i0 (tkA tk0) 4 56 Tryz.underlying23 hif hz0 hz1 hz2 rfl (by decide) v pre.length (tkCells pre) rfl ?c1 ⟨wr.heap.size, 0, none⟩ 1 1 (tkC Tk.oth) rfl rfl ?c2 ?c3 (by decide) ?c4 ?c5 ?c6 _ rfl ?c7)
  case c1 => exact World.ownsRow.alloc HM.out.own _
  case c2 => first | exact fun _ _ h => h | exact World.news_of_block (heap_alloc_new wr _)
  case c3 => rw [← tkCells_one]; exact tkCells_oneCell _
  case c4 => unfold maxLen; omega
  case c5 => omega
  case c6 =>
    have := HM.out.box.lt
    first | omega | (simp; omega)
  case c7 =>
    intro g cap2 w3 hown hgrow _ _
    have HN : Hid (RefM w bb off n cap l (.slice (some ⟨g, 0, none⟩) (pre.length + 1) cap2) w3 (pre ++ [Tk.oth])) := (HM.out.far ((Below.refl _ _).alloc (Nat.le_refl _) _)).push hown hgrow
    clear hown hgrow
    go_wp2_with fail
    refine (find_any w.heap.size bb off n cap (i + 4) l [45, 45, 62] w3 HN.out.box HN.out.bytes HN.out.mx hn (by omega) (by simp) (by simp)).mono ?_
    rintro e wx ⟨⟨k, rfl, hF⟩, hw⟩
    rw [hw]
    clear hw wx
    have hk : i < k := by
      rcases hF with ⟨_, rfl⟩ | ⟨j, _, rfl, _⟩
      · omega
      · omega
    obtain ⟨hk1, hk2⟩ := hF.drop (by simp)
    have HR : Hid (RefAt w bb off n cap l (.slice (some ⟨g, 0, none⟩) (pre.length + 1) cap2) w3 (pre ++ [Tk.oth]) k) := HN.out.full (by rw [hk1, ← HS.out.go, HF.out, List.append_assoc]) (by simp; omega) (by omega)
    clear hF hk1
    go_wp2
    exact RefI.step (by kernel_rfl) HR.out hk

set_option maxRecDepth 1000000 in
set_option maxHeartbeats 1600000 in
theorem ref_bang (w : World) (bb off n cap i : Nat) (l : List UInt8) (v : Value) (wr : World) (pre : List Tk) (us : Nat → Value) (Q0 : Exit → Act → World → Prop) (hS : RefAt w bb off n cap l v wr pre i) (hn : n ≤ 20000) (hi : i < l.length) (hc : ((l[i].toNat : Int) != 60) = false) (hpx : ([60, 33, 45, 45] : List UInt8).isPrefixOf (l.drop i) = false) (hi1 : i + 1 < l.length) (hd : l[i + 1] = 33) :
    Code.wp Tryz.prog ((Tryz.f12.body.bind firstLoop).getD .skip) (Exit.then (fun a' w' => RefI w bb off n cap l a' w' ∧ frmMu n a' < n - i) Q0) (frm w.heap.size v i us) wr := by
  have HS : Hid (RefAt w bb off n cap l v wr pre i) := hS
  have hll := hS.bytes.bytes
  have hcap := hS.bytes.room
  have hpre := hS.len
  have c0 : wr.cell? ⟨w.heap.size, 0, none⟩ = some (.slice (some ⟨bb, off, none⟩) n cap) := hS.box.cell 0
  obtain ⟨b', off', he, hcs⟩ := hS.bytes.byte (by omega)
  cases he
  have HC : Hid (∀ i (hi : i < l.length), wr.cell? ⟨bb, off + i, none⟩ = some (.int .u8 l[i].toNat)) := hcs
  have c1 := hcs i hi
  have hin : i < n := by omega
  obtain ⟨i0, hif, hz0, hz1, hz2⟩ := info_parts Tryz.infoTr
  clear hcs hS
  have h60 : l[i] = 60 := UInt8.toNat_inj.1 (by have : (l[i].toNat : Int) = 60 := (by simpa using hc); show l[i].toNat = 60; omega)
  have hdr : l.drop i = 60 :: l.drop (i + 1) := by rw [drop_at hi, h60]
  have HM : Hid (RefM w bb off n cap l v wr pre) := HS.out.mem
  have hsl := slice_l bb off n cap i (Nat.le_of_lt hin)
  have hcv := conv_byt (HS.out.bytes.part i n (Nat.le_of_lt hin) (Nat.le_refl _))
  rw [List.take_of_length_le (by rw [List.length_drop]; omega)] at hcv
  have HP : Hid (∀ w, Calls Tryz.prog 57 #[.string (B (l.drop i)), .string (B [60, 33, 45, 45])] w fun e w' => e = .returned (.bool false) ∧ w' = w) := fun w => by
    have := Tryz.strings_HasPrefix (B (l.drop i)) (B [60, 33, 45, 45]) w
    rw [B_data, B_data] at this
    unfold Lib.hasPrefix at this
    rw [hpx] at this
    exact this
  generalize subA bb off cap i = sa at *
  have A1 : Hid (Calls Tryz.prog 53 #[.int .i64 ((i : Int) + 1), .pointer (some ⟨w.heap.size, 0, none⟩)] wr fun e w' => e = .returned (.int .u8 l[i + 1].toNat) ∧ w' = wr) := at_in w.heap.size bb off n cap (i + 1) l wr HS.out.box HS.out.bytes hi1
  have d1 := HC.out (i + 1) hi1
  have hi1n : i + 1 < n := by omega
  have q1 : (i : Int) + 1 < (n : Int) := by omega
  have q2 : (0 : Int) ≤ (i : Int) + 1 := by omega
  have q3 : ((i : Int) + 1).toNat = i + 1 := by omega
  have d1' := d1
  rw [← Nat.add_assoc] at d1'
  have hd1 : l.drop (i + 1) = l[i + 1] :: l.drop (i + 2) := drop_at hi1
  have hb47 : ((l[i + 1].toNat : Int) == 47) = false := by rw [hd]; rfl
  have hb33 : ((l[i + 1].toNat : Int) == 33) = true := by rw [hd]; rfl
  have HF : Hid (Tk.toks (l.drop i) = [Tk.oth] ++ Tk.toks ((Tk.after [62] (l.drop i)).getD [])) := by
    show _ = _
    rw [hdr, Tk.toks_cons, show Tk.first 60 (l.drop (i + 1)) = Tk.angle (l.drop (i + 1)) from rfl, after_60]
    have hpx' : ¬ ([33, 45, 45] : List UInt8).isPrefixOf (l.drop (i + 1)) = true := by rw [hdr, pre4] at hpx; rw [hpx]; exact Bool.false_ne_true
    rw [hd1, hd] at hpx' ⊢
    rw [Tk.angle_cons, if_neg hpx']
    rfl
  clear hpx hdr hd1 hd
  generalize l[i + 1] = d at *
  unfold frm
  conv => arg 2; whnf
  go_wp2_with fail
  refine (A1.out).mono ?_
  rintro e wx ⟨rfl, hw⟩
  rw [hw]
  clear hw wx
  go_wp2_with fail
  refine (HP.out _).mono ?_
  rintro e wx ⟨rfl, hw⟩
  rw [hw]
  clear hw wx
  go_wp2_with (at_builtin; refine wpList_append_lies _ rfl (.tmp 100) (.tmp 102) 23 rfl (w.heap.size + 1) 30 i0 (tkA tk0) 4 56 Tryz.underlying23 hif hz0 hz1 hz2 rfl (by decide) v pre.length (tkCells pre) rfl ?c1 ⟨wr.heap.size, 0, none⟩ 1 1 (tkC Tk.oth) rfl rfl ?c2 ?c3 (by decide) ?c4 ?c5 ?c6 _ rfl ?c7)
  case c1 => exact World.ownsRow.alloc HM.out.own _
  case c2 => first | exact fun _ _ h => h | exact World.news_of_block (heap_alloc_new wr _)
  case c3 => rw [← tkCells_one]; exact tkCells_oneCell _
  case c4 => unfold maxLen; omega
  case c5 => omega
  case c6 =>
    have := HM.out.box.lt
    first | omega | (simp; omega)
  case c7 =>
    intro g cap2 w3 hown hgrow _ _
    have HN : Hid (RefM w bb off n cap l (.slice (some ⟨g, 0, none⟩) (pre.length + 1) cap2) w3 (pre ++ [Tk.oth])) := (HM.out.far ((Below.refl _ _).alloc (Nat.le_refl _) _)).push hown hgrow
    clear hown hgrow
    go_wp2_with fail
    refine (find_any w.heap.size bb off n cap i l [62] w3 HN.out.box HN.out.bytes HN.out.mx hn (by omega) (by simp) (by simp)).mono ?_
    rintro e wx ⟨⟨k, rfl, hF⟩, hw⟩
    rw [hw]
    clear hw wx
    have hk : i < k := by
      rcases hF with ⟨_, rfl⟩ | ⟨j, _, rfl, _⟩
      · omega
      · simp; omega
    obtain ⟨hk1, hk2⟩ := hF.drop (by simp)
    have HR : Hid (RefAt w bb off n cap l (.slice (some ⟨g, 0, none⟩) (pre.length + 1) cap2) w3 (pre ++ [Tk.oth]) k) := HN.out.full (by rw [hk1, ← HS.out.go, HF.out, List.append_assoc]) (by simp; omega) (by omega)
    clear hF hk1
    go_wp2
    exact RefI.step (by kernel_rfl) HR.out hk

set_option maxRecDepth 1000000 in
set_option maxHeartbeats 1600000 in
theorem ref_quest (w : World) (bb off n cap i : Nat) (l : List UInt8) (v : Value) (wr : World) (pre : List Tk) (us : Nat → Value) (Q0 : Exit → Act → World → Prop) (hS : RefAt w bb off n cap l v wr pre i) (hn : n ≤ 20000) (hi : i < l.length) (hc : ((l[i].toNat : Int) != 60) = false) (hpx : ([60, 33, 45, 45] : List UInt8).isPrefixOf (l.drop i) = false) (hi1 : i + 1 < l.length) (hd : l[i + 1] = 63) :
    Code.wp Tryz.prog ((Tryz.f12.body.bind firstLoop).getD .skip) (Exit.then (fun a' w' => RefI w bb off n cap l a' w' ∧ frmMu n a' < n - i) Q0) (frm w.heap.size v i us) wr := by
  have HS : Hid (RefAt w bb off n cap l v wr pre i) := hS
  have hll := hS.bytes.bytes
  have hcap := hS.bytes.room
  have hpre := hS.len
  have c0 : wr.cell? ⟨w.heap.size, 0, none⟩ = some (.slice (some ⟨bb, off, none⟩) n cap) := hS.box.cell 0
  obtain ⟨b', off', he, hcs⟩ := hS.bytes.byte (by omega)
  cases he
  have HC : Hid (∀ i (hi : i < l.length), wr.cell? ⟨bb, off + i, none⟩ = some (.int .u8 l[i].toNat)) := hcs
  have c1 := hcs i hi
  have hin : i < n := by omega
  obtain ⟨i0, hif, hz0, hz1, hz2⟩ := info_parts Tryz.infoTr
  clear hcs hS
  have h60 : l[i] = 60 := UInt8.toNat_inj.1 (by have : (l[i].toNat : Int) = 60 := (by simpa using hc); show l[i].toNat = 60; omega)
  have hdr : l.drop i = 60 :: l.drop (i + 1) := by rw [drop_at hi, h60]
  have HM : Hid (RefM w bb off n cap l v wr pre) := HS.out.mem
  have hsl := slice_l bb off n cap i (Nat.le_of_lt hin)
  have hcv := conv_byt (HS.out.bytes.part i n (Nat.le_of_lt hin) (Nat.le_refl _))
  rw [List.take_of_length_le (by rw [List.length_drop]; omega)] at hcv
  have HP : Hid (∀ w, Calls Tryz.prog 57 #[.string (B (l.drop i)), .string (B [60, 33, 45, 45])] w fun e w' => e = .returned (.bool false) ∧ w' = w) := fun w => by
    have := Tryz.strings_HasPrefix (B (l.drop i)) (B [60, 33, 45, 45]) w
    rw [B_data, B_data] at this
    unfold Lib.hasPrefix at this
    rw [hpx] at this
    exact this
  generalize subA bb off cap i = sa at *
  have A1 : Hid (Calls Tryz.prog 53 #[.int .i64 ((i : Int) + 1), .pointer (some ⟨w.heap.size, 0, none⟩)] wr fun e w' => e = .returned (.int .u8 l[i + 1].toNat) ∧ w' = wr) := at_in w.heap.size bb off n cap (i + 1) l wr HS.out.box HS.out.bytes hi1
  have d1 := HC.out (i + 1) hi1
  have hi1n : i + 1 < n := by omega
  have q1 : (i : Int) + 1 < (n : Int) := by omega
  have q2 : (0 : Int) ≤ (i : Int) + 1 := by omega
  have q3 : ((i : Int) + 1).toNat = i + 1 := by omega
  have d1' := d1
  rw [← Nat.add_assoc] at d1'
  have hd1 : l.drop (i + 1) = l[i + 1] :: l.drop (i + 2) := drop_at hi1
  have hb47 : ((l[i + 1].toNat : Int) == 47) = false := by rw [hd]; rfl
  have hb33 : ((l[i + 1].toNat : Int) == 33) = false := by rw [hd]; rfl
  have hb63 : ((l[i + 1].toNat : Int) == 63) = true := by rw [hd]; rfl
  have HF : Hid (Tk.toks (l.drop i) = [Tk.oth] ++ Tk.toks ((Tk.after [62] (l.drop i)).getD [])) := by
    show _ = _
    rw [hdr, Tk.toks_cons, show Tk.first 60 (l.drop (i + 1)) = Tk.angle (l.drop (i + 1)) from rfl, after_60]
    have hpx' : ¬ ([33, 45, 45] : List UInt8).isPrefixOf (l.drop (i + 1)) = true := by rw [hdr, pre4] at hpx; rw [hpx]; exact Bool.false_ne_true
    rw [hd1, hd] at hpx' ⊢
    rw [Tk.angle_cons, if_neg hpx']
    rfl
  clear hpx hdr hd1 hd
  generalize l[i + 1] = d at *
  unfold frm
  conv => arg 2; whnf
  go_wp2_with fail
  refine (A1.out).mono ?_
  rintro e wx ⟨rfl, hw⟩
  rw [hw]
  clear hw wx
  go_wp2_with fail
  refine (HP.out _).mono ?_
  rintro e wx ⟨rfl, hw⟩
  rw [hw]
  clear hw wx
  go_wp2_with (at_builtin; refine wpList_append_lies _ rfl (.tmp 100) (.tmp 102) 23 rfl (w.heap.size + 1) 30 i0 (tkA tk0) 4 56 Tryz.underlying23 hif hz0 hz1 hz2 rfl (by decide) v pre.length (tkCells pre) rfl ?c1 ⟨wr.heap.size, 0, none⟩ 1 1 (tkC Tk.oth) rfl rfl ?c2 ?c3 (by decide) ?c4 ?c5 ?c6 _ rfl ?c7)
  case c1 => exact World.ownsRow.alloc HM.out.own _
  case c2 => first | exact fun _ _ h => h | exact World.news_of_block (heap_alloc_new wr _)
  case c3 => rw [← tkCells_one]; exact tkCells_oneCell _
  case c4 => unfold maxLen; omega
  case c5 => omega
  case c6 =>
    have := HM.out.box.lt
    first | omega | (simp; omega)
  case c7 =>
    intro g cap2 w3 hown hgrow _ _
    have HN : Hid (RefM w bb off n cap l (.slice (some ⟨g, 0, none⟩) (pre.length + 1) cap2) w3 (pre ++ [Tk.oth])) := (HM.out.far ((Below.refl _ _).alloc (Nat.le_refl _) _)).push hown hgrow
    clear hown hgrow
    go_wp2_with fail
    refine (find_any w.heap.size bb off n cap i l [62] w3 HN.out.box HN.out.bytes HN.out.mx hn (by omega) (by simp) (by simp)).mono ?_
    rintro e wx ⟨⟨k, rfl, hF⟩, hw⟩
    rw [hw]
    clear hw wx
    have hk : i < k := by
      rcases hF with ⟨_, rfl⟩ | ⟨j, _, rfl, _⟩
      · omega
      · simp; omega
    obtain ⟨hk1, hk2⟩ := hF.drop (by simp)
    have HR : Hid (RefAt w bb off n cap l (.slice (some ⟨g, 0, none⟩) (pre.length + 1) cap2) w3 (pre ++ [Tk.oth]) k) := HN.out.full (by rw [hk1, ← HS.out.go, HF.out, List.append_assoc]) (by simp; omega) (by omega)
    clear hF hk1
    go_wp2
    exact RefI.step (by kernel_rfl) HR.out hk

set_option maxRecDepth 1000000 in
set_option maxHeartbeats 1600000 in
theorem ref_last (w : World) (bb off n cap i : Nat) (l : List UInt8) (v : Value) (wr : World) (pre : List Tk) (us : Nat → Value) (Q0 : Exit → Act → World → Prop) (hS : RefAt w bb off n cap l v wr pre i) (hn : n ≤ 20000) (hi : i < l.length) (hc : ((l[i].toNat : Int) != 60) = false) (hpx : ([60, 33, 45, 45] : List UInt8).isPrefixOf (l.drop i) = false) (hf : Tk.first 60 (l.drop (i + 1)) = ([Tk.txt [60]], l.drop (i + 1))) (hi1 : ¬ i + 1 < l.length) :
    Code.wp Tryz.prog ((Tryz.f12.body.bind firstLoop).getD .skip) (Exit.then (fun a' w' => RefI w bb off n cap l a' w' ∧ frmMu n a' < n - i) Q0) (frm w.heap.size v i us) wr := by
  have HS : Hid (RefAt w bb off n cap l v wr pre i) := hS
  have hll := hS.bytes.bytes
  have hcap := hS.bytes.room
  have hpre := hS.len
  have c0 : wr.cell? ⟨w.heap.size, 0, none⟩ = some (.slice (some ⟨bb, off, none⟩) n cap) := hS.box.cell 0
  obtain ⟨b', off', he, hcs⟩ := hS.bytes.byte (by omega)
  cases he
  have HC : Hid (∀ i (hi : i < l.length), wr.cell? ⟨bb, off + i, none⟩ = some (.int .u8 l[i].toNat)) := hcs
  have c1 := hcs i hi
  have hin : i < n := by omega
  obtain ⟨i0, hif, hz0, hz1, hz2⟩ := info_parts Tryz.infoTr
  clear hcs hS
  have h60 : l[i] = 60 := UInt8.toNat_inj.1 (by have : (l[i].toNat : Int) = 60 := (by simpa using hc); show l[i].toNat = 60; omega)
  have hdr : l.drop i = 60 :: l.drop (i + 1) := by rw [drop_at hi, h60]
  have HM : Hid (RefM w bb off n cap l v wr pre) := HS.out.mem
  have hsl := slice_l bb off n cap i (Nat.le_of_lt hin)
  have hcv := conv_byt (HS.out.bytes.part i n (Nat.le_of_lt hin) (Nat.le_refl _))
  rw [List.take_of_length_le (by rw [List.length_drop]; omega)] at hcv
  have HP : Hid (∀ w, Calls Tryz.prog 57 #[.string (B (l.drop i)), .string (B [60, 33, 45, 45])] w fun e w' => e = .returned (.bool false) ∧ w' = w) := fun w => by
    have := Tryz.strings_HasPrefix (B (l.drop i)) (B [60, 33, 45, 45]) w
    rw [B_data, B_data] at this
    unfold Lib.hasPrefix at this
    rw [hpx] at this
    exact this
  generalize subA bb off cap i = sa at *
  have HF : Hid (Tk.toks (l.drop i) = [Tk.txt [60]] ++ Tk.toks (l.drop (i + 1))) := by
    show _ = _
    rw [hdr, Tk.toks_cons, hf]
  have A1 : Hid (Calls Tryz.prog 53 #[.int .i64 ((i : Int) + 1), .pointer (some ⟨w.heap.size, 0, none⟩)] wr fun e w' => e = .returned (.int .u8 0) ∧ w' = wr) := at_out w.heap.size bb off n cap (i + 1) wr HS.out.box (by omega)
  have hi1n : ¬ i + 1 < n := by omega
  clear hpx hdr hf
  unfold frm
  conv => arg 2; whnf
  go_wp2_with fail
  refine (A1.out).mono ?_
  rintro e wx ⟨rfl, hw⟩
  rw [hw]
  clear hw wx
  go_wp2_with fail
  refine (HP.out _).mono ?_
  rintro e wx ⟨rfl, hw⟩
  rw [hw]
  clear hw wx
  go_wp2_with (at_builtin; refine wpList_append_lies _ rfl (.tmp 120) (.tmp 122) 23 rfl (w.heap.size + 1) 30 i0 (tkA tk0) 4 56 Tryz.underlying23 hif hz0 hz1 hz2 rfl (by decide) v pre.length (tkCells pre) rfl ?c1 ⟨wr.heap.size, 0, none⟩ 1 1 (tkC (Tk.txt [60])) rfl rfl ?c2 ?c3 (by decide) ?c4 ?c5 ?c6 _ rfl ?c7)
  case c1 => exact World.ownsRow.alloc HM.out.own _
  case c2 => first | exact fun _ _ h => h | exact World.news_of_block (heap_alloc_new wr _)
  case c3 => rw [← tkCells_one]; exact tkCells_oneCell _
  case c4 => unfold maxLen; omega
  case c5 => omega
  case c6 =>
    have := HM.out.box.lt
    first | omega | (simp; omega)
  case c7 =>
    intro g cap2 w3 hown hgrow _ _
    have HN : Hid (RefM w bb off n cap l (.slice (some ⟨g, 0, none⟩) (pre.length + 1) cap2) w3 (pre ++ [(Tk.txt [60])])) := (HM.out.far ((Below.refl _ _).alloc (Nat.le_refl _) _)).push hown hgrow
    clear hown hgrow
    have HR : Hid (RefAt w bb off n cap l (.slice (some ⟨g, 0, none⟩) (pre.length + 1) cap2) w3 (pre ++ [Tk.txt [60]]) (i + 1)) := HN.out.full (by rw [← HS.out.go, HF.out, List.append_assoc]) (by simp; omega) (by omega)
    go_wp2
    exact RefI.step (by kernel_rfl) HR.out (Nat.lt_succ_self _)

set_option maxRecDepth 1000000 in
set_option maxHeartbeats 1600000 in
theorem ref_noletter (w : World) (bb off n cap i : Nat) (l : List UInt8) (v : Value) (wr : World) (pre : List Tk) (us : Nat → Value) (Q0 : Exit → Act → World → Prop) (hS : RefAt w bb off n cap l v wr pre i) (hn : n ≤ 20000) (hi : i < l.length) (hc : ((l[i].toNat : Int) != 60) = false) (hpx : ([60, 33, 45, 45] : List UInt8).isPrefixOf (l.drop i) = false) (hf : Tk.first 60 (l.drop (i + 1)) = ([Tk.txt [60]], l.drop (i + 1))) (hi1 : i + 1 < l.length) (hb47 : ((l[i + 1].toNat : Int) == 47) = false) (hb33 : ((l[i + 1].toNat : Int) == 33) = false) (hb63 : ((l[i + 1].toNat : Int) == 63) = false) (hlet : Tk.letter l[i + 1] = false) :
    Code.wp Tryz.prog ((Tryz.f12.body.bind firstLoop).getD .skip) (Exit.then (fun a' w' => RefI w bb off n cap l a' w' ∧ frmMu n a' < n - i) Q0) (frm w.heap.size v i us) wr := by
  have HS : Hid (RefAt w bb off n cap l v wr pre i) := hS
  have hll := hS.bytes.bytes
  have hcap := hS.bytes.room
  have hpre := hS.len
  have c0 : wr.cell? ⟨w.heap.size, 0, none⟩ = some (.slice (some ⟨bb, off, none⟩) n cap) := hS.box.cell 0
  obtain ⟨b', off', he, hcs⟩ := hS.bytes.byte (by omega)
  cases he
  have HC : Hid (∀ i (hi : i < l.length), wr.cell? ⟨bb, off + i, none⟩ = some (.int .u8 l[i].toNat)) := hcs
  have c1 := hcs i hi
  have hin : i < n := by omega
  obtain ⟨i0, hif, hz0, hz1, hz2⟩ := info_parts Tryz.infoTr
  clear hcs hS
  have h60 : l[i] = 60 := UInt8.toNat_inj.1 (by have : (l[i].toNat : Int) = 60 := (by simpa using hc); show l[i].toNat = 60; omega)
  have hdr : l.drop i = 60 :: l.drop (i + 1) := by rw [drop_at hi, h60]
  have HM : Hid (RefM w bb off n cap l v wr pre) := HS.out.mem
  have hsl := slice_l bb off n cap i (Nat.le_of_lt hin)
  have hcv := conv_byt (HS.out.bytes.part i n (Nat.le_of_lt hin) (Nat.le_refl _))
  rw [List.take_of_length_le (by rw [List.length_drop]; omega)] at hcv
  have HP : Hid (∀ w, Calls Tryz.prog 57 #[.string (B (l.drop i)), .string (B [60, 33, 45, 45])] w fun e w' => e = .returned (.bool false) ∧ w' = w) := fun w => by
    have := Tryz.strings_HasPrefix (B (l.drop i)) (B [60, 33, 45, 45]) w
    rw [B_data, B_data] at this
    unfold Lib.hasPrefix at this
    rw [hpx] at this
    exact this
  generalize subA bb off cap i = sa at *
  have HF : Hid (Tk.toks (l.drop i) = [Tk.txt [60]] ++ Tk.toks (l.drop (i + 1))) := by
    show _ = _
    rw [hdr, Tk.toks_cons, hf]
  have A1 : Hid (Calls Tryz.prog 53 #[.int .i64 ((i : Int) + 1), .pointer (some ⟨w.heap.size, 0, none⟩)] wr fun e w' => e = .returned (.int .u8 l[i + 1].toNat) ∧ w' = wr) := at_in w.heap.size bb off n cap (i + 1) l wr HS.out.box HS.out.bytes hi1
  have d1 := HC.out (i + 1) hi1
  have hi1n : i + 1 < n := by omega
  have q1 : (i : Int) + 1 < (n : Int) := by omega
  have q2 : (0 : Int) ≤ (i : Int) + 1 := by omega
  have q3 : ((i : Int) + 1).toNat = i + 1 := by omega
  have d1' := d1
  rw [← Nat.add_assoc] at d1'
  have hd1 : l.drop (i + 1) = l[i + 1] :: l.drop (i + 2) := drop_at hi1
  have HL : Hid (∀ w, Calls Tryz.prog 58 #[.int .u8 l[i + 1].toNat] w fun e w' => e = .returned (.bool false) ∧ Below w.heap.size w w') := fun w => by
    have := rletter_any l[i + 1] w
    rw [hlet] at this
    exact this
  clear hpx hdr hf hd1 hlet
  generalize l[i + 1] = d at *
  unfold frm
  conv => arg 2; whnf
  go_wp2_with fail
  refine (A1.out).mono ?_
  rintro e wx ⟨rfl, hw⟩
  rw [hw]
  clear hw wx
  go_wp2_with fail
  refine (HP.out _).mono ?_
  rintro e wx ⟨rfl, hw⟩
  rw [hw]
  clear hw wx
  go_wp2_with fail
  refine (HL.out _).mono ?_
  rintro e w2 ⟨rfl, hb⟩
  have HM2 : Hid (RefM w bb off n cap l v w2 pre) := HM.out.far hb
  clear hb
  go_wp2_with (at_builtin; refine wpList_append_lies _ rfl (.tmp 120) (.tmp 122) 23 rfl (w.heap.size + 1) 30 i0 (tkA tk0) 4 56 Tryz.underlying23 hif hz0 hz1 hz2 rfl (by decide) v pre.length (tkCells pre) rfl ?c1 ⟨w2.heap.size, 0, none⟩ 1 1 (tkC (Tk.txt [60])) rfl rfl ?c2 ?c3 (by decide) ?c4 ?c5 ?c6 _ rfl ?c7)
  case c1 => exact World.ownsRow.alloc HM2.out.own _
  case c2 => first | exact fun _ _ h => h | exact World.news_of_block (heap_alloc_new w2 _)
  case c3 => rw [← tkCells_one]; exact tkCells_oneCell _
  case c4 => unfold maxLen; omega
  case c5 => omega
  case c6 =>
    have := HM2.out.box.lt
    first | omega | (simp; omega)
  case c7 =>
    intro g cap2 w3 hown hgrow _ _
    have HN : Hid (RefM w bb off n cap l (.slice (some ⟨g, 0, none⟩) (pre.length + 1) cap2) w3 (pre ++ [(Tk.txt [60])])) := (HM2.out.far ((Below.refl _ _).alloc (Nat.le_refl _) _)).push hown hgrow
    clear hown hgrow
    have HR : Hid (RefAt w bb off n cap l (.slice (some ⟨g, 0, none⟩) (pre.length + 1) cap2) w3 (pre ++ [Tk.txt [60]]) (i + 1)) := HN.out.full (by rw [← HS.out.go, HF.out, List.append_assoc]) (by simp; omega) (by omega)
    go_wp2
    exact RefI.step (by kernel_rfl) HR.out (Nat.lt_succ_self _)

set_option maxRecDepth 1000000 in
set_option maxHeartbeats 1600000 in
theorem ref_shutlast (w : World) (bb off n cap i : Nat) (l : List UInt8) (v : Value) (wr : World) (pre : List Tk) (us : Nat → Value) (Q0 : Exit → Act → World → Prop) (hS : RefAt w bb off n cap l v wr pre i) (hn : n ≤ 20000) (hi : i < l.length) (hc : ((l[i].toNat : Int) != 60) = false) (hpx : ([60, 33, 45, 45] : List UInt8).isPrefixOf (l.drop i) = false) (hf : Tk.first 60 (l.drop (i + 1)) = ([Tk.txt [60]], l.drop (i + 1))) (hi1 : i + 1 < l.length) (hd : l[i + 1] = 47) (hi2 : ¬ i + 2 < l.length) :
    Code.wp Tryz.prog ((Tryz.f12.body.bind firstLoop).getD .skip) (Exit.then (fun a' w' => RefI w bb off n cap l a' w' ∧ frmMu n a' < n - i) Q0) (frm w.heap.size v i us) wr := by
  have HS : Hid (RefAt w bb off n cap l v wr pre i) := hS
  have hll := hS.bytes.bytes
  have hcap := hS.bytes.room
  have hpre := hS.len
  have c0 : wr.cell? ⟨w.heap.size, 0, none⟩ = some (.slice (some ⟨bb, off, none⟩) n cap) := hS.box.cell 0
  obtain ⟨b', off', he, hcs⟩ := hS.bytes.byte (by omega)
  cases he
  have HC : Hid (∀ i (hi : i < l.length), wr.cell? ⟨bb, off + i, none⟩ = some (.int .u8 l[i].toNat)) := hcs
  have c1 := hcs i hi
  have hin : i < n := by omega
  obtain ⟨i0, hif, hz0, hz1, hz2⟩ := info_parts Tryz.infoTr
  clear hcs hS
  have h60 : l[i] = 60 := UInt8.toNat_inj.1 (by have : (l[i].toNat : Int) = 60 := (by simpa using hc); show l[i].toNat = 60; omega)
  have hdr : l.drop i = 60 :: l.drop (i + 1) := by rw [drop_at hi, h60]
  have HM : Hid (RefM w bb off n cap l v wr pre) := HS.out.mem
  have hsl := slice_l bb off n cap i (Nat.le_of_lt hin)
  have hcv := conv_byt (HS.out.bytes.part i n (Nat.le_of_lt hin) (Nat.le_refl _))
  rw [List.take_of_length_le (by rw [List.length_drop]; omega)] at hcv
  have HP : Hid (∀ w, Calls Tryz.prog 57 #[.string (B (l.drop i)), .string (B [60, 33, 45, 45])] w fun e w' => e = .returned (.bool false) ∧ w' = w) := fun w => by
    have := Tryz.strings_HasPrefix (B (l.drop i)) (B [60, 33, 45, 45]) w
    rw [B_data, B_data] at this
    unfold Lib.hasPrefix at this
    rw [hpx] at this
    exact this
  generalize subA bb off cap i = sa at *
  have HF : Hid (Tk.toks (l.drop i) = [Tk.txt [60]] ++ Tk.toks (l.drop (i + 1))) := by
    show _ = _
    rw [hdr, Tk.toks_cons, hf]
  have A1 : Hid (Calls Tryz.prog 53 #[.int .i64 ((i : Int) + 1), .pointer (some ⟨w.heap.size, 0, none⟩)] wr fun e w' => e = .returned (.int .u8 l[i + 1].toNat) ∧ w' = wr) := at_in w.heap.size bb off n cap (i + 1) l wr HS.out.box HS.out.bytes hi1
  have d1 := HC.out (i + 1) hi1
  have hi1n : i + 1 < n := by omega
  have q1 : (i : Int) + 1 < (n : Int) := by omega
  have q2 : (0 : Int) ≤ (i : Int) + 1 := by omega
  have q3 : ((i : Int) + 1).toNat = i + 1 := by omega
  have d1' := d1
  rw [← Nat.add_assoc] at d1'
  have hd1 : l.drop (i + 1) = l[i + 1] :: l.drop (i + 2) := drop_at hi1
  have hb47 : ((l[i + 1].toNat : Int) == 47) = true := by rw [hd]; rfl
  have hb33 : ((l[i + 1].toNat : Int) == 33) = false := by rw [hd]; rfl
  have hb63 : ((l[i + 1].toNat : Int) == 63) = false := by rw [hd]; rfl
  have hi2n : ¬ i + 2 < n := by omega
  have hi2i : ((i : Int) + 1 + 1) = ((i + 2 : Nat) : Int) := by omega
  clear hpx hdr hf hd1 hd
  generalize l[i + 1] = d at *
  unfold frm
  conv => arg 2; whnf
  go_wp2_with fail
  refine (A1.out).mono ?_
  rintro e wx ⟨rfl, hw⟩
  rw [hw]
  clear hw wx
  go_wp2_with fail
  refine (HP.out _).mono ?_
  rintro e wx ⟨rfl, hw⟩
  rw [hw]
  clear hw wx
  go_wp2_with (at_builtin; refine wpList_append_lies _ rfl (.tmp 120) (.tmp 122) 23 rfl (w.heap.size + 1) 30 i0 (tkA tk0) 4 56 Tryz.underlying23 hif hz0 hz1 hz2 rfl (by decide) v pre.length (tkCells pre) rfl ?c1 ⟨wr.heap.size, 0, none⟩ 1 1 (tkC (Tk.txt [60])) rfl rfl ?c2 ?c3 (by decide) ?c4 ?c5 ?c6 _ rfl ?c7)
  case c1 => exact World.ownsRow.alloc HM.out.own _
  case c2 => first | exact fun _ _ h => h | exact World.news_of_block (heap_alloc_new wr _)
  case c3 => rw [← tkCells_one]; exact tkCells_oneCell _
  case c4 => unfold maxLen; omega
  case c5 => omega
  case c6 =>
    have := HM.out.box.lt
    first | omega | (simp; omega)
  case c7 =>
    intro g cap2 w3 hown hgrow _ _
    have HN : Hid (RefM w bb off n cap l (.slice (some ⟨g, 0, none⟩) (pre.length + 1) cap2) w3 (pre ++ [(Tk.txt [60])])) := (HM.out.far ((Below.refl _ _).alloc (Nat.le_refl _) _)).push hown hgrow
    clear hown hgrow
    have HR : Hid (RefAt w bb off n cap l (.slice (some ⟨g, 0, none⟩) (pre.length + 1) cap2) w3 (pre ++ [Tk.txt [60]]) (i + 1)) := HN.out.full (by rw [← HS.out.go, HF.out, List.append_assoc]) (by simp; omega) (by omega)
    go_wp2
    exact RefI.step (by kernel_rfl) HR.out (Nat.lt_succ_self _)

set_option maxRecDepth 1000000 in
set_option maxHeartbeats 1600000 in
theorem ref_shutno (w : World) (bb off n cap i : Nat) (l : List UInt8) (v : Value) (wr : World) (pre : List Tk) (us : Nat → Value) (Q0 : Exit → Act → World → Prop) (hS : RefAt w bb off n cap l v wr pre i) (hn : n ≤ 20000) (hi : i < l.length) (hc : ((l[i].toNat : Int) != 60) = false) (hpx : ([60, 33, 45, 45] : List UInt8).isPrefixOf (l.drop i) = false) (hf : Tk.first 60 (l.drop (i + 1)) = ([Tk.txt [60]], l.drop (i + 1))) (hi1 : i + 1 < l.length) (hd : l[i + 1] = 47) (hi2 : i + 2 < l.length) (hlet : Tk.letter l[i + 2] = false) :
    Code.wp Tryz.prog ((Tryz.f12.body.bind firstLoop).getD .skip) (Exit.then (fun a' w' => RefI w bb off n cap l a' w' ∧ frmMu n a' < n - i) Q0) (frm w.heap.size v i us) wr := by
  have HS : Hid (RefAt w bb off n cap l v wr pre i) := hS
  have hll := hS.bytes.bytes
  have hcap := hS.bytes.room
  have hpre := hS.len
  have c0 : wr.cell? ⟨w.heap.size, 0, none⟩ = some (.slice (some ⟨bb, off, none⟩) n cap) := hS.box.cell 0
  obtain ⟨b', off', he, hcs⟩ := hS.bytes.byte (by omega)
  cases he
  have HC : Hid (∀ i (hi : i < l.length), wr.cell? ⟨bb, off + i, none⟩ = some (.int .u8 l[i].toNat)) := hcs
  have c1 := hcs i hi
  have hin : i < n := by omega
  obtain ⟨i0, hif, hz0, hz1, hz2⟩ := info_parts Tryz.infoTr
  clear hcs hS
  have h60 : l[i] = 60 := UInt8.toNat_inj.1 (by have : (l[i].toNat : Int) = 60 := (by simpa using hc); show l[i].toNat = 60; omega)
  have hdr : l.drop i = 60 :: l.drop (i + 1) := by rw [drop_at hi, h60]
  have HM : Hid (RefM w bb off n cap l v wr pre) := HS.out.mem
  have hsl := slice_l bb off n cap i (Nat.le_of_lt hin)
  have hcv := conv_byt (HS.out.bytes.part i n (Nat.le_of_lt hin) (Nat.le_refl _))
  rw [List.take_of_length_le (by rw [List.length_drop]; omega)] at hcv
  have HP : Hid (∀ w, Calls Tryz.prog 57 #[.string (B (l.drop i)), .string (B [60, 33, 45, 45])] w fun e w' => e = .returned (.bool false) ∧ w' = w) := fun w => by
    have := Tryz.strings_HasPrefix (B (l.drop i)) (B [60, 33, 45, 45]) w
    rw [B_data, B_data] at this
    unfold Lib.hasPrefix at this
    rw [hpx] at this
    exact this
  generalize subA bb off cap i = sa at *
  have HF : Hid (Tk.toks (l.drop i) = [Tk.txt [60]] ++ Tk.toks (l.drop (i + 1))) := by
    show _ = _
    rw [hdr, Tk.toks_cons, hf]
  have A1 : Hid (Calls Tryz.prog 53 #[.int .i64 ((i : Int) + 1), .pointer (some ⟨w.heap.size, 0, none⟩)] wr fun e w' => e = .returned (.int .u8 l[i + 1].toNat) ∧ w' = wr) := at_in w.heap.size bb off n cap (i + 1) l wr HS.out.box HS.out.bytes hi1
  have d1 := HC.out (i + 1) hi1
  have hi1n : i + 1 < n := by omega
  have q1 : (i : Int) + 1 < (n : Int) := by omega
  have q2 : (0 : Int) ≤ (i : Int) + 1 := by omega
  have q3 : ((i : Int) + 1).toNat = i + 1 := by omega
  have d1' := d1
  rw [← Nat.add_assoc] at d1'
  have hd1 : l.drop (i + 1) = l[i + 1] :: l.drop (i + 2) := drop_at hi1
  have hb47 : ((l[i + 1].toNat : Int) == 47) = true := by rw [hd]; rfl
  have hb33 : ((l[i + 1].toNat : Int) == 33) = false := by rw [hd]; rfl
  have hb63 : ((l[i + 1].toNat : Int) == 63) = false := by rw [hd]; rfl
  have hi2n : i + 2 < n := by omega
  have d2 := HC.out (i + 2) hi2
  have d2b := d2
  rw [← Nat.add_assoc] at d2b
  have q4 : (i : Int) + 1 + 1 < (n : Int) := by omega
  have q5 : (0 : Int) ≤ (i : Int) + 1 + 1 := by omega
  have q6 : ((i : Int) + 1 + 1).toNat = i + 2 := by omega
  have HL : Hid (∀ w, Calls Tryz.prog 58 #[.int .u8 l[i + 2].toNat] w fun e w' => e = .returned (.bool false) ∧ Below w.heap.size w w') := fun w => by
    have := rletter_any l[i + 2] w
    rw [hlet] at this
    exact this
  clear hpx hdr hf hd1 hd hlet
  generalize l[i + 1] = d at *
  generalize l[i + 2] = d2' at *
  unfold frm
  conv => arg 2; whnf
  go_wp2_with fail
  refine (A1.out).mono ?_
  rintro e wx ⟨rfl, hw⟩
  rw [hw]
  clear hw wx
  go_wp2_with fail
  refine (HP.out _).mono ?_
  rintro e wx ⟨rfl, hw⟩
  rw [hw]
  clear hw wx
  go_wp2_with fail
  refine (HL.out _).mono ?_
  rintro e w2 ⟨rfl, hb⟩
  have HM2 : Hid (RefM w bb off n cap l v w2 pre) := HM.out.far hb
  clear hb
  go_wp2_with (at_builtin; refine wpList_append_lies _ rfl (.tmp 120) (.tmp 122) 23 rfl (w.heap.size + 1) 30 i0 (tkA tk0) 4 56 Tryz.underlying23 hif hz0 hz1 hz2 rfl (by decide) v pre.length (tkCells pre) rfl ?c1 ⟨w2.heap.size, 0, none⟩ 1 1 (tkC (Tk.txt [60])) rfl rfl ?c2 ?c3 (by decide) ?c4 ?c5 ?c6 _ rfl ?c7)
  case c1 => exact World.ownsRow.alloc HM2.out.own _
  case c2 => first | exact fun _ _ h => h | exact World.news_of_block (heap_alloc_new w2 _)
  case c3 => rw [← tkCells_one]; exact tkCells_oneCell _
  case c4 => unfold maxLen; omega
  case c5 => omega
  case c6 =>
    have := HM2.out.box.lt
    first | omega | (simp; omega)
  case c7 =>
    intro g cap2 w3 hown hgrow _ _
    have HN : Hid (RefM w bb off n cap l (.slice (some ⟨g, 0, none⟩) (pre.length + 1) cap2) w3 (pre ++ [(Tk.txt [60])])) := (HM2.out.far ((Below.refl _ _).alloc (Nat.le_refl _) _)).push hown hgrow
    clear hown hgrow
    have HR : Hid (RefAt w bb off n cap l (.slice (some ⟨g, 0, none⟩) (pre.length + 1) cap2) w3 (pre ++ [Tk.txt [60]]) (i + 1)) := HN.out.full (by rw [← HS.out.go, HF.out, List.append_assoc]) (by simp; omega) (by omega)
    go_wp2
    exact RefI.step (by kernel_rfl) HR.out (Nat.lt_succ_self _)

end Go.Proofs.YtbhcklkbckacpaaGreatDoor
