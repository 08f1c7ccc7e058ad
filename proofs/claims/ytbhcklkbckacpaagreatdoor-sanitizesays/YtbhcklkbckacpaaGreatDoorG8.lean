/-
  Texts of this proof, one behind the other.
-/
import Derived.Test.YtbhcklkbckacpaaGreatDoorG7
import Derived.Test.YtbhcklkbckacpaaGreatDoorG4

/-
  The reference's Read: what is hidden, and what is nothing.
-/
namespace Go.Proofs.YtbhcklkbckacpaaGreatDoor
open Go.RowKit Go.Maps Go.WideMaps
set_option maxRecDepth 1000000 in
set_option maxHeartbeats 3200000 in
theorem rd_shown (w1 : World) (b : Nat) (ta : Option Addr) (nt tc : Nat) (s : Sn.S) (v : Value) (j tb : Nat) (t : Tk) (us : Nat → Value) (w2 : World) (K : Act → World → Prop) (Q : Exit → Act → World → Prop) (hC : AtTk w1 b s v tb t w2) (hK : ∀ us' v' w', RdM w1 b (Sn.step s t) v' w' → K (frmR b ta nt tc (Sn.step s t) j us') w') (hh : s.hides.isEmpty = false) (hk : t.kind = 3) (hn : t.name = s.hides) :
    Code.wp Tryz.prog ((Tryz.f15.body.bind (blockOn 2)).getD .skip) (Exit.then K Q) (frmS b ta nt tc s j tb ((Sn.blockOf t.name).getD 0) (Sn.blockOf t.name).isSome us) w2 := by
  have hst : Sn.step s t = { s with hides := [] } := by
    unfold Sn.step
    rw [hh, hk, hn]
    simp
  rw [hst] at hK
  have HK : Hid (∀ us' v' w', RdM w1 b { s with hides := [] } v' w' → K (frmR b ta nt tc { s with hides := [] } j us') w') := hK
  have hM := hC.mem
  have hB := hC.blk
  have t0 : w2.cell? ⟨tb, 0, none⟩ = some (.int .i64 t.kind) := hB.cell 0
  have t1 : w2.cell? ⟨tb, 1, none⟩ = some (.string (B t.name)) := hB.cell 1
  have t2 : w2.cell? ⟨tb, 2, none⟩ = some (.string (B t.text)) := hB.cell 2
  have t3 : w2.cell? ⟨tb, 3, none⟩ = some (.string (B t.href)) := hB.cell 3
  have HM : Hid (RdM w1 b s v w2) := hM
  have HC : Hid (AtTk w1 b s v tb t w2) := hC
  have HB : Hid (Blk w2 tb (tkC t) 30) := hB
  have e0 : ((B s.hides).toList == []) = s.hides.isEmpty := by rw [toList_B]; cases s.hides <;> rfl
  have e1 : (B s.hides).toList.isEmpty = s.hides.isEmpty := by rw [toList_B]
  rw [hh] at e0 e1
  have b3 : (t.kind == 3) = true := by rw [hk]; rfl
  have bn : ((B t.name).toList == (B s.hides).toList) = true := by rw [hn]; simp
  clear hK hst hM hB hC
  generalize (Sn.blockOf t.name).getD 0 = bk at *
  unfold frmS
  conv => arg 2; whnf
  go_wp2
  exact as_frame (frmR b ta nt tc { s with hides := [] } j) (by kernel_rfl) (fun us' => HK.out us' v _ (HM.out.same rfl rfl rfl))
set_option maxRecDepth 1000000 in
set_option maxHeartbeats 3200000 in
theorem rd_hidden (w1 : World) (b : Nat) (ta : Option Addr) (nt tc : Nat) (s : Sn.S) (v : Value) (j tb : Nat) (t : Tk) (us : Nat → Value) (w2 : World) (K : Act → World → Prop) (Q : Exit → Act → World → Prop) (hC : AtTk w1 b s v tb t w2) (hK : ∀ us' v' w', RdM w1 b (Sn.step s t) v' w' → K (frmR b ta nt tc (Sn.step s t) j us') w') (hh : s.hides.isEmpty = false) (hk : (t.kind == 3 && t.name == s.hides) = false) :
    Code.wp Tryz.prog ((Tryz.f15.body.bind (blockOn 2)).getD .skip) (Exit.then K Q) (frmS b ta nt tc s j tb ((Sn.blockOf t.name).getD 0) (Sn.blockOf t.name).isSome us) w2 := by
  have hst : Sn.step s t = s := by
    unfold Sn.step
    rw [hh, hk]
    simp
  rw [hst] at hK
  have HK : Hid (∀ us' v' w', RdM w1 b s v' w' → K (frmR b ta nt tc s j us') w') := hK
  have hM := hC.mem
  have hB := hC.blk
  have t0 : w2.cell? ⟨tb, 0, none⟩ = some (.int .i64 t.kind) := hB.cell 0
  have t1 : w2.cell? ⟨tb, 1, none⟩ = some (.string (B t.name)) := hB.cell 1
  have t2 : w2.cell? ⟨tb, 2, none⟩ = some (.string (B t.text)) := hB.cell 2
  have t3 : w2.cell? ⟨tb, 3, none⟩ = some (.string (B t.href)) := hB.cell 3
  have HM : Hid (RdM w1 b s v w2) := hM
  have HC : Hid (AtTk w1 b s v tb t w2) := hC
  have HB : Hid (Blk w2 tb (tkC t) 30) := hB
  have e0 : ((B s.hides).toList == []) = s.hides.isEmpty := by rw [toList_B]; cases s.hides <;> rfl
  have e1 : (B s.hides).toList.isEmpty = s.hides.isEmpty := by rw [toList_B]
  rw [hh] at e0 e1
  have bn : ((B t.name).toList == (B s.hides).toList) = (t.name == s.hides) := by rw [toList_B, toList_B]
  clear hK hst hM hB hC
  generalize (Sn.blockOf t.name).getD 0 = bk at *
  unfold frmS
  conv => arg 2; whnf
  cases h3 : (t.kind == 3)
  · go_wp2
    exact as_frame (frmR b ta nt tc s j) (by kernel_rfl) (fun us' => HK.out us' v _ (HM.out.same rfl rfl rfl))
  · rw [h3] at hk
    rw [show (t.name == s.hides) = false by simpa using hk] at bn
    go_wp2
    exact as_frame (frmR b ta nt tc s j) (by kernel_rfl) (fun us' => HK.out us' v _ (HM.out.same rfl rfl rfl))
set_option maxRecDepth 1000000 in
set_option maxHeartbeats 3200000 in
theorem rd_other (w1 : World) (b : Nat) (ta : Option Addr) (nt tc : Nat) (s : Sn.S) (v : Value) (j tb : Nat) (t : Tk) (us : Nat → Value) (w2 : World) (K : Act → World → Prop) (Q : Exit → Act → World → Prop) (hC : AtTk w1 b s v tb t w2) (hK : ∀ us' v' w', RdM w1 b (Sn.step s t) v' w' → K (frmR b ta nt tc (Sn.step s t) j us') w') (hh : s.hides.isEmpty = true) (hk : t.kind = 4) :
    Code.wp Tryz.prog ((Tryz.f15.body.bind (blockOn 2)).getD .skip) (Exit.then K Q) (frmS b ta nt tc s j tb ((Sn.blockOf t.name).getD 0) (Sn.blockOf t.name).isSome us) w2 := by
  have hst : Sn.step s t = s := by
    unfold Sn.step
    rw [hh, hk]
    simp
  rw [hst] at hK
  have HK : Hid (∀ us' v' w', RdM w1 b s v' w' → K (frmR b ta nt tc s j us') w') := hK
  have hM := hC.mem
  have hB := hC.blk
  have t0 : w2.cell? ⟨tb, 0, none⟩ = some (.int .i64 t.kind) := hB.cell 0
  have t1 : w2.cell? ⟨tb, 1, none⟩ = some (.string (B t.name)) := hB.cell 1
  have t2 : w2.cell? ⟨tb, 2, none⟩ = some (.string (B t.text)) := hB.cell 2
  have t3 : w2.cell? ⟨tb, 3, none⟩ = some (.string (B t.href)) := hB.cell 3
  have HM : Hid (RdM w1 b s v w2) := hM
  have HC : Hid (AtTk w1 b s v tb t w2) := hC
  have HB : Hid (Blk w2 tb (tkC t) 30) := hB
  have e0 : ((B s.hides).toList == []) = s.hides.isEmpty := by rw [toList_B]; cases s.hides <;> rfl
  have e1 : (B s.hides).toList.isEmpty = s.hides.isEmpty := by rw [toList_B]
  rw [hh] at e0 e1
  have b1 : (t.kind == 1) = false := by rw [hk]; rfl
  have b4 : (t.kind == 4) = true := by rw [hk]; rfl
  clear hK hst hM hB hC
  generalize (Sn.blockOf t.name).getD 0 = bk at *
  unfold frmS
  conv => arg 2; whnf
  go_wp2
  exact as_frame (frmR b ta nt tc s j) (by kernel_rfl) (fun us' => HK.out us' v _ (HM.out.same rfl rfl rfl))
end Go.Proofs.YtbhcklkbckacpaaGreatDoor

/-
  The reference's Read: marks and links.
-/
namespace Go.Proofs.YtbhcklkbckacpaaGreatDoor
open Go.RowKit Go.Maps Go.WideMaps
set_option maxRecDepth 1000000 in
set_option maxHeartbeats 3200000 in
theorem rd_b (w1 : World) (b : Nat) (ta : Option Addr) (nt tc : Nat) (s : Sn.S) (v : Value) (j tb : Nat) (t : Tk) (us : Nat → Value) (w2 : World) (K : Act → World → Prop) (Q : Exit → Act → World → Prop) (hC : AtTk w1 b s v tb t w2) (hK : ∀ us' v' w', RdM w1 b (Sn.step s t) v' w' → K (frmR b ta nt tc (Sn.step s t) j us') w') (hh : s.hides.isEmpty = true) (hk1 : ¬ t.kind = 1) (hk4 : ¬ t.kind = 4) (hn : t.name = [98]) (hw : (Lit.int .i64 t.kind).wf = true) (hb0 : 0 ≤ s.bold) (hb1 : s.bold ≤ 1000000) :
    Code.wp Tryz.prog ((Tryz.f15.body.bind (blockOn 2)).getD .skip) (Exit.then K Q) (frmS b ta nt tc s j tb ((Sn.blockOf t.name).getD 0) (Sn.blockOf t.name).isSome us) w2 := by
  have hst : Sn.step s t = { s with bold := Sn.up (s.bold + Sn.one t.kind) } := by
    unfold Sn.step
    rw [hh, if_neg (by simp), if_neg (by simpa using hk1), if_neg (by simpa using hk4), hn]
    show Sn.other s t = _
    unfold Sn.other
    rw [hn]
    rfl
  rw [hst] at hK
  have HK : Hid (∀ us' v' w', RdM w1 b { s with bold := Sn.up (s.bold + Sn.one t.kind) } v' w' → K (frmR b ta nt tc { s with bold := Sn.up (s.bold + Sn.one t.kind) } j us') w') := hK
  have hM := hC.mem
  have hB := hC.blk
  have t0 : w2.cell? ⟨tb, 0, none⟩ = some (.int .i64 t.kind) := hB.cell 0
  have t1 : w2.cell? ⟨tb, 1, none⟩ = some (.string (B t.name)) := hB.cell 1
  have t2 : w2.cell? ⟨tb, 2, none⟩ = some (.string (B t.text)) := hB.cell 2
  have t3 : w2.cell? ⟨tb, 3, none⟩ = some (.string (B t.href)) := hB.cell 3
  have HM : Hid (RdM w1 b s v w2) := hM
  have HC : Hid (AtTk w1 b s v tb t w2) := hC
  have HB : Hid (Blk w2 tb (tkC t) 30) := hB
  have e0 : ((B s.hides).toList == []) = s.hides.isEmpty := by rw [toList_B]; cases s.hides <;> rfl
  have e1 : (B s.hides).toList.isEmpty = s.hides.isEmpty := by rw [toList_B]
  rw [hh] at e0 e1
  have b1 : (t.kind == 1) = false := by simpa using hk1
  have b4 : (t.kind == 4) = false := by simpa using hk4
  have hbs : (Sn.blockOf t.name).isSome = false := by rw [hn]; rfl
  have n98 : ((B t.name).toList == [98]) = true := by rw [toList_B, hn]; rfl
  have nst : ((B t.name).toList == [115, 116, 114, 111, 110, 103]) = false := by rw [toList_B, hn]; rfl
  have n105 : ((B t.name).toList == [105]) = false := by rw [toList_B, hn]; rfl
  have nem : ((B t.name).toList == [101, 109]) = false := by rw [toList_B, hn]; rfl
  have n97 : ((B t.name).toList == [97]) = false := by rw [toList_B, hn]; rfl
  have nbr : ((B t.name).toList == [98, 114]) = false := by rw [toList_B, hn]; rfl
  have hmm := @run_makeMap Tryz.prog
  obtain ⟨wa, wb, r1, r2, r3, hbl⟩ := count2 w2 t.kind hw
  have HW : Hid (RdM w1 b s v wb) := HM.out.far hbl
  have o1 : Sn.one t.kind ≤ 1 := by unfold Sn.one; split <;> (try split) <;> omega
  have o2 : -1 ≤ Sn.one t.kind := by unfold Sn.one; split <;> (try split) <;> omega
  obtain ⟨on, hon⟩ : ∃ on, Sn.one t.kind = on := ⟨_, rfl⟩
  rw [hon] at r3 o1 o2 HK
  have u0 : wb.cell? ⟨tb, 0, none⟩ = some (.int .i64 t.kind) := cell_under t0 hbl
  have wr1 : wrap64 (s.bold + on) = s.bold + on := by unfold wrap64; omega
  have up1 : max 0 (s.bold + on) = Sn.up (s.bold + on) := by unfold Sn.up; split <;> omega
  obtain ⟨ux, hux⟩ : ∃ ux, Sn.up (s.bold + on) = ux := ⟨_, rfl⟩
  rw [hux] at up1 HK
  clear hon hbl hux hn hk1 hk4 hh hw
  clear hK hst hM hB hC
  generalize (Sn.blockOf t.name).getD 0 = bk at *
  unfold frmS
  conv => arg 2; whnf
  go_wp2
  exact as_frame (frmR b ta nt tc { s with bold := ux } j) (by kernel_rfl) (fun us' => HK.out us' v _ (HW.out.same rfl rfl rfl))
set_option maxRecDepth 1000000 in
set_option maxHeartbeats 3200000 in
theorem rd_strong (w1 : World) (b : Nat) (ta : Option Addr) (nt tc : Nat) (s : Sn.S) (v : Value) (j tb : Nat) (t : Tk) (us : Nat → Value) (w2 : World) (K : Act → World → Prop) (Q : Exit → Act → World → Prop) (hC : AtTk w1 b s v tb t w2) (hK : ∀ us' v' w', RdM w1 b (Sn.step s t) v' w' → K (frmR b ta nt tc (Sn.step s t) j us') w') (hh : s.hides.isEmpty = true) (hk1 : ¬ t.kind = 1) (hk4 : ¬ t.kind = 4) (hn : t.name = [115, 116, 114, 111, 110, 103]) (hw : (Lit.int .i64 t.kind).wf = true) (hb0 : 0 ≤ s.bold) (hb1 : s.bold ≤ 1000000) :
    Code.wp Tryz.prog ((Tryz.f15.body.bind (blockOn 2)).getD .skip) (Exit.then K Q) (frmS b ta nt tc s j tb ((Sn.blockOf t.name).getD 0) (Sn.blockOf t.name).isSome us) w2 := by
  have hst : Sn.step s t = { s with bold := Sn.up (s.bold + Sn.one t.kind) } := by
    unfold Sn.step
    rw [hh, if_neg (by simp), if_neg (by simpa using hk1), if_neg (by simpa using hk4), hn]
    show Sn.other s t = _
    unfold Sn.other
    rw [hn]
    rfl
  rw [hst] at hK
  have HK : Hid (∀ us' v' w', RdM w1 b { s with bold := Sn.up (s.bold + Sn.one t.kind) } v' w' → K (frmR b ta nt tc { s with bold := Sn.up (s.bold + Sn.one t.kind) } j us') w') := hK
  have hM := hC.mem
  have hB := hC.blk
  have t0 : w2.cell? ⟨tb, 0, none⟩ = some (.int .i64 t.kind) := hB.cell 0
  have t1 : w2.cell? ⟨tb, 1, none⟩ = some (.string (B t.name)) := hB.cell 1
  have t2 : w2.cell? ⟨tb, 2, none⟩ = some (.string (B t.text)) := hB.cell 2
  have t3 : w2.cell? ⟨tb, 3, none⟩ = some (.string (B t.href)) := hB.cell 3
  have HM : Hid (RdM w1 b s v w2) := hM
  have HC : Hid (AtTk w1 b s v tb t w2) := hC
  have HB : Hid (Blk w2 tb (tkC t) 30) := hB
  have e0 : ((B s.hides).toList == []) = s.hides.isEmpty := by rw [toList_B]; cases s.hides <;> rfl
  have e1 : (B s.hides).toList.isEmpty = s.hides.isEmpty := by rw [toList_B]
  rw [hh] at e0 e1
  have b1 : (t.kind == 1) = false := by simpa using hk1
  have b4 : (t.kind == 4) = false := by simpa using hk4
  have hbs : (Sn.blockOf t.name).isSome = false := by rw [hn]; rfl
  have n98 : ((B t.name).toList == [98]) = false := by rw [toList_B, hn]; rfl
  have nst : ((B t.name).toList == [115, 116, 114, 111, 110, 103]) = true := by rw [toList_B, hn]; rfl
  have n105 : ((B t.name).toList == [105]) = false := by rw [toList_B, hn]; rfl
  have nem : ((B t.name).toList == [101, 109]) = false := by rw [toList_B, hn]; rfl
  have n97 : ((B t.name).toList == [97]) = false := by rw [toList_B, hn]; rfl
  have nbr : ((B t.name).toList == [98, 114]) = false := by rw [toList_B, hn]; rfl
  have hmm := @run_makeMap Tryz.prog
  obtain ⟨wa, wb, r1, r2, r3, hbl⟩ := count2 w2 t.kind hw
  have HW : Hid (RdM w1 b s v wb) := HM.out.far hbl
  have o1 : Sn.one t.kind ≤ 1 := by unfold Sn.one; split <;> (try split) <;> omega
  have o2 : -1 ≤ Sn.one t.kind := by unfold Sn.one; split <;> (try split) <;> omega
  obtain ⟨on, hon⟩ : ∃ on, Sn.one t.kind = on := ⟨_, rfl⟩
  rw [hon] at r3 o1 o2 HK
  have u0 : wb.cell? ⟨tb, 0, none⟩ = some (.int .i64 t.kind) := cell_under t0 hbl
  have wr1 : wrap64 (s.bold + on) = s.bold + on := by unfold wrap64; omega
  have up1 : max 0 (s.bold + on) = Sn.up (s.bold + on) := by unfold Sn.up; split <;> omega
  obtain ⟨ux, hux⟩ : ∃ ux, Sn.up (s.bold + on) = ux := ⟨_, rfl⟩
  rw [hux] at up1 HK
  clear hon hbl hux hn hk1 hk4 hh hw
  clear hK hst hM hB hC
  generalize (Sn.blockOf t.name).getD 0 = bk at *
  unfold frmS
  conv => arg 2; whnf
  go_wp2
  exact as_frame (frmR b ta nt tc { s with bold := ux } j) (by kernel_rfl) (fun us' => HK.out us' v _ (HW.out.same rfl rfl rfl))
set_option maxRecDepth 1000000 in
set_option maxHeartbeats 3200000 in
theorem rd_i (w1 : World) (b : Nat) (ta : Option Addr) (nt tc : Nat) (s : Sn.S) (v : Value) (j tb : Nat) (t : Tk) (us : Nat → Value) (w2 : World) (K : Act → World → Prop) (Q : Exit → Act → World → Prop) (hC : AtTk w1 b s v tb t w2) (hK : ∀ us' v' w', RdM w1 b (Sn.step s t) v' w' → K (frmR b ta nt tc (Sn.step s t) j us') w') (hh : s.hides.isEmpty = true) (hk1 : ¬ t.kind = 1) (hk4 : ¬ t.kind = 4) (hn : t.name = [105]) (hw : (Lit.int .i64 t.kind).wf = true) (hb0 : 0 ≤ s.slant) (hb1 : s.slant ≤ 1000000) :
    Code.wp Tryz.prog ((Tryz.f15.body.bind (blockOn 2)).getD .skip) (Exit.then K Q) (frmS b ta nt tc s j tb ((Sn.blockOf t.name).getD 0) (Sn.blockOf t.name).isSome us) w2 := by
  have hst : Sn.step s t = { s with slant := Sn.up (s.slant + Sn.one t.kind) } := by
    unfold Sn.step
    rw [hh, if_neg (by simp), if_neg (by simpa using hk1), if_neg (by simpa using hk4), hn]
    show Sn.other s t = _
    unfold Sn.other
    rw [hn]
    rfl
  rw [hst] at hK
  have HK : Hid (∀ us' v' w', RdM w1 b { s with slant := Sn.up (s.slant + Sn.one t.kind) } v' w' → K (frmR b ta nt tc { s with slant := Sn.up (s.slant + Sn.one t.kind) } j us') w') := hK
  have hM := hC.mem
  have hB := hC.blk
  have t0 : w2.cell? ⟨tb, 0, none⟩ = some (.int .i64 t.kind) := hB.cell 0
  have t1 : w2.cell? ⟨tb, 1, none⟩ = some (.string (B t.name)) := hB.cell 1
  have t2 : w2.cell? ⟨tb, 2, none⟩ = some (.string (B t.text)) := hB.cell 2
  have t3 : w2.cell? ⟨tb, 3, none⟩ = some (.string (B t.href)) := hB.cell 3
  have HM : Hid (RdM w1 b s v w2) := hM
  have HC : Hid (AtTk w1 b s v tb t w2) := hC
  have HB : Hid (Blk w2 tb (tkC t) 30) := hB
  have e0 : ((B s.hides).toList == []) = s.hides.isEmpty := by rw [toList_B]; cases s.hides <;> rfl
  have e1 : (B s.hides).toList.isEmpty = s.hides.isEmpty := by rw [toList_B]
  rw [hh] at e0 e1
  have b1 : (t.kind == 1) = false := by simpa using hk1
  have b4 : (t.kind == 4) = false := by simpa using hk4
  have hbs : (Sn.blockOf t.name).isSome = false := by rw [hn]; rfl
  have n98 : ((B t.name).toList == [98]) = false := by rw [toList_B, hn]; rfl
  have nst : ((B t.name).toList == [115, 116, 114, 111, 110, 103]) = false := by rw [toList_B, hn]; rfl
  have n105 : ((B t.name).toList == [105]) = true := by rw [toList_B, hn]; rfl
  have nem : ((B t.name).toList == [101, 109]) = false := by rw [toList_B, hn]; rfl
  have n97 : ((B t.name).toList == [97]) = false := by rw [toList_B, hn]; rfl
  have nbr : ((B t.name).toList == [98, 114]) = false := by rw [toList_B, hn]; rfl
  have hmm := @run_makeMap Tryz.prog
  obtain ⟨wa, wb, r1, r2, r3, hbl⟩ := count2 w2 t.kind hw
  have HW : Hid (RdM w1 b s v wb) := HM.out.far hbl
  have o1 : Sn.one t.kind ≤ 1 := by unfold Sn.one; split <;> (try split) <;> omega
  have o2 : -1 ≤ Sn.one t.kind := by unfold Sn.one; split <;> (try split) <;> omega
  obtain ⟨on, hon⟩ : ∃ on, Sn.one t.kind = on := ⟨_, rfl⟩
  rw [hon] at r3 o1 o2 HK
  have u0 : wb.cell? ⟨tb, 0, none⟩ = some (.int .i64 t.kind) := cell_under t0 hbl
  have wr1 : wrap64 (s.slant + on) = s.slant + on := by unfold wrap64; omega
  have up1 : max 0 (s.slant + on) = Sn.up (s.slant + on) := by unfold Sn.up; split <;> omega
  obtain ⟨ux, hux⟩ : ∃ ux, Sn.up (s.slant + on) = ux := ⟨_, rfl⟩
  rw [hux] at up1 HK
  clear hon hbl hux hn hk1 hk4 hh hw
  clear hK hst hM hB hC
  generalize (Sn.blockOf t.name).getD 0 = bk at *
  unfold frmS
  conv => arg 2; whnf
  go_wp2
  exact as_frame (frmR b ta nt tc { s with slant := ux } j) (by kernel_rfl) (fun us' => HK.out us' v _ (HW.out.same rfl rfl rfl))
set_option maxRecDepth 1000000 in
set_option maxHeartbeats 3200000 in
theorem rd_em (w1 : World) (b : Nat) (ta : Option Addr) (nt tc : Nat) (s : Sn.S) (v : Value) (j tb : Nat) (t : Tk) (us : Nat → Value) (w2 : World) (K : Act → World → Prop) (Q : Exit → Act → World → Prop) (hC : AtTk w1 b s v tb t w2) (hK : ∀ us' v' w', RdM w1 b (Sn.step s t) v' w' → K (frmR b ta nt tc (Sn.step s t) j us') w') (hh : s.hides.isEmpty = true) (hk1 : ¬ t.kind = 1) (hk4 : ¬ t.kind = 4) (hn : t.name = [101, 109]) (hw : (Lit.int .i64 t.kind).wf = true) (hb0 : 0 ≤ s.slant) (hb1 : s.slant ≤ 1000000) :
    Code.wp Tryz.prog ((Tryz.f15.body.bind (blockOn 2)).getD .skip) (Exit.then K Q) (frmS b ta nt tc s j tb ((Sn.blockOf t.name).getD 0) (Sn.blockOf t.name).isSome us) w2 := by
  have hst : Sn.step s t = { s with slant := Sn.up (s.slant + Sn.one t.kind) } := by
    unfold Sn.step
    rw [hh, if_neg (by simp), if_neg (by simpa using hk1), if_neg (by simpa using hk4), hn]
    show Sn.other s t = _
    unfold Sn.other
    rw [hn]
    rfl
  rw [hst] at hK
  have HK : Hid (∀ us' v' w', RdM w1 b { s with slant := Sn.up (s.slant + Sn.one t.kind) } v' w' → K (frmR b ta nt tc { s with slant := Sn.up (s.slant + Sn.one t.kind) } j us') w') := hK
  have hM := hC.mem
  have hB := hC.blk
  have t0 : w2.cell? ⟨tb, 0, none⟩ = some (.int .i64 t.kind) := hB.cell 0
  have t1 : w2.cell? ⟨tb, 1, none⟩ = some (.string (B t.name)) := hB.cell 1
  have t2 : w2.cell? ⟨tb, 2, none⟩ = some (.string (B t.text)) := hB.cell 2
  have t3 : w2.cell? ⟨tb, 3, none⟩ = some (.string (B t.href)) := hB.cell 3
  have HM : Hid (RdM w1 b s v w2) := hM
  have HC : Hid (AtTk w1 b s v tb t w2) := hC
  have HB : Hid (Blk w2 tb (tkC t) 30) := hB
  have e0 : ((B s.hides).toList == []) = s.hides.isEmpty := by rw [toList_B]; cases s.hides <;> rfl
  have e1 : (B s.hides).toList.isEmpty = s.hides.isEmpty := by rw [toList_B]
  rw [hh] at e0 e1
  have b1 : (t.kind == 1) = false := by simpa using hk1
  have b4 : (t.kind == 4) = false := by simpa using hk4
  have hbs : (Sn.blockOf t.name).isSome = false := by rw [hn]; rfl
  have n98 : ((B t.name).toList == [98]) = false := by rw [toList_B, hn]; rfl
  have nst : ((B t.name).toList == [115, 116, 114, 111, 110, 103]) = false := by rw [toList_B, hn]; rfl
  have n105 : ((B t.name).toList == [105]) = false := by rw [toList_B, hn]; rfl
  have nem : ((B t.name).toList == [101, 109]) = true := by rw [toList_B, hn]; rfl
  have n97 : ((B t.name).toList == [97]) = false := by rw [toList_B, hn]; rfl
  have nbr : ((B t.name).toList == [98, 114]) = false := by rw [toList_B, hn]; rfl
  have hmm := @run_makeMap Tryz.prog
  obtain ⟨wa, wb, r1, r2, r3, hbl⟩ := count2 w2 t.kind hw
  have HW : Hid (RdM w1 b s v wb) := HM.out.far hbl
  have o1 : Sn.one t.kind ≤ 1 := by unfold Sn.one; split <;> (try split) <;> omega
  have o2 : -1 ≤ Sn.one t.kind := by unfold Sn.one; split <;> (try split) <;> omega
  obtain ⟨on, hon⟩ : ∃ on, Sn.one t.kind = on := ⟨_, rfl⟩
  rw [hon] at r3 o1 o2 HK
  have u0 : wb.cell? ⟨tb, 0, none⟩ = some (.int .i64 t.kind) := cell_under t0 hbl
  have wr1 : wrap64 (s.slant + on) = s.slant + on := by unfold wrap64; omega
  have up1 : max 0 (s.slant + on) = Sn.up (s.slant + on) := by unfold Sn.up; split <;> omega
  obtain ⟨ux, hux⟩ : ∃ ux, Sn.up (s.slant + on) = ux := ⟨_, rfl⟩
  rw [hux] at up1 HK
  clear hon hbl hux hn hk1 hk4 hh hw
  clear hK hst hM hB hC
  generalize (Sn.blockOf t.name).getD 0 = bk at *
  unfold frmS
  conv => arg 2; whnf
  go_wp2
  exact as_frame (frmR b ta nt tc { s with slant := ux } j) (by kernel_rfl) (fun us' => HK.out us' v _ (HW.out.same rfl rfl rfl))
set_option maxRecDepth 1000000 in
set_option maxHeartbeats 3200000 in
theorem rd_a (w1 : World) (b : Nat) (ta : Option Addr) (nt tc : Nat) (s : Sn.S) (v : Value) (j tb : Nat) (t : Tk) (us : Nat → Value) (w2 : World) (K : Act → World → Prop) (Q : Exit → Act → World → Prop) (hC : AtTk w1 b s v tb t w2) (hK : ∀ us' v' w', RdM w1 b (Sn.step s t) v' w' → K (frmR b ta nt tc (Sn.step s t) j us') w') (hh : s.hides.isEmpty = true) (hk1 : ¬ t.kind = 1) (hk4 : ¬ t.kind = 4) (hn : t.name = [97]) (hk : t.kind = 2) (hz : t.href.length ≤ 20000) :
    Code.wp Tryz.prog ((Tryz.f15.body.bind (blockOn 2)).getD .skip) (Exit.then K Q) (frmS b ta nt tc s j tb ((Sn.blockOf t.name).getD 0) (Sn.blockOf t.name).isSome us) w2 := by
  have hst : Sn.step s t = { s with link := Lk.clean t.href } := by
    unfold Sn.step
    rw [hh, if_neg (by simp), if_neg (by simpa using hk1), if_neg (by simpa using hk4), hn]
    show Sn.other s t = _
    unfold Sn.other
    rw [hn, hk]
    rfl
  rw [hst] at hK
  have HK : Hid (∀ us' v' w', RdM w1 b { s with link := Lk.clean t.href } v' w' → K (frmR b ta nt tc { s with link := Lk.clean t.href } j us') w') := hK
  have hM := hC.mem
  have hB := hC.blk
  have t0 : w2.cell? ⟨tb, 0, none⟩ = some (.int .i64 t.kind) := hB.cell 0
  have t1 : w2.cell? ⟨tb, 1, none⟩ = some (.string (B t.name)) := hB.cell 1
  have t2 : w2.cell? ⟨tb, 2, none⟩ = some (.string (B t.text)) := hB.cell 2
  have t3 : w2.cell? ⟨tb, 3, none⟩ = some (.string (B t.href)) := hB.cell 3
  have HM : Hid (RdM w1 b s v w2) := hM
  have HC : Hid (AtTk w1 b s v tb t w2) := hC
  have HB : Hid (Blk w2 tb (tkC t) 30) := hB
  have e0 : ((B s.hides).toList == []) = s.hides.isEmpty := by rw [toList_B]; cases s.hides <;> rfl
  have e1 : (B s.hides).toList.isEmpty = s.hides.isEmpty := by rw [toList_B]
  rw [hh] at e0 e1
  have b1 : (t.kind == 1) = false := by simpa using hk1
  have b4 : (t.kind == 4) = false := by simpa using hk4
  have hbs : (Sn.blockOf t.name).isSome = false := by rw [hn]; rfl
  have n98 : ((B t.name).toList == [98]) = false := by rw [toList_B, hn]; rfl
  have nst : ((B t.name).toList == [115, 116, 114, 111, 110, 103]) = false := by rw [toList_B, hn]; rfl
  have n105 : ((B t.name).toList == [105]) = false := by rw [toList_B, hn]; rfl
  have nem : ((B t.name).toList == [101, 109]) = false := by rw [toList_B, hn]; rfl
  have n97 : ((B t.name).toList == [97]) = true := by rw [toList_B, hn]; rfl
  have nbr : ((B t.name).toList == [98, 114]) = false := by rw [toList_B, hn]; rfl
  have b2 : (t.kind == 2) = true := by rw [hk]; rfl
  have CL : Hid (∀ w, Calls Tryz.prog 71 #[.string (B t.href)] w fun e w' => e = .returned (.string (B (Lk.clean t.href))) ∧ Below w.heap.size w w') := fun w => by
    have := CleanOf_any (B t.href) w (by rw [B_size]; exact hz)
    rw [B_data] at this
    exact this
  obtain ⟨lk, hlk⟩ : ∃ lk, Lk.clean t.href = lk := ⟨_, rfl⟩
  rw [hlk] at CL HK
  clear hlk hk hz
  clear hn hk1 hk4 hh
  clear hK hst hM hB hC
  generalize (Sn.blockOf t.name).getD 0 = bk at *
  unfold frmS
  conv => arg 2; whnf
  go_wp2_with fail
  refine (CL.out _).mono ?_
  rintro e w3 ⟨rfl, hb⟩
  have HW : Hid (RdM w1 b s v w3) := HM.out.far hb
  clear hb
  go_wp2
  exact as_frame (frmR b ta nt tc { s with link := lk } j) (by kernel_rfl) (fun us' => HK.out us' v _ (HW.out.same rfl rfl rfl))
set_option maxRecDepth 1000000 in
set_option maxHeartbeats 3200000 in
theorem rd_aend (w1 : World) (b : Nat) (ta : Option Addr) (nt tc : Nat) (s : Sn.S) (v : Value) (j tb : Nat) (t : Tk) (us : Nat → Value) (w2 : World) (K : Act → World → Prop) (Q : Exit → Act → World → Prop) (hC : AtTk w1 b s v tb t w2) (hK : ∀ us' v' w', RdM w1 b (Sn.step s t) v' w' → K (frmR b ta nt tc (Sn.step s t) j us') w') (hh : s.hides.isEmpty = true) (hk1 : ¬ t.kind = 1) (hk4 : ¬ t.kind = 4) (hn : t.name = [97]) (hk : ¬ t.kind = 2) :
    Code.wp Tryz.prog ((Tryz.f15.body.bind (blockOn 2)).getD .skip) (Exit.then K Q) (frmS b ta nt tc s j tb ((Sn.blockOf t.name).getD 0) (Sn.blockOf t.name).isSome us) w2 := by
  have hst : Sn.step s t = { s with link := [] } := by
    unfold Sn.step
    rw [hh, if_neg (by simp), if_neg (by simpa using hk1), if_neg (by simpa using hk4), hn]
    show Sn.other s t = _
    unfold Sn.other
    rw [hn]
    simp [hk, Sn.boldL, Sn.slantL]
  rw [hst] at hK
  have HK : Hid (∀ us' v' w', RdM w1 b { s with link := [] } v' w' → K (frmR b ta nt tc { s with link := [] } j us') w') := hK
  have hM := hC.mem
  have hB := hC.blk
  have t0 : w2.cell? ⟨tb, 0, none⟩ = some (.int .i64 t.kind) := hB.cell 0
  have t1 : w2.cell? ⟨tb, 1, none⟩ = some (.string (B t.name)) := hB.cell 1
  have t2 : w2.cell? ⟨tb, 2, none⟩ = some (.string (B t.text)) := hB.cell 2
  have t3 : w2.cell? ⟨tb, 3, none⟩ = some (.string (B t.href)) := hB.cell 3
  have HM : Hid (RdM w1 b s v w2) := hM
  have HC : Hid (AtTk w1 b s v tb t w2) := hC
  have HB : Hid (Blk w2 tb (tkC t) 30) := hB
  have e0 : ((B s.hides).toList == []) = s.hides.isEmpty := by rw [toList_B]; cases s.hides <;> rfl
  have e1 : (B s.hides).toList.isEmpty = s.hides.isEmpty := by rw [toList_B]
  rw [hh] at e0 e1
  have b1 : (t.kind == 1) = false := by simpa using hk1
  have b4 : (t.kind == 4) = false := by simpa using hk4
  have hbs : (Sn.blockOf t.name).isSome = false := by rw [hn]; rfl
  have n98 : ((B t.name).toList == [98]) = false := by rw [toList_B, hn]; rfl
  have nst : ((B t.name).toList == [115, 116, 114, 111, 110, 103]) = false := by rw [toList_B, hn]; rfl
  have n105 : ((B t.name).toList == [105]) = false := by rw [toList_B, hn]; rfl
  have nem : ((B t.name).toList == [101, 109]) = false := by rw [toList_B, hn]; rfl
  have n97 : ((B t.name).toList == [97]) = true := by rw [toList_B, hn]; rfl
  have nbr : ((B t.name).toList == [98, 114]) = false := by rw [toList_B, hn]; rfl
  have b2 : (t.kind == 2) = false := by simpa using hk
  clear hk
  clear hn hk1 hk4 hh
  clear hK hst hM hB hC
  generalize (Sn.blockOf t.name).getD 0 = bk at *
  unfold frmS
  conv => arg 2; whnf
  go_wp2
  exact as_frame (frmR b ta nt tc { s with link := [] } j) (by kernel_rfl) (fun us' => HK.out us' v _ (HM.out.same rfl rfl rfl))
set_option maxRecDepth 1000000 in
set_option maxHeartbeats 3200000 in
theorem rd_close (w1 : World) (b : Nat) (ta : Option Addr) (nt tc : Nat) (s : Sn.S) (v : Value) (j tb : Nat) (t : Tk) (us : Nat → Value) (w2 : World) (K : Act → World → Prop) (Q : Exit → Act → World → Prop) (hC : AtTk w1 b s v tb t w2) (hK : ∀ us' v' w', RdM w1 b (Sn.step s t) v' w' → K (frmR b ta nt tc (Sn.step s t) j us') w') (hh : s.hides.isEmpty = true) (hk1 : ¬ t.kind = 1) (hk4 : ¬ t.kind = 4) (hbn : Sn.blockOf t.name = none) (m98 : ¬ t.name = [98]) (mst : ¬ t.name = [115, 116, 114, 111, 110, 103]) (m105 : ¬ t.name = [105]) (mem : ¬ t.name = [101, 109]) (m97 : ¬ t.name = [97]) (hk : t.kind = 3) :
    Code.wp Tryz.prog ((Tryz.f15.body.bind (blockOn 2)).getD .skip) (Exit.then K Q) (frmS b ta nt tc s j tb ((Sn.blockOf t.name).getD 0) (Sn.blockOf t.name).isSome us) w2 := by
  have hst : Sn.step s t = s := by
    unfold Sn.step
    rw [hh, if_neg (by simp), if_neg (by simpa using hk1), if_neg (by simpa using hk4), hbn]
    show Sn.other s t = _
    unfold Sn.other
    rw [if_neg (by simp [Sn.boldL, m98, mst]), if_neg (by simp [Sn.slantL, m105, mem]), if_neg (by simpa using m97), if_pos (by simpa using hk)]
  rw [hst] at hK
  have HK : Hid (∀ us' v' w', RdM w1 b s v' w' → K (frmR b ta nt tc s j us') w') := hK
  have hM := hC.mem
  have hB := hC.blk
  have t0 : w2.cell? ⟨tb, 0, none⟩ = some (.int .i64 t.kind) := hB.cell 0
  have t1 : w2.cell? ⟨tb, 1, none⟩ = some (.string (B t.name)) := hB.cell 1
  have t2 : w2.cell? ⟨tb, 2, none⟩ = some (.string (B t.text)) := hB.cell 2
  have t3 : w2.cell? ⟨tb, 3, none⟩ = some (.string (B t.href)) := hB.cell 3
  have HM : Hid (RdM w1 b s v w2) := hM
  have HC : Hid (AtTk w1 b s v tb t w2) := hC
  have HB : Hid (Blk w2 tb (tkC t) 30) := hB
  have e0 : ((B s.hides).toList == []) = s.hides.isEmpty := by rw [toList_B]; cases s.hides <;> rfl
  have e1 : (B s.hides).toList.isEmpty = s.hides.isEmpty := by rw [toList_B]
  rw [hh] at e0 e1
  have b1 : (t.kind == 1) = false := by simpa using hk1
  have b4 : (t.kind == 4) = false := by simpa using hk4
  have n98 : ((B t.name).toList == [98]) = false := by rw [toList_B]; simpa using m98
  have nst : ((B t.name).toList == [115, 116, 114, 111, 110, 103]) = false := by rw [toList_B]; simpa using mst
  have n105 : ((B t.name).toList == [105]) = false := by rw [toList_B]; simpa using m105
  have nem : ((B t.name).toList == [101, 109]) = false := by rw [toList_B]; simpa using mem
  have n97 : ((B t.name).toList == [97]) = false := by rw [toList_B]; simpa using m97
  have hbs : (Sn.blockOf t.name).isSome = false := by rw [hbn]; rfl
  have b3 : (t.kind == 3) = true := by rw [hk]; rfl
  clear hk
  clear hbn hk1 hk4 hh m98 mst m105 mem m97
  clear hK hst hM hB hC
  generalize (Sn.blockOf t.name).getD 0 = bk at *
  unfold frmS
  conv => arg 2; whnf
  go_wp2
  exact as_frame (frmR b ta nt tc s j) (by kernel_rfl) (fun us' => HK.out us' v _ (HM.out.same rfl rfl rfl))
end Go.Proofs.YtbhcklkbckacpaaGreatDoor

/-
  The reference's Read: blocks.
-/
namespace Go.Proofs.YtbhcklkbckacpaaGreatDoor
open Go.RowKit Go.Maps Go.WideMaps
theorem AtTk.stays {w1 : World} {b : Nat} {s : Sn.S} {v : Value} {tb : Nat} {t : Tk} {w2 w3 : World} (h : AtTk w1 b s v tb t w2) (hk : Kept w2 w3 ((b + 1) :: (b + 2) :: (b + 3) :: ob v)) : Blk w3 tb (tkC t) 30 := by
  have h1 := h.mem.lo
  have h2 := h.lo
  refine hk.blk h.blk (fun hm => ?_)
  simp only [List.mem_cons] at hm
  rcases hm with e | e | e | e
  · omega
  · omega
  · omega
  · exact h.ne (ob_mem e)
set_option maxRecDepth 1000000 in
set_option maxHeartbeats 3200000 in
theorem rd_open (w1 : World) (b : Nat) (ta : Option Addr) (nt tc : Nat) (s : Sn.S) (v : Value) (j tb : Nat) (t : Tk) (us : Nat → Value) (w2 : World) (K : Act → World → Prop) (Q : Exit → Act → World → Prop) (hC : AtTk w1 b s v tb t w2) (hK : ∀ us' v' w', RdM w1 b (Sn.step s t) v' w' → K (frmR b ta nt tc (Sn.step s t) j us') w') (hh : s.hides.isEmpty = true) (hk1 : ¬ t.kind = 1) (hk4 : ¬ t.kind = 4) (k : Int) (hbk : Sn.blockOf t.name = some k) (hk : t.kind = 2) :
    Code.wp Tryz.prog ((Tryz.f15.body.bind (blockOn 2)).getD .skip) (Exit.then K Q) (frmS b ta nt tc s j tb ((Sn.blockOf t.name).getD 0) (Sn.blockOf t.name).isSome us) w2 := by
  have hst : Sn.step s t = { Sn.shut s with opened := true, kind := k } := by
    unfold Sn.step
    rw [hh, if_neg (by simp), if_neg (by simpa using hk1), if_neg (by simpa using hk4), hbk]
    simp [hk]
  rw [hst] at hK
  have HK : Hid (∀ us' v' w', RdM w1 b { Sn.shut s with opened := true, kind := k } v' w' → K (frmR b ta nt tc { Sn.shut s with opened := true, kind := k } j us') w') := hK
  have hM := hC.mem
  have hB := hC.blk
  have t0 : w2.cell? ⟨tb, 0, none⟩ = some (.int .i64 t.kind) := hB.cell 0
  have t1 : w2.cell? ⟨tb, 1, none⟩ = some (.string (B t.name)) := hB.cell 1
  have t2 : w2.cell? ⟨tb, 2, none⟩ = some (.string (B t.text)) := hB.cell 2
  have t3 : w2.cell? ⟨tb, 3, none⟩ = some (.string (B t.href)) := hB.cell 3
  have HM : Hid (RdM w1 b s v w2) := hM
  have HC : Hid (AtTk w1 b s v tb t w2) := hC
  have HB : Hid (Blk w2 tb (tkC t) 30) := hB
  have e0 : ((B s.hides).toList == []) = s.hides.isEmpty := by rw [toList_B]; cases s.hides <;> rfl
  have e1 : (B s.hides).toList.isEmpty = s.hides.isEmpty := by rw [toList_B]
  rw [hh] at e0 e1
  have b1 : (t.kind == 1) = false := by simpa using hk1
  have b4 : (t.kind == 4) = false := by simpa using hk4
  have hbs : (Sn.blockOf t.name).isSome = true := by rw [hbk]; rfl
  have b2 : (t.kind == 2) = true := by rw [hk]; rfl
  have hgd : (Sn.blockOf t.name).getD 0 = k := by rw [hbk]; rfl
  rw [hgd]
  clear hk hbk hk1 hk4 hh hgd
  have CE : Hid (Calls Tryz.prog 69 #[.pointer (some ⟨b + 3, 0, none⟩), .pointer (some ⟨b + 1, 0, none⟩), .pointer (some ⟨b + 2, 0, none⟩)] w2 fun e w' => e = .returned (.tuple #[]) ∧ (∃ v', RdM w1 b (Sn.shut s) v' w') ∧ Kept w2 w' ((b + 1) :: (b + 2) :: (b + 3) :: ob v)) := endR_any w1 b s v w2 HM.out (by have := HC.out.few; omega)
  clear hK hst hM hB hC
  unfold frmS
  conv => arg 2; whnf
  go_wp2_with fail
  refine (CE.out).mono ?_
  rintro e w3 ⟨rfl, ⟨v3, hR3⟩, hK3⟩
  have H3 : Hid (RdM w1 b (Sn.shut s) v3 w3) := hR3
  have hB3 := HC.out.stays hK3
  have u0 : w3.cell? ⟨tb, 0, none⟩ = some (.int .i64 t.kind) := hB3.cell 0
  have d2 : w3.cell? ⟨b + 2, 0, none⟩ = some (.int .i64 (Sn.shut s).kind) := hR3.kb.cell 0
  have d3 : w3.cell? ⟨b + 3, 0, none⟩ = some (.bool (Sn.shut s).opened) := hR3.ob.cell 0
  have g2 := hR3.kb.frozen 0
  have g3 := hR3.ob.frozen 0
  clear hR3 hB3 hK3
  go_wp2
  exact as_frame (frmR b ta nt tc { Sn.shut s with opened := true, kind := k } j) (by kernel_rfl) (fun us' => HK.out us' v3 _ ((H3.out.setO (s' := { Sn.shut s with opened := true }) rfl rfl).setK (s' := { Sn.shut s with opened := true, kind := k }) rfl rfl))
set_option maxRecDepth 1000000 in
set_option maxHeartbeats 3200000 in
theorem rd_end (w1 : World) (b : Nat) (ta : Option Addr) (nt tc : Nat) (s : Sn.S) (v : Value) (j tb : Nat) (t : Tk) (us : Nat → Value) (w2 : World) (K : Act → World → Prop) (Q : Exit → Act → World → Prop) (hC : AtTk w1 b s v tb t w2) (hK : ∀ us' v' w', RdM w1 b (Sn.step s t) v' w' → K (frmR b ta nt tc (Sn.step s t) j us') w') (hh : s.hides.isEmpty = true) (hk1 : ¬ t.kind = 1) (hk4 : ¬ t.kind = 4) (k : Int) (hbk : Sn.blockOf t.name = some k) (hk : ¬ t.kind = 2) :
    Code.wp Tryz.prog ((Tryz.f15.body.bind (blockOn 2)).getD .skip) (Exit.then K Q) (frmS b ta nt tc s j tb ((Sn.blockOf t.name).getD 0) (Sn.blockOf t.name).isSome us) w2 := by
  have hst : Sn.step s t = (Sn.shut s) := by
    unfold Sn.step
    rw [hh, if_neg (by simp), if_neg (by simpa using hk1), if_neg (by simpa using hk4), hbk]
    simp [hk]
  rw [hst] at hK
  have HK : Hid (∀ us' v' w', RdM w1 b (Sn.shut s) v' w' → K (frmR b ta nt tc (Sn.shut s) j us') w') := hK
  have hM := hC.mem
  have hB := hC.blk
  have t0 : w2.cell? ⟨tb, 0, none⟩ = some (.int .i64 t.kind) := hB.cell 0
  have t1 : w2.cell? ⟨tb, 1, none⟩ = some (.string (B t.name)) := hB.cell 1
  have t2 : w2.cell? ⟨tb, 2, none⟩ = some (.string (B t.text)) := hB.cell 2
  have t3 : w2.cell? ⟨tb, 3, none⟩ = some (.string (B t.href)) := hB.cell 3
  have HM : Hid (RdM w1 b s v w2) := hM
  have HC : Hid (AtTk w1 b s v tb t w2) := hC
  have HB : Hid (Blk w2 tb (tkC t) 30) := hB
  have e0 : ((B s.hides).toList == []) = s.hides.isEmpty := by rw [toList_B]; cases s.hides <;> rfl
  have e1 : (B s.hides).toList.isEmpty = s.hides.isEmpty := by rw [toList_B]
  rw [hh] at e0 e1
  have b1 : (t.kind == 1) = false := by simpa using hk1
  have b4 : (t.kind == 4) = false := by simpa using hk4
  have hbs : (Sn.blockOf t.name).isSome = true := by rw [hbk]; rfl
  have b2 : (t.kind == 2) = false := by simpa using hk
  clear hk hbk hk1 hk4 hh
  have CE : Hid (Calls Tryz.prog 69 #[.pointer (some ⟨b + 3, 0, none⟩), .pointer (some ⟨b + 1, 0, none⟩), .pointer (some ⟨b + 2, 0, none⟩)] w2 fun e w' => e = .returned (.tuple #[]) ∧ (∃ v', RdM w1 b (Sn.shut s) v' w') ∧ Kept w2 w' ((b + 1) :: (b + 2) :: (b + 3) :: ob v)) := endR_any w1 b s v w2 HM.out (by have := HC.out.few; omega)
  clear hK hst hM hB hC
  generalize (Sn.blockOf t.name).getD 0 = bk at *
  unfold frmS
  conv => arg 2; whnf
  go_wp2_with fail
  refine (CE.out).mono ?_
  rintro e w3 ⟨rfl, ⟨v3, hR3⟩, hK3⟩
  have H3 : Hid (RdM w1 b (Sn.shut s) v3 w3) := hR3
  have hB3 := HC.out.stays hK3
  have u0 : w3.cell? ⟨tb, 0, none⟩ = some (.int .i64 t.kind) := hB3.cell 0
  have d2 : w3.cell? ⟨b + 2, 0, none⟩ = some (.int .i64 (Sn.shut s).kind) := hR3.kb.cell 0
  have d3 : w3.cell? ⟨b + 3, 0, none⟩ = some (.bool (Sn.shut s).opened) := hR3.ob.cell 0
  have g2 := hR3.kb.frozen 0
  have g3 := hR3.ob.frozen 0
  clear hR3 hB3 hK3
  go_wp2
  exact as_frame (frmR b ta nt tc (Sn.shut s) j) (by kernel_rfl) (fun us' => HK.out us' v3 _ H3.out)
set_option maxRecDepth 1000000 in
set_option maxHeartbeats 3200000 in
theorem rd_br (w1 : World) (b : Nat) (ta : Option Addr) (nt tc : Nat) (s : Sn.S) (v : Value) (j tb : Nat) (t : Tk) (us : Nat → Value) (w2 : World) (K : Act → World → Prop) (Q : Exit → Act → World → Prop) (hC : AtTk w1 b s v tb t w2) (hK : ∀ us' v' w', RdM w1 b (Sn.step s t) v' w' → K (frmR b ta nt tc (Sn.step s t) j us') w') (hh : s.hides.isEmpty = true) (hk1 : ¬ t.kind = 1) (hk4 : ¬ t.kind = 4) (hn : t.name = [98, 114]) (hk : ¬ t.kind = 3) :
    Code.wp Tryz.prog ((Tryz.f15.body.bind (blockOn 2)).getD .skip) (Exit.then K Q) (frmS b ta nt tc s j tb ((Sn.blockOf t.name).getD 0) (Sn.blockOf t.name).isSome us) w2 := by
  have hst : Sn.step s t = { Sn.shut { s with opened := true } with kind := s.kind } := by
    unfold Sn.step
    rw [hh, if_neg (by simp), if_neg (by simpa using hk1), if_neg (by simpa using hk4), hn]
    show Sn.other s t = _
    unfold Sn.other
    rw [hn]
    simp [hk, Sn.boldL, Sn.slantL, Sn.brL]
  rw [hst] at hK
  have HK : Hid (∀ us' v' w', RdM w1 b { Sn.shut { s with opened := true } with kind := s.kind } v' w' → K (frmR b ta nt tc { Sn.shut { s with opened := true } with kind := s.kind } j us') w') := hK
  have hM := hC.mem
  have hB := hC.blk
  have t0 : w2.cell? ⟨tb, 0, none⟩ = some (.int .i64 t.kind) := hB.cell 0
  have t1 : w2.cell? ⟨tb, 1, none⟩ = some (.string (B t.name)) := hB.cell 1
  have t2 : w2.cell? ⟨tb, 2, none⟩ = some (.string (B t.text)) := hB.cell 2
  have t3 : w2.cell? ⟨tb, 3, none⟩ = some (.string (B t.href)) := hB.cell 3
  have HM : Hid (RdM w1 b s v w2) := hM
  have HC : Hid (AtTk w1 b s v tb t w2) := hC
  have HB : Hid (Blk w2 tb (tkC t) 30) := hB
  have e0 : ((B s.hides).toList == []) = s.hides.isEmpty := by rw [toList_B]; cases s.hides <;> rfl
  have e1 : (B s.hides).toList.isEmpty = s.hides.isEmpty := by rw [toList_B]
  rw [hh] at e0 e1
  have b1 : (t.kind == 1) = false := by simpa using hk1
  have b4 : (t.kind == 4) = false := by simpa using hk4
  have hbs : (Sn.blockOf t.name).isSome = false := by rw [hn]; rfl
  have n98 : ((B t.name).toList == [98]) = false := by rw [toList_B, hn]; rfl
  have nst : ((B t.name).toList == [115, 116, 114, 111, 110, 103]) = false := by rw [toList_B, hn]; rfl
  have n105 : ((B t.name).toList == [105]) = false := by rw [toList_B, hn]; rfl
  have nem : ((B t.name).toList == [101, 109]) = false := by rw [toList_B, hn]; rfl
  have n97 : ((B t.name).toList == [97]) = false := by rw [toList_B, hn]; rfl
  have nbr : ((B t.name).toList == [98, 114]) = true := by rw [toList_B, hn]; rfl
  have b3 : (t.kind == 3) = false := by simpa using hk
  have c2 : w2.cell? ⟨b + 2, 0, none⟩ = some (.int .i64 s.kind) := hM.kb.cell 0
  have c3 : w2.cell? ⟨b + 3, 0, none⟩ = some (.bool s.opened) := hM.ob.cell 0
  have f3 := hM.ob.frozen 0
  have HO : Hid (RdM w1 b { s with opened := true } v (w2.setCell ⟨b + 3, 0, none⟩ (.bool true))) := hM.setO (s' := { s with opened := true }) rfl rfl
  have CE : Hid (Calls Tryz.prog 69 #[.pointer (some ⟨b + 3, 0, none⟩), .pointer (some ⟨b + 1, 0, none⟩), .pointer (some ⟨b + 2, 0, none⟩)] (w2.setCell ⟨b + 3, 0, none⟩ (.bool true)) fun e w' => e = .returned (.tuple #[]) ∧ (∃ v', RdM w1 b (Sn.shut { s with opened := true }) v' w') ∧ Kept (w2.setCell ⟨b + 3, 0, none⟩ (.bool true)) w' ((b + 1) :: (b + 2) :: (b + 3) :: ob v)) := endR_any w1 b { s with opened := true } v _ HO.out (by have := hC.few; show s.d.length ≤ _; omega)
  clear hk
  clear hn hk1 hk4 hh
  clear hK hst hM hB hC
  generalize (Sn.blockOf t.name).getD 0 = bk at *
  unfold frmS
  conv => arg 2; whnf
  go_wp2_with fail
  refine (CE.out).mono ?_
  rintro e w3 ⟨rfl, ⟨v3, hR3⟩, hK3⟩
  have H3 : Hid (RdM w1 b (Sn.shut { s with opened := true }) v3 w3) := hR3
  have d2 : w3.cell? ⟨b + 2, 0, none⟩ = some (.int .i64 (Sn.shut { s with opened := true }).kind) := hR3.kb.cell 0
  have g2 := hR3.kb.frozen 0
  clear hR3 hK3
  go_wp2
  exact as_frame (frmR b ta nt tc { Sn.shut { s with opened := true } with kind := s.kind } j) (by kernel_rfl) (fun us' => HK.out us' v3 _ (H3.out.setK (s' := { Sn.shut { s with opened := true } with kind := s.kind }) rfl rfl))
end Go.Proofs.YtbhcklkbckacpaaGreatDoor
