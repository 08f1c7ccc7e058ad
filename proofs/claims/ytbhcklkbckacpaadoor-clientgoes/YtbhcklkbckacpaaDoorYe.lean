/-
  Package client: Check and Same.
-/
import Derived.Test.YtbhcklkbckacpaaDoorYb
import Derived.Deep.CutRange
namespace Go.Proofs.YtbhcklkbckacpaaDoor
open Go.RowKit
theorem len_pt {w : World} {a : Option Addr} {n c : Nat} {vs : List PV} (h : Ops w a n c vs) : (vs.map PV.pt).length = n := by rw [List.length_map]; exact h.len

set_option maxRecDepth 100000 in
set_option maxHeartbeats 1600000 in
theorem cliE_any (c : CV) (w : World) (hC : Cli w c) (hS : Sch w) :
    Calls Tryd.prog 27 #[.agg #[.int .i64 c.rev, .slice c.ba c.bn c.bc, .slice c.na c.nn c.nc, .int .i64 c.seq, .slice c.sa c.sn c.sc, .slice c.ha c.hn c.hc, .bool c.jo]] w fun e w' => e = .returned (.int .i64 (Kl.cliE c.cl)) ∧ Below w.heap.size w w' := by
  have H1 : Hid (Below w.heap.size w (boxk c w)) := boxk_below c w
  have HK : Hid (KAt (boxk c w) (w.heap.size) c) := ⟨boxk_blk c w, hC.below (boxk_below c w)⟩
  have HSC : Hid (∀ w', Below (boxk c w).heap.size (boxk c w) w' → Sch w') := fun w' hb => (hS.below (boxk_below c w)).below hb
  have hsl : (c.sent.map PV.pt).length = c.sn := len_pt hC.sent
  have hhl : (c.held.map PV.pt).length = c.hn := len_pt hC.held
  have C1 : Hid (Calls Tryd.prog 57 #[.slice c.ba c.bn c.bc] (boxk c w) fun e w' => e = .returned (.int .i64 (Dc.check c.base)) ∧ Below (boxk c w).heap.size (boxk c w) w') := check_any _ _ _ _ _ (hC.base.below H1.out) (hS.below H1.out)
  have HDL : Hid (c.base.length = c.bn) := hC.base.len
  clear hC hS
  obtain ⟨r, hr⟩ : ∃ r, Kl.cliE c.cl = r := ⟨_, rfl⟩
  rw [hr]
  change (if c.rev < 0 ∨ 60 < c.rev ∨ c.seq < 0 ∨ 10000 < c.seq then (3 : Int) else if Dc.check c.base = 0 then (if (0 < (c.held.map PV.pt).length ∧ (c.sent.map PV.pt).length = 0) ∨ (0 < (c.sent.map PV.pt).length ∧ c.seq = 0) then 4 else if Kl.dnE c.base (c.sent.map PV.pt) (c.held.map PV.pt) = 0 then (if Dc.same c.now (Kl.dnD c.base (c.sent.map PV.pt) (c.held.map PV.pt)) = true then 0 else 4) else Kl.dnE c.base (c.sent.map PV.pt) (c.held.map PV.pt)) else Dc.check c.base) = r at hr
  rw [hsl, hhl] at hr
  clear hsl hhl
  by_cases g1 : c.rev < 0
  · obtain rfl : r = 3 := by rw [← hr, if_pos (Or.inl g1)]
    clear hr
    go_enter Tryd.func27, Tryd.ntmps27
    go_upto_region 1 with fail
    change Code.wp Tryd.prog _ _ _ (boxk c w)
    generalize boxk c w = W at *
    have p0 : W.cell? ⟨w.heap.size, 0, none⟩ = some (.int .i64 c.rev) := HK.out.blk.cell 0
    have p1 : W.cell? ⟨w.heap.size, 1, none⟩ = some (.slice c.ba c.bn c.bc) := HK.out.blk.cell 1
    have p2 : W.cell? ⟨w.heap.size, 2, none⟩ = some (.slice c.na c.nn c.nc) := HK.out.blk.cell 2
    have p3 : W.cell? ⟨w.heap.size, 3, none⟩ = some (.int .i64 c.seq) := HK.out.blk.cell 3
    have p4 : W.cell? ⟨w.heap.size, 4, none⟩ = some (.slice c.sa c.sn c.sc) := HK.out.blk.cell 4
    have p5 : W.cell? ⟨w.heap.size, 5, none⟩ = some (.slice c.ha c.hn c.hc) := HK.out.blk.cell 5
    have p6 : W.cell? ⟨w.heap.size, 6, none⟩ = some (.bool c.jo) := HK.out.blk.cell 6
    go_wp2
    go_ret
    exact ⟨rfl, H1.out⟩
  by_cases g2 : 60 < c.rev
  · obtain rfl : r = 3 := by rw [← hr, if_pos (Or.inr (Or.inl g2))]
    clear hr
    go_enter Tryd.func27, Tryd.ntmps27
    go_upto_region 1 with fail
    change Code.wp Tryd.prog _ _ _ (boxk c w)
    generalize boxk c w = W at *
    have p0 : W.cell? ⟨w.heap.size, 0, none⟩ = some (.int .i64 c.rev) := HK.out.blk.cell 0
    have p1 : W.cell? ⟨w.heap.size, 1, none⟩ = some (.slice c.ba c.bn c.bc) := HK.out.blk.cell 1
    have p2 : W.cell? ⟨w.heap.size, 2, none⟩ = some (.slice c.na c.nn c.nc) := HK.out.blk.cell 2
    have p3 : W.cell? ⟨w.heap.size, 3, none⟩ = some (.int .i64 c.seq) := HK.out.blk.cell 3
    have p4 : W.cell? ⟨w.heap.size, 4, none⟩ = some (.slice c.sa c.sn c.sc) := HK.out.blk.cell 4
    have p5 : W.cell? ⟨w.heap.size, 5, none⟩ = some (.slice c.ha c.hn c.hc) := HK.out.blk.cell 5
    have p6 : W.cell? ⟨w.heap.size, 6, none⟩ = some (.bool c.jo) := HK.out.blk.cell 6
    go_wp2
    go_ret
    exact ⟨rfl, H1.out⟩
  by_cases g3 : c.seq < 0
  · obtain rfl : r = 3 := by rw [← hr, if_pos (Or.inr (Or.inr (Or.inl g3)))]
    clear hr
    go_enter Tryd.func27, Tryd.ntmps27
    go_upto_region 1 with fail
    change Code.wp Tryd.prog _ _ _ (boxk c w)
    generalize boxk c w = W at *
    have p0 : W.cell? ⟨w.heap.size, 0, none⟩ = some (.int .i64 c.rev) := HK.out.blk.cell 0
    have p1 : W.cell? ⟨w.heap.size, 1, none⟩ = some (.slice c.ba c.bn c.bc) := HK.out.blk.cell 1
    have p2 : W.cell? ⟨w.heap.size, 2, none⟩ = some (.slice c.na c.nn c.nc) := HK.out.blk.cell 2
    have p3 : W.cell? ⟨w.heap.size, 3, none⟩ = some (.int .i64 c.seq) := HK.out.blk.cell 3
    have p4 : W.cell? ⟨w.heap.size, 4, none⟩ = some (.slice c.sa c.sn c.sc) := HK.out.blk.cell 4
    have p5 : W.cell? ⟨w.heap.size, 5, none⟩ = some (.slice c.ha c.hn c.hc) := HK.out.blk.cell 5
    have p6 : W.cell? ⟨w.heap.size, 6, none⟩ = some (.bool c.jo) := HK.out.blk.cell 6
    go_wp2
    go_ret
    exact ⟨rfl, H1.out⟩
  by_cases g4 : 10000 < c.seq
  · obtain rfl : r = 3 := by rw [← hr, if_pos (Or.inr (Or.inr (Or.inr g4)))]
    clear hr
    go_enter Tryd.func27, Tryd.ntmps27
    go_upto_region 1 with fail
    change Code.wp Tryd.prog _ _ _ (boxk c w)
    generalize boxk c w = W at *
    have p0 : W.cell? ⟨w.heap.size, 0, none⟩ = some (.int .i64 c.rev) := HK.out.blk.cell 0
    have p1 : W.cell? ⟨w.heap.size, 1, none⟩ = some (.slice c.ba c.bn c.bc) := HK.out.blk.cell 1
    have p2 : W.cell? ⟨w.heap.size, 2, none⟩ = some (.slice c.na c.nn c.nc) := HK.out.blk.cell 2
    have p3 : W.cell? ⟨w.heap.size, 3, none⟩ = some (.int .i64 c.seq) := HK.out.blk.cell 3
    have p4 : W.cell? ⟨w.heap.size, 4, none⟩ = some (.slice c.sa c.sn c.sc) := HK.out.blk.cell 4
    have p5 : W.cell? ⟨w.heap.size, 5, none⟩ = some (.slice c.ha c.hn c.hc) := HK.out.blk.cell 5
    have p6 : W.cell? ⟨w.heap.size, 6, none⟩ = some (.bool c.jo) := HK.out.blk.cell 6
    go_wp2
    go_ret
    exact ⟨rfl, H1.out⟩
  rw [if_neg (show ¬ (c.rev < 0 ∨ 60 < c.rev ∨ c.seq < 0 ∨ 10000 < c.seq) by omega)] at hr
  have HR : Hid _ := hr
  clear hr
  obtain ⟨x, hx⟩ : ∃ x, Dc.check c.base = x := ⟨_, rfl⟩
  rw [hx] at C1 HR
  by_cases h2 : x = 0
  · have hf := Dc.check_few (hx.trans h2)
    rw [HDL.out] at hf
    have HBN : Hid (c.bn ≤ 80) := hf.2
    clear hf hx
    have HR2 : Hid ((if (0 < c.hn ∧ c.sn = 0) ∨ (0 < c.sn ∧ c.seq = 0) then (4 : Int) else if Kl.dnE c.base (c.sent.map PV.pt) (c.held.map PV.pt) = 0 then (if Dc.same c.now (Kl.dnD c.base (c.sent.map PV.pt) (c.held.map PV.pt)) = true then 0 else 4) else Kl.dnE c.base (c.sent.map PV.pt) (c.held.map PV.pt)) = r) := by have := HR.out; rw [if_pos h2] at this; exact this
    clear HR
    subst h2
    go_enter Tryd.func27, Tryd.ntmps27
    go_upto_region 1 with fail
    change Code.wp Tryd.prog _ _ _ (boxk c w)
    generalize boxk c w = W at *
    have p0 : W.cell? ⟨w.heap.size, 0, none⟩ = some (.int .i64 c.rev) := HK.out.blk.cell 0
    have p1 : W.cell? ⟨w.heap.size, 1, none⟩ = some (.slice c.ba c.bn c.bc) := HK.out.blk.cell 1
    have p2 : W.cell? ⟨w.heap.size, 2, none⟩ = some (.slice c.na c.nn c.nc) := HK.out.blk.cell 2
    have p3 : W.cell? ⟨w.heap.size, 3, none⟩ = some (.int .i64 c.seq) := HK.out.blk.cell 3
    have p4 : W.cell? ⟨w.heap.size, 4, none⟩ = some (.slice c.sa c.sn c.sc) := HK.out.blk.cell 4
    have p5 : W.cell? ⟨w.heap.size, 5, none⟩ = some (.slice c.ha c.hn c.hc) := HK.out.blk.cell 5
    have p6 : W.cell? ⟨w.heap.size, 6, none⟩ = some (.bool c.jo) := HK.out.blk.cell 6
    go_wp2_with fail
    refine C1.out.mono ?_
    rintro e w1 ⟨rfl, hb⟩
    have HB1 : Hid (Below W.heap.size W w1) := hb
    have HK1 : Hid (KAt w1 (w.heap.size) c) := HK.out.below hb
    clear hb p0 p1 p2 p3 p4 p5 p6
    have p0 : w1.cell? ⟨w.heap.size, 0, none⟩ = some (.int .i64 c.rev) := HK1.out.blk.cell 0
    have p1 : w1.cell? ⟨w.heap.size, 1, none⟩ = some (.slice c.ba c.bn c.bc) := HK1.out.blk.cell 1
    have p2 : w1.cell? ⟨w.heap.size, 2, none⟩ = some (.slice c.na c.nn c.nc) := HK1.out.blk.cell 2
    have p3 : w1.cell? ⟨w.heap.size, 3, none⟩ = some (.int .i64 c.seq) := HK1.out.blk.cell 3
    have p4 : w1.cell? ⟨w.heap.size, 4, none⟩ = some (.slice c.sa c.sn c.sc) := HK1.out.blk.cell 4
    have p5 : w1.cell? ⟨w.heap.size, 5, none⟩ = some (.slice c.ha c.hn c.hc) := HK1.out.blk.cell 5
    have p6 : w1.cell? ⟨w.heap.size, 6, none⟩ = some (.bool c.jo) := HK1.out.blk.cell 6
    obtain ⟨bh, hbh⟩ : ∃ b, decide (0 < c.hn) = b := ⟨_, rfl⟩
    obtain ⟨bs, hbs⟩ : ∃ b, decide (0 < c.sn) = b := ⟨_, rfl⟩
    obtain ⟨qz, hqz⟩ : ∃ b, (c.seq == 0) = b := ⟨_, rfl⟩
    have CH : Hid (∀ w', Calls Tryd.prog 67 #[.slice c.ha c.hn c.hc] w' fun e w'' => e = .returned (.bool bh) ∧ w'' = w') := fun w' => by have := isThere_any c.ha c.hn c.hc w'; rw [hbh] at this; exact this
    have CS : Hid (∀ w', Calls Tryd.prog 67 #[.slice c.sa c.sn c.sc] w' fun e w'' => e = .returned (.bool bs) ∧ w'' = w') := fun w' => by have := isThere_any c.sa c.sn c.sc w'; rw [hbs] at this; exact this
    have HTS : Hid (((0 < c.hn ∧ c.sn = 0) ∨ (0 < c.sn ∧ c.seq = 0)) ↔ ((bh && !bs) || (bs && qz)) = true) := by
      show _ ↔ _
      rw [← hbh, ← hbs, ← hqz]
      simp only [Bool.or_eq_true, Bool.and_eq_true, decide_eq_true_eq, Bool.not_eq_true', decide_eq_false_iff_not, beq_iff_eq]
      omega
    clear hbh hbs
    go_upto_region 6 with fail
    go_cut [48] from 30 to 48 (fun v wx => v = .bool ((bh && !bs) || (bs && qz)) ∧ wx = w1)
    case first =>
      cases bh
      · cases bs
        · go_wp2_with fail
          refine (CH.out _).mono ?_
          rintro e w3 ⟨rfl, hw⟩
          obtain rfl := hw.symm
          try clear hw
          go_wp2_with fail
          refine (CS.out _).mono ?_
          rintro e w3 ⟨rfl, hw⟩
          obtain rfl := hw.symm
          try clear hw
          go_wp2_with fail
          go_meet
          exact ⟨rfl, rfl⟩
        · cases qz
          · go_wp2_with fail
            refine (CH.out _).mono ?_
            rintro e w3 ⟨rfl, hw⟩
            obtain rfl := hw.symm
            try clear hw
            go_wp2_with fail
            refine (CS.out _).mono ?_
            rintro e w3 ⟨rfl, hw⟩
            obtain rfl := hw.symm
            try clear hw
            go_wp2_with fail
            go_meet
            exact ⟨rfl, rfl⟩
          · go_wp2_with fail
            refine (CH.out _).mono ?_
            rintro e w3 ⟨rfl, hw⟩
            obtain rfl := hw.symm
            try clear hw
            go_wp2_with fail
            refine (CS.out _).mono ?_
            rintro e w3 ⟨rfl, hw⟩
            obtain rfl := hw.symm
            try clear hw
            go_wp2_with fail
            go_meet
            exact ⟨rfl, rfl⟩
      · cases bs
        · go_wp2_with fail
          refine (CH.out _).mono ?_
          rintro e w3 ⟨rfl, hw⟩
          obtain rfl := hw.symm
          try clear hw
          go_wp2_with fail
          refine (CS.out _).mono ?_
          rintro e w3 ⟨rfl, hw⟩
          obtain rfl := hw.symm
          try clear hw
          go_wp2_with fail
          go_meet
          exact ⟨rfl, rfl⟩
        · cases qz
          · go_wp2_with fail
            refine (CH.out _).mono ?_
            rintro e w3 ⟨rfl, hw⟩
            obtain rfl := hw.symm
            try clear hw
            go_wp2_with fail
            refine (CS.out _).mono ?_
            rintro e w3 ⟨rfl, hw⟩
            obtain rfl := hw.symm
            try clear hw
            go_wp2_with fail
            refine (CS.out _).mono ?_
            rintro e w3 ⟨rfl, hw⟩
            obtain rfl := hw.symm
            try clear hw
            go_wp2_with fail
            go_meet
            exact ⟨rfl, rfl⟩
          · go_wp2_with fail
            refine (CH.out _).mono ?_
            rintro e w3 ⟨rfl, hw⟩
            obtain rfl := hw.symm
            try clear hw
            go_wp2_with fail
            refine (CS.out _).mono ?_
            rintro e w3 ⟨rfl, hw⟩
            obtain rfl := hw.symm
            try clear hw
            go_wp2_with fail
            refine (CS.out _).mono ?_
            rintro e w3 ⟨rfl, hw⟩
            obtain rfl := hw.symm
            try clear hw
            go_wp2_with fail
            go_meet
            exact ⟨rfl, rfl⟩
    case rest =>
      obtain ⟨rfl, rfl⟩ := hcut
      generalize ((bh && !bs) || (bs && qz)) = T at *
      clear CH CS hqz
      cases T
      · have HR3 : Hid ((if Kl.dnE c.base (c.sent.map PV.pt) (c.held.map PV.pt) = 0 then (if Dc.same c.now (Kl.dnD c.base (c.sent.map PV.pt) (c.held.map PV.pt)) = true then (0 : Int) else 4) else Kl.dnE c.base (c.sent.map PV.pt) (c.held.map PV.pt)) = r) := by have := HR2.out; rw [if_neg (fun h => Bool.false_ne_true (HTS.out.1 h))] at this; exact this
        clear HR2 HTS
        have CD : Hid (Calls Tryd.prog 68 #[.slice c.ba c.bn c.bc, .agg #[.slice c.sa c.sn c.sc, .slice c.ha c.hn c.hc]] wc fun e w' => (∃ a m k, e = .returned (.tuple #[.slice a m k, .int .i64 (Kl.dnE c.base (c.sent.map PV.pt) (c.held.map PV.pt))]) ∧ (Kl.dnE c.base (c.sent.map PV.pt) (c.held.map PV.pt) = 0 → Doc w' a m k (Kl.dnD c.base (c.sent.map PV.pt) (c.held.map PV.pt)))) ∧ Below wc.heap.size wc w') := done_any _ _ _ _ _ _ _ _ _ _ _ _ _ HK1.out.cli.base HK1.out.cli.sent HK1.out.cli.held (HSC.out _ HB1.out) HBN.out
        generalize Kl.dnE c.base (c.sent.map PV.pt) (c.held.map PV.pt) = y at *
        generalize Kl.dnD c.base (c.sent.map PV.pt) (c.held.map PV.pt) = D at *
        go_wp2_with fail
        refine CD.out.mono ?_
        rintro e w2 ⟨⟨a, m, k, rfl, hd⟩, hb⟩
        have HB2 : Hid (Below W.heap.size W w2) := HB1.out.trans (hb.mono HB1.out.size)
        have HK2 : Hid (KAt w2 (w.heap.size) c) := HK1.out.below hb
        have HD : Hid (y = 0 → Doc w2 a m k D) := hd
        clear hb hd CD p0 p1 p2 p3 p4 p5 p6
        by_cases hy : y = 0
        · have CE : Hid (Calls Tryd.prog 23 #[.slice c.na c.nn c.nc, .slice a m k] w2 fun e w' => e = .returned (.bool (Dc.same c.now D)) ∧ Below w2.heap.size w2 w') := (same_any _ _ _ _ _ _ _ _ _ HK2.out.cli.now (HD.out hy)).mono fun e w' ⟨h, q, hq⟩ => ⟨h, by rw [hq]; exact drewN_blw _ q⟩
          have HR4 : Hid ((if Dc.same c.now D = true then (0 : Int) else 4) = r) := by have := HR3.out; rw [if_pos hy] at this; exact this
          clear HR3 HD
          subst hy
          have p2 : w2.cell? ⟨w.heap.size, 2, none⟩ = some (.slice c.na c.nn c.nc) := HK2.out.blk.cell 2
          generalize Dc.same c.now D = z at *
          go_wp2_with fail
          refine CE.out.mono ?_
          rintro e w3 ⟨rfl, hb⟩
          have HB3 : Hid (Below W.heap.size W w3) := HB2.out.trans (hb.mono HB2.out.size)
          clear hb p2 CE
          cases z
          · obtain rfl : r = 4 := HR4.out.symm
            go_wp2
            go_ret
            exact ⟨rfl, H1.out.trans (HB3.out.mono H1.out.size)⟩
          · obtain rfl : r = 0 := HR4.out.symm
            go_wp2
            go_ret
            exact ⟨rfl, H1.out.trans (HB3.out.mono H1.out.size)⟩
        · obtain rfl : r = y := by have := HR3.out; rw [if_neg hy] at this; exact this.symm
          have hne : (r == 0) = false := by simp [hy]
          clear HR3 HD
          go_wp2
          go_ret
          exact ⟨rfl, H1.out.trans (HB2.out.mono H1.out.size)⟩
      · obtain rfl : r = 4 := by have := HR2.out; rw [if_pos (HTS.out.2 rfl)] at this; exact this.symm
        clear HR2 HTS
        go_wp2
        go_ret
        exact ⟨rfl, H1.out.trans (HB1.out.mono H1.out.size)⟩
  · obtain rfl : r = x := by have := HR.out; rw [if_neg h2] at this; exact this.symm
    have hne : (r != 0) = true := by simp [h2]
    clear HR hx
    go_enter Tryd.func27, Tryd.ntmps27
    go_upto_region 1 with fail
    change Code.wp Tryd.prog _ _ _ (boxk c w)
    generalize boxk c w = W at *
    have p0 : W.cell? ⟨w.heap.size, 0, none⟩ = some (.int .i64 c.rev) := HK.out.blk.cell 0
    have p1 : W.cell? ⟨w.heap.size, 1, none⟩ = some (.slice c.ba c.bn c.bc) := HK.out.blk.cell 1
    have p2 : W.cell? ⟨w.heap.size, 2, none⟩ = some (.slice c.na c.nn c.nc) := HK.out.blk.cell 2
    have p3 : W.cell? ⟨w.heap.size, 3, none⟩ = some (.int .i64 c.seq) := HK.out.blk.cell 3
    have p4 : W.cell? ⟨w.heap.size, 4, none⟩ = some (.slice c.sa c.sn c.sc) := HK.out.blk.cell 4
    have p5 : W.cell? ⟨w.heap.size, 5, none⟩ = some (.slice c.ha c.hn c.hc) := HK.out.blk.cell 5
    have p6 : W.cell? ⟨w.heap.size, 6, none⟩ = some (.bool c.jo) := HK.out.blk.cell 6
    go_wp2_with fail
    refine C1.out.mono ?_
    rintro e w1 ⟨rfl, hb⟩
    have HB1 : Hid (Below W.heap.size W w1) := hb
    have HK1 : Hid (KAt w1 (w.heap.size) c) := HK.out.below hb
    clear hb p0 p1 p2 p3 p4 p5 p6
    go_wp2
    go_ret
    exact ⟨rfl, H1.out.trans (HB1.out.mono H1.out.size)⟩

end Go.Proofs.YtbhcklkbckacpaaDoor
