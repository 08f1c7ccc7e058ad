/-
  The laws' closed fact of a client that hears.
-/
import Derived.Test.YtbhcklkbckacpaaDoorYi
import Derived.Test.YtbhcklkbckacpaaDoorG1
namespace Go.Proofs.YtbhcklkbckacpaaDoor
open Go.RowKit
def k3V (g : Nat) (c : UInt8) : List PV := [⟨1, 1, none, 0, 0, [], 0, 0, false, ⟨#[]⟩⟩, ⟨2, 0, some ⟨g, 0, none⟩, 1, 1, [⟨c, 0, ⟨#[]⟩⟩], 0, 0, false, ⟨#[]⟩⟩, ⟨1, 4, none, 0, 0, [], 0, 0, false, ⟨#[]⟩⟩]
def k3P (c : UInt8) : List Ac.Pt := [⟨1, 1, [], 0, 0, false, ⟨#[]⟩⟩, ⟨2, 0, [⟨c, 0, ⟨#[]⟩⟩], 0, 0, false, ⟨#[]⟩⟩, ⟨1, 4, [], 0, 0, false, ⟨#[]⟩⟩]
theorem k3_pt (g : Nat) (c : UInt8) : (k3V g c).map PV.pt = k3P c := rfl
def k3W (c : UInt8) (w : World) : World := (w.alloc (.cells #[.int .u8 c.toNat, .int .i64 0, .string ⟨#[]⟩] 79)).alloc (.cells #[.int .i64 1, .int .i64 1, .slice none 0 0, .int .i64 0, .int .i64 0, .bool false, .string ⟨#[]⟩, .int .i64 2, .int .i64 0, .slice (some ⟨w.heap.size, 0, none⟩) 1 1, .int .i64 0, .int .i64 0, .bool false, .string ⟨#[]⟩, .int .i64 1, .int .i64 4, .slice none 0 0, .int .i64 0, .int .i64 0, .bool false, .string ⟨#[]⟩] 77)
theorem k3_below (c : UInt8) (w : World) : Below w.heap.size w (k3W c w) := ((Below.refl _ _).alloc (Nat.le_refl _) _).alloc (by simp) _
theorem k3_ops (c : UInt8) (w : World) : Ops (k3W c w) (some ⟨w.heap.size + 1, 0, none⟩) 3 3 (k3V w.heap.size c) := by
  have h1 : Blk (w.alloc (.cells #[.int .u8 c.toNat, .int .i64 0, .string ⟨#[]⟩] 79)) w.heap.size (itCells [⟨c, 0, ⟨#[]⟩⟩]) 79 := Blk.new w _ _
  have hP : Blk (k3W c w) (w.heap.size + 1) (pvCells (k3V w.heap.size c)) 77 := Blk.newAt _ _ _ _ (World.size_alloc ..)
  have hI : Blk (k3W c w) w.heap.size (itCells [⟨c, 0, ⟨#[]⟩⟩]) 79 := h1.alloc _
  have hA : At (k3W c w) w.heap.size 0 [⟨c, 0, ⟨#[]⟩⟩] := at_block hI
  refine ⟨⟨rfl, Nat.le_refl _, by decide, fun _ => ⟨_, 0, rfl, fun j u hu => ?_⟩⟩, fun v hv => ?_⟩
  · rw [Nat.zero_add]
    exact (hP.cell j).trans hu
  · simp only [k3V, List.mem_cons, List.not_mem_nil, or_false] at hv
    rcases hv with rfl | rfl | rfl
    · exact ⟨doc_none _, by decide⟩
    · exact ⟨⟨fun x hx => by rw [List.mem_singleton.1 hx]; exact Nat.zero_le _, rfl, Nat.le_refl _, (by decide : 1 ≤ 9223372036854775807), fun _ => ⟨_, 0, rfl, hA⟩⟩, Nat.zero_le _⟩
    · exact ⟨doc_none _, by decide⟩
def k6V (g : Nat) (c : UInt8) : List PV := [⟨1, 2, none, 0, 0, [], 0, 0, false, ⟨#[]⟩⟩, ⟨2, 0, some ⟨g, 0, none⟩, 1, 1, [⟨c, 0, ⟨#[]⟩⟩], 0, 0, false, ⟨#[]⟩⟩, ⟨1, 4, none, 0, 0, [], 0, 0, false, ⟨#[]⟩⟩]
def k6P (c : UInt8) : List Ac.Pt := [⟨1, 2, [], 0, 0, false, ⟨#[]⟩⟩, ⟨2, 0, [⟨c, 0, ⟨#[]⟩⟩], 0, 0, false, ⟨#[]⟩⟩, ⟨1, 4, [], 0, 0, false, ⟨#[]⟩⟩]
theorem k6_pt (g : Nat) (c : UInt8) : (k6V g c).map PV.pt = k6P c := rfl
def k6W (c : UInt8) (w : World) : World := (w.alloc (.cells #[.int .u8 c.toNat, .int .i64 0, .string ⟨#[]⟩] 79)).alloc (.cells #[.int .i64 1, .int .i64 2, .slice none 0 0, .int .i64 0, .int .i64 0, .bool false, .string ⟨#[]⟩, .int .i64 2, .int .i64 0, .slice (some ⟨w.heap.size, 0, none⟩) 1 1, .int .i64 0, .int .i64 0, .bool false, .string ⟨#[]⟩, .int .i64 1, .int .i64 4, .slice none 0 0, .int .i64 0, .int .i64 0, .bool false, .string ⟨#[]⟩] 77)
theorem k6_below (c : UInt8) (w : World) : Below w.heap.size w (k6W c w) := ((Below.refl _ _).alloc (Nat.le_refl _) _).alloc (by simp) _
theorem k6_ops (c : UInt8) (w : World) : Ops (k6W c w) (some ⟨w.heap.size + 1, 0, none⟩) 3 3 (k6V w.heap.size c) := by
  have h1 : Blk (w.alloc (.cells #[.int .u8 c.toNat, .int .i64 0, .string ⟨#[]⟩] 79)) w.heap.size (itCells [⟨c, 0, ⟨#[]⟩⟩]) 79 := Blk.new w _ _
  have hP : Blk (k6W c w) (w.heap.size + 1) (pvCells (k6V w.heap.size c)) 77 := Blk.newAt _ _ _ _ (World.size_alloc ..)
  have hI : Blk (k6W c w) w.heap.size (itCells [⟨c, 0, ⟨#[]⟩⟩]) 79 := h1.alloc _
  have hA : At (k6W c w) w.heap.size 0 [⟨c, 0, ⟨#[]⟩⟩] := at_block hI
  refine ⟨⟨rfl, Nat.le_refl _, by decide, fun _ => ⟨_, 0, rfl, fun j u hu => ?_⟩⟩, fun v hv => ?_⟩
  · rw [Nat.zero_add]
    exact (hP.cell j).trans hu
  · simp only [k6V, List.mem_cons, List.not_mem_nil, or_false] at hv
    rcases hv with rfl | rfl | rfl
    · exact ⟨doc_none _, by decide⟩
    · exact ⟨⟨fun x hx => by rw [List.mem_singleton.1 hx]; exact Nat.zero_le _, rfl, Nat.le_refl _, (by decide : 1 ≤ 9223372036854775807), fun _ => ⟨_, 0, rfl, hA⟩⟩, Nat.zero_le _⟩
    · exact ⟨doc_none _, by decide⟩
set_option maxRecDepth 100000 in
set_option maxHeartbeats 1600000 in
theorem putsK5_any (c : UInt8) (w : World) : Calls Tryd.prog 52 #[.int .u8 c.toNat, .int .i64 1, .int .i64 5] w fun e w' => e = .returned (.slice (some ⟨w.heap.size + 1, 0, none⟩) 3 3) ∧ Ops w' (some ⟨w.heap.size + 1, 0, none⟩) 3 3 (k3V w.heap.size c) ∧ Below w.heap.size w w' := by
  have HO : Hid (Ops (k3W c w) (some ⟨w.heap.size + 1, 0, none⟩) 3 3 (k3V w.heap.size c)) := k3_ops c w
  have HB : Hid (Below w.heap.size w (k3W c w)) := k3_below c w
  go_enter Tryd.func52, Tryd.ntmps52
  go_wp2
  go_ret
  exact ⟨rfl, HO.out, HB.out⟩
set_option maxRecDepth 100000 in
set_option maxHeartbeats 1600000 in
theorem putsK6_any (c : UInt8) (w : World) : Calls Tryd.prog 52 #[.int .u8 c.toNat, .int .i64 2, .int .i64 6] w fun e w' => e = .returned (.slice (some ⟨w.heap.size + 1, 0, none⟩) 3 3) ∧ Ops w' (some ⟨w.heap.size + 1, 0, none⟩) 3 3 (k6V w.heap.size c) ∧ Below w.heap.size w w' := by
  have HO : Hid (Ops (k6W c w) (some ⟨w.heap.size + 1, 0, none⟩) 3 3 (k6V w.heap.size c)) := k6_ops c w
  have HB : Hid (Below w.heap.size w (k6W c w)) := k6_below c w
  go_enter Tryd.func52, Tryd.ntmps52
  go_wp2
  go_ret
  exact ⟨rfl, HO.out, HB.out⟩
def kc1 : Kl.Cl := ⟨0, smallDoc, smallDoc, 0, [], [], true⟩
def kc2 : Kl.Cl := Kl.DoC kc1 (k3P 121)
def kx1 : Sv.En := ⟨1, 1, k3P 120⟩
def kc3 : Kl.Cl := Kl.HearC kc2 0 1 kx1
def kx2 : Sv.En := ⟨0, 1, k6P 121⟩
def kc4 : Kl.Cl := Kl.HearC kc3 0 2 kx2
theorem kk_1 : Kl.DoE kc1 (k3P 121) = 0 := by decide +kernel
theorem kk_1s : Kl.DoS kc1 (k3P 121) = true := by decide +kernel
theorem kk_2 : Kl.HearE kc2 0 1 kx1 = 0 := by decide +kernel
theorem kk_2s : Kl.HearS kc2 0 1 kx1 = false := by decide +kernel
theorem kk_3 : Kl.HearE kc3 0 2 kx2 = 0 := by decide +kernel
theorem kk_3s : Kl.HearS kc3 0 2 kx2 = false := by decide +kernel
theorem kk_4 : kc4.rev = 2 := by decide +kernel
theorem kk_5 : kc4.sent.length = 0 := by decide +kernel
theorem kk_6 : kc4.now.length = 7 := by decide +kernel
theorem kk_7 : kc4.now[1]?.map (fun x => x.c) = some 120 := by decide +kernel
theorem kk_8 : kc4.now[2]?.map (fun x => x.c) = some 121 := by decide +kernel
theorem kk_9 : Dc.same kc4.base kc4.now = true := by decide +kernel
theorem hk1 (t : CV) (ht : t.cl = kc1) (wp : World) (g : Nat) (hV : Cli wp t) (hO : Ops wp (some ⟨g + 1, 0, none⟩) 3 3 (k3V g 121)) (hS : Sch wp) :
    Calls Tryd.prog 26 #[.agg #[.int .i64 t.rev, .slice t.ba t.bn t.bc, .slice t.na t.nn t.nc, .int .i64 t.seq, .slice t.sa t.sn t.sc, .slice t.ha t.hn t.hc, .bool t.jo], .slice (some ⟨g + 1, 0, none⟩) 3 3] wp fun e w' => (∃ t', e = .returned (.tuple #[.agg #[.int .i64 t'.rev, .slice t'.ba t'.bn t'.bc, .slice t'.na t'.nn t'.nc, .int .i64 t'.seq, .slice t'.sa t'.sn t'.sc, .slice t'.ha t'.hn t'.hc, .bool t'.jo], .bool true, .int .i64 0]) ∧ Cli w' t' ∧ t'.cl = kc2) ∧ Below wp.heap.size wp w' := by
  have h := Do_any t _ _ _ (k3V g 121) wp hV hO hS
  rw [k3_pt, ht, kk_1, kk_1s] at h
  exact h
theorem hk2 (t : CV) (ht : t.cl = kc2) (wp : World) (g : Nat) (hV : Cli wp t) (hO : Ops wp (some ⟨g + 1, 0, none⟩) 3 3 (k3V g 120)) (hS : Sch wp) :
    Calls Tryd.prog 28 #[.agg #[.int .i64 t.rev, .slice t.ba t.bn t.bc, .slice t.na t.nn t.nc, .int .i64 t.seq, .slice t.sa t.sn t.sc, .slice t.ha t.hn t.hc, .bool t.jo], .int .i64 0, .agg #[.int .i64 1, .int .i64 1, .int .i64 1, .slice (some ⟨g + 1, 0, none⟩) 3 3]] wp fun e w' => (∃ t', e = .returned (.tuple #[.agg #[.int .i64 t'.rev, .slice t'.ba t'.bn t'.bc, .slice t'.na t'.nn t'.nc, .int .i64 t'.seq, .slice t'.sa t'.sn t'.sc, .slice t'.ha t'.hn t'.hc, .bool t'.jo], .bool false, .int .i64 0]) ∧ Cli w' t' ∧ t'.cl = kc3) ∧ Below wp.heap.size wp w' := by
  have h := Hear_any t 0 ⟨1, ⟨1, 1, some ⟨g + 1, 0, none⟩, 3, 3, k3V g 120⟩⟩ wp hV hO hS
  rw [ht, show EV.en ⟨1, 1, some ⟨g + 1, 0, none⟩, 3, 3, k3V g 120⟩ = kx1 from rfl, kk_2, kk_2s] at h
  exact h
theorem hk3 (t : CV) (ht : t.cl = kc3) (wp : World) (g : Nat) (hV : Cli wp t) (hO : Ops wp (some ⟨g + 1, 0, none⟩) 3 3 (k6V g 121)) (hS : Sch wp) :
    Calls Tryd.prog 28 #[.agg #[.int .i64 t.rev, .slice t.ba t.bn t.bc, .slice t.na t.nn t.nc, .int .i64 t.seq, .slice t.sa t.sn t.sc, .slice t.ha t.hn t.hc, .bool t.jo], .int .i64 0, .agg #[.int .i64 2, .int .i64 0, .int .i64 1, .slice (some ⟨g + 1, 0, none⟩) 3 3]] wp fun e w' => (∃ t', e = .returned (.tuple #[.agg #[.int .i64 t'.rev, .slice t'.ba t'.bn t'.bc, .slice t'.na t'.nn t'.nc, .int .i64 t'.seq, .slice t'.sa t'.sn t'.sc, .slice t'.ha t'.hn t'.hc, .bool t'.jo], .bool false, .int .i64 0]) ∧ Cli w' t' ∧ t'.cl = kc4) ∧ Below wp.heap.size wp w' := by
  have h := Hear_any t 0 ⟨2, ⟨0, 1, some ⟨g + 1, 0, none⟩, 3, 3, k6V g 121⟩⟩ wp hV hO hS
  rw [ht, show EV.en ⟨0, 1, some ⟨g + 1, 0, none⟩, 3, 3, k6V g 121⟩ = kx2 from rfl, kk_3, kk_3s] at h
  exact h

set_option maxRecDepth 100000 in
set_option maxHeartbeats 12800000 in
theorem heard_any (w : World) (hS : Sch w) : Calls Tryd.prog 29 #[] w fun e w' => e = .returned (.bool true) ∧ Below w.heap.size w w' := by
  have HSC : Hid (∀ w', Below w.heap.size w w' → Sch w') := fun w' h => hS.below h
  clear hS
  go_enter Tryd.func29, Tryd.ntmps29
  go_wp2_with fail
  refine (smallD w).mono ?_
  rintro e w1 ⟨rfl, hD, hb⟩
  have H1 : Hid (Below w.heap.size w w1) := hb
  have CN : Hid (Calls Tryd.prog 70 #[.slice (some ⟨w.heap.size, 0, none⟩) 5 5] w1 fun e w' => (∃ t, e = .returned (.tuple #[.agg #[.int .i64 t.rev, .slice t.ba t.bn t.bc, .slice t.na t.nn t.nc, .int .i64 t.seq, .slice t.sa t.sn t.sc, .slice t.ha t.hn t.hc, .bool t.jo], .int .i64 0]) ∧ Cli w' t ∧ t.cl = kc1) ∧ Below w1.heap.size w1 w') := newK_ok _ _ _ _ w1 hD (HSC.out _ hb) small_check
  clear hb hD
  go_wp2_with fail
  refine CN.out.mono ?_
  rintro e w2 ⟨⟨t, rfl, hV, hse⟩, hb⟩
  have HBW : Hid (Below w.heap.size w (boxk t w2)) := (H1.out.trans (hb.mono H1.out.size)).trans ((boxk_below t w2).mono (Nat.le_trans H1.out.size hb.size))
  have HSR : Hid (Cli (boxk t w2) t) := hV.below (boxk_below t w2)
  have HSE : Hid (t.cl = kc1) := hse
  have HBK : Hid (Blk (boxk t w2) w2.heap.size (cvC t) 51) := boxk_blk t w2
  have HB0 : Hid (w.heap.size ≤ w2.heap.size) := Nat.le_trans H1.out.size hb.size
  clear hV hse hb CN
  go_upto_region 2 with fail
  change Code.wp Tryd.prog _ _ _ (boxk t w2)
  generalize boxk t w2 = W at *
  generalize w2.heap.size = b at *
  have HCB : Hid (∀ w', Below W.heap.size W w' → w'.cell? ⟨b, 0, none⟩ = some (.int .i64 t.rev) ∧ w'.cell? ⟨b, 1, none⟩ = some (.slice t.ba t.bn t.bc) ∧ w'.cell? ⟨b, 2, none⟩ = some (.slice t.na t.nn t.nc) ∧ w'.cell? ⟨b, 3, none⟩ = some (.int .i64 t.seq) ∧ w'.cell? ⟨b, 4, none⟩ = some (.slice t.sa t.sn t.sc) ∧ w'.cell? ⟨b, 5, none⟩ = some (.slice t.ha t.hn t.hc) ∧ w'.cell? ⟨b, 6, none⟩ = some (.bool t.jo) ∧ w'.frozen? ⟨b, 0, none⟩ = false ∧ w'.frozen? ⟨b, 1, none⟩ = false ∧ w'.frozen? ⟨b, 2, none⟩ = false ∧ w'.frozen? ⟨b, 3, none⟩ = false ∧ w'.frozen? ⟨b, 4, none⟩ = false ∧ w'.frozen? ⟨b, 5, none⟩ = false ∧ w'.frozen? ⟨b, 6, none⟩ = false) := fun w' hb => by
    have h : Blk w' b (cvC t) 51 := (hb.block _ HBK.out.lt).trans HBK.out
    exact ⟨h.cell 0, h.cell 1, h.cell 2, h.cell 3, h.cell 4, h.cell 5, h.cell 6, h.frozen 0, h.frozen 1, h.frozen 2, h.frozen 3, h.frozen 4, h.frozen 5, h.frozen 6⟩
  obtain ⟨p0, p1, p2, p3, p4, p5, p6, -⟩ := HCB.out W (Below.refl _ _)
  go_cut [3, 4] from 14 to 20 (fun f e wx => f = .bool true ∧ e = .int .i64 0 ∧ ∃ t, Blk wx b (cvC t) 51 ∧ Cli wx t ∧ t.cl = kc2 ∧ Below w.heap.size w wx ∧ w.heap.size ≤ b)
  case first =>
    go_region_with (first | (go_at_call 52; refine (putsK5_any 121 _).mono ?_; rintro e wp ⟨rfl, hop, hbp⟩; have HBP := drew_step hbp; have HOP : Hid (Ops wp (some ⟨W.heap.size + 1, 0, none⟩) 3 3 (k3V W.heap.size 121)) := (by rw [World.size_drew] at hop; exact hop); obtain ⟨s0, s1, s2, s3, s4, s5, s6, -⟩ := HCB.out _ HBP; clear hbp hop) | (go_at_call 26; refine (hk1 t HSE.out wp _ (HSR.out.below HBP) HOP.out (HSC.out _ (HBW.out.trans (HBP.mono HBW.out.size)))).mono ?_; rintro e wt ⟨⟨t', rfl, hsv, hsen⟩, hb⟩; have HBX : Below W.heap.size W wt := HBP.trans (hb.mono HBP.size); have HSV : Hid (Cli wt t') := hsv; have HSEN : Hid (t'.cl = kc2) := hsen; have HBT : Blk wt b (cvC t) 51 := (HBX.block _ HBK.out.lt).trans HBK.out; obtain ⟨z0, z1, z2, z3, z4, z5, z6, y0, y1, y2, y3, y4, y5, y6⟩ := HCB.out _ HBX; clear hb hsv hsen))
    all_goals
      first | go_meet | (go_wp2_with fail; go_meet)
      case rel => exact ⟨rfl, rfl, t', putK_blk HBT, HSV.out.keptK HBT (putK_kept _ _ _), HSEN.out, (HBW.out.trans (HBX.mono HBW.out.size)).trans (((putK_kept wt b t').low (Nat.le_of_lt HBT.lt)).mono HB0.out), HB0.out⟩
  case rest =>
    obtain ⟨rfl, rfl, hcut⟩ := hcut
    clear HBK HSR HSE HBW HB0 HCB p0 p1 p2 p3 p4 p5 p6
    obtain ⟨t, hBK, hSR, hSE, hBW, hB0⟩ := hcut
    have HBK : Hid (Blk wc b (cvC t) 51) := hBK
    have HSR : Hid (Cli wc t) := hSR
    have HSE : Hid (t.cl = kc2) := hSE
    have HBW : Hid (Below w.heap.size w wc) := hBW
    have HB0 : Hid (w.heap.size ≤ b) := hB0
    clear hBK hSR hSE hBW hB0
    generalize wc = W at *
    have HCB : Hid (∀ w', Below W.heap.size W w' → w'.cell? ⟨b, 0, none⟩ = some (.int .i64 t.rev) ∧ w'.cell? ⟨b, 1, none⟩ = some (.slice t.ba t.bn t.bc) ∧ w'.cell? ⟨b, 2, none⟩ = some (.slice t.na t.nn t.nc) ∧ w'.cell? ⟨b, 3, none⟩ = some (.int .i64 t.seq) ∧ w'.cell? ⟨b, 4, none⟩ = some (.slice t.sa t.sn t.sc) ∧ w'.cell? ⟨b, 5, none⟩ = some (.slice t.ha t.hn t.hc) ∧ w'.cell? ⟨b, 6, none⟩ = some (.bool t.jo) ∧ w'.frozen? ⟨b, 0, none⟩ = false ∧ w'.frozen? ⟨b, 1, none⟩ = false ∧ w'.frozen? ⟨b, 2, none⟩ = false ∧ w'.frozen? ⟨b, 3, none⟩ = false ∧ w'.frozen? ⟨b, 4, none⟩ = false ∧ w'.frozen? ⟨b, 5, none⟩ = false ∧ w'.frozen? ⟨b, 6, none⟩ = false) := fun w' hb => by
      have h : Blk w' b (cvC t) 51 := (hb.block _ HBK.out.lt).trans HBK.out
      exact ⟨h.cell 0, h.cell 1, h.cell 2, h.cell 3, h.cell 4, h.cell 5, h.cell 6, h.frozen 0, h.frozen 1, h.frozen 2, h.frozen 3, h.frozen 4, h.frozen 5, h.frozen 6⟩
    obtain ⟨p0, p1, p2, p3, p4, p5, p6, -⟩ := HCB.out W (Below.refl _ _)
    go_upto_region 3 with fail
    go_cut [5, 6] from 21 to 29 (fun f e wx => f = .bool false ∧ e = .int .i64 0 ∧ ∃ t, Blk wx b (cvC t) 51 ∧ Cli wx t ∧ t.cl = kc3 ∧ Below w.heap.size w wx ∧ w.heap.size ≤ b)
    case first =>
      go_region_with (first | (go_at_call 52; refine (putsK5_any 120 _).mono ?_; rintro e wp ⟨rfl, hop, hbp⟩; have HBP := drew_step hbp; have HOP : Hid (Ops wp (some ⟨W.heap.size + 1, 0, none⟩) 3 3 (k3V W.heap.size 120)) := (by rw [World.size_drew] at hop; exact hop); obtain ⟨s0, s1, s2, s3, s4, s5, s6, -⟩ := HCB.out _ HBP; clear hbp hop) | (go_at_call 28; refine (hk2 t HSE.out wp _ (HSR.out.below HBP) HOP.out (HSC.out _ (HBW.out.trans (HBP.mono HBW.out.size)))).mono ?_; rintro e wt ⟨⟨t', rfl, hsv, hsen⟩, hb⟩; have HBX : Below W.heap.size W wt := HBP.trans (hb.mono HBP.size); have HSV : Hid (Cli wt t') := hsv; have HSEN : Hid (t'.cl = kc3) := hsen; have HBT : Blk wt b (cvC t) 51 := (HBX.block _ HBK.out.lt).trans HBK.out; obtain ⟨z0, z1, z2, z3, z4, z5, z6, y0, y1, y2, y3, y4, y5, y6⟩ := HCB.out _ HBX; clear hb hsv hsen))
      all_goals
        first | go_meet | (go_wp2_with fail; go_meet)
        case rel => exact ⟨rfl, rfl, t', putK_blk HBT, HSV.out.keptK HBT (putK_kept _ _ _), HSEN.out, (HBW.out.trans (HBX.mono HBW.out.size)).trans (((putK_kept wt b t').low (Nat.le_of_lt HBT.lt)).mono HB0.out), HB0.out⟩
    case rest =>
      obtain ⟨rfl, rfl, hcut⟩ := hcut
      clear HBK HSR HSE HBW HB0 HCB p0 p1 p2 p3 p4 p5 p6
      obtain ⟨t, hBK, hSR, hSE, hBW, hB0⟩ := hcut
      have HBK : Hid (Blk wc b (cvC t) 51) := hBK
      have HSR : Hid (Cli wc t) := hSR
      have HSE : Hid (t.cl = kc3) := hSE
      have HBW : Hid (Below w.heap.size w wc) := hBW
      have HB0 : Hid (w.heap.size ≤ b) := hB0
      clear hBK hSR hSE hBW hB0
      generalize wc = W at *
      have HCB : Hid (∀ w', Below W.heap.size W w' → w'.cell? ⟨b, 0, none⟩ = some (.int .i64 t.rev) ∧ w'.cell? ⟨b, 1, none⟩ = some (.slice t.ba t.bn t.bc) ∧ w'.cell? ⟨b, 2, none⟩ = some (.slice t.na t.nn t.nc) ∧ w'.cell? ⟨b, 3, none⟩ = some (.int .i64 t.seq) ∧ w'.cell? ⟨b, 4, none⟩ = some (.slice t.sa t.sn t.sc) ∧ w'.cell? ⟨b, 5, none⟩ = some (.slice t.ha t.hn t.hc) ∧ w'.cell? ⟨b, 6, none⟩ = some (.bool t.jo) ∧ w'.frozen? ⟨b, 0, none⟩ = false ∧ w'.frozen? ⟨b, 1, none⟩ = false ∧ w'.frozen? ⟨b, 2, none⟩ = false ∧ w'.frozen? ⟨b, 3, none⟩ = false ∧ w'.frozen? ⟨b, 4, none⟩ = false ∧ w'.frozen? ⟨b, 5, none⟩ = false ∧ w'.frozen? ⟨b, 6, none⟩ = false) := fun w' hb => by
        have h : Blk w' b (cvC t) 51 := (hb.block _ HBK.out.lt).trans HBK.out
        exact ⟨h.cell 0, h.cell 1, h.cell 2, h.cell 3, h.cell 4, h.cell 5, h.cell 6, h.frozen 0, h.frozen 1, h.frozen 2, h.frozen 3, h.frozen 4, h.frozen 5, h.frozen 6⟩
      obtain ⟨p0, p1, p2, p3, p4, p5, p6, -⟩ := HCB.out W (Below.refl _ _)
      go_upto_region 4 with fail
      go_cut [7, 8] from 30 to 38 (fun f e wx => f = .bool false ∧ e = .int .i64 0 ∧ ∃ t, Blk wx b (cvC t) 51 ∧ Cli wx t ∧ t.cl = kc4 ∧ Below w.heap.size w wx ∧ w.heap.size ≤ b)
      case first =>
        go_region_with (first | (go_at_call 52; refine (putsK6_any 121 _).mono ?_; rintro e wp ⟨rfl, hop, hbp⟩; have HBP := drew_step hbp; have HOP : Hid (Ops wp (some ⟨W.heap.size + 1, 0, none⟩) 3 3 (k6V W.heap.size 121)) := (by rw [World.size_drew] at hop; exact hop); obtain ⟨s0, s1, s2, s3, s4, s5, s6, -⟩ := HCB.out _ HBP; clear hbp hop) | (go_at_call 28; refine (hk3 t HSE.out wp _ (HSR.out.below HBP) HOP.out (HSC.out _ (HBW.out.trans (HBP.mono HBW.out.size)))).mono ?_; rintro e wt ⟨⟨t', rfl, hsv, hsen⟩, hb⟩; have HBX : Below W.heap.size W wt := HBP.trans (hb.mono HBP.size); have HSV : Hid (Cli wt t') := hsv; have HSEN : Hid (t'.cl = kc4) := hsen; have HBT : Blk wt b (cvC t) 51 := (HBX.block _ HBK.out.lt).trans HBK.out; obtain ⟨z0, z1, z2, z3, z4, z5, z6, y0, y1, y2, y3, y4, y5, y6⟩ := HCB.out _ HBX; clear hb hsv hsen))
        all_goals
          first | go_meet | (go_wp2_with fail; go_meet)
          case rel => exact ⟨rfl, rfl, t', putK_blk HBT, HSV.out.keptK HBT (putK_kept _ _ _), HSEN.out, (HBW.out.trans (HBX.mono HBW.out.size)).trans (((putK_kept wt b t').low (Nat.le_of_lt HBT.lt)).mono HB0.out), HB0.out⟩
      case rest =>
        obtain ⟨rfl, rfl, hcut⟩ := hcut
        clear HBK HSR HSE HBW HB0 HCB p0 p1 p2 p3 p4 p5 p6
        obtain ⟨t, hBK, hSR, hSE, hBW, hB0⟩ := hcut
        have HBK : Hid (Blk wc b (cvC t) 51) := hBK
        have HSR : Hid (Cli wc t) := hSR
        have HSE : Hid (t.cl = kc4) := hSE
        have HBW : Hid (Below w.heap.size w wc) := hBW
        have HB0 : Hid (w.heap.size ≤ b) := hB0
        clear hBK hSR hSE hBW hB0
        generalize wc = W at *
        have HCB : Hid (∀ w', Below W.heap.size W w' → w'.cell? ⟨b, 0, none⟩ = some (.int .i64 t.rev) ∧ w'.cell? ⟨b, 1, none⟩ = some (.slice t.ba t.bn t.bc) ∧ w'.cell? ⟨b, 2, none⟩ = some (.slice t.na t.nn t.nc) ∧ w'.cell? ⟨b, 3, none⟩ = some (.int .i64 t.seq) ∧ w'.cell? ⟨b, 4, none⟩ = some (.slice t.sa t.sn t.sc) ∧ w'.cell? ⟨b, 5, none⟩ = some (.slice t.ha t.hn t.hc) ∧ w'.cell? ⟨b, 6, none⟩ = some (.bool t.jo) ∧ w'.frozen? ⟨b, 0, none⟩ = false ∧ w'.frozen? ⟨b, 1, none⟩ = false ∧ w'.frozen? ⟨b, 2, none⟩ = false ∧ w'.frozen? ⟨b, 3, none⟩ = false ∧ w'.frozen? ⟨b, 4, none⟩ = false ∧ w'.frozen? ⟨b, 5, none⟩ = false ∧ w'.frozen? ⟨b, 6, none⟩ = false) := fun w' hb => by
          have h : Blk w' b (cvC t) 51 := (hb.block _ HBK.out.lt).trans HBK.out
          exact ⟨h.cell 0, h.cell 1, h.cell 2, h.cell 3, h.cell 4, h.cell 5, h.cell 6, h.frozen 0, h.frozen 1, h.frozen 2, h.frozen 3, h.frozen 4, h.frozen 5, h.frozen 6⟩
        obtain ⟨p0, p1, p2, p3, p4, p5, p6, -⟩ := HCB.out W (Below.refl _ _)
        have e1 : t.now = kc4.now := congrArg Kl.Cl.now HSE.out
        have e2 : t.base = kc4.base := congrArg Kl.Cl.base HSE.out
        have e3 : t.rev = 2 := (congrArg Kl.Cl.rev HSE.out).trans kk_4
        have e4 : t.sent.map PV.pt = kc4.sent := congrArg Kl.Cl.sent HSE.out
        have hsn : t.sn = 0 := by rw [← len_pt HSR.out.sent, e4]; exact kk_5
        have hnn : t.nn = 7 := by rw [← HSR.out.now.len, e1]; exact kk_6
        obtain ⟨nb, no, hna, hA⟩ := HSR.out.now.lies (by rw [hnn]; decide)
        have hnr := HSR.out.now.room
        have hng := HSR.out.now.big
        rw [hnn] at hnr
        have hat : ∀ j c, kc4.now[j]?.map (fun x => x.c) = some c → W.cell? ⟨nb, no + j * 3, none⟩ = some (.int .u8 c.toNat) := fun j c hj => by
          rw [← e1] at hj
          cases hh : t.now[j]? with
          | none => rw [hh] at hj; cases hj
          | some z =>
            rw [hh] at hj
            obtain ⟨h1, h2⟩ := List.getElem?_eq_some_iff.1 hh
            have := hA.c j h1
            rw [h2, show z.c = c from Option.some.inj hj] at this
            exact this
        have c1 : W.cell? ⟨nb, no + 3, none⟩ = some (.int .u8 120) := hat 1 120 kk_7
        have c2 : W.cell? ⟨nb, no + 6, none⟩ = some (.int .u8 121) := hat 2 121 kk_8
        have CS : Calls Tryd.prog 23 #[.slice t.ba t.bn t.bc, .slice t.na t.nn t.nc] W fun e w' => e = .returned (.bool true) ∧ Below W.heap.size W w' := by
          have := same_any t.ba t.na t.bn t.bc t.nn t.nc t.base t.now W HSR.out.base HSR.out.now
          rw [e1, e2, kk_9] at this
          exact this.mono fun e w' ⟨h, q, hq⟩ => ⟨h, by rw [hq]; exact drewN_blw _ q⟩
        rw [e3] at p0
        rw [hsn] at p4
        rw [hnn, hna] at p2 CS
        clear hat e1 e2 e3 e4 hA hsn hnn hna HSR HSE HCB
        go_wp2_with fail
        refine CS.mono ?_
        rintro e w9 ⟨rfl, hb⟩
        have H9 : Hid (Below w.heap.size w w9) := HBW.out.trans (hb.mono HBW.out.size)
        clear hb CS
        go_wp2
        go_ret
        exact ⟨rfl, H9.out⟩
end Go.Proofs.YtbhcklkbckacpaaDoor
