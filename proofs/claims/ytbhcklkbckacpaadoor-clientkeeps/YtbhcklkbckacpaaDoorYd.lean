/-
  Package client: a client with lists of its own; New.
-/
import Derived.Test.YtbhcklkbckacpaaDoorYb
namespace Go.Proofs.YtbhcklkbckacpaaDoor
open Go.RowKit
set_option maxRecDepth 100000 in
set_option maxHeartbeats 1600000 in
theorem copyZ_any (ao : Option Addr) (cap : Nat) (w : World) (hO : Ops w ao 0 cap []) :
    Calls Tryd.prog 85 #[.slice ao 0 cap] w fun e w' => (∃ a c, e = .returned (.slice a 0 c) ∧ Ops w' a 0 c []) ∧ Below w.heap.size w w' := by
  have CC : Hid (Calls Tryd.prog 108 #[.slice ao 0 cap] w fun e w' => (∃ v, e = .returned v ∧ w'.ownsRow w.heap.size 77 7 v 0 (pvCells [])) ∧ Below w.heap.size w w') := cloneO_any ao 0 cap (pvCells []) w hO.row (pvCells_oneCell []) (by omega)
  clear hO
  go_enter Tryd.func85, Tryd.ntmps85
  go_wp2_with fail
  refine CC.out.mono ?_
  rintro e w1 ⟨⟨v, rfl, ho⟩, hb⟩
  obtain ⟨a, c, rfl, hr, hlo, hg⟩ := own_slice ho
  have HO : Hid (Ops w1 a 0 c []) := ⟨hr, fun v hv => absurd hv (by simp)⟩
  have HB : Hid (Below w.heap.size w w1) := hb
  clear ho hb hr hlo hg CC
  go_wp2
  go_loopw [8] (fun i wr => i = .int .i64 0 ∧ wr = w1) (fun _ _ => 0)
  case atStart => exact ⟨rfl, rfl⟩
  case round =>
    obtain ⟨rfl, hw⟩ := hrel
    obtain rfl := hw.symm
    go_wp2
    go_ret
    exact ⟨⟨a, c, rfl, HO.out⟩, HB.out⟩
/-- What may be copied: an operation of so many parts, or none. -/
def Few (n : Nat) (vs : List PV) : Prop := n ≤ 40 ∧ ∀ v ∈ vs, v.m ≤ 80
theorem copyA_any (ao : Option Addr) (n cap : Nat) (vs : List PV) (w : World) (hO : Ops w ao n cap vs) (hf : Few n vs) :
    Calls Tryd.prog 85 #[.slice ao n cap] w fun e w' => (∃ a c us, e = .returned (.slice a n c) ∧ Ops w' a n c us ∧ us.map PV.pt = vs.map PV.pt) ∧ Below w.heap.size w w' := by
  rcases Nat.eq_zero_or_pos n with h0 | h0
  · subst h0
    have hv : vs = [] := List.length_eq_zero_iff.1 hO.len
    subst hv
    refine (copyZ_any ao cap w hO).mono ?_
    rintro e w' ⟨⟨a, c, h1, h2⟩, hb⟩
    exact ⟨⟨a, c, [], h1, h2, rfl⟩, hb⟩
  · refine (copy_any ao n cap vs w hO h0 hf.1 hf.2).mono ?_
    rintro e w' ⟨⟨a, c, us, h1, h2, h3⟩, hb⟩
    exact ⟨⟨a, c, us, h1, h2.ops, h3⟩, hb⟩
/-- Behind the copy of the documents, or of all. -/
def mid1 (c : CV) (a1 : Option Addr) (k1 : Nat) (a2 : Option Addr) (k2 : Nat) : CV := (c.toBase a1 c.bn k1 c.base).toNow a2 c.nn k2 c.now
def mid2 (c : CV) (a4 : Option Addr) (k4 : Nat) (u4 : List PV) (a5 : Option Addr) (k5 : Nat) (u5 : List PV) : CV := (c.toSent a4 c.sn k4 u4).toHeld a5 c.hn k5 u5
structure CpK (w : World) (c : CV) (t : CV) (wx : World) : Prop where
  k : KAt wx (w.heap.size) t
  q : Blk wx (w.heap.size + 1) (cvC cv0) 51
  blw : Below w.heap.size w wx
  cl : t.cl = c.cl
  sn : t.sn = c.sn
  sv : Few t.sn t.sent
  hv : Few t.hn t.held
  bn : t.bn = c.bn
theorem cp_mid1 {w : World} {c : CV} {W wX : World} (h : CpK w c c W) (hb : Below W.heap.size W wX) {a1 a2 : Option Addr} {k1 k2 : Nat} (d1 : Doc wX a1 c.bn k1 c.base) (d2 : Doc wX a2 c.nn k2 c.now) :
    CpK w c (mid1 c a1 k1 a2 k2) ((wX.setCell ⟨w.heap.size, 1, none⟩ (.slice a1 c.bn k1)).setCell ⟨w.heap.size, 2, none⟩ (.slice a2 c.nn k2)) := by
  have hk := h.k.below hb
  have h1 := hk.toBase a1 c.bn k1 c.base d1
  have h2 := h1.toNow a2 c.nn k2 c.now (d2.keptK hk.blk (kept_g ..))
  exact ⟨h2, ((kept_g wX _ _ _).trans (kept_g _ _ _ _)).blk ((hb.block _ h.q.lt).trans h.q) (by simp), ((h.blw.trans (hb.mono h.blw.size)).setCell (Nat.le_refl _) _).setCell (Nat.le_refl _) _, rfl, rfl, h.sv, h.hv, rfl⟩
theorem cp_mid2 {w : World} {c t : CV} {W wX : World} (h : CpK w c t W) (hb : Below W.heap.size W wX) {a1 a2 : Option Addr} {k1 k2 : Nat} {u1 u2 : List PV} (d1 : Ops wX a1 t.sn k1 u1) (d2 : Ops wX a2 t.hn k2 u2) (p1 : u1.map PV.pt = t.sent.map PV.pt) (p2 : u2.map PV.pt = t.held.map PV.pt) :
    KAt ((wX.setCell ⟨w.heap.size, 4, none⟩ (.slice a1 t.sn k1)).setCell ⟨w.heap.size, 5, none⟩ (.slice a2 t.hn k2)) (w.heap.size) (mid2 t a1 k1 u1 a2 k2 u2) ∧ Blk ((wX.setCell ⟨w.heap.size, 4, none⟩ (.slice a1 t.sn k1)).setCell ⟨w.heap.size, 5, none⟩ (.slice a2 t.hn k2)) (w.heap.size + 1) (cvC cv0) 51 ∧ Below w.heap.size w ((wX.setCell ⟨w.heap.size, 4, none⟩ (.slice a1 t.sn k1)).setCell ⟨w.heap.size, 5, none⟩ (.slice a2 t.hn k2)) ∧ (mid2 t a1 k1 u1 a2 k2 u2).cl = c.cl := by
  have hk := h.k.below hb
  have h1 := hk.toSent a1 t.sn k1 u1 d1
  have h2 := h1.toHeld a2 t.hn k2 u2 (d2.keptK hk.blk (kept_g ..))
  refine ⟨h2, ((kept_g wX _ _ _).trans (kept_g _ _ _ _)).blk ((hb.block _ h.q.lt).trans h.q) (by simp), ((h.blw.trans (hb.mono h.blw.size)).setCell (Nat.le_refl _) _).setCell (Nat.le_refl _) _, ?_⟩
  rw [← h.cl]
  show (⟨t.rev, t.base, t.now, t.seq, u1.map PV.pt, u2.map PV.pt, t.jo⟩ : Kl.Cl) = _
  rw [p1, p2]
  rfl

set_option maxRecDepth 100000 in
set_option maxHeartbeats 6400000 in
theorem copyK_any (c : CV) (w : World) (hC : Cli w c) (hb0 : c.bn ≤ 80) (hn0 : c.nn ≤ 80) (hs0 : Few c.sn c.sent) (hh0 : Few c.hn c.held) :
    Calls Tryd.prog 65 #[.agg #[.int .i64 c.rev, .slice c.ba c.bn c.bc, .slice c.na c.nn c.nc, .int .i64 c.seq, .slice c.sa c.sn c.sc, .slice c.ha c.hn c.hc, .bool c.jo]] w fun e w' => (∃ t, e = .returned (cvA t) ∧ Cli w' t ∧ t.cl = c.cl) ∧ Below w.heap.size w w' := by
  have h1 : Below w.heap.size w (boxk cv0 (boxk c w)) := (boxk_below c w).trans ((boxk_below cv0 _).mono (boxk_below c w).size)
  have HC : Hid (CpK w c c (boxk cv0 (boxk c w))) := ⟨⟨(boxk_blk c w).alloc _, hC.below h1⟩, by have := boxk_blk cv0 (boxk c w); rw [boxk_size] at this; exact this, h1, rfl, rfl, hs0, hh0, rfl⟩
  clear hs0 hh0 h1 hC
  go_enter Tryd.func65, Tryd.ntmps65
  go_upto_region 1 with fail
  change Code.wp Tryd.prog _ _ _ (boxk cv0 (boxk c w))
  generalize (boxk cv0 (boxk c w)) = W at *
  have CF : Hid (∀ w', Below W.heap.size W w' → Calls Tryd.prog 58 #[.slice c.ba c.bn c.bc] w' fun e w'' => (∃ v, e = .returned v ∧ w''.ownsRow w'.heap.size 79 3 v c.bn (itCells c.base)) ∧ Below w'.heap.size w' w'') := fun w' hb => cloneDR_any _ _ _ _ _ (doc_row (HC.out.k.cli.base.below hb)) (itCells_one _) hb0
  have CN : Hid (∀ w', Below W.heap.size W w' → Calls Tryd.prog 58 #[.slice c.na c.nn c.nc] w' fun e w'' => (∃ v, e = .returned v ∧ w''.ownsRow w'.heap.size 79 3 v c.nn (itCells c.now)) ∧ Below w'.heap.size w' w'') := fun w' hb => cloneDR_any _ _ _ _ _ (doc_row (HC.out.k.cli.now.below hb)) (itCells_one _) hn0
  have HCL : Hid (∀ w', Below W.heap.size W w' → w'.cell? ⟨w.heap.size, 1, none⟩ = some (.slice c.ba c.bn c.bc) ∧ w'.cell? ⟨w.heap.size, 2, none⟩ = some (.slice c.na c.nn c.nc) ∧ w'.frozen? ⟨w.heap.size, 1, none⟩ = false ∧ w'.frozen? ⟨w.heap.size, 2, none⟩ = false) := fun w' hb => by
    have h := (HC.out.k.below hb).blk
    exact ⟨h.cell 1, h.cell 2, h.frozen 1, h.frozen 2⟩
  have HFB : Hid (Fit c.base) := HC.out.k.cli.base.fit
  have HFN : Hid (Fit c.now) := HC.out.k.cli.now.fit
  obtain ⟨p1, p2, -, -⟩ := HCL.out W (Below.refl _ _)
  go_cut [] from 3 to 10 (fun wx => ∃ a1 k1 a2 k2, CpK w c (mid1 c a1 k1 a2 k2) wx)
  case first =>
    go_region_with (first | (go_at_call 58; (with_reducible_and_instances refine (CF.out _ ?_).mono ?_); (first | exact HBN | exact (Below.refl _ _).drew); rintro e wF ⟨⟨vF, rfl, hoF⟩, hbF⟩; obtain ⟨aF, cF, rfl, hrF, -, -⟩ := own_slice hoF; have HBF : Below W.heap.size W wF := (by first | exact HBN.trans (hbF.mono HBN.size) | exact drew_step hbF); obtain ⟨p1F, p2F, q1F, q2F⟩ := HCL.out _ HBF; clear hoF) | (go_at_call 58; (with_reducible_and_instances refine (CN.out _ ?_).mono ?_); (first | exact HBF | exact (Below.refl _ _).drew); rintro e wN ⟨⟨vN, rfl, hoN⟩, hbN⟩; obtain ⟨aN, cN, rfl, hrN, -, -⟩ := own_slice hoN; have HBN : Below W.heap.size W wN := (by first | exact HBF.trans (hbN.mono HBF.size) | exact drew_step hbN); obtain ⟨p1N, p2N, q1N, q2N⟩ := HCL.out _ HBN; clear hoN))
    all_goals
      first | go_meet | (go_wp2_with fail; go_meet)
      case rel => exact ⟨aF, cF, aN, cN, cp_mid1 HC.out (by first | exact HBF | exact HBN) (by first | exact row_doc hrF HFB.out | exact (row_doc hrF HFB.out).below hbN) (by first | exact row_doc hrN HFN.out | exact (row_doc hrN HFN.out).below hbF)⟩
  case rest =>
    obtain ⟨a1, k1, a2, k2, hc2⟩ := hcut
    clear HC CF CN HCL p1 p2 HFB HFN
    generalize mid1 c a1 k1 a2 k2 = t at *
    generalize wc = W at *
    have HC : Hid (CpK w c t W) := hc2
    clear hc2
    have CF : Hid (∀ w', Below W.heap.size W w' → Calls Tryd.prog 85 #[.slice t.sa t.sn t.sc] w' fun e w'' => (∃ a c us, e = .returned (.slice a t.sn c) ∧ Ops w'' a t.sn c us ∧ us.map PV.pt = t.sent.map PV.pt) ∧ Below w'.heap.size w' w'') := fun w' hb => copyA_any _ _ _ _ _ (HC.out.k.cli.sent.below hb) HC.out.sv
    have CN : Hid (∀ w', Below W.heap.size W w' → Calls Tryd.prog 85 #[.slice t.ha t.hn t.hc] w' fun e w'' => (∃ a c us, e = .returned (.slice a t.hn c) ∧ Ops w'' a t.hn c us ∧ us.map PV.pt = t.held.map PV.pt) ∧ Below w'.heap.size w' w'') := fun w' hb => copyA_any _ _ _ _ _ (HC.out.k.cli.held.below hb) HC.out.hv
    have HCL : Hid (∀ w', Below W.heap.size W w' → w'.cell? ⟨w.heap.size, 4, none⟩ = some (.slice t.sa t.sn t.sc) ∧ w'.cell? ⟨w.heap.size, 5, none⟩ = some (.slice t.ha t.hn t.hc) ∧ w'.frozen? ⟨w.heap.size, 4, none⟩ = false ∧ w'.frozen? ⟨w.heap.size, 5, none⟩ = false) := fun w' hb => by
      have h := (HC.out.k.below hb).blk
      exact ⟨h.cell 4, h.cell 5, h.frozen 4, h.frozen 5⟩
    obtain ⟨p4, p5, -, -⟩ := HCL.out W (Below.refl _ _)
    go_upto_region 2 with fail
    go_cut [] from 11 to 18 (fun wx => ∃ t', KAt wx (w.heap.size) t' ∧ Blk wx (w.heap.size + 1) (cvC cv0) 51 ∧ Below w.heap.size w wx ∧ t'.cl = c.cl)
    case first =>
      go_region_with (first | (go_at_call 85; (with_reducible_and_instances refine (CF.out _ ?_).mono ?_); (first | exact HBN | exact (Below.refl _ _).drew); rintro e wF ⟨⟨aF, cF, uF, rfl, hrF, huF⟩, hbF⟩; have HBF : Below W.heap.size W wF := (by first | exact HBN.trans (hbF.mono HBN.size) | exact drew_step hbF); obtain ⟨p4F, p5F, q4F, q5F⟩ := HCL.out _ HBF; have HUF : Hid (uF.map PV.pt = t.sent.map PV.pt) := huF; clear huF) | (go_at_call 85; (with_reducible_and_instances refine (CN.out _ ?_).mono ?_); (first | exact HBF | exact (Below.refl _ _).drew); rintro e wN ⟨⟨aN, cN, uN, rfl, hrN, huN⟩, hbN⟩; have HBN : Below W.heap.size W wN := (by first | exact HBF.trans (hbN.mono HBF.size) | exact drew_step hbN); obtain ⟨p4N, p5N, q4N, q5N⟩ := HCL.out _ HBN; have HUN : Hid (uN.map PV.pt = t.held.map PV.pt) := huN; clear huN))
      all_goals
        first | go_meet | (go_wp2_with fail; go_meet)
        case rel => exact ⟨_, cp_mid2 HC.out (by first | exact HBF | exact HBN) (by first | exact hrF | exact hrF.below hbN) (by first | exact hrN | exact hrN.below hbF) HUF.out HUN.out⟩
    case rest =>
      obtain ⟨t', hk, hq, hw, hcl⟩ := hcut
      have HK : Hid (KAt wc (w.heap.size) t') := hk
      have HQ : Hid (Blk wc (w.heap.size + 1) (cvC cv0) 51) := hq
      have HW : Hid (Below w.heap.size w wc) := hw
      have HCL2 : Hid (t'.cl = c.cl) := hcl
      clear hk hq hw hcl HC CF CN HCL p4 p5
      have p0 : wc.cell? ⟨w.heap.size, 0, none⟩ = some (.int .i64 t'.rev) := HK.out.blk.cell 0
      have p1 : wc.cell? ⟨w.heap.size, 1, none⟩ = some (.slice t'.ba t'.bn t'.bc) := HK.out.blk.cell 1
      have p2 : wc.cell? ⟨w.heap.size, 2, none⟩ = some (.slice t'.na t'.nn t'.nc) := HK.out.blk.cell 2
      have p3 : wc.cell? ⟨w.heap.size, 3, none⟩ = some (.int .i64 t'.seq) := HK.out.blk.cell 3
      have p4 : wc.cell? ⟨w.heap.size, 4, none⟩ = some (.slice t'.sa t'.sn t'.sc) := HK.out.blk.cell 4
      have p5 : wc.cell? ⟨w.heap.size, 5, none⟩ = some (.slice t'.ha t'.hn t'.hc) := HK.out.blk.cell 5
      have p6 : wc.cell? ⟨w.heap.size, 6, none⟩ = some (.bool t'.jo) := HK.out.blk.cell 6
      have q0 : wc.cell? ⟨w.heap.size + 1, 0, none⟩ = some (.int .i64 0) := HQ.out.cell 0
      have q1 : wc.cell? ⟨w.heap.size + 1, 1, none⟩ = some (.slice none 0 0) := HQ.out.cell 1
      have q2 : wc.cell? ⟨w.heap.size + 1, 2, none⟩ = some (.slice none 0 0) := HQ.out.cell 2
      have q3 : wc.cell? ⟨w.heap.size + 1, 3, none⟩ = some (.int .i64 0) := HQ.out.cell 3
      have q4 : wc.cell? ⟨w.heap.size + 1, 4, none⟩ = some (.slice none 0 0) := HQ.out.cell 4
      have q5 : wc.cell? ⟨w.heap.size + 1, 5, none⟩ = some (.slice none 0 0) := HQ.out.cell 5
      have q6 : wc.cell? ⟨w.heap.size + 1, 6, none⟩ = some (.bool false) := HQ.out.cell 6
      have g0 := HQ.out.frozen 0
      have g1 := HQ.out.frozen 1
      have g2 := HQ.out.frozen 2
      have g3 := HQ.out.frozen 3
      have g4 := HQ.out.frozen 4
      have g5 := HQ.out.frozen 5
      have g6 := HQ.out.frozen 6
      go_wp2
      change bodyPost Tryd.prog _ _ Exit.ret _ (putK wc (w.heap.size + 1) t')
      exact bodyPost_ret (ret_cli (t := t') rfl _ rfl (putK_blk HQ.out)) rfl ⟨⟨t', rfl, HK.out.cli.keptK HQ.out (putK_kept _ _ _), HCL2.out⟩, HW.out.trans (((putK_kept wc (w.heap.size + 1) t').low (by have := HQ.out.lt; omega)).mono (by omega))⟩

set_option maxRecDepth 100000 in
set_option maxHeartbeats 1600000 in
theorem newK_ok (ao : Option Addr) (n cap : Nat) (l : List It) (w : World) (hD : Doc w ao n cap l) (hS : Sch w) (hc : Dc.check l = 0) :
    Calls Tryd.prog 70 #[.slice ao n cap] w fun e w' => (∃ t, e = .returned (.tuple #[cvA t, .int .i64 0]) ∧ Cli w' t ∧ t.cl = ⟨0, l, l, 0, [], [], true⟩) ∧ Below w.heap.size w w' := by
  have H1 : Hid (Below w.heap.size w (boxk cv0 w)) := boxk_below _ _
  have HR : Hid (Blk (boxk cv0 w) w.heap.size (cvC cv0) 51) := boxk_blk _ _
  have CC : Hid (Calls Tryd.prog 57 #[.slice ao n cap] (boxk cv0 w) fun e w' => e = .returned (.int .i64 0) ∧ Below (boxk cv0 w).heap.size (boxk cv0 w) w') := by have := check_any ao n cap l (boxk cv0 w) (hD.below H1.out) (hS.below H1.out); rw [hc] at this; exact this
  have hf := Dc.check_few hc
  rw [hD.len] at hf
  have CP : Hid (∀ w', Below w.heap.size w w' → Calls Tryd.prog 65 #[.agg #[.int .i64 0, .slice ao n cap, .slice ao n cap, .int .i64 0, .slice none 0 0, .slice none 0 0, .bool true]] w' fun e w'' => (∃ t, e = .returned (.agg #[.int .i64 t.rev, .slice t.ba t.bn t.bc, .slice t.na t.nn t.nc, .int .i64 t.seq, .slice t.sa t.sn t.sc, .slice t.ha t.hn t.hc, .bool t.jo]) ∧ Cli w'' t ∧ t.cl = ⟨0, l, l, 0, [], [], true⟩) ∧ Below w'.heap.size w' w'') := fun w' hb => copyK_any ⟨0, ao, n, cap, l, ao, n, cap, l, 0, none, 0, 0, [], none, 0, 0, [], true⟩ w' ⟨hD.below hb, hD.below hb, ops_nil w', ops_nil w'⟩ hf.2 hf.2 ⟨Nat.zero_le _, fun v hv => absurd hv (by simp)⟩ ⟨Nat.zero_le _, fun v hv => absurd hv (by simp)⟩
  clear hD hS hc hf
  go_enter Tryd.func70, Tryd.ntmps70
  go_upto_region 1 with fail
  change Code.wp Tryd.prog _ _ _ (boxk cv0 w)
  generalize boxk cv0 w = W at *
  go_wp2_with fail
  refine CC.out.mono ?_
  rintro e w1 ⟨rfl, hb⟩
  have H2w : Hid (Below w.heap.size w w1) := H1.out.trans (hb.mono H1.out.size)
  have hR1 : Blk w1 w.heap.size (cvC cv0) 51 := (hb.block _ HR.out.lt).trans HR.out
  have HR1 : Hid (Blk w1 w.heap.size (cvC cv0) 51) := hR1
  clear hb hR1
  go_wp2_with fail
  refine (CP.out _ H2w.out).mono ?_
  rintro e w2 ⟨⟨t, rfl, hcp, hse⟩, hb⟩
  have HR2 : Hid (Blk w2 w.heap.size (cvC cv0) 51) := (hb.block _ HR1.out.lt).trans HR1.out
  have HC : Hid (Cli w2 t) := hcp
  have HSE : Hid (t.cl = ⟨0, l, l, 0, [], [], true⟩) := hse
  have H3 : Hid (Below w.heap.size w w2) := H2w.out.trans (hb.mono H2w.out.size)
  clear hcp hse hb
  have r0 : w2.cell? ⟨w.heap.size, 0, none⟩ = some (.int .i64 0) := HR2.out.cell 0
  have r1 : w2.cell? ⟨w.heap.size, 1, none⟩ = some (.slice none 0 0) := HR2.out.cell 1
  have r2 : w2.cell? ⟨w.heap.size, 2, none⟩ = some (.slice none 0 0) := HR2.out.cell 2
  have r3 : w2.cell? ⟨w.heap.size, 3, none⟩ = some (.int .i64 0) := HR2.out.cell 3
  have r4 : w2.cell? ⟨w.heap.size, 4, none⟩ = some (.slice none 0 0) := HR2.out.cell 4
  have r5 : w2.cell? ⟨w.heap.size, 5, none⟩ = some (.slice none 0 0) := HR2.out.cell 5
  have r6 : w2.cell? ⟨w.heap.size, 6, none⟩ = some (.bool false) := HR2.out.cell 6
  have g0 := HR2.out.frozen 0
  have g1 := HR2.out.frozen 1
  have g2 := HR2.out.frozen 2
  have g3 := HR2.out.frozen 3
  have g4 := HR2.out.frozen 4
  have g5 := HR2.out.frozen 5
  have g6 := HR2.out.frozen 6
  go_wp2
  change bodyPost Tryd.prog _ _ Exit.ret _ (putK w2 w.heap.size t)
  exact bodyPost_ret (ret_cli2 (t := t) rfl _ rfl rfl (putK_blk HR2.out)) rfl ⟨⟨t, rfl, HC.out.keptK HR2.out (putK_kept _ _ _), HSE.out⟩, H3.out.trans ((putK_kept w2 w.heap.size t).low (by have := HR2.out.lt; omega))⟩

set_option maxRecDepth 100000 in
set_option maxHeartbeats 1600000 in
theorem newK_bad (ao : Option Addr) (n cap : Nat) (l : List It) (w : World) (hD : Doc w ao n cap l) (hS : Sch w) (hc : ¬ Dc.check l = 0) :
    Calls Tryd.prog 70 #[.slice ao n cap] w fun e w' => (∃ t, e = .returned (.tuple #[cvA t, .int .i64 (Dc.check l)]) ∧ Cli w' t ∧ t.cl = Kl.none) ∧ Below w.heap.size w w' := by
  have H1 : Hid (Below w.heap.size w (boxk cv0 w)) := boxk_below _ _
  have HR : Hid (Blk (boxk cv0 w) w.heap.size (cvC cv0) 51) := boxk_blk _ _
  have CC : Hid (Calls Tryd.prog 57 #[.slice ao n cap] (boxk cv0 w) fun e w' => e = .returned (.int .i64 (Dc.check l)) ∧ Below (boxk cv0 w).heap.size (boxk cv0 w) w') := check_any ao n cap l (boxk cv0 w) (hD.below H1.out) (hS.below H1.out)
  clear hD hS
  generalize Dc.check l = E at *
  have hne : (E != 0) = true := by simp [hc]
  clear hc
  go_enter Tryd.func70, Tryd.ntmps70
  go_upto_region 1 with fail
  change Code.wp Tryd.prog _ _ _ (boxk cv0 w)
  generalize boxk cv0 w = W at *
  go_wp2_with fail
  refine CC.out.mono ?_
  rintro e w1 ⟨rfl, hb⟩
  have H2w : Hid (Below w.heap.size w w1) := H1.out.trans (hb.mono H1.out.size)
  have HR2 : Hid (Blk w1 w.heap.size (cvC cv0) 51) := (hb.block _ HR.out.lt).trans HR.out
  clear hb
  have r0 : w1.cell? ⟨w.heap.size, 0, none⟩ = some (.int .i64 0) := HR2.out.cell 0
  have r1 : w1.cell? ⟨w.heap.size, 1, none⟩ = some (.slice none 0 0) := HR2.out.cell 1
  have r2 : w1.cell? ⟨w.heap.size, 2, none⟩ = some (.slice none 0 0) := HR2.out.cell 2
  have r3 : w1.cell? ⟨w.heap.size, 3, none⟩ = some (.int .i64 0) := HR2.out.cell 3
  have r4 : w1.cell? ⟨w.heap.size, 4, none⟩ = some (.slice none 0 0) := HR2.out.cell 4
  have r5 : w1.cell? ⟨w.heap.size, 5, none⟩ = some (.slice none 0 0) := HR2.out.cell 5
  have r6 : w1.cell? ⟨w.heap.size, 6, none⟩ = some (.bool false) := HR2.out.cell 6
  have g0 := HR2.out.frozen 0
  have g1 := HR2.out.frozen 1
  have g2 := HR2.out.frozen 2
  have g3 := HR2.out.frozen 3
  have g4 := HR2.out.frozen 4
  have g5 := HR2.out.frozen 5
  have g6 := HR2.out.frozen 6
  go_wp2
  change bodyPost Tryd.prog _ _ Exit.ret _ (putK w1 w.heap.size cv0)
  exact bodyPost_ret (ret_cli2 (t := cv0) rfl _ rfl rfl (putK_blk HR2.out)) rfl ⟨⟨cv0, rfl, Cli.nil _, rfl⟩, H2w.out.trans ((putK_kept w1 w.heap.size cv0).low (by have := HR2.out.lt; omega))⟩
end Go.Proofs.YtbhcklkbckacpaaDoor
