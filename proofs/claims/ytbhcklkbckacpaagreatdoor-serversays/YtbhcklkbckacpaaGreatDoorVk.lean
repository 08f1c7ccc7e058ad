/-
  The laws' closed fact of a server that takes two operations.
-/
import Derived.Test.YtbhcklkbckacpaaGreatDoorVj
namespace Go.Proofs.YtbhcklkbckacpaaGreatDoor
open Go.RowKit
theorem alB (w : World) (O : Obj) : Below w.heap.size w (w.alloc O) := (Below.refl _ _).alloc (Nat.le_refl _) O
theorem da_step {W w' : World} {O : Obj} (h : Below (W.drew.alloc O).heap.size (W.drew.alloc O) w') : Below W.heap.size W w' := by
  have h1 : Below W.heap.size W (W.drew.alloc O) := ((Below.refl W.heap.size W).drew).alloc (by rw [World.size_drew]; exact Nat.le_refl _) O
  exact h1.trans (h.mono h1.size)
theorem da_blk {W w' : World} (h : Below (W.drew.alloc (.cells #[.slice none 0 0, .slice none 0 0, .slice none 0 0] 42)).heap.size (W.drew.alloc (.cells #[.slice none 0 0, .slice none 0 0, .slice none 0 0] 42)) w') : Blk w' W.heap.size (svC sv0) 42 := by
  have h1 : Blk (W.drew.alloc (.cells #[.slice none 0 0, .slice none 0 0, .slice none 0 0] 42)) W.heap.size (svC sv0) 42 := Blk.newAt _ _ _ _ (World.size_drew _)
  exact (h.block _ h1.lt).trans h1
theorem nb_blk {wp w' : World} (h : Below (wp.alloc (.cells #[.slice none 0 0, .slice none 0 0, .slice none 0 0] 42)).heap.size (wp.alloc (.cells #[.slice none 0 0, .slice none 0 0, .slice none 0 0] 42)) w') : Blk w' wp.heap.size (svC sv0) 42 := by
  have h1 : Blk (wp.alloc (.cells #[.slice none 0 0, .slice none 0 0, .slice none 0 0] 42)) wp.heap.size (svC sv0) 42 := Blk.new _ _ _
  exact (h.block _ h1.lt).trans h1
theorem tk1 (t : SV) (ht : t.se = sv1) (wp : World) (g : Nat) (hV : Srv wp t) (hO : Ops wp (some ⟨g + 1, 0, none⟩) 3 3 (o3V g 120)) (hS : Sch wp) :
    Calls Tryz.prog 18 #[.agg #[.slice t.fa t.fn t.fc, .slice t.la t.ln t.lc, .slice t.na t.nn t.nc], .int .i64 0, .agg #[.int .i64 1, .int .i64 1, .slice (some ⟨g + 1, 0, none⟩) 3 3]] wp fun e w' => (∃ t', e = .returned (.tuple #[.agg #[.slice t'.fa t'.fn t'.fc, .slice t'.la t'.ln t'.lc, .slice t'.na t'.nn t'.nc], .int .i64 0]) ∧ Srv w' t' ∧ t'.se = sv2) ∧ Below wp.heap.size wp w' := by
  have h := take_any t 0 ⟨1, 1, some ⟨g + 1, 0, none⟩, 3, 3, o3V g 120⟩ wp hV hO hS
  have hk : Sv.takE t.se 0 (EV.en ⟨1, 1, some ⟨g + 1, 0, none⟩, 3, 3, o3V g 120⟩) = 0 := by rw [ht]; exact k_1
  rw [hk, ht] at h
  exact h
theorem tk2 (t : SV) (ht : t.se = sv2) (wp : World) (g : Nat) (hV : Srv wp t) (hO : Ops wp (some ⟨g + 1, 0, none⟩) 3 3 (o3V g 121)) (hS : Sch wp) :
    Calls Tryz.prog 18 #[.agg #[.slice t.fa t.fn t.fc, .slice t.la t.ln t.lc, .slice t.na t.nn t.nc], .int .i64 0, .agg #[.int .i64 2, .int .i64 1, .slice (some ⟨g + 1, 0, none⟩) 3 3]] wp fun e w' => (∃ t', e = .returned (.tuple #[.agg #[.slice t'.fa t'.fn t'.fc, .slice t'.la t'.ln t'.lc, .slice t'.na t'.nn t'.nc], .int .i64 0]) ∧ Srv w' t' ∧ t'.se = sv3) ∧ Below wp.heap.size wp w' := by
  have h := take_any t 0 ⟨2, 1, some ⟨g + 1, 0, none⟩, 3, 3, o3V g 121⟩ wp hV hO hS
  have hk : Sv.takE t.se 0 (EV.en ⟨2, 1, some ⟨g + 1, 0, none⟩, 3, 3, o3V g 121⟩) = 0 := by rw [ht]; exact k_2
  rw [hk, ht] at h
  exact h
theorem tk3 (t : SV) (ht : t.se = sv3) (wp : World) (g : Nat) (hV : Srv wp t) (hO : Ops wp (some ⟨g + 1, 0, none⟩) 3 3 (o7V g 122)) (hS : Sch wp) :
    Calls Tryz.prog 18 #[.agg #[.slice t.fa t.fn t.fc, .slice t.la t.ln t.lc, .slice t.na t.nn t.nc], .int .i64 3, .agg #[.int .i64 2, .int .i64 2, .slice (some ⟨g + 1, 0, none⟩) 3 3]] wp fun e w' => (∃ t', e = .returned (.tuple #[.agg #[.slice t'.fa t'.fn t'.fc, .slice t'.la t'.ln t'.lc, .slice t'.na t'.nn t'.nc], .int .i64 6]) ∧ Srv w' t' ∧ t'.se = Sv.takS sv3 3 en3) ∧ Below wp.heap.size wp w' := by
  have h := take_any t 3 ⟨2, 2, some ⟨g + 1, 0, none⟩, 3, 3, o7V g 122⟩ wp hV hO hS
  have hk : Sv.takE t.se 3 (EV.en ⟨2, 2, some ⟨g + 1, 0, none⟩, 3, 3, o7V g 122⟩) = 6 := by rw [ht]; exact k_3
  rw [hk, ht] at h
  exact h

set_option maxRecDepth 100000 in
set_option maxHeartbeats 6400000 in
theorem served_any (w : World) (hS : Sch w) : Calls Tryz.prog 22 #[] w fun e w' => e = .returned (.bool true) ∧ Below w.heap.size w w' := by
  have HSC : Hid (∀ w', Below w.heap.size w w' → Sch w') := fun w' h => hS.below h
  clear hS
  go_enter Tryz.func22, Tryz.ntmps22
  go_wp2_with fail
  refine (smallD w).mono ?_
  rintro e w1 ⟨rfl, hD, hb⟩
  have H1 : Hid (Below w.heap.size w w1) := hb
  have CN : Hid (Calls Tryz.prog 17 #[.slice (some ⟨w.heap.size, 0, none⟩) 5 5] w1 fun e w' => (∃ t, e = .returned (.tuple #[.agg #[.slice t.fa t.fn t.fc, .slice t.la t.ln t.lc, .slice t.na t.nn t.nc], .int .i64 0]) ∧ Srv w' t ∧ t.se = sv1) ∧ Below w1.heap.size w1 w') := new_ok _ _ _ _ w1 hD (HSC.out _ hb) small_check
  clear hb hD
  go_wp2_with fail
  refine CN.out.mono ?_
  rintro e w2 ⟨⟨t, rfl, hV, hse⟩, hb⟩
  have HBW : Hid (Below w.heap.size w (boxs t w2)) := (H1.out.trans (hb.mono H1.out.size)).trans ((boxs_below t w2).mono (Nat.le_trans H1.out.size hb.size))
  have HSR : Hid (Srv (boxs t w2) t) := hV.below (boxs_below t w2)
  have HSE : Hid (t.se = sv1) := hse
  have HBK : Hid (Blk (boxs t w2) w2.heap.size (svC t) 42) := boxs_blk t w2
  have HB0 : Hid (w.heap.size ≤ w2.heap.size) := Nat.le_trans H1.out.size hb.size
  clear hV hse hb CN
  go_upto_region 2 with fail
  change Code.wp Tryz.prog _ _ _ (boxs t w2)
  generalize boxs t w2 = W at *
  generalize w2.heap.size = b at *
  have HCB : Hid (∀ w', Below W.heap.size W w' → w'.cell? ⟨b, 0, none⟩ = some (.slice t.fa t.fn t.fc) ∧ w'.cell? ⟨b, 1, none⟩ = some (.slice t.la t.ln t.lc) ∧ w'.cell? ⟨b, 2, none⟩ = some (.slice t.na t.nn t.nc) ∧ w'.frozen? ⟨b, 0, none⟩ = false ∧ w'.frozen? ⟨b, 1, none⟩ = false ∧ w'.frozen? ⟨b, 2, none⟩ = false) := fun w' hb => by
    have h : Blk w' b (svC t) 42 := (hb.block _ HBK.out.lt).trans HBK.out
    exact ⟨h.cell 0, h.cell 1, h.cell 2, h.frozen 0, h.frozen 1, h.frozen 2⟩
  obtain ⟨p0, p1, p2, -, -, -⟩ := HCB.out W (Below.refl _ _)
  go_cut [3] from 7 (fun f wx => f = .int .i64 0 ∧ ∃ t, Blk wx b (svC t) 42 ∧ Srv wx t ∧ t.se = sv2 ∧ Below w.heap.size w wx ∧ w.heap.size ≤ b)
  case first =>
    go_region_with (first | (go_at_call 84; refine (puts5_any 120 _).mono ?_; rintro e wp ⟨rfl, hop, hbp⟩; have HBP := drew_step hbp; have HOP : Hid (Ops wp (some ⟨W.heap.size + 1, 0, none⟩) 3 3 (o3V W.heap.size 120)) := (by rw [World.size_drew] at hop; exact hop); obtain ⟨s0, s1, s2, -, -, -⟩ := HCB.out _ HBP; clear hbp hop) | (go_at_call 18; refine (tk1 t HSE.out wp _ (HSR.out.below HBP) HOP.out (HSC.out _ (HBW.out.trans (HBP.mono HBW.out.size)))).mono ?_; rintro e wt ⟨⟨t', rfl, hsv, hsen⟩, hb⟩; have HBX : Below W.heap.size W wt := HBP.trans (hb.mono HBP.size); have HSV : Hid (Srv wt t') := hsv; have HSEN : Hid (t'.se = sv2) := hsen; have HBT : Blk wt b (svC t) 42 := (HBX.block _ HBK.out.lt).trans HBK.out; obtain ⟨q0, q1, q2, k0, k1, k2⟩ := HCB.out _ HBX; clear hb hsv hsen))
    all_goals
      first | go_meet | (go_wp2_with fail; go_meet)
      case rel => exact ⟨rfl, t', putS_blk HBT, HSV.out.keptS HBT (putS_kept _ _ _), HSEN.out, (HBW.out.trans (HBX.mono HBW.out.size)).trans ((putS_below _ _ _).mono HB0.out), HB0.out⟩
  
  case rest =>
    obtain ⟨rfl, hcut⟩ := hcut
    clear HBK HSR HSE HBW HB0 HCB p0 p1 p2
    obtain ⟨t, hBK, hSR, hSE, hBW, hB0⟩ := hcut
    have HBK : Hid (Blk wc b (svC t) 42) := hBK
    have HSR : Hid (Srv wc t) := hSR
    have HSE : Hid (t.se = sv2) := hSE
    have HBW : Hid (Below w.heap.size w wc) := hBW
    have HB0 : Hid (w.heap.size ≤ b) := hB0
    clear hBK hSR hSE hBW hB0
    generalize wc = W at *
    have HCB : Hid (∀ w', Below W.heap.size W w' → w'.cell? ⟨b, 0, none⟩ = some (.slice t.fa t.fn t.fc) ∧ w'.cell? ⟨b, 1, none⟩ = some (.slice t.la t.ln t.lc) ∧ w'.cell? ⟨b, 2, none⟩ = some (.slice t.na t.nn t.nc) ∧ w'.frozen? ⟨b, 0, none⟩ = false ∧ w'.frozen? ⟨b, 1, none⟩ = false ∧ w'.frozen? ⟨b, 2, none⟩ = false) := fun w' hb => by
      have h : Blk w' b (svC t) 42 := (hb.block _ HBK.out.lt).trans HBK.out
      exact ⟨h.cell 0, h.cell 1, h.cell 2, h.frozen 0, h.frozen 1, h.frozen 2⟩
    obtain ⟨p0, p1, p2, -, -, -⟩ := HCB.out W (Below.refl _ _)
    go_upto_region 3 with fail
    go_cut [4] from 7 (fun f wx => f = .int .i64 0 ∧ ∃ t, Blk wx b (svC t) 42 ∧ Srv wx t ∧ t.se = sv3 ∧ Below w.heap.size w wx ∧ w.heap.size ≤ b)
    case first =>
      go_region_with (first | (go_at_call 84; refine (puts5_any 121 _).mono ?_; rintro e wp ⟨rfl, hop, hbp⟩; have HBP := drew_step hbp; have HOP : Hid (Ops wp (some ⟨W.heap.size + 1, 0, none⟩) 3 3 (o3V W.heap.size 121)) := (by rw [World.size_drew] at hop; exact hop); obtain ⟨s0, s1, s2, -, -, -⟩ := HCB.out _ HBP; clear hbp hop) | (go_at_call 18; refine (tk2 t HSE.out wp _ (HSR.out.below HBP) HOP.out (HSC.out _ (HBW.out.trans (HBP.mono HBW.out.size)))).mono ?_; rintro e wt ⟨⟨t', rfl, hsv, hsen⟩, hb⟩; have HBX : Below W.heap.size W wt := HBP.trans (hb.mono HBP.size); have HSV : Hid (Srv wt t') := hsv; have HSEN : Hid (t'.se = sv3) := hsen; have HBT : Blk wt b (svC t) 42 := (HBX.block _ HBK.out.lt).trans HBK.out; obtain ⟨q0, q1, q2, k0, k1, k2⟩ := HCB.out _ HBX; clear hb hsv hsen))
      all_goals
        first | go_meet | (go_wp2_with fail; go_meet)
        case rel => exact ⟨rfl, t', putS_blk HBT, HSV.out.keptS HBT (putS_kept _ _ _), HSEN.out, (HBW.out.trans (HBX.mono HBW.out.size)).trans ((putS_below _ _ _).mono HB0.out), HB0.out⟩
    case rest =>
      obtain ⟨rfl, hcut⟩ := hcut
      clear HBK HSR HSE HBW HB0 HCB p0 p1 p2
      obtain ⟨t, hBK, hSR, hSE, hBW, hB0⟩ := hcut
      have HBK : Hid (Blk wc b (svC t) 42) := hBK
      have HSR : Hid (Srv wc t) := hSR
      have HSE : Hid (t.se = sv3) := hSE
      have HBW : Hid (Below w.heap.size w wc) := hBW
      have HB0 : Hid (w.heap.size ≤ b) := hB0
      clear hBK hSR hSE hBW hB0
      generalize wc = W at *
      have HCB : Hid (∀ w', Below W.heap.size W w' → w'.cell? ⟨b, 0, none⟩ = some (.slice t.fa t.fn t.fc) ∧ w'.cell? ⟨b, 1, none⟩ = some (.slice t.la t.ln t.lc) ∧ w'.cell? ⟨b, 2, none⟩ = some (.slice t.na t.nn t.nc) ∧ w'.frozen? ⟨b, 0, none⟩ = false ∧ w'.frozen? ⟨b, 1, none⟩ = false ∧ w'.frozen? ⟨b, 2, none⟩ = false) := fun w' hb => by
        have h : Blk w' b (svC t) 42 := (hb.block _ HBK.out.lt).trans HBK.out
        exact ⟨h.cell 0, h.cell 1, h.cell 2, h.frozen 0, h.frozen 1, h.frozen 2⟩
      obtain ⟨p0, p1, p2, -, -, -⟩ := HCB.out W (Below.refl _ _)
      have hbW : b < W.heap.size := HBK.out.lt
      go_upto_region 4 with fail
      go_cut [5, 6] from 7 (fun _ f wx => f = .int .i64 6 ∧ Below W.heap.size W wx)
      case first =>
        go_region_with (first | (go_at_call 84; refine (puts7_any 122 _).mono ?_; rintro e wp ⟨rfl, hop, hbp⟩; have HBP : Below W.heap.size W wp := (by first | exact drew_step hbp | exact da_step hbp); (try (have HN1 : Blk wp W.heap.size (svC sv0) 42 := da_blk hbp)); (try simp only [World.size_alloc, World.size_drew] at hop); obtain ⟨s0, s1, s2, -, -, -⟩ := HCB.out _ HBP; have hbP : b < wp.heap.size := Nat.lt_of_lt_of_le hbW HBP.size; clear hbp) | (go_at_call 18; (first | (refine (tk3 t HSE.out _ _ (HSR.out.below HBP) hop (HSC.out _ (HBW.out.trans (HBP.mono HBW.out.size)))).mono ?_) | (refine (tk3 t HSE.out _ _ (HSR.out.below (HBP.alloc HBP.size _)) (hop.below (alB _ _)) (HSC.out _ (HBW.out.trans ((HBP.alloc HBP.size _).mono HBW.out.size)))).mono ?_)); rintro e wt ⟨⟨t', rfl, -, -⟩, hb⟩; have HBX : Below W.heap.size W wt := (by first | exact HBP.trans (hb.mono HBP.size) | exact (HBP.alloc HBP.size _).trans (hb.mono (HBP.alloc HBP.size _).size)); (try (have HN2 : Blk wt W.heap.size (svC sv0) 42 := (hb.block _ HN1.lt).trans HN1; have z0 : wt.cell? ⟨W.heap.size, 0, none⟩ = some (.slice none 0 0) := HN2.cell 0; have y0 := HN2.frozen 0; have z1 : wt.cell? ⟨W.heap.size, 1, none⟩ = some (.slice none 0 0) := HN2.cell 1; have y1 := HN2.frozen 1; have z2 : wt.cell? ⟨W.heap.size, 2, none⟩ = some (.slice none 0 0) := HN2.cell 2; have y2 := HN2.frozen 2)); (try (have HN2 : Blk wt wp.heap.size (svC sv0) 42 := nb_blk hb; have z0 : wt.cell? ⟨wp.heap.size, 0, none⟩ = some (.slice none 0 0) := HN2.cell 0; have y0 := HN2.frozen 0; have z1 : wt.cell? ⟨wp.heap.size, 1, none⟩ = some (.slice none 0 0) := HN2.cell 1; have y1 := HN2.frozen 1; have z2 : wt.cell? ⟨wp.heap.size, 2, none⟩ = some (.slice none 0 0) := HN2.cell 2; have y2 := HN2.frozen 2)); obtain ⟨q0, q1, q2, k0, k1, k2⟩ := HCB.out _ HBX; clear hb))
        all_goals
          first | go_meet | (go_wp2_with fail; go_meet)
          case rel => exact ⟨rfl, by repeat (first | exact HBX | refine Below.setCell ?_ (by first | exact Nat.le_refl _ | exact HBP.size | exact HBX.size) _ | refine Below.alloc ?_ (by first | exact HBX.size | exact HBP.size) _)⟩
      case rest =>
        obtain ⟨rfl, hcut⟩ := hcut
        clear HCB p0 p1 p2 hbW
        have HBK : Hid (Blk wc b (svC t) 42) := (hcut.block _ HBK.out.lt).trans HBK.out
        have HSR : Hid (Srv wc t) := HSR.out.below hcut
        have HBW : Hid (Below w.heap.size w wc) := HBW.out.trans (hcut.mono HBW.out.size)
        clear hcut
        generalize wc = W at *
        have e0 : t.log.map EV.en = sv3.log := congrArg Sv.Se.log HSE.out
        have e1 : t.now = sv3.now := congrArg Sv.Se.now HSE.out
        have hln : t.ln = 2 := by rw [← HSR.out.log.len, ← List.length_map (f := EV.en), e0]; exact k_4
        have hnn : t.nn = 7 := by rw [← HSR.out.now.len, e1]; exact k_5
        obtain ⟨nb, no, hna, hA⟩ := HSR.out.now.lies (by rw [hnn]; decide)
        have hnr := HSR.out.now.room
        have hng := HSR.out.now.big
        rw [hnn] at hnr
        have hat : ∀ j c, sv3.now[j]?.map (fun x => x.c) = some c → W.cell? ⟨nb, no + j * 3, none⟩ = some (.int .u8 c.toNat) := fun j c hj => by
          rw [← e1] at hj
          cases hh : t.now[j]? with
          | none => rw [hh] at hj; cases hj
          | some z =>
            rw [hh] at hj
            obtain ⟨h1, h2⟩ := List.getElem?_eq_some_iff.1 hh
            have := hA.c j h1
            rw [h2, show z.c = c from Option.some.inj hj] at this
            exact this
        have c1 : W.cell? ⟨nb, no + 3, none⟩ = some (.int .u8 120) := hat 1 120 k_6
        have c2 : W.cell? ⟨nb, no + 6, none⟩ = some (.int .u8 121) := hat 2 121 k_7
        have p0 : W.cell? ⟨b, 0, none⟩ = some (.slice t.fa t.fn t.fc) := HBK.out.cell 0
        have p1 : W.cell? ⟨b, 1, none⟩ = some (.slice t.la t.ln t.lc) := HBK.out.cell 1
        have p2 : W.cell? ⟨b, 2, none⟩ = some (.slice t.na t.nn t.nc) := HBK.out.cell 2
        have CH : Calls Tryz.prog 29 #[.agg #[.slice t.fa t.fn t.fc, .slice t.la t.ln t.lc, .slice t.na t.nn t.nc], .int .i64 2, .int .i64 1] W fun e w' => e = .returned (.bool true) ∧ Below W.heap.size W w' := by have := has_any t 2 1 W HSR.out; rw [HSE.out, k_8] at this; exact this
        rw [hln] at p1 CH
        rw [hnn, hna] at p2 CH
        clear hat e0 e1 hA hln hnn hna HSR HSE HBK
        go_wp2_with fail
        refine CH.mono ?_
        rintro e w9 ⟨rfl, hb⟩
        have H9 : Hid (Below w.heap.size w w9) := HBW.out.trans (hb.mono HBW.out.size)
        clear hb CH
        go_wp2
        go_ret
        exact ⟨rfl, H9.out⟩
end Go.Proofs.YtbhcklkbckacpaaGreatDoor
