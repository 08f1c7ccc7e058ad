/-
  Texts of this proof, one behind the other.
-/
import Derived.Test.YtbhcklkbckacpaaGreatDoorM8

/-
  Package ot: turned: two operations, each behind the other one.
-/
namespace Go.Proofs.YtbhcklkbckacpaaGreatDoor
open Go.RowKit

set_option maxRecDepth 100000 in
set_option maxHeartbeats 12800000 in
theorem turned_any (ao ao' : Option Addr) (n cap n' cap' : Nat) (vs vs' : List PV) (w : World) (hO : Ops w ao n cap vs) (hO' : Ops w ao' n' cap' vs') (hR : Ac.Right (vs.map PV.pt)) (hR' : Ac.Right (vs'.map PV.pt)) (hnd : Ac.nd (vs.map PV.pt) = Ac.nd (vs'.map PV.pt)) :
    Calls Tryz.prog 223 #[.agg #[.slice ao n cap, .int .i64 0, .slice ao' n' cap', .int .i64 0]] w fun e w' => (∃ a0 n0 c0 u0 a1 n1 c1 u1, e = .returned (.agg #[.slice a0 n0 c0, .slice a1 n1 c1]) ∧ Ops w' a0 n0 c0 u0 ∧ Ops w' a1 n1 c1 u1 ∧ Ac.turn (Ac.acts (vs.map PV.pt)) (Ac.acts (vs'.map PV.pt)) = (Ac.acts (u0.map PV.pt), Ac.acts (u1.map PV.pt)) ∧ (∀ v ∈ u0, Ac.err1 v.pt = 0) ∧ (∀ v ∈ u1, Ac.err1 v.pt = 0) ∧ u0.length ≤ 80 ∧ u1.length ≤ 80) ∧ Below w.heap.size w w' := by
  obtain ⟨i0, hi, hz0, hz1, hz2⟩ := info_parts Tryz.infP
  have HT0 : Hid (TurnW w (boxo (boxo (boxr ⟨ao, n, cap, vs, 0⟩ ⟨ao', n', cap', vs', 0⟩ w))) ⟨ao, n, cap, vs, 0⟩ ⟨ao', n', cap', vs', 0⟩ (.slice none 0 0) (.slice none 0 0) [] []) := TurnW.start _ _ w hO hO'
  have HI0 : Hid (Ac.TurnI (vs.map PV.pt) (vs'.map PV.pt) (vs.map PV.pt) 0 (vs'.map PV.pt) 0 [] []) := Ac.TurnI.start hR hR' hnd
  have HF : Hid ((vs.map PV.pt).length + (vs'.map PV.pt).length ≤ 80) := by have := hR.few; have := hR'.few; show _ ≤ _; omega
  obtain ⟨A, hA⟩ : ∃ A, vs.map PV.pt = A := ⟨_, rfl⟩
  obtain ⟨B, hB⟩ : ∃ B, vs'.map PV.pt = B := ⟨_, rfl⟩
  have HI1 : Hid (Ac.TurnI A B (vs.map PV.pt) 0 (vs'.map PV.pt) 0 [] []) := by have := HI0.out; rw [hA, hB] at this; show Ac.TurnI A B (vs.map PV.pt) 0 (vs'.map PV.pt) 0 [] []; rw [hA, hB]; exact this
  rw [hA, hB] at HF ⊢
  clear HI0
  clear hO hO' hR hR' hnd hA hB
  go_enter Tryz.func223, Tryz.ntmps223
  go_wp2_with fail
  go_loopw [9] (fun _ wr => ∃ r s x y ux uy, TurnW w wr r s x y ux uy ∧ Ac.TurnI A B (r.vs.map PV.pt) r.g (s.vs.map PV.pt) s.g (ux.map PV.pt) (uy.map PV.pt)) (fun _ wr => lenAt wr ⟨w.heap.size, 0, none⟩ + lenAt wr ⟨w.heap.size, 2, none⟩)
  case atStart => exact ⟨_, _, _, _, [], [], HT0.out, HI1.out⟩
  case round =>
    obtain ⟨r, s, x, y, ux, uy, hT, hI⟩ := hrel
    have HT : Hid (TurnW w wr r s x y ux uy) := hT
    have HI : Hid (Ac.TurnI A B (r.vs.map PV.pt) r.g (s.vs.map PV.pt) s.g (ux.map PV.pt) (uy.map PV.pt)) := hI
    clear hT hI HT0 HI1
    obtain ⟨rvs, hrv⟩ : ∃ rvs, r.vs = rvs := ⟨_, rfl⟩
    cases rvs with
    | nil =>
      have C1 : Hid (Calls Tryz.prog 257 #[.pointer (some ⟨w.heap.size, 0, none⟩)] wr fun e w' => e = .returned (.bool false) ∧ w' = wr) := isLeft_any w.heap.size r s wr false (by have := HT.out.hr.len; rw [hrv] at this; simp at this; simp; omega) HT.out.pb
      have HD : Hid (Ac.turn (Ac.acts A) (Ac.acts B) = (Ac.acts (ux.map PV.pt), Ac.acts (uy.map PV.pt))) := by have := HI.out; rw [hrv] at this; exact this.done
      have m0 : wr.cell? ⟨w.heap.size + 2, 0, none⟩ = some x := HT.out.mb.cell 0
      have m1 : wr.cell? ⟨w.heap.size + 2, 1, none⟩ = some y := HT.out.mb.cell 1
      have r0 : wr.cell? ⟨w.heap.size + 1, 0, none⟩ = some (.slice none 0 0) := HT.out.rb.cell 0
      have r1 : wr.cell? ⟨w.heap.size + 1, 1, none⟩ = some (.slice none 0 0) := HT.out.rb.cell 1
      have f0 := HT.out.rb.frozen 0
      have f1 := HT.out.rb.frozen 1
      obtain ⟨k1, ⟨xa, xl, xc, hx, hxo⟩, ⟨ya, yl, yc, hy, hyo⟩, k4⟩ := HT.out.ret
      have K1 : Hid _ := k1
      have K4 : Hid _ := k4
      have HXO : Hid (Ops (set2 wr (w.heap.size + 1) x y) xa xl xc ux) := hxo
      have HYO : Hid (Ops (set2 wr (w.heap.size + 1) x y) ya yl yc uy) := hyo
      clear hrv hxo hyo k1 k4
      subst hx hy
      go_wp2_with fail
      refine C1.out.mono ?_
      rintro e w1 ⟨rfl, hw⟩
      obtain rfl := hw.symm
      go_wp2
      change bodyPost Tryz.prog _ _ Exit.ret _ (set2 wr (w.heap.size + 1) (.slice xa xl xc) (.slice ya yl yc))
      have hl1 := HI.out.lx
      have hl2 := HI.out.ly
      have hf := HF.out
      rw [List.length_map] at hl1 hl2
      exact bodyPost_ret (ret_oo rfl _ rfl K1.out) rfl ⟨⟨_, _, _, ux, _, _, _, uy, rfl, HXO.out, HYO.out, HD.out, fun v hv => HI.out.okx _ (List.mem_map.2 ⟨v, hv, rfl⟩), fun v hv => HI.out.oky _ (List.mem_map.2 ⟨v, hv, rfl⟩), by omega, by omega⟩, K4.out⟩
    | cons v t =>
      obtain ⟨v', t', hsv⟩ : ∃ v' t', s.vs = v' :: t' := by
        cases hs : s.vs with
        | nil =>
          have := HI.out.left.2 (by rw [hs]; rfl)
          rw [hrv] at this
          cases this
        | cons v' t' => exact ⟨v', t', rfl⟩
      have HO1 : Hid (Ops w r.ao r.n r.cap (v :: t)) := by have := HT.out.hr; rw [hrv] at this; exact this
      have HO2 : Hid (Ops w s.ao s.n s.cap (v' :: t')) := by have := HT.out.hs; rw [hsv] at this; exact this
      have HI1 : Hid (Ac.TurnI A B (v.pt :: t.map PV.pt) r.g (v'.pt :: t'.map PV.pt) s.g (ux.map PV.pt) (uy.map PV.pt)) := by have := HI.out; rw [hrv, hsv] at this; exact this
      have C1 : Hid (Calls Tryz.prog 257 #[.pointer (some ⟨w.heap.size, 0, none⟩)] wr fun e w' => e = .returned (.bool true) ∧ w' = wr) := isLeft_any w.heap.size r s wr true (by have := HT.out.hr.len; rw [hrv] at this; simp at this; simp; omega) HT.out.pb
      have EV : Hid (Ac.err1 v.pt = 0) := HI1.out.rp.ok _ (List.mem_cons_self ..)
      have EW : Hid (Ac.err1 v'.pt = 0) := HI1.out.rq.ok _ (List.mem_cons_self ..)
      have E1 : Hid (lgV v = (Ac.lg v.pt : Int)) := lg_lgV (HO1.out.pts v (List.mem_cons_self ..)) EV.out
      have E2 : Hid (lgV v' = (Ac.lg v'.pt : Int)) := lg_lgV (HO2.out.pts v' (List.mem_cons_self ..)) EW.out
      have hl1 : (r.g : Int) < lgV v ∧ lgV v ≤ 80 := by have h1 := HI1.out.rp.lt _ _ rfl; have h2 := (Ac.lg_bd EV.out).2; rw [E1.out]; omega
      have hl2 : (s.g : Int) < lgV v' ∧ lgV v' ≤ 80 := by have h1 := HI1.out.rq.lt _ _ rfl; have h2 := (Ac.lg_bd EW.out).2; rw [E2.out]; omega
      by_cases kv : v.kind = 2
      · obtain ⟨q, hq⟩ : ∃ q : Nat, lgV v - r.g = q := ⟨(lgV v - r.g).toNat, by omega⟩
        have hq1 : 1 ≤ q := by omega
        have hqe : lgV v = ((r.g + q : Nat) : Int) := by omega
        have C2 : Hid (Calls Tryz.prog 258 #[.pointer (some ⟨w.heap.size, 0, none⟩)] wr fun e w' => e = .returned (.tuple #[.int .i64 0, .bool true]) ∧ w' = wr) := putting_a w.heap.size r s wr HT.out.pb (HT.out.hr.below HT.out.blw) (HT.out.hs.below HT.out.blw) (by rw [hrv]; simp [atK, kv])
        have C3 : Hid (Calls Tryz.prog 259 #[.pointer (some ⟨w.heap.size, 0, none⟩)] wr fun e w' => e = .returned (.agg #[.int .i64 (pieceV v r.g q).kind, .int .i64 (pieceV v r.g q).n, .slice (pieceV v r.g q).ao (pieceV v r.g q).m (pieceV v r.g q).cap, .int .i64 (pieceV v r.g q).set, .int .i64 (pieceV v r.g q).clr, .bool (pieceV v r.g q).goes, .string (pieceV v r.g q).link]) ∧ Blk w' w.heap.size (prC (r.next v t q) s) 272 ∧ Kept wr w' [w.heap.size]) := takePart0_any w.heap.size r s v t q wr HT.out.pb (HO1.out.below HT.out.blw) (HO1.out.off (Nat.le_refl _)) hq1 hqe (by omega)
        have HPU : Hid (Pvt w (pieceV v r.g q)) := (HO1.out.pts v (List.mem_cons_self ..)).piece hq1 (fun k => by have h := hqe; unfold lgV at h; rw [if_pos k] at h; omega)
        have HMQ : Hid ((pieceV v r.g q).m = q) := by show _ = _; unfold pieceV; rw [if_pos kv]
        have HNO : Hid (Ops w (r.next v t q).ao (r.next v t q).n (r.next v t q).cap (r.next v t q).vs) := RV.next_ok HO1.out q
        have HIN : Hid (Ac.TurnI A B ((r.next v t q).vs.map PV.pt) (r.next v t q).g (s.vs.map PV.pt) s.g ((ux ++ [pieceV v r.g q]).map PV.pt) ((uy ++ [(⟨1, q, none, 0, 0, [], 0, 0, false, ⟨#[]⟩⟩ : PV)]).map PV.pt)) := by
          have h := HI1.out.putA kv
          have hE : r.g + q = Ac.lg v.pt := by have := E1.out; omega
          have hqq : Ac.lg v.pt - r.g = q := by omega
          rw [hqq] at h
          have hn := next_pt (r := r) (t := t) (HO1.out.pts v (List.mem_cons_self ..)) EV.out q
          show Ac.TurnI _ _ _ _ _ _ _ _
          rw [hn.1, hn.2, Ac.nxtP_end hE, Ac.nxtG_end hE, hsv]
          simp only [List.map_append, List.map_cons, List.map_nil, pieceV_pt]
          exact h
        have hml : ux.length ≤ 80 ∧ uy.length ≤ 80 := by have h1 := HI.out.lx; have h2 := HI.out.ly; have h3 := HF.out; rw [List.length_map] at h1 h2; exact ⟨by omega, by omega⟩
        have HLES : Hid ((r.next v t q).vs.length < r.vs.length) := by
          have hE : ((r.g + q : Nat) : Int) = lgV v := hqe.symm
          show _ < _
          unfold RV.next
          rw [if_pos hE, hrv]
          simp
        clear hqe hq1 E1 E2 EV EW HI1 hrv hsv kv hl1
        generalize pieceV v r.g q = u at *
        generalize r.next v t q = nx at *
        go_wp2_with fail
        refine C1.out.mono ?_
        rintro e w1 ⟨rfl, hw⟩
        obtain rfl := hw.symm
        go_wp2_with fail
        refine C2.out.mono ?_
        rintro e w1 ⟨rfl, hw⟩
        obtain rfl := hw.symm
        go_wp2_with fail
        refine C3.out.mono ?_
        rintro e w2 ⟨rfl, hb2, hk2⟩
        have HT2 : Hid (TurnW w w2 nx s x y ux uy) := HT.out.pair hk2 hb2 HNO.out HT.out.hs
        have HT3 : Hid (TurnW w (boxp u w2) nx s x y ux uy) := HT2.out.under (boxp_below u w2)
        have HPB : Hid (Blk (boxp u w2) w2.heap.size (pvC u) 162) := boxp_blk u w2
        clear hb2 hk2 C1 C2 C3
        go_upto_region 6 with fail
        change Code.wp Tryz.prog _ _ _ (boxp u w2)
        generalize boxp u w2 = W3 at *
        have p0 : W3.cell? ⟨w2.heap.size, 0, none⟩ = some (.int .i64 u.kind) := HPB.out.cell 0
        have p1 : W3.cell? ⟨w2.heap.size, 1, none⟩ = some (.int .i64 u.n) := HPB.out.cell 1
        have p2 : W3.cell? ⟨w2.heap.size, 2, none⟩ = some (.slice u.ao u.m u.cap) := HPB.out.cell 2
        have p3 : W3.cell? ⟨w2.heap.size, 3, none⟩ = some (.int .i64 u.set) := HPB.out.cell 3
        have p4 : W3.cell? ⟨w2.heap.size, 4, none⟩ = some (.int .i64 u.clr) := HPB.out.cell 4
        have p5 : W3.cell? ⟨w2.heap.size, 5, none⟩ = some (.bool u.goes) := HPB.out.cell 5
        have p6 : W3.cell? ⟨w2.heap.size, 6, none⟩ = some (.string u.link) := HPB.out.cell 6
        have m0 : W3.cell? ⟨w.heap.size + 2, 0, none⟩ = some x := HT3.out.mb.cell 0
        have m1 : W3.cell? ⟨w.heap.size + 2, 1, none⟩ = some y := HT3.out.mb.cell 1
        have m2 : W3.cell? ⟨w.heap.size + 1 + 1, 0, none⟩ = some x := HT3.out.mb.cell 0
        have m3 : W3.cell? ⟨w.heap.size + 1 + 1, 1, none⟩ = some y := HT3.out.mb.cell 1
        obtain ⟨xl, hxl⟩ : ∃ xl, ux.length = xl := ⟨_, rfl⟩
        obtain ⟨yl, hyl⟩ : ∃ yl, uy.length = yl := ⟨_, rfl⟩
        rw [hxl, hyl] at hml
        obtain ⟨hml1, hml2⟩ := hml
        have HXL : Hid (ux.length = xl) := hxl
        have HYL : Hid (uy.length = yl) := hyl
        clear hxl hyl
        have HOX : Hid (W3.ownsRow (w.heap.size + 3) 162 7 x xl (pvCells ux)) := by have := HT3.out.mx; rw [HXL.out] at this; exact this
        have hsz : w.heap.size + 3 ≤ W3.heap.size := HT3.out.mb.lt
        have hsy : w.heap.size + 1 + 1 < W3.heap.size := HT3.out.mb.lt
        have hps : w2.heap.size < W3.heap.size := HPB.out.lt
        go_region_law (first | (refine step_append_lies _ rfl (.tmp 21) (.tmp 23) 44 rfl (w.heap.size + 3) 162 i0 (.agg #[.int .i64 0, .int .i64 0, .slice none 0 0, .int .i64 0, .int .i64 0, .bool false, .string ⟨#[]⟩]) 7 80 Tryz.underlying44 hi hz0 hz1 hz2 rfl (by decide) x xl (pvCells ux) rfl (HOX.out.drew.alloc _) ⟨W3.heap.size, 0, none⟩ 1 1 (pvC u) rfl rfl (World.news_of_block (cs := (pvC u).toArray) (heap_alloc_new W3.drew _)) (by rw [← pvCells_one]; exact pvCells_oneCell _) (by decide) (by unfold maxLen; omega) (by omega) (by simp; omega) _ rfl ?_; intro g cap2 w4 hown hgrow hat hlt; obtain ⟨-, hB4⟩ := HT3.out.midX ((Below.refl _ _).drew.alloc (Nat.le_refl _) _) hgrow; have n0 : w4.cell? ⟨w.heap.size + 1 + 1, 0, none⟩ = some x := hB4.cell 0; have z0 : w4.frozen? ⟨w.heap.size + 1 + 1, 0, none⟩ = false := hB4.frozen 0; clear hB4))
        all_goals
          have hal3 : Below W3.heap.size W3 (W3.drew.alloc (.cells #[.int .i64 u.kind, .int .i64 u.n, .slice u.ao u.m u.cap, .int .i64 u.set, .int .i64 u.clr, .bool u.goes, .string u.link] 162)) := (Below.refl _ _).drew.alloc (Nat.le_refl _) _
          have HT5 := HT3.out.pushX (us := [u]) hal3 (fun z hz => by rw [List.mem_singleton.1 hz]; exact HPU.out) (by rw [List.length_append, HXL.out]) (by rw [pvCells_one]; exact hown) hgrow hat
          have HPB5 : Blk (w4.setCell ⟨w.heap.size + 2, 0, none⟩ (.slice (some ⟨g, 0, none⟩) (xl + 1) cap2)) w2.heap.size (pvC u) 162 := (((HT3.out.midX hal3 hgrow).1).blk HPB.out (fun hx => by have := (HT2.out.mx.lt _ (ob_mem hx)).2; omega)).other _ _ (by have := HT2.out.mb.lt; simp; omega)
          clear hal3 hown hgrow hat hlt n0 z0
          change Exit.then _ _ Exit.normal _ (w4.setCell ⟨w.heap.size + 2, 0, none⟩ (.slice (some ⟨g, 0, none⟩) (xl + 1) cap2))
          generalize w4.setCell ⟨w.heap.size + 2, 0, none⟩ (.slice (some ⟨g, 0, none⟩) (xl + 1) cap2) = W5 at *
          have HT5 : Hid _ := HT5
          have HPB5 : Hid (Blk W5 w2.heap.size (pvC u) 162) := HPB5
          have n1 : W5.cell? ⟨w.heap.size + 1 + 1, 1, none⟩ = some y := HT5.out.mb.cell 1
          have p2' : W5.cell? ⟨w2.heap.size, 2, none⟩ = some (.slice u.ao u.m u.cap) := HPB5.out.cell 2
          have hps5 : w2.heap.size < W5.heap.size := HPB5.out.lt
          have hsz5 : w.heap.size + 3 ≤ W5.heap.size := HT5.out.mb.lt
          have hsy5 : w.heap.size + 1 + 1 < W5.heap.size := HT5.out.mb.lt
          have HOY : Hid (W5.ownsRow (w.heap.size + 3) 162 7 y yl (pvCells uy)) := by have := HT5.out.my; rw [HYL.out] at this; exact this
          have hwi : IntKind.i64.wrap 1 = 1 := by decide
          have hwi0 : IntKind.i64.wrap 0 = 0 := by decide
          clear p0 p1 p2 p3 p4 p5 p6 m0 m1 m2 m3
          go_wp2_with fail
          go_region_law (first | (refine step_append_lies _ rfl (.tmp 31) (.tmp 36) 44 rfl (w.heap.size + 3) 162 i0 (.agg #[.int .i64 0, .int .i64 0, .slice none 0 0, .int .i64 0, .int .i64 0, .bool false, .string ⟨#[]⟩]) 7 80 Tryz.underlying44 hi hz0 hz1 hz2 rfl (by decide) y yl (pvCells uy) rfl (HOY.out.drew.alloc _) ⟨W5.heap.size, 0, none⟩ 1 1 (pvC ⟨1, (u.m : Int), none, 0, 0, [], 0, 0, false, ⟨#[]⟩⟩) rfl rfl (World.news_of_block (cs := (pvC ⟨1, (u.m : Int), none, 0, 0, [], 0, 0, false, ⟨#[]⟩⟩).toArray) (heap_alloc_new W5.drew _)) (by rw [← pvCells_one]; exact pvCells_oneCell _) (by decide) (by unfold maxLen; omega) (by omega) (by simp; omega) _ rfl ?_; intro g6 cap6 w6 hown6 hgrow6 hat6 hlt6; obtain ⟨-, hB6⟩ := HT5.out.midY ((Below.refl _ _).drew.alloc (Nat.le_refl _) _) hgrow6; have n3 : w6.cell? ⟨w.heap.size + 1 + 1, 1, none⟩ = some y := hB6.cell 1; have z3 : w6.frozen? ⟨w.heap.size + 1 + 1, 1, none⟩ = false := hB6.frozen 1; clear hB6))
          all_goals
            have hal6 : Below W5.heap.size W5 (W5.drew.alloc (.cells #[.int .i64 1, .int .i64 u.m, .slice none 0 0, .int .i64 0, .int .i64 0, .bool false, .string ⟨#[]⟩] 162)) := (Below.refl _ _).drew.alloc (Nat.le_refl _) _
            have HT7 := HT5.out.pushY (us := [⟨1, (u.m : Int), none, 0, 0, [], 0, 0, false, ⟨#[]⟩⟩]) hal6 (fun z hz => by rw [List.mem_singleton.1 hz]; exact ⟨doc_none w, Nat.zero_le _⟩) (by rw [List.length_append, HYL.out]) (by rw [pvCells_one]; exact hown6) hgrow6 hat6
            clear hal6 hown6 hgrow6 hat6 hlt6 n3 z3
            change Exit.then _ _ Exit.normal _ (w6.setCell ⟨w.heap.size + 2, 1, none⟩ (.slice (some ⟨g6, 0, none⟩) (yl + 1) cap6))
            generalize w6.setCell ⟨w.heap.size + 2, 1, none⟩ (.slice (some ⟨g6, 0, none⟩) (yl + 1) cap6) = W7 at *
            have HT7 : Hid _ := HT7
            clear n1 p2'
            go_wp2
            go_roundw
            case rel => exact ⟨_, _, _, _, _, _, HT7.out, by rw [HMQ.out]; exact HIN.out⟩
            case measure => have h1 := HT.out.left; have h2 := HT7.out.left; have h3 := HLES.out; omega
      · by_cases kw : v'.kind = 2
        · obtain ⟨q, hq⟩ : ∃ q : Nat, lgV v' - s.g = q := ⟨(lgV v' - s.g).toNat, by omega⟩
          have hq1 : 1 ≤ q := by omega
          have hqe : lgV v' = ((s.g + q : Nat) : Int) := by omega
          have C2 : Hid (Calls Tryz.prog 258 #[.pointer (some ⟨w.heap.size, 0, none⟩)] wr fun e w' => e = .returned (.tuple #[.int .i64 1, .bool true]) ∧ w' = wr) := putting_b w.heap.size r s wr HT.out.pb (HT.out.hr.below HT.out.blw) (HT.out.hs.below HT.out.blw) (by rw [hrv]; simp [atK, kv]) (by rw [hsv]; simp [atK, kw])
          have C3 : Hid (Calls Tryz.prog 259 #[.pointer (some ⟨w.heap.size, 2, none⟩)] wr fun e w' => e = .returned (.agg #[.int .i64 (pieceV v' s.g q).kind, .int .i64 (pieceV v' s.g q).n, .slice (pieceV v' s.g q).ao (pieceV v' s.g q).m (pieceV v' s.g q).cap, .int .i64 (pieceV v' s.g q).set, .int .i64 (pieceV v' s.g q).clr, .bool (pieceV v' s.g q).goes, .string (pieceV v' s.g q).link]) ∧ Blk w' w.heap.size (prC r (s.next v' t' q)) 272 ∧ Kept wr w' [w.heap.size]) := takePart2_any w.heap.size r s v' t' q wr HT.out.pb (HO2.out.below HT.out.blw) (HO2.out.off (Nat.le_refl _)) hq1 hqe (by omega)
          have HPU : Hid (Pvt w (pieceV v' s.g q)) := (HO2.out.pts v' (List.mem_cons_self ..)).piece hq1 (fun k => by have h := hqe; unfold lgV at h; rw [if_pos k] at h; omega)
          have HMQ : Hid ((pieceV v' s.g q).m = q) := by show _ = _; unfold pieceV; rw [if_pos kw]
          have HNO : Hid (Ops w (s.next v' t' q).ao (s.next v' t' q).n (s.next v' t' q).cap (s.next v' t' q).vs) := RV.next_ok HO2.out q
          have HIN : Hid (Ac.TurnI A B (r.vs.map PV.pt) r.g ((s.next v' t' q).vs.map PV.pt) (s.next v' t' q).g ((ux ++ [(⟨1, q, none, 0, 0, [], 0, 0, false, ⟨#[]⟩⟩ : PV)]).map PV.pt) ((uy ++ [pieceV v' s.g q]).map PV.pt)) := by
            have h := HI1.out.putB kv kw
            have hE : s.g + q = Ac.lg v'.pt := by have := E2.out; omega
            have hqq : Ac.lg v'.pt - s.g = q := by omega
            rw [hqq] at h
            have hn := next_pt (r := s) (t := t') (HO2.out.pts v' (List.mem_cons_self ..)) EW.out q
            show Ac.TurnI _ _ _ _ _ _ _ _
            rw [hn.1, hn.2, Ac.nxtP_end hE, Ac.nxtG_end hE, hrv]
            simp only [List.map_append, List.map_cons, List.map_nil, pieceV_pt]
            exact h
          have hml : ux.length ≤ 80 ∧ uy.length ≤ 80 := by have h1 := HI.out.lx; have h2 := HI.out.ly; have h3 := HF.out; rw [List.length_map] at h1 h2; exact ⟨by omega, by omega⟩
          have HLES : Hid ((s.next v' t' q).vs.length < s.vs.length) := by
            have hE : ((s.g + q : Nat) : Int) = lgV v' := hqe.symm
            show _ < _
            unfold RV.next
            rw [if_pos hE, hsv]
            simp
          clear hqe hq1 E1 E2 EV EW HI1 hrv hsv kv kw hl1 hl2
          generalize pieceV v' s.g q = u at *
          generalize s.next v' t' q = nx at *
          go_wp2_with fail
          refine C1.out.mono ?_
          rintro e w1 ⟨rfl, hw⟩
          obtain rfl := hw.symm
          go_wp2_with fail
          refine C2.out.mono ?_
          rintro e w1 ⟨rfl, hw⟩
          obtain rfl := hw.symm
          go_wp2_with fail
          refine C3.out.mono ?_
          rintro e w2 ⟨rfl, hb2, hk2⟩
          have HT2 : Hid (TurnW w w2 r nx x y ux uy) := HT.out.pair hk2 hb2 HT.out.hr HNO.out
          have HT3 : Hid (TurnW w (boxp u w2) r nx x y ux uy) := HT2.out.under (boxp_below u w2)
          have HPB : Hid (Blk (boxp u w2) w2.heap.size (pvC u) 162) := boxp_blk u w2
          clear hb2 hk2 C1 C2 C3
          go_upto_region 6 with fail
          change Code.wp Tryz.prog _ _ _ (boxp u w2)
          generalize boxp u w2 = W3 at *
          have p0 : W3.cell? ⟨w2.heap.size, 0, none⟩ = some (.int .i64 u.kind) := HPB.out.cell 0
          have p1 : W3.cell? ⟨w2.heap.size, 1, none⟩ = some (.int .i64 u.n) := HPB.out.cell 1
          have p2 : W3.cell? ⟨w2.heap.size, 2, none⟩ = some (.slice u.ao u.m u.cap) := HPB.out.cell 2
          have p3 : W3.cell? ⟨w2.heap.size, 3, none⟩ = some (.int .i64 u.set) := HPB.out.cell 3
          have p4 : W3.cell? ⟨w2.heap.size, 4, none⟩ = some (.int .i64 u.clr) := HPB.out.cell 4
          have p5 : W3.cell? ⟨w2.heap.size, 5, none⟩ = some (.bool u.goes) := HPB.out.cell 5
          have p6 : W3.cell? ⟨w2.heap.size, 6, none⟩ = some (.string u.link) := HPB.out.cell 6
          have m0 : W3.cell? ⟨w.heap.size + 2, 1, none⟩ = some y := HT3.out.mb.cell 1
          have m1 : W3.cell? ⟨w.heap.size + 2, 0, none⟩ = some x := HT3.out.mb.cell 0
          have m2 : W3.cell? ⟨w.heap.size + 1 + 1, 1, none⟩ = some y := HT3.out.mb.cell 1
          have m3 : W3.cell? ⟨w.heap.size + 1 + 1, 0, none⟩ = some x := HT3.out.mb.cell 0
          obtain ⟨yl, hyl⟩ : ∃ yl, uy.length = yl := ⟨_, rfl⟩
          obtain ⟨xl, hxl⟩ : ∃ xl, ux.length = xl := ⟨_, rfl⟩
          rw [hyl, hxl] at hml
          obtain ⟨hml1, hml2⟩ := hml
          have HYL : Hid (uy.length = yl) := hyl
          have HXL : Hid (ux.length = xl) := hxl
          clear hyl hxl
          have HOY : Hid (W3.ownsRow (w.heap.size + 3) 162 7 y yl (pvCells uy)) := by have := HT3.out.my; rw [HYL.out] at this; exact this
          have hsz : w.heap.size + 3 ≤ W3.heap.size := HT3.out.mb.lt
          have hsy : w.heap.size + 1 + 1 < W3.heap.size := HT3.out.mb.lt
          have hps : w2.heap.size < W3.heap.size := HPB.out.lt
          go_region_law (first | (refine step_append_lies _ rfl (.tmp 21) (.tmp 23) 44 rfl (w.heap.size + 3) 162 i0 (.agg #[.int .i64 0, .int .i64 0, .slice none 0 0, .int .i64 0, .int .i64 0, .bool false, .string ⟨#[]⟩]) 7 80 Tryz.underlying44 hi hz0 hz1 hz2 rfl (by decide) y yl (pvCells uy) rfl (HOY.out.drew.alloc _) ⟨W3.heap.size, 0, none⟩ 1 1 (pvC u) rfl rfl (World.news_of_block (cs := (pvC u).toArray) (heap_alloc_new W3.drew _)) (by rw [← pvCells_one]; exact pvCells_oneCell _) (by decide) (by unfold maxLen; omega) (by omega) (by simp; omega) _ rfl ?_; intro g cap2 w4 hown hgrow hat hlt; obtain ⟨-, hB4⟩ := HT3.out.midY ((Below.refl _ _).drew.alloc (Nat.le_refl _) _) hgrow; have n0 : w4.cell? ⟨w.heap.size + 1 + 1, 1, none⟩ = some y := hB4.cell 1; have z0 : w4.frozen? ⟨w.heap.size + 1 + 1, 1, none⟩ = false := hB4.frozen 1; clear hB4))
          all_goals
            have hal3 : Below W3.heap.size W3 (W3.drew.alloc (.cells #[.int .i64 u.kind, .int .i64 u.n, .slice u.ao u.m u.cap, .int .i64 u.set, .int .i64 u.clr, .bool u.goes, .string u.link] 162)) := (Below.refl _ _).drew.alloc (Nat.le_refl _) _
            have HT5 := HT3.out.pushY (us := [u]) hal3 (fun z hz => by rw [List.mem_singleton.1 hz]; exact HPU.out) (by rw [List.length_append, HYL.out]) (by rw [pvCells_one]; exact hown) hgrow hat
            have HPB5 : Blk (w4.setCell ⟨w.heap.size + 2, 1, none⟩ (.slice (some ⟨g, 0, none⟩) (yl + 1) cap2)) w2.heap.size (pvC u) 162 := (((HT3.out.midY hal3 hgrow).1).blk HPB.out (fun hx => by have := (HT2.out.my.lt _ (ob_mem hx)).2; omega)).other _ _ (by have := HT2.out.mb.lt; simp; omega)
            clear hal3 hown hgrow hat hlt n0 z0
            change Exit.then _ _ Exit.normal _ (w4.setCell ⟨w.heap.size + 2, 1, none⟩ (.slice (some ⟨g, 0, none⟩) (yl + 1) cap2))
            generalize w4.setCell ⟨w.heap.size + 2, 1, none⟩ (.slice (some ⟨g, 0, none⟩) (yl + 1) cap2) = W5 at *
            have HT5 : Hid _ := HT5
            have HPB5 : Hid (Blk W5 w2.heap.size (pvC u) 162) := HPB5
            have n1 : W5.cell? ⟨w.heap.size + 1 + 1, 0, none⟩ = some x := HT5.out.mb.cell 0
            have p2' : W5.cell? ⟨w2.heap.size, 2, none⟩ = some (.slice u.ao u.m u.cap) := HPB5.out.cell 2
            have hps5 : w2.heap.size < W5.heap.size := HPB5.out.lt
            have hsz5 : w.heap.size + 3 ≤ W5.heap.size := HT5.out.mb.lt
            have hsy5 : w.heap.size + 1 + 1 < W5.heap.size := HT5.out.mb.lt
            have HOX : Hid (W5.ownsRow (w.heap.size + 3) 162 7 x xl (pvCells ux)) := by have := HT5.out.mx; rw [HXL.out] at this; exact this
            have hwi : IntKind.i64.wrap 1 = 1 := by decide
            have hwi0 : IntKind.i64.wrap 0 = 0 := by decide
            clear p0 p1 p2 p3 p4 p5 p6 m0 m1 m2 m3
            go_wp2_with fail
            go_region_law (first | (refine step_append_lies _ rfl (.tmp 31) (.tmp 36) 44 rfl (w.heap.size + 3) 162 i0 (.agg #[.int .i64 0, .int .i64 0, .slice none 0 0, .int .i64 0, .int .i64 0, .bool false, .string ⟨#[]⟩]) 7 80 Tryz.underlying44 hi hz0 hz1 hz2 rfl (by decide) x xl (pvCells ux) rfl (HOX.out.drew.alloc _) ⟨W5.heap.size, 0, none⟩ 1 1 (pvC ⟨1, (u.m : Int), none, 0, 0, [], 0, 0, false, ⟨#[]⟩⟩) rfl rfl (World.news_of_block (cs := (pvC ⟨1, (u.m : Int), none, 0, 0, [], 0, 0, false, ⟨#[]⟩⟩).toArray) (heap_alloc_new W5.drew _)) (by rw [← pvCells_one]; exact pvCells_oneCell _) (by decide) (by unfold maxLen; omega) (by omega) (by simp; omega) _ rfl ?_; intro g6 cap6 w6 hown6 hgrow6 hat6 hlt6; obtain ⟨-, hB6⟩ := HT5.out.midX ((Below.refl _ _).drew.alloc (Nat.le_refl _) _) hgrow6; have n3 : w6.cell? ⟨w.heap.size + 1 + 1, 0, none⟩ = some x := hB6.cell 0; have z3 : w6.frozen? ⟨w.heap.size + 1 + 1, 0, none⟩ = false := hB6.frozen 0; clear hB6))
            all_goals
              have hal6 : Below W5.heap.size W5 (W5.drew.alloc (.cells #[.int .i64 1, .int .i64 u.m, .slice none 0 0, .int .i64 0, .int .i64 0, .bool false, .string ⟨#[]⟩] 162)) := (Below.refl _ _).drew.alloc (Nat.le_refl _) _
              have HT7 := HT5.out.pushX (us := [⟨1, (u.m : Int), none, 0, 0, [], 0, 0, false, ⟨#[]⟩⟩]) hal6 (fun z hz => by rw [List.mem_singleton.1 hz]; exact ⟨doc_none w, Nat.zero_le _⟩) (by rw [List.length_append, HXL.out]) (by rw [pvCells_one]; exact hown6) hgrow6 hat6
              clear hal6 hown6 hgrow6 hat6 hlt6 n3 z3
              change Exit.then _ _ Exit.normal _ (w6.setCell ⟨w.heap.size + 2, 0, none⟩ (.slice (some ⟨g6, 0, none⟩) (xl + 1) cap6))
              generalize w6.setCell ⟨w.heap.size + 2, 0, none⟩ (.slice (some ⟨g6, 0, none⟩) (xl + 1) cap6) = W7 at *
              have HT7 : Hid _ := HT7
              clear n1 p2'
              go_wp2
              go_roundw
              case rel => exact ⟨_, _, _, _, _, _, HT7.out, by rw [HMQ.out]; exact HIN.out⟩
              case measure => have h1 := HT.out.left; have h2 := HT7.out.left; have h3 := HLES.out; omega
        · obtain ⟨q, hmin⟩ : ∃ q : Nat, min (lgV v - r.g) (lgV v' - s.g) = q := ⟨(min (lgV v - r.g) (lgV v' - s.g)).toNat, by omega⟩
          have hq1 : 1 ≤ q := by omega
          have hqa : ((r.g + q : Nat) : Int) ≤ lgV v := by omega
          have hqb : ((s.g + q : Nat) : Int) ≤ lgV v' := by omega
          have C2 : Hid (Calls Tryz.prog 258 #[.pointer (some ⟨w.heap.size, 0, none⟩)] wr fun e w' => e = .returned (.tuple #[.int .i64 0, .bool false]) ∧ w' = wr) := putting_c w.heap.size r s wr HT.out.pb (HT.out.hr.below HT.out.blw) (HT.out.hs.below HT.out.blw) (by rw [hrv]; simp [atK, kv]) (by rw [hsv]; simp [atK, kw])
          have C3 : Hid (Calls Tryz.prog 261 #[.pointer (some ⟨w.heap.size, 0, none⟩)] wr fun e w' => e = .returned (.agg #[.int .i64 (pieceV v r.g q).kind, .int .i64 (pieceV v r.g q).n, .slice (pieceV v r.g q).ao (pieceV v r.g q).m (pieceV v r.g q).cap, .int .i64 (pieceV v r.g q).set, .int .i64 (pieceV v r.g q).clr, .bool (pieceV v r.g q).goes, .string (pieceV v r.g q).link, .int .i64 (pieceV v' s.g q).kind, .int .i64 (pieceV v' s.g q).n, .slice (pieceV v' s.g q).ao (pieceV v' s.g q).m (pieceV v' s.g q).cap, .int .i64 (pieceV v' s.g q).set, .int .i64 (pieceV v' s.g q).clr, .bool (pieceV v' s.g q).goes, .string (pieceV v' s.g q).link]) ∧ Blk w' w.heap.size (prC (r.next v t q) (s.next v' t' q)) 272 ∧ Kept wr w' [w.heap.size]) := takeBoth_any w.heap.size r s v t v' t' q w wr HT.out.blw (Nat.le_refl _) HT.out.pb HO1.out HO2.out hq1 hqa hqb (by omega) (by omega) hmin
          have HPU : Hid (Pvt w (pieceV v r.g q)) := (HO1.out.pts v (List.mem_cons_self ..)).piece hq1 (fun k => absurd k kv)
          have HPW : Hid (Pvt w (pieceV v' s.g q)) := (HO2.out.pts v' (List.mem_cons_self ..)).piece hq1 (fun k => absurd k kw)
          have hn1 := next_pt (r := r) (t := t) (HO1.out.pts v (List.mem_cons_self ..)) EV.out q
          have hn2 := next_pt (r := s) (t := t') (HO2.out.pts v' (List.mem_cons_self ..)) EW.out q
          have hqn : q = min (Ac.lg v.pt - r.g) (Ac.lg v'.pt - s.g) := by have h1 := E1.out; have h2 := E2.out; omega
          have HIN : Hid (Ac.TurnI A B ((r.next v t q).vs.map PV.pt) (r.next v t q).g ((s.next v' t' q).vs.map PV.pt) (s.next v' t' q).g ((ux ++ behXV (pieceV v r.g q) (pieceV v' s.g q)).map PV.pt) ((uy ++ behYV (pieceV v r.g q) (pieceV v' s.g q)).map PV.pt)) := by
            have h := HI1.out.both kv kw hqn
            show Ac.TurnI _ _ _ _ _ _ _ _
            rw [hn1.1, hn1.2, hn2.1, hn2.2, List.map_append, List.map_append, behXV_pt, behYV_pt, pieceV_pt, pieceV_pt]
            exact h
          have HLES : Hid ((r.next v t q).vs.length + (s.next v' t' q).vs.length < r.vs.length + s.vs.length) := by
            have h := Ac.nxt_less (p := v.pt) (q := v'.pt) (t := t.map PV.pt) (u := t'.map PV.pt) (g := r.g) (h := s.g) (n := q) (by have h1 := E1.out; have h2 := E2.out; omega)
            rw [← hn1.1, ← hn2.1] at h
            simp only [List.length_map] at h
            show _ < _
            rw [hrv, hsv]
            simp only [List.length_cons]
            omega
          have hml : ux.length ≤ 80 ∧ uy.length ≤ 80 := by have h1 := HI.out.lx; have h2 := HI.out.ly; have h3 := HF.out; rw [List.length_map] at h1 h2; exact ⟨by omega, by omega⟩
          obtain ⟨M1, M2⟩ := Ac.piece_m4 EV.out kv r.g q
          obtain ⟨M3, M4⟩ := Ac.piece_m4 EW.out kw s.g q
          have hk1 : (pieceV v r.g q).kind = 1 ∨ (pieceV v r.g q).kind = 3 := by
            have e : (pieceV v r.g q).kind = v.kind := congrArg Ac.Pt.kind (pieceV_pt v r.g q) |>.trans (Ac.piece_kind ..)
            rw [e]
            rcases Ac.kind_of EV.out with h | h | h
            · exact .inl h
            · exact absurd h kv
            · exact .inr h
          have hk2 : (pieceV v' s.g q).kind = 1 ∨ (pieceV v' s.g q).kind = 3 := by
            have e : (pieceV v' s.g q).kind = v'.kind := congrArg Ac.Pt.kind (pieceV_pt v' s.g q) |>.trans (Ac.piece_kind ..)
            rw [e]
            rcases Ac.kind_of EW.out with h | h | h
            · exact .inl h
            · exact absurd h kw
            · exact .inr h
          have C4 : Hid (∀ w', Below w.heap.size w w' → Calls Tryz.prog 260 #[.agg #[.int .i64 (pieceV v r.g q).kind, .int .i64 (pieceV v r.g q).n, .slice (pieceV v r.g q).ao (pieceV v r.g q).m (pieceV v r.g q).cap, .int .i64 (pieceV v r.g q).set, .int .i64 (pieceV v r.g q).clr, .bool (pieceV v r.g q).goes, .string (pieceV v r.g q).link, .int .i64 (pieceV v' s.g q).kind, .int .i64 (pieceV v' s.g q).n, .slice (pieceV v' s.g q).ao (pieceV v' s.g q).m (pieceV v' s.g q).cap, .int .i64 (pieceV v' s.g q).set, .int .i64 (pieceV v' s.g q).clr, .bool (pieceV v' s.g q).goes, .string (pieceV v' s.g q).link]] w' fun e w'' => (∃ a0 n0 c0 a1 n1 c1, e = .returned (.agg #[.slice a0 n0 c0, .slice a1 n1 c1]) ∧ Ops w'' a0 n0 c0 (behXV (pieceV v r.g q) (pieceV v' s.g q)) ∧ Ops w'' a1 n1 c1 (behYV (pieceV v r.g q) (pieceV v' s.g q)) ∧ Fresh w' a0 n0 ∧ Fresh w' a1 n1) ∧ Below w'.heap.size w' w'') := fun w' hb => beh_any _ _ w' (HPU.out.below hb) (HPW.out.below hb) hk1 hk2 (by rw [← pieceV_pt] at M1; exact M1) (by rw [← pieceV_pt] at M2; exact M2) (by rw [← pieceV_pt] at M3; exact M3) (by rw [← pieceV_pt] at M4; exact M4)
          have HNO : Hid (RV.ok w (r.next v t q)) := RV.next_ok HO1.out q
          have HNP : Hid (RV.ok w (s.next v' t' q)) := RV.next_ok HO2.out q
          have HBX : Hid ((∀ z ∈ behXV (pieceV v r.g q) (pieceV v' s.g q), Pvt w z) ∧ (behXV (pieceV v r.g q) (pieceV v' s.g q)).length ≤ 1) := ⟨behXV_pvt HPU.out, behXV_len _ _⟩
          have HBY : Hid ((∀ z ∈ behYV (pieceV v r.g q) (pieceV v' s.g q), Pvt w z) ∧ (behYV (pieceV v r.g q) (pieceV v' s.g q)).length ≤ 1) := ⟨behYV_pvt HPW.out, behYV_len _ _⟩
          clear hmin hq1 hqa hqb E1 E2 EV EW HI1 hrv hsv kv kw hl1 hl2 hk1 hk2 M1 M2 M3 M4 hn1 hn2 hqn HPU HPW HO1 HO2
          generalize behXV (pieceV v r.g q) (pieceV v' s.g q) = bx at *
          generalize behYV (pieceV v r.g q) (pieceV v' s.g q) = bY at *
          generalize pieceV v r.g q = u at *
          generalize pieceV v' s.g q = u' at *
          generalize r.next v t q = nx at *
          generalize s.next v' t' q = nx' at *
          obtain ⟨hbx0, hbx1⟩ := HBX.out
          obtain ⟨hby0, hby1⟩ := HBY.out
          clear HBX HBY
          have HBX : Hid (∀ z ∈ bx, Pvt w z) := hbx0
          have HBY : Hid (∀ z ∈ bY, Pvt w z) := hby0
          clear hbx0 hby0
          go_wp2_with fail
          refine C1.out.mono ?_
          rintro e w1 ⟨rfl, hw⟩
          obtain rfl := hw.symm
          go_wp2_with fail
          refine C2.out.mono ?_
          rintro e w1 ⟨rfl, hw⟩
          obtain rfl := hw.symm
          go_wp2_with fail
          refine C3.out.mono ?_
          rintro e w2 ⟨rfl, hb2, hk2⟩
          have HT2 : Hid (TurnW w w2 nx nx' x y ux uy) := HT.out.pair hk2 hb2 HNO.out HNP.out
          clear hb2 hk2 C1 C2 C3
          go_wp2_with fail
          refine (C4.out _ HT2.out.blw).mono ?_
          rintro e w3 ⟨⟨a0, n0, c0, a1, n1, c1, rfl, o0, o1, -, fr1⟩, hb3⟩
          have HT3 : Hid (TurnW w w3 nx nx' x y ux uy) := HT2.out.under hb3
          have HA0 : Hid (Ops w3 a0 n0 c0 bx) := o0
          have HA1 : Hid (Ops w3 a1 n1 c1 bY) := o1
          have HFR : Hid (Fresh w2 a1 n1) := fr1
          have hn0 : n0 ≤ 1 := by have := o0.len; omega
          have hn1 : n1 ≤ 1 := by have := o1.len; omega
          clear o0 o1 fr1 hb3 C4 hbx1 hby1
          obtain ⟨xl, hxl⟩ : ∃ xl, ux.length = xl := ⟨_, rfl⟩
          obtain ⟨yl, hyl⟩ : ∃ yl, uy.length = yl := ⟨_, rfl⟩
          rw [hxl, hyl] at hml
          obtain ⟨hml1, hml2⟩ := hml
          have HXL : Hid (ux.length = xl) := hxl
          have HYL : Hid (uy.length = yl) := hyl
          clear hxl hyl
          have HO0 : Hid (w3.ownsRow (w.heap.size + 3) 162 7 x xl (pvCells ux)) := by have := HT3.out.mx; rw [HXL.out] at this; exact this
          have mc0 : w3.cell? ⟨w.heap.size + 2, 0, none⟩ = some x := HT3.out.mb.cell 0
          have hs0 : w.heap.size + 3 ≤ w3.heap.size := HT3.out.mb.lt
          have ix0 := idx0 (.slice a0 n0 c0) (.slice a1 n1 c1)
          have ix1 := idx1 (.slice a0 n0 c0) (.slice a1 n1 c1)
          go_wp2_with fail
          refine wp_loop_rounds 3 ?_
          rw [rounds_succ]
          go_wp2_with (at_builtin; refine wpList_append_row _ rfl (.tmp 48) (.tmp 49) 44 rfl (w.heap.size + 3) 162 i0 (.agg #[.int .i64 0, .int .i64 0, .slice none 0 0, .int .i64 0, .int .i64 0, .bool false, .string ⟨#[]⟩]) 7 80 Tryz.underlying44 hi hz0 hz1 hz2 rfl (by decide) x xl (pvCells ux) rfl HO0.out a0 n0 c0 (pvCells bx) rfl HA0.out.row (pvCells_oneCell _) (by unfold maxLen; omega) (by omega) hs0 ?_)
          intro xv w4 hown4 hg4 hat4
          obtain ⟨hk4, hB4⟩ := HT3.out.midX (Below.refl _ _) hg4
          have HT5 := HT3.out.growX (us := bx) (Below.refl _ _) HBX.out (m := xl + n0) (by rw [List.length_append, HXL.out, HA0.out.len]) hown4 hg4 hat4
          have HR1 : Row (w4.setCell ⟨w.heap.size + 2, 0, none⟩ xv) a1 n1 c1 7 (pvCells bY) := (HA1.out.row.kept (by decide) hk4 (fun a hm ha hx => by have h1 := HFR.out a hm ha; have h2 := (HT2.out.mx.lt _ (ob_mem hx)).2; omega)).kept (by decide) (kept_set w4 (w.heap.size + 2) 0 xv [w.heap.size + 2] (by simp)) (fun a hm ha hx => by have h1 := HFR.out a hm ha; have h2 := HT2.out.mb.lt; rw [List.mem_singleton] at hx; omega)
          have mc4 : w4.cell? ⟨w.heap.size + 2, 0, none⟩ = some x := hB4.cell 0
          have fz4 := hB4.frozen 0
          obtain ⟨xa, xc, hxv, -⟩ := own_row hown4
          subst hxv
          clear hk4 hB4 hown4 hg4 hat4 mc0
          go_wp2_with fail
          generalize w4.setCell ⟨w.heap.size + 2, 0, none⟩ (.slice xa (xl + n0) xc) = W5 at *
          have HT5 : Hid (TurnW w W5 nx nx' (.slice xa (xl + n0) xc) y (ux ++ bx) uy) := HT5
          have HR1 : Hid (Row W5 a1 n1 c1 7 (pvCells bY)) := HR1
          have HO1 : Hid (W5.ownsRow (w.heap.size + 3) 162 7 y yl (pvCells uy)) := by have := HT5.out.my; rw [HYL.out] at this; exact this
          have mc1 : W5.cell? ⟨w.heap.size + 2, 1, none⟩ = some y := HT5.out.mb.cell 1
          have hs1 : w.heap.size + 3 ≤ W5.heap.size := HT5.out.mb.lt
          clear mc4 fz4 HO0 hs0
          rw [rounds_succ]
          go_wp2_with (at_builtin; refine wpList_append_row _ rfl (.tmp 48) (.tmp 49) 44 rfl (w.heap.size + 3) 162 i0 (.agg #[.int .i64 0, .int .i64 0, .slice none 0 0, .int .i64 0, .int .i64 0, .bool false, .string ⟨#[]⟩]) 7 80 Tryz.underlying44 hi hz0 hz1 hz2 rfl (by decide) y yl (pvCells uy) rfl HO1.out a1 n1 c1 (pvCells bY) rfl HR1.out (pvCells_oneCell _) (by unfold maxLen; omega) (by omega) hs1 ?_)
          intro yv w6 hown6 hg6 hat6
          obtain ⟨hk6, hB6⟩ := HT5.out.midY (Below.refl _ _) hg6
          have HT7 := HT5.out.growY (us := bY) (Below.refl _ _) HBY.out (m := yl + n1) (by rw [List.length_append, HYL.out, HA1.out.len]) hown6 hg6 hat6
          have mc6 : w6.cell? ⟨w.heap.size + 2, 1, none⟩ = some y := hB6.cell 1
          have fz6 := hB6.frozen 1
          obtain ⟨ya, yc, hyv, -⟩ := own_row hown6
          subst hyv
          clear hk6 hB6 hown6 hg6 hat6 mc1
          go_wp2_with fail
          generalize w6.setCell ⟨w.heap.size + 2, 1, none⟩ (.slice ya (yl + n1) yc) = W7 at *
          have HT7 : Hid (TurnW w W7 nx nx' (.slice xa (xl + n0) xc) (.slice ya (yl + n1) yc) (ux ++ bx) (uy ++ bY)) := HT7
          clear mc6 fz6
          rw [rounds_succ]
          go_wp2
          go_roundw
          case rel => exact ⟨_, _, _, _, _, _, HT7.out, HIN.out⟩
          case measure => have h1 := HT.out.left; have h2 := HT7.out.left; have h3 := HLES.out; omega
end Go.Proofs.YtbhcklkbckacpaaGreatDoor

/-
  Package ot: Turn and Join, of whatever operations.
-/
namespace Go.Proofs.YtbhcklkbckacpaaGreatDoor
open Go.RowKit
namespace Ac
def tA (l : List A) : List Pt := tdy [] [] 0 l
theorem tidy_tA (o : List Pt) : tidy o = tA (acts o) := rfl
def tx (a b : List Pt) : List Pt := tA (turn (acts a) (acts b)).1
def ty (a b : List Pt) : List Pt := tA (turn (acts a) (acts b)).2
def fst2 (a b : List Pt) : Int := if chk a = 0 then chk b else chk a
def trnE (a b : List Pt) : Int := if fst2 a b = 0 then (if nd a = nd b then fst2 (tx a b) (ty a b) else 6) else fst2 a b
def trnX (a b : List Pt) : List Pt := if trnE a b = 0 then tx a b else []
def trnY (a b : List Pt) : List Pt := if trnE a b = 0 then ty a b else []
theorem fst2_right {a b : List Pt} (h : fst2 a b = 0) : Right a ∧ Right b := by
  unfold fst2 at h
  by_cases ha : chk a = 0
  · rw [if_pos ha] at h
    exact ⟨chk_right.1 ha, chk_right.1 h⟩
  · rw [if_neg ha] at h
    exact absurd h ha
end Ac

set_option maxRecDepth 100000 in
set_option maxHeartbeats 1600000 in
theorem firstError_any (ao ao' : Option Addr) (n cap n' cap' : Nat) (vs vs' : List PV) (w : World) (hO : Ops w ao n cap vs) (hO' : Ops w ao' n' cap' vs') (hS : Sch w) :
    Calls Tryz.prog 221 #[.agg #[.slice ao n cap, .slice ao' n' cap']] w fun e w' => e = .returned (.int .i64 (Ac.fst2 (vs.map PV.pt) (vs'.map PV.pt))) ∧ Below w.heap.size w w' := by
  have C0 : Hid (∀ w', Below w.heap.size w w' → Calls Tryz.prog 160 #[.slice ao n cap] w' fun e w'' => e = .returned (.int .i64 (Ac.chk (vs.map PV.pt))) ∧ Below w'.heap.size w' w'') := fun w' hb => chk_any ao n cap vs w' (hO.below hb) (hS.below hb)
  have C1 : Hid (∀ w', Below w.heap.size w w' → Calls Tryz.prog 160 #[.slice ao' n' cap'] w' fun e w'' => e = .returned (.int .i64 (Ac.chk (vs'.map PV.pt))) ∧ Below w'.heap.size w' w'') := fun w' hb => chk_any ao' n' cap' vs' w' (hO'.below hb) (hS.below hb)
  obtain ⟨R, hR⟩ : ∃ R, Ac.fst2 (vs.map PV.pt) (vs'.map PV.pt) = R := ⟨_, rfl⟩
  rw [hR]
  unfold Ac.fst2 at hR
  have ix0 := idx0 (.slice ao n cap) (.slice ao' n' cap')
  have ix1 := idx1 (.slice ao n cap) (.slice ao' n' cap')
  have H1 : Hid (Below w.heap.size w (w.alloc (.cells #[.slice ao n cap, .slice ao' n' cap'] 133))) := (Below.refl _ _).alloc (Nat.le_refl _) _
  clear hO hO' hS
  generalize Ac.chk (vs.map PV.pt) = r at *
  generalize Ac.chk (vs'.map PV.pt) = r' at *
  by_cases hr : r = 0
  · rw [if_pos hr] at hR
    subst hR hr
    by_cases hr' : r' = 0
    · subst hr'
      go_enter Tryz.func221, Tryz.ntmps221
      go_wp2_with fail
      refine wp_loop_rounds 3 ?_
      rw [rounds_succ]
      go_wp2_with fail
      refine (C0.out _ H1.out).mono ?_
      rintro e w1 ⟨rfl, hb⟩
      have H2 : Hid (Below w.heap.size w w1) := H1.out.trans (hb.mono H1.out.size)
      clear hb
      go_wp2_with fail
      rw [rounds_succ]
      go_wp2_with fail
      refine (C1.out _ H2.out).mono ?_
      rintro e w2 ⟨rfl, hb⟩
      have H3 : Hid (Below w.heap.size w w2) := H2.out.trans (hb.mono H2.out.size)
      clear hb
      go_wp2_with fail
      rw [rounds_succ]
      go_wp2
      go_ret
      exact ⟨rfl, H3.out⟩
    · have hne : (r' != 0) = true := by simp [hr']
      clear hr'
      go_enter Tryz.func221, Tryz.ntmps221
      go_wp2_with fail
      refine wp_loop_rounds 3 ?_
      rw [rounds_succ]
      go_wp2_with fail
      refine (C0.out _ H1.out).mono ?_
      rintro e w1 ⟨rfl, hb⟩
      have H2 : Hid (Below w.heap.size w w1) := H1.out.trans (hb.mono H1.out.size)
      clear hb
      go_wp2_with fail
      rw [rounds_succ]
      go_wp2_with fail
      refine (C1.out _ H2.out).mono ?_
      rintro e w2 ⟨rfl, hb⟩
      have H3 : Hid (Below w.heap.size w w2) := H2.out.trans (hb.mono H2.out.size)
      clear hb
      go_wp2
      go_ret
      exact ⟨rfl, H3.out⟩
  · rw [if_neg hr] at hR
    subst hR
    have hne : (r != 0) = true := by simp [hr]
    clear hr
    go_enter Tryz.func221, Tryz.ntmps221
    go_wp2_with fail
    refine wp_loop_rounds 3 ?_
    rw [rounds_succ]
    go_wp2_with fail
    refine (C0.out _ H1.out).mono ?_
    rintro e w1 ⟨rfl, hb⟩
    have H2 : Hid (Below w.heap.size w w1) := H1.out.trans (hb.mono H1.out.size)
    clear hb
    go_wp2
    go_ret
    exact ⟨rfl, H2.out⟩

set_option maxRecDepth 100000 in
set_option maxHeartbeats 3200000 in
theorem turnE_bad (ao ao' : Option Addr) (n cap n' cap' : Nat) (vs vs' : List PV) (w : World) (hO : Ops w ao n cap vs) (hO' : Ops w ao' n' cap' vs') (hS : Sch w) (hE : ¬ Ac.fst2 (vs.map PV.pt) (vs'.map PV.pt) = 0) :
    Calls Tryz.prog 153 #[.slice ao n cap, .slice ao' n' cap'] w fun e w' => e = .returned (.tuple #[.slice none 0 0, .slice none 0 0, .int .i64 (Ac.fst2 (vs.map PV.pt) (vs'.map PV.pt))]) ∧ Below w.heap.size w w' := by
  have CF : Hid (Calls Tryz.prog 221 #[.agg #[.slice ao n cap, .slice ao' n' cap']] w fun e w' => e = .returned (.int .i64 (Ac.fst2 (vs.map PV.pt) (vs'.map PV.pt))) ∧ Below w.heap.size w w') := firstError_any ao ao' n cap n' cap' vs vs' w hO hO' hS
  have CA : Hid (∀ w', Below w.heap.size w w' → Calls Tryz.prog 222 #[.slice ao n cap] w' fun e w'' => e = .returned (.tuple #[.int .i64 (Ac.lf (vs.map PV.pt)), .int .i64 (Ac.lt (vs.map PV.pt))]) ∧ Below w'.heap.size w' w'') := fun w' hb => long_any ao n cap vs w' (hO.below hb)
  have CB : Hid (∀ w', Below w.heap.size w w' → Calls Tryz.prog 222 #[.slice ao' n' cap'] w' fun e w'' => e = .returned (.tuple #[.int .i64 (Ac.lf (vs'.map PV.pt)), .int .i64 (Ac.lt (vs'.map PV.pt))]) ∧ Below w'.heap.size w' w'') := fun w' hb => long_any ao' n' cap' vs' w' (hO'.below hb)

  clear hO hO' hS CA CB
  generalize Ac.fst2 (vs.map PV.pt) (vs'.map PV.pt) = r at *
  have hne : (r != 0) = true := by simp [hE]
  clear hE
  go_enter Tryz.func153, Tryz.ntmps153
  go_wp2_with fail
  refine CF.out.mono ?_
  rintro e w1 ⟨rfl, hb⟩
  have H1 : Hid (Below w.heap.size w w1) := hb
  clear hb
  go_wp2
  exact bodyPost_ret (v := .tuple #[.slice none 0 0, .slice none 0 0, .int .i64 r]) (by simp [results, Tryz.results153, go_sem]) rfl ⟨rfl, H1.out⟩

set_option maxRecDepth 100000 in
set_option maxHeartbeats 3200000 in
theorem turnE_base (ao ao' : Option Addr) (n cap n' cap' : Nat) (vs vs' : List PV) (w : World) (hO : Ops w ao n cap vs) (hO' : Ops w ao' n' cap' vs') (hS : Sch w) (hE : Ac.fst2 (vs.map PV.pt) (vs'.map PV.pt) = 0) (hN : ¬ Ac.nd (vs.map PV.pt) = Ac.nd (vs'.map PV.pt)) :
    Calls Tryz.prog 153 #[.slice ao n cap, .slice ao' n' cap'] w fun e w' => e = .returned (.tuple #[.slice none 0 0, .slice none 0 0, .int .i64 6]) ∧ Below w.heap.size w w' := by
  have CF : Hid (Calls Tryz.prog 221 #[.agg #[.slice ao n cap, .slice ao' n' cap']] w fun e w' => e = .returned (.int .i64 (Ac.fst2 (vs.map PV.pt) (vs'.map PV.pt))) ∧ Below w.heap.size w w') := firstError_any ao ao' n cap n' cap' vs vs' w hO hO' hS
  have CA : Hid (∀ w', Below w.heap.size w w' → Calls Tryz.prog 222 #[.slice ao n cap] w' fun e w'' => e = .returned (.tuple #[.int .i64 (Ac.lf (vs.map PV.pt)), .int .i64 (Ac.lt (vs.map PV.pt))]) ∧ Below w'.heap.size w' w'') := fun w' hb => long_any ao n cap vs w' (hO.below hb)
  have CB : Hid (∀ w', Below w.heap.size w w' → Calls Tryz.prog 222 #[.slice ao' n' cap'] w' fun e w'' => e = .returned (.tuple #[.int .i64 (Ac.lf (vs'.map PV.pt)), .int .i64 (Ac.lt (vs'.map PV.pt))]) ∧ Below w'.heap.size w' w'') := fun w' hb => long_any ao' n' cap' vs' w' (hO'.below hb)

  obtain ⟨r1, r2⟩ := Ac.fst2_right hE
  rw [hE] at CF
  rw [r1.lf] at CA
  rw [r2.lf] at CB
  clear hO hO' hS hE r1 r2
  generalize Ac.nd (vs.map PV.pt) = k at *
  generalize Ac.nd (vs'.map PV.pt) = k' at *
  generalize Ac.lt (vs.map PV.pt) = l at *
  generalize Ac.lt (vs'.map PV.pt) = l' at *
  have hne : ((k : Int) != (k' : Int)) = true := by simp; omega
  have hne' : (k != k') = true := by simp; omega
  clear hN
  go_enter Tryz.func153, Tryz.ntmps153
  go_wp2_with fail
  refine CF.out.mono ?_
  rintro e w1 ⟨rfl, hb⟩
  have H1 : Hid (Below w.heap.size w w1) := hb
  clear hb
  go_wp2_with fail
  refine (CA.out _ H1.out).mono ?_
  rintro e w2 ⟨rfl, hb⟩
  have H2 : Hid (Below w.heap.size w w2) := H1.out.trans (hb.mono H1.out.size)
  clear hb
  go_wp2_with fail
  refine (CB.out _ H2.out).mono ?_
  rintro e w3 ⟨rfl, hb⟩
  have H3 : Hid (Below w.heap.size w w3) := H2.out.trans (hb.mono H2.out.size)
  clear hb
  go_wp2
  exact bodyPost_ret (v := .tuple #[.slice none 0 0, .slice none 0 0, .int .i64 6]) (by simp [results, Tryz.results153, go_sem]) rfl ⟨rfl, H3.out⟩

structure Md (w0 w : World) (x y : Value) : Prop where
  mb : Blk w w0.heap.size [x, y] 133
  blw : Below w0.heap.size w0 w
def boxm (x y : Value) (w : World) : World := w.alloc (.cells #[x, y] 133)
theorem Md.start (x y : Value) (w : World) : Md w (boxm x y w) x y := ⟨Blk.new w _ _, (Below.refl _ _).alloc (Nat.le_refl _) _⟩
theorem Md.under {w0 w w' : World} {x y : Value} (h : Md w0 w x y) (hb : Below w.heap.size w w') : Md w0 w' x y := ⟨(hb.block _ h.mb.lt).trans h.mb, h.blw.trans (hb.mono h.blw.size)⟩
theorem Md.set0 {w0 w : World} {x y : Value} (h : Md w0 w x y) (z : Value) : Md w0 (w.setCell ⟨w0.heap.size, 0, none⟩ z) z y := ⟨h.mb.set 0 z, h.blw.setCell (Nat.le_refl _) _⟩
theorem Md.set1 {w0 w : World} {x y : Value} (h : Md w0 w x y) (z : Value) : Md w0 (w.setCell ⟨w0.heap.size, 1, none⟩ z) x z := ⟨h.mb.set 1 z, h.blw.setCell (Nat.le_refl _) _⟩
theorem Tide.low {w : World} {B : Nat} {tv : Value} {out : List PV} (h : Tide w B tv out) {k : Nat} (hk : k < B) (j : Nat) (z : Value) : Tide (w.setCell ⟨k, j, none⟩ z) B tv out :=
  h.kept (kept_set w k j z [k] (by simp)) (fun x hx e => by have := ownBlk_ge h.own x e; rw [List.mem_singleton] at hx; omega) (fun v hv a hm ha hx => by have := h.hi v hv a hm ha; rw [List.mem_singleton] at hx; omega)

theorem Ops.kept {w w' : World} {a : Option Addr} {n c : Nat} {vs : List PV} {S : List Nat} (h : Ops w a n c vs) (hk : Kept w w' S) (h1 : ∀ ad : Addr, n ≠ 0 → a = some ad → ad.block ∉ S) (h2 : ∀ v ∈ vs, ∀ ad : Addr, v.m ≠ 0 → v.ao = some ad → ad.block ∉ S) : Ops w' a n c vs :=
  ⟨h.row.kept (by decide) hk h1, fun v hv => (h.pts v hv).kept hk (h2 v hv)⟩
structure OpsFrom (B : Nat) (w : World) (a : Option Addr) (n c : Nat) (vs : List PV) : Prop where
  ops : Ops w a n c vs
  row : ∀ ad : Addr, n ≠ 0 → a = some ad → B ≤ ad.block
  its : ∀ v ∈ vs, ∀ ad : Addr, v.m ≠ 0 → v.ao = some ad → B ≤ ad.block
theorem OpsFrom.nil (B : Nat) (w : World) : OpsFrom B w none 0 0 [] := ⟨ops_nil w, fun _ h _ => absurd rfl h, fun v hv => absurd hv (by simp)⟩
theorem OpsFrom.below {B : Nat} {w w' : World} {a : Option Addr} {n c : Nat} {vs : List PV} (h : OpsFrom B w a n c vs) (hb : Below w.heap.size w w') : OpsFrom B w' a n c vs := ⟨h.ops.below hb, h.row, h.its⟩
theorem OpsFrom.mono {B B' : Nat} {w : World} {a : Option Addr} {n c : Nat} {vs : List PV} (h : OpsFrom B w a n c vs) (hb : B' ≤ B) : OpsFrom B' w a n c vs := ⟨h.ops, fun ad h1 h2 => Nat.le_trans hb (h.row ad h1 h2), fun v hv ad h1 h2 => Nat.le_trans hb (h.its v hv ad h1 h2)⟩
theorem OpsFrom.kept {B : Nat} {w w' : World} {a : Option Addr} {n c : Nat} {vs : List PV} {S : List Nat} (h : OpsFrom B w a n c vs) (hk : Kept w w' S) (hS : ∀ x ∈ S, x < B) : OpsFrom B w' a n c vs :=
  ⟨h.ops.kept hk (fun ad h1 h2 hx => by have := h.row ad h1 h2; have := hS _ hx; omega) (fun v hv ad h1 h2 hx => by have := h.its v hv ad h1 h2; have := hS _ hx; omega), h.row, h.its⟩
theorem Tide.from {w : World} {B n c : Nat} {a : Option Addr} {us : List PV} (h : Tide w B (.slice a n c) us) : OpsFrom B w a n c us := by
  obtain ⟨a', c', e, hr⟩ := own_row h.own
  simp only [Value.slice.injEq] at e
  obtain ⟨rfl, rfl, rfl⟩ := e
  exact ⟨⟨hr, h.pts⟩, fun ad _ e => ownBlk_ge h.own _ (by rw [e]; rfl), fun v hv => h.hi v hv⟩
def TurnF (B : Nat) (X Y : List Ac.Pt) (E : Int) (e : Ending) (w' : World) : Prop := ∃ a0 n0 c0 u0 a1 n1 c1 u1, e = .returned (.tuple #[.slice a0 n0 c0, .slice a1 n1 c1, .int .i64 E]) ∧ OpsFrom B w' a0 n0 c0 u0 ∧ OpsFrom B w' a1 n1 c1 u1 ∧ u0.map PV.pt = X ∧ u1.map PV.pt = Y
theorem turnF_nil (B : Nat) (E : Int) (w' : World) : TurnF B [] [] E (.returned (.tuple #[.slice none 0 0, .slice none 0 0, .int .i64 E])) w' := ⟨none, 0, 0, [], none, 0, 0, [], rfl, OpsFrom.nil B w', OpsFrom.nil B w', rfl, rfl⟩
def TurnP (X Y : List Ac.Pt) (E : Int) (e : Ending) (w' : World) : Prop := ∃ a0 n0 c0 u0 a1 n1 c1 u1, e = .returned (.tuple #[.slice a0 n0 c0, .slice a1 n1 c1, .int .i64 E]) ∧ Ops w' a0 n0 c0 u0 ∧ Ops w' a1 n1 c1 u1 ∧ u0.map PV.pt = X ∧ u1.map PV.pt = Y
theorem turnP_nil (E : Int) (w' : World) : TurnP [] [] E (.returned (.tuple #[.slice none 0 0, .slice none 0 0, .int .i64 E])) w' := ⟨none, 0, 0, [], none, 0, 0, [], rfl, ops_nil w', ops_nil w', rfl, rfl⟩
set_option maxRecDepth 100000 in
set_option maxHeartbeats 6400000 in
theorem turn_main (ao ao' : Option Addr) (n cap n' cap' : Nat) (vs vs' : List PV) (w : World) (hO : Ops w ao n cap vs) (hO' : Ops w ao' n' cap' vs') (hS : Sch w) (hE : Ac.fst2 (vs.map PV.pt) (vs'.map PV.pt) = 0) (hN : Ac.nd (vs.map PV.pt) = Ac.nd (vs'.map PV.pt)) :
    Calls Tryz.prog 153 #[.slice ao n cap, .slice ao' n' cap'] w fun e w' => TurnF w.heap.size (if Ac.fst2 (Ac.tx (vs.map PV.pt) (vs'.map PV.pt)) (Ac.ty (vs.map PV.pt) (vs'.map PV.pt)) = 0 then Ac.tx (vs.map PV.pt) (vs'.map PV.pt) else []) (if Ac.fst2 (Ac.tx (vs.map PV.pt) (vs'.map PV.pt)) (Ac.ty (vs.map PV.pt) (vs'.map PV.pt)) = 0 then Ac.ty (vs.map PV.pt) (vs'.map PV.pt) else []) (Ac.fst2 (Ac.tx (vs.map PV.pt) (vs'.map PV.pt)) (Ac.ty (vs.map PV.pt) (vs'.map PV.pt))) e w' ∧ Below w.heap.size w w' := by
  have CF : Hid (Calls Tryz.prog 221 #[.agg #[.slice ao n cap, .slice ao' n' cap']] w fun e w' => e = .returned (.int .i64 (Ac.fst2 (vs.map PV.pt) (vs'.map PV.pt))) ∧ Below w.heap.size w w') := firstError_any ao ao' n cap n' cap' vs vs' w hO hO' hS
  have CA : Hid (∀ w', Below w.heap.size w w' → Calls Tryz.prog 222 #[.slice ao n cap] w' fun e w'' => e = .returned (.tuple #[.int .i64 (Ac.lf (vs.map PV.pt)), .int .i64 (Ac.lt (vs.map PV.pt))]) ∧ Below w'.heap.size w' w'') := fun w' hb => long_any ao n cap vs w' (hO.below hb)
  have CB : Hid (∀ w', Below w.heap.size w w' → Calls Tryz.prog 222 #[.slice ao' n' cap'] w' fun e w'' => e = .returned (.tuple #[.int .i64 (Ac.lf (vs'.map PV.pt)), .int .i64 (Ac.lt (vs'.map PV.pt))]) ∧ Below w'.heap.size w' w'') := fun w' hb => long_any ao' n' cap' vs' w' (hO'.below hb)

  obtain ⟨r1, r2⟩ := Ac.fst2_right hE
  rw [hE] at CF
  rw [r1.lf] at CA
  rw [r2.lf, ← hN] at CB
  have CT : Hid (∀ w', Below w.heap.size w w' → Calls Tryz.prog 223 #[.agg #[.slice ao n cap, .int .i64 0, .slice ao' n' cap', .int .i64 0]] w' fun e w'' => (∃ a0 n0 c0 u0 a1 n1 c1 u1, e = .returned (.agg #[.slice a0 n0 c0, .slice a1 n1 c1]) ∧ Ops w'' a0 n0 c0 u0 ∧ Ops w'' a1 n1 c1 u1 ∧ Ac.turn (Ac.acts (vs.map PV.pt)) (Ac.acts (vs'.map PV.pt)) = (Ac.acts (u0.map PV.pt), Ac.acts (u1.map PV.pt)) ∧ (∀ v ∈ u0, Ac.err1 v.pt = 0) ∧ (∀ v ∈ u1, Ac.err1 v.pt = 0) ∧ u0.length ≤ 80 ∧ u1.length ≤ 80) ∧ Below w'.heap.size w' w'') := fun w' hb => turned_any ao ao' n cap n' cap' vs vs' w' (hO.below hb) (hO'.below hb) r1 r2 hN
  have HSC : Hid (∀ w', Below w.heap.size w w' → Sch w') := fun w' hb => hS.below hb
  obtain ⟨X, hX⟩ : ∃ X, Ac.tx (vs.map PV.pt) (vs'.map PV.pt) = X := ⟨_, rfl⟩
  obtain ⟨Y, hY⟩ : ∃ Y, Ac.ty (vs.map PV.pt) (vs'.map PV.pt) = Y := ⟨_, rfl⟩
  have HX : Hid (Ac.tA (Ac.turn (Ac.acts (vs.map PV.pt)) (Ac.acts (vs'.map PV.pt))).1 = X) := hX
  have HY : Hid (Ac.tA (Ac.turn (Ac.acts (vs.map PV.pt)) (Ac.acts (vs'.map PV.pt))).2 = Y) := hY
  rw [hX, hY]
  clear hO hO' hS hE hN r1 r2 hX hY
  generalize Ac.turn (Ac.acts (vs.map PV.pt)) (Ac.acts (vs'.map PV.pt)) = TT at *
  generalize Ac.nd (vs.map PV.pt) = k at *
  generalize Ac.lt (vs.map PV.pt) = l at *
  generalize Ac.lt (vs'.map PV.pt) = l' at *
  have hne : ((k : Int) != (k : Int)) = false := by simp
  obtain ⟨E, hEE⟩ : ∃ E, Ac.fst2 X Y = E := ⟨_, rfl⟩
  have HE : Hid (Ac.fst2 X Y = E) := hEE
  rw [hEE]
  clear hEE
  go_enter Tryz.func153, Tryz.ntmps153
  go_wp2_with fail
  refine CF.out.mono ?_
  rintro e w1 ⟨rfl, hb⟩
  have H1 : Hid (Below w.heap.size w w1) := hb
  clear hb
  go_wp2_with fail
  refine (CA.out _ H1.out).mono ?_
  rintro e w2 ⟨rfl, hb⟩
  have H2 : Hid (Below w.heap.size w w2) := H1.out.trans (hb.mono H1.out.size)
  clear hb
  go_wp2_with fail
  refine (CB.out _ H2.out).mono ?_
  rintro e w3 ⟨rfl, hb⟩
  have H3 : Hid (Below w.heap.size w w3) := H2.out.trans (hb.mono H2.out.size)
  clear hb CF CA CB
  go_wp2_with fail
  refine (CT.out _ H3.out).mono ?_
  rintro e w4 ⟨⟨a0, n0, c0, u0, a1, n1, c1, u1, rfl, o0, o1, ht, e0, e1, l0, l1⟩, hb⟩
  have H4 : Hid (Below w.heap.size w w4) := H3.out.trans (hb.mono H3.out.size)
  have HX0 : Hid (Ac.tidy (u0.map PV.pt) = X) := by show _ = _; rw [Ac.tidy_tA, ← HX.out, ht]
  have HY0 : Hid (Ac.tidy (u1.map PV.pt) = Y) := by show _ = _; rw [Ac.tidy_tA, ← HY.out, ht]
  have CD0 : Hid (∀ w', Below w4.heap.size w4 w' → Calls Tryz.prog 224 #[.slice a0 n0 c0] w' fun e w'' => (∃ tv us, e = .returned tv ∧ Tide w'' w'.heap.size tv us ∧ us.map PV.pt = X) ∧ Below w'.heap.size w' w'') := fun w' hb => by
    have := made_tidy a0 n0 c0 u0 w' (o0.below hb) e0 (by omega)
    rw [HX0.out] at this
    exact this
  have CD1 : Hid (∀ w', Below w4.heap.size w4 w' → Calls Tryz.prog 224 #[.slice a1 n1 c1] w' fun e w'' => (∃ tv us, e = .returned tv ∧ Tide w'' w'.heap.size tv us ∧ us.map PV.pt = Y) ∧ Below w'.heap.size w' w'') := fun w' hb => by
    have := made_tidy a1 n1 c1 u1 w' (o1.below hb) e1 (by omega)
    rw [HY0.out] at this
    exact this
  have HM : Hid (Md w4 (boxm (.slice a0 n0 c0) (.slice a1 n1 c1) w4) (.slice a0 n0 c0) (.slice a1 n1 c1)) := Md.start _ _ w4
  have ix0 := idx0 (.slice a0 n0 c0) (.slice a1 n1 c1)
  have ix1 := idx1 (.slice a0 n0 c0) (.slice a1 n1 c1)
  clear hb o0 o1 ht e0 e1 l0 l1 CT HX HY HX0 HY0
  go_upto_region 9 with fail
  change Code.wp Tryz.prog _ _ _ (boxm (.slice a0 n0 c0) (.slice a1 n1 c1) w4)
  generalize boxm (.slice a0 n0 c0) (.slice a1 n1 c1) w4 = W5 at *
  have m0 : W5.cell? ⟨w4.heap.size, 0, none⟩ = some (.slice a0 n0 c0) := HM.out.mb.cell 0
  have m1 : W5.cell? ⟨w4.heap.size, 1, none⟩ = some (.slice a1 n1 c1) := HM.out.mb.cell 1
  go_wp2_with fail
  refine wp_loop_rounds 3 ?_
  rw [rounds_succ]
  go_wp2_with fail
  refine (CD0.out _ HM.out.blw).mono ?_
  rintro e w6 ⟨⟨tv, us, rfl, hT, hp⟩, hb⟩
  have hM6 := HM.out.under hb
  have HM7 := hM6.set0 tv
  have HT7 := hT.low (k := w4.heap.size) HM.out.mb.lt 0 tv
  have HP7 : Hid (us.map PV.pt = X) := hp
  have d0 : w6.cell? ⟨w4.heap.size, 0, none⟩ = some (.slice a0 n0 c0) := hM6.mb.cell 0
  have f0 := hM6.mb.frozen 0
  obtain ⟨ta, tc, htv, -⟩ := own_row hT.own
  obtain ⟨tl, htl⟩ : ∃ tl, us.length = tl := ⟨_, rfl⟩
  rw [htl] at htv
  subst htv
  clear hT hp hb hM6 htl m0 m1
  go_wp2_with fail
  generalize w6.setCell ⟨w4.heap.size, 0, none⟩ (.slice ta tl tc) = W7 at *
  have HM7 : Hid (Md w4 W7 (.slice ta tl tc) (.slice a1 n1 c1)) := HM7
  have HT7 : Hid (Tide W7 W5.heap.size (.slice ta tl tc) us) := HT7
  have HW5 : Hid (w4.heap.size < W5.heap.size) := HM.out.mb.lt
  clear d0 f0
  rw [rounds_succ]
  go_wp2_with fail
  refine (CD1.out _ HM7.out.blw).mono ?_
  rintro e w8 ⟨⟨tv1, us1, rfl, hT, hp⟩, hb⟩
  have hM8 := HM7.out.under hb
  have HM9 := hM8.set1 tv1
  have HT9 := (HT7.out.under hb).low (k := w4.heap.size) HW5.out 1 tv1
  have HTY := hT.low (k := w4.heap.size) HM7.out.mb.lt 1 tv1
  have HP9 : Hid (us1.map PV.pt = Y) := hp
  have d1 : w8.cell? ⟨w4.heap.size, 1, none⟩ = some (.slice a1 n1 c1) := hM8.mb.cell 1
  have f1 := hM8.mb.frozen 1
  obtain ⟨ta1, tc1, htv, -⟩ := own_row hT.own
  obtain ⟨tl1, htl⟩ : ∃ tl1, us1.length = tl1 := ⟨_, rfl⟩
  rw [htl] at htv
  subst htv
  clear hT hp hb hM8 htl
  go_wp2_with fail
  generalize w8.setCell ⟨w4.heap.size, 1, none⟩ (.slice ta1 tl1 tc1) = W9 at *
  clear d1 f1
  have HM9 : Hid (Md w4 W9 (.slice ta tl tc) (.slice ta1 tl1 tc1)) := HM9
  have HBB : w.heap.size ≤ W5.heap.size ∧ w.heap.size ≤ W7.heap.size := ⟨Nat.le_trans H4.out.size (Nat.le_of_lt HW5.out), Nat.le_trans H4.out.size HM7.out.blw.size⟩
  have HOXF : Hid (OpsFrom w.heap.size W9 ta tl tc us) := (Tide.from HT9).mono HBB.1
  have HOYF : Hid (OpsFrom w.heap.size W9 ta1 tl1 tc1 us1) := (Tide.from HTY).mono HBB.2
  have HOX : Hid (Ops W9 ta tl tc us) := HOXF.out.ops
  have HOY : Hid (Ops W9 ta1 tl1 tc1 us1) := HOYF.out.ops
  clear HBB
  have H9 : Hid (Below w.heap.size w W9) := H4.out.trans (HM9.out.blw.mono H4.out.size)
  have CG := firstError_any ta ta1 tl tc tl1 tc1 us us1 W9 HOX.out HOY.out (HSC.out _ H9.out)
  rw [HP7.out, HP9.out, HE.out] at CG
  have CG : Hid (Calls Tryz.prog 221 #[.agg #[.slice ta tl tc, .slice ta1 tl1 tc1]] W9 fun e w' => e = .returned (.int .i64 E) ∧ Below W9.heap.size W9 w') := CG
  clear HT9 HTY HT7 HM7 CD0 CD1
  have m0 : W9.cell? ⟨w4.heap.size, 0, none⟩ = some (.slice ta tl tc) := HM9.out.mb.cell 0
  have m1 : W9.cell? ⟨w4.heap.size, 1, none⟩ = some (.slice ta1 tl1 tc1) := HM9.out.mb.cell 1
  rw [rounds_succ]
  go_wp2_with fail
  refine CG.out.mono ?_
  rintro e w10 ⟨rfl, hb⟩
  have HM10 : Hid (Md w4 w10 (.slice ta tl tc) (.slice ta1 tl1 tc1)) := HM9.out.under hb
  have H10 : Hid (Below w.heap.size w w10) := H9.out.trans (hb.mono H9.out.size)
  have HOX2 : Hid (OpsFrom w.heap.size w10 ta tl tc us) := HOXF.out.below hb
  have HOY2 : Hid (OpsFrom w.heap.size w10 ta1 tl1 tc1 us1) := HOYF.out.below hb
  clear hb CG m0 m1
  by_cases hE0 : E = 0
  · subst hE0
    have m0 : w10.cell? ⟨w4.heap.size, 0, none⟩ = some (.slice ta tl tc) := HM10.out.mb.cell 0
    have m1 : w10.cell? ⟨w4.heap.size, 1, none⟩ = some (.slice ta1 tl1 tc1) := HM10.out.mb.cell 1
    go_wp2
    go_quiet (fail)
    go_wp2
    exact bodyPost_ret (v := .tuple #[.slice ta tl tc, .slice ta1 tl1 tc1, .int .i64 0]) (by simp [results, Tryz.results153, go_sem]) rfl ⟨by show TurnF w.heap.size X Y 0 _ _; exact ⟨_, _, _, us, _, _, _, us1, rfl, HOX2.out.below (drewN_blw _ _), HOY2.out.below (drewN_blw _ _), HP7.out, HP9.out⟩, H10.out.trans ((drewN_blw _ _).mono H10.out.size)⟩
  · have hne2 : (E != 0) = true := by simp [hE0]
    have HE0 : Hid (¬ E = 0) := hE0
    clear hE0
    go_wp2
    exact bodyPost_ret (v := .tuple #[.slice none 0 0, .slice none 0 0, .int .i64 E]) (by simp [results, Tryz.results153, go_sem]) rfl ⟨by first | exact turnF_nil _ _ _ | (rw [if_neg HE0.out, if_neg HE0.out]; exact turnF_nil _ _ _), H10.out⟩

theorem turnF_any (ao ao' : Option Addr) (n cap n' cap' : Nat) (vs vs' : List PV) (w : World) (hO : Ops w ao n cap vs) (hO' : Ops w ao' n' cap' vs') (hS : Sch w) :
    Calls Tryz.prog 153 #[.slice ao n cap, .slice ao' n' cap'] w fun e w' => TurnF w.heap.size (Ac.trnX (vs.map PV.pt) (vs'.map PV.pt)) (Ac.trnY (vs.map PV.pt) (vs'.map PV.pt)) (Ac.trnE (vs.map PV.pt) (vs'.map PV.pt)) e w' ∧ Below w.heap.size w w' := by
  unfold Ac.trnX Ac.trnY Ac.trnE
  by_cases h1 : Ac.fst2 (vs.map PV.pt) (vs'.map PV.pt) = 0
  · rw [if_pos h1]
    by_cases h2 : Ac.nd (vs.map PV.pt) = Ac.nd (vs'.map PV.pt)
    · rw [if_pos h2]
      exact turn_main ao ao' n cap n' cap' vs vs' w hO hO' hS h1 h2
    · rw [if_neg h2, if_neg (show ¬ (6 : Int) = 0 by decide), if_neg (show ¬ (6 : Int) = 0 by decide)]
      refine (turnE_base ao ao' n cap n' cap' vs vs' w hO hO' hS h1 h2).mono ?_
      rintro e w' ⟨rfl, hb⟩
      exact ⟨turnF_nil _ _ _, hb⟩
  · rw [if_neg h1, if_neg h1, if_neg h1]
    refine (turnE_bad ao ao' n cap n' cap' vs vs' w hO hO' hS h1).mono ?_
    rintro e w' ⟨rfl, hb⟩
    exact ⟨turnF_nil _ _ _, hb⟩
end Go.Proofs.YtbhcklkbckacpaaGreatDoor

/-
  Chapter 9: entries and servers, and how they lie in memory.
-/
namespace Go.Proofs.YtbhcklkbckacpaaGreatDoor
open Go.RowKit
namespace Sv
structure En where
  who : Int
  seq : Int
  o : List Ac.Pt
structure Se where
  first : List It
  log : List En
  now : List It
def entE (x : En) : Int := if x.who < 0 ∨ 4 ≤ x.who then 5 else if x.seq < 1 ∨ 10000 < x.seq then 3 else Ac.chk x.o
def entsE : List En → Int
  | [] => 0
  | x :: l => if entE x = 0 then entsE l else entE x
theorem entsE_step (l : List En) (k : Nat) (h : k < l.length) : entsE (l.drop k) = if entE l[k] = 0 then entsE (l.drop (k + 1)) else entE l[k] := by
  rw [List.drop_eq_getElem_cons h]
  rfl
def foldE : List It → List En → Int
  | _, [] => 0
  | d, x :: l => if Ac.fitE d x.o = 0 then foldE (Ac.done d x.o) l else Ac.fitE d x.o
def foldD : List It → List En → List It
  | d, [] => d
  | d, x :: l => if Ac.fitE d x.o = 0 then foldD (Ac.done d x.o) l else Ac.done d x.o
def fldE (d : List It) (l : List En) : Int := if Dc.check d = 0 then (if 60 < l.length then 2 else foldE d l) else Dc.check d
def fldD (d : List It) (l : List En) : List It := if Dc.check d = 0 then (if 60 < l.length then [] else foldD d l) else []
def srvE (s : Se) : Int := if 60 < s.log.length then 2 else if entsE s.log = 0 then (if fldE s.first s.log = 0 then (if Dc.same s.now (fldD s.first s.log) = true then 0 else 4) else fldE s.first s.log) else entsE s.log
def isE (c q : Int) (x : En) : Bool := (x.who == c) && (x.seq == q)
def has (s : Se) (c q : Int) : Bool := s.log.any (isE c q)
def sameE (a b : En) : Bool := (a.who == b.who) && ((a.seq == b.seq) && Ac.sameO a.o b.o)
def sameL : List En → List En → Bool
  | [], [] => true
  | x :: l, y :: m => sameE x y && sameL l m
  | _, _ => false
theorem sameL_len : ∀ (s t : List En), ¬ s.length = t.length → sameL s t = false
  | [], [], h => absurd rfl h
  | [], _ :: _, _ => rfl
  | _ :: _, [], _ => rfl
  | x :: s, y :: t, h => by
    unfold sameL
    rw [sameL_len s t (fun e => h (by simp [e])), Bool.and_false]
theorem sameL_step (s t : List En) (k : Nat) (h : k < s.length) (h' : k < t.length) : sameL (s.drop k) (t.drop k) = (sameE s[k] t[k] && sameL (s.drop (k + 1)) (t.drop (k + 1))) := by
  rw [List.drop_eq_getElem_cons h, List.drop_eq_getElem_cons h']
  rfl
def sameS (a b : Se) : Bool := (Dc.same a.first b.first && sameL a.log b.log) && Dc.same a.now b.now
def behE : List En → List Ac.Pt → Int
  | [], _ => 0
  | x :: l, o => if Ac.trnE x.o o = 0 then behE l (Ac.trnY x.o o) else Ac.trnE x.o o
def behO : List En → List Ac.Pt → List Ac.Pt
  | [], o => o
  | x :: l, o => if Ac.trnE x.o o = 0 then behO l (Ac.trnY x.o o) else Ac.trnY x.o o
def takE (s : Se) (rev : Int) (x : En) : Int :=
  if srvE s = 0 then (if entE x = 0 then (if has s x.who x.seq = true then 0 else if rev < 0 ∨ (s.log.length : Int) < rev then 6 else if s.log.length = 60 then 2 else
    if behE (s.log.drop rev.toNat) x.o = 0 then Ac.fitE s.now (behO (s.log.drop rev.toNat) x.o) else behE (s.log.drop rev.toNat) x.o) else entE x) else srvE s
def takS (s : Se) (rev : Int) (x : En) : Se :=
  if takE s rev x = 0 then (if has s x.who x.seq = true then s else ⟨s.first, s.log ++ [⟨x.who, x.seq, behO (s.log.drop rev.toNat) x.o⟩], Ac.done s.now (behO (s.log.drop rev.toNat) x.o)⟩) else ⟨[], [], []⟩
end Sv
structure EV where
  who : Int
  seq : Int
  ao : Option Addr
  n : Nat
  cap : Nat
  vs : List PV
def EV.en (v : EV) : Sv.En := ⟨v.who, v.seq, v.vs.map PV.pt⟩
def evC (v : EV) : List Value := [.int .i64 v.who, .int .i64 v.seq, .slice v.ao v.n v.cap]
def evCells (l : List EV) : List Value := l.flatMap evC
theorem evCells_app (l l' : List EV) : evCells (l ++ l') = evCells l ++ evCells l' := List.flatMap_append
theorem evCells_one (v : EV) : evCells [v] = evC v := by simp [evCells]
theorem evCells_len : ∀ l : List EV, (evCells l).length = l.length * 3
  | [] => rfl
  | a :: l => by
    show (evC a ++ evCells l).length = _
    rw [List.length_append, evCells_len l, List.length_cons]
    show 3 + _ = _
    omega
theorem evCells_at : ∀ (l : List EV) (i : Nat) (h : i < l.length) (j : Nat), j < 3 → (evCells l)[i * 3 + j]? = (evC l[i])[j]?
  | [], _, h, _, _ => by simp at h
  | a :: l, 0, _, j, hj => by
    show (evC a ++ evCells l)[0 * 3 + j]? = _
    rw [Nat.zero_mul, Nat.zero_add, List.getElem?_append_left (by show j < 3; exact hj)]
    rfl
  | a :: l, i + 1, h, j, hj => by
    have := evCells_at l i (by simpa using h) j hj
    show (evC a ++ evCells l)[(i + 1) * 3 + j]? = _
    rw [List.getElem?_append_right (by show 3 ≤ _; omega), show (i + 1) * 3 + j - (evC a).length = i * 3 + j by show _ - 3 = _; omega, this]
    rfl
theorem evCells_oneCell (l : List EV) : ∀ u ∈ evCells l, u.oneCell' = true := by
  intro u hu
  obtain ⟨v, -, h⟩ := List.mem_flatMap.1 hu
  unfold evC at h
  simp only [List.mem_cons, List.not_mem_nil, or_false] at h
  rcases h with rfl | rfl | rfl <;> rfl
structure Thr (w : World) (b off : Nat) (v : EV) : Prop where
  c0 : w.cell? ⟨b, off, none⟩ = some (.int .i64 v.who)
  c1 : w.cell? ⟨b, off + 1, none⟩ = some (.int .i64 v.seq)
  c2 : w.cell? ⟨b, off + 2, none⟩ = some (.slice v.ao v.n v.cap)
theorem Thr.below {w w' : World} {b off : Nat} {v : EV} (h : Thr w b off v) (hb : Below w.heap.size w w') : Thr w' b off v :=
  ⟨cell_below h.c0 hb, cell_below h.c1 hb, cell_below h.c2 hb⟩
structure Ents (w : World) (ao : Option Addr) (n cap : Nat) (es : List EV) : Prop where
  row : Row w ao n cap 3 (evCells es)
  ops : ∀ v ∈ es, Ops w v.ao v.n v.cap v.vs
theorem Ents.below {w w' : World} {ao : Option Addr} {n cap : Nat} {es : List EV} (h : Ents w ao n cap es) (hb : Below w.heap.size w w') : Ents w' ao n cap es :=
  ⟨h.row.below hb, fun v hv => (h.ops v hv).below hb⟩
theorem Ents.len {w : World} {ao : Option Addr} {n cap : Nat} {es : List EV} (h : Ents w ao n cap es) : es.length = n := by
  have := h.row.len
  rw [evCells_len] at this
  omega
theorem Ents.nil (w : World) : Ents w none 0 0 [] := ⟨Row.nil w 3, fun v hv => absurd hv (by simp)⟩
theorem Ents.get {w : World} {ao : Option Addr} {n cap : Nat} {es : List EV} (h : Ents w ao n cap es) (hn : n ≠ 0) : ∃ b off, ao = some ⟨b, off, none⟩ ∧ ∀ i (hi : i < es.length), Thr w b (off + i * 3) es[i] := by
  obtain ⟨b, off, e, hc⟩ := h.row.lies hn
  refine ⟨b, off, e, fun i hi => ?_⟩
  have h0 := evCells_at es i hi 0 (by decide)
  have h1 := evCells_at es i hi 1 (by decide)
  have h2 := evCells_at es i hi 2 (by decide)
  exact ⟨hc _ _ h0, by rw [Nat.add_assoc]; exact hc _ _ h1, by rw [Nat.add_assoc]; exact hc _ _ h2⟩
def boxe (v : EV) (w : World) : World := w.alloc (.cells #[.int .i64 v.who, .int .i64 v.seq, .slice v.ao v.n v.cap] 46)
theorem boxe_below (v : EV) (w : World) : Below w.heap.size w (boxe v w) := (Below.refl _ _).alloc (Nat.le_refl _) _
theorem boxe_size (v : EV) (w : World) : (boxe v w).heap.size = w.heap.size + 1 := World.size_alloc ..
theorem boxe_blk (v : EV) (w : World) : Blk (boxe v w) w.heap.size (evC v) 46 := Blk.new w _ _
theorem thr_blk {w : World} {b : Nat} {v : EV} (h : Blk w b (evC v) 46) : Thr w b 0 v := ⟨h.cell 0, h.cell 1, h.cell 2⟩
theorem boxe_at (v : EV) (w : World) : Thr (boxe v w) w.heap.size 0 v := thr_blk (boxe_blk v w)
theorem boxe2_below (v u : EV) (w : World) : Below w.heap.size w (boxe u (boxe v w)) := (boxe_below v w).trans ((boxe_below u _).mono (boxe_below v w).size)
theorem boxe2_fst (v u : EV) (w : World) : Thr (boxe u (boxe v w)) w.heap.size 0 v := (boxe_at v w).below (boxe_below u _)
structure SV where
  fa : Option Addr
  fn : Nat
  fc : Nat
  first : List It
  la : Option Addr
  ln : Nat
  lc : Nat
  log : List EV
  na : Option Addr
  nn : Nat
  nc : Nat
  now : List It
def SV.se (s : SV) : Sv.Se := ⟨s.first, s.log.map EV.en, s.now⟩
def svA (s : SV) : Value := .agg #[.slice s.fa s.fn s.fc, .slice s.la s.ln s.lc, .slice s.na s.nn s.nc]
def svC (s : SV) : List Value := [.slice s.fa s.fn s.fc, .slice s.la s.ln s.lc, .slice s.na s.nn s.nc]
structure Srv (w : World) (s : SV) : Prop where
  first : Doc w s.fa s.fn s.fc s.first
  log : Ents w s.la s.ln s.lc s.log
  now : Doc w s.na s.nn s.nc s.now
theorem Srv.below {w w' : World} {s : SV} (h : Srv w s) (hb : Below w.heap.size w w') : Srv w' s := ⟨h.first.below hb, h.log.below hb, h.now.below hb⟩
def boxs (s : SV) (w : World) : World := w.alloc (.cells #[.slice s.fa s.fn s.fc, .slice s.la s.ln s.lc, .slice s.na s.nn s.nc] 42)
theorem boxs_below (s : SV) (w : World) : Below w.heap.size w (boxs s w) := (Below.refl _ _).alloc (Nat.le_refl _) _
theorem boxs_size (s : SV) (w : World) : (boxs s w).heap.size = w.heap.size + 1 := World.size_alloc ..
theorem boxs_blk (s : SV) (w : World) : Blk (boxs s w) w.heap.size (svC s) 42 := Blk.new w _ _
def sv0 : SV := ⟨none, 0, 0, [], none, 0, 0, [], none, 0, 0, []⟩
end Go.Proofs.YtbhcklkbckacpaaGreatDoor

/-
  Package server: entries checked, held against each other, handed on one by one.
-/
namespace Go.Proofs.YtbhcklkbckacpaaGreatDoor
open Go.RowKit

set_option maxRecDepth 100000 in
set_option maxHeartbeats 1600000 in
theorem entE_any (v : EV) (w : World) (hO : Ops w v.ao v.n v.cap v.vs) (hS : Sch w) :
    Calls Tryz.prog 85 #[.agg #[.int .i64 v.who, .int .i64 v.seq, .slice v.ao v.n v.cap]] w fun e w' => e = .returned (.int .i64 (Sv.entE v.en)) ∧ Below w.heap.size w w' := by
  have H1 : Hid (Below w.heap.size w (boxe v w)) := boxe_below v w
  have CC : Hid (Calls Tryz.prog 160 #[.slice v.ao v.n v.cap] (boxe v w) fun e w' => e = .returned (.int .i64 (Ac.chk (v.vs.map PV.pt))) ∧ Below (boxe v w).heap.size (boxe v w) w') := chk_any v.ao v.n v.cap v.vs _ (hO.below (boxe_below v w)) (hS.below (boxe_below v w))
  clear hO hS
  obtain ⟨r, hr⟩ : ∃ r, Sv.entE v.en = r := ⟨_, rfl⟩
  rw [hr]
  change (if v.who < 0 ∨ 4 ≤ v.who then (5 : Int) else if v.seq < 1 ∨ 10000 < v.seq then 3 else Ac.chk (v.vs.map PV.pt)) = r at hr
  generalize Ac.chk (v.vs.map PV.pt) = c at *
  by_cases h1 : v.who < 0
  · obtain rfl : r = 5 := by rw [← hr, if_pos (show v.who < 0 ∨ 4 ≤ v.who from Or.inl h1)]
    clear hr
    go_enter Tryz.func85, Tryz.ntmps85
    go_wp2
    go_ret
    exact ⟨rfl, H1.out⟩
  · by_cases h2 : 4 ≤ v.who
    · obtain rfl : r = 5 := by rw [← hr, if_pos (show v.who < 0 ∨ 4 ≤ v.who from Or.inr h2)]
      clear hr
      go_enter Tryz.func85, Tryz.ntmps85
      go_wp2
      go_ret
      exact ⟨rfl, H1.out⟩
    · by_cases h3 : v.seq < 1
      · obtain rfl : r = 3 := by rw [← hr, if_neg (show ¬ (v.who < 0 ∨ 4 ≤ v.who) by omega), if_pos (show v.seq < 1 ∨ 10000 < v.seq from Or.inl h3)]
        clear hr
        go_enter Tryz.func85, Tryz.ntmps85
        go_wp2
        go_ret
        exact ⟨rfl, H1.out⟩
      · by_cases h4 : 10000 < v.seq
        · obtain rfl : r = 3 := by rw [← hr, if_neg (show ¬ (v.who < 0 ∨ 4 ≤ v.who) by omega), if_pos (show v.seq < 1 ∨ 10000 < v.seq from Or.inr h4)]
          clear hr
          go_enter Tryz.func85, Tryz.ntmps85
          go_wp2
          go_ret
          exact ⟨rfl, H1.out⟩
        · obtain rfl : r = c := by rw [← hr, if_neg (show ¬ (v.who < 0 ∨ 4 ≤ v.who) by omega), if_neg (show ¬ (v.seq < 1 ∨ 10000 < v.seq) by omega)]
          clear hr
          go_enter Tryz.func85, Tryz.ntmps85
          go_wp2_with fail
          change Calls Tryz.prog 160 _ (boxe v w) _
          refine CC.out.mono ?_
          rintro e w1 ⟨rfl, hb⟩
          have H2 : Hid (Below w.heap.size w w1) := H1.out.trans (hb.mono H1.out.size)
          clear hb
          go_wp2
          go_ret
          exact ⟨rfl, H2.out⟩

set_option maxRecDepth 100000 in
set_option maxHeartbeats 1600000 in
theorem sameE_any (a b : EV) (w : World) (ha : Ops w a.ao a.n a.cap a.vs) (hb : Ops w b.ao b.n b.cap b.vs) :
    Calls Tryz.prog 25 #[.agg #[.int .i64 a.who, .int .i64 a.seq, .slice a.ao a.n a.cap], .agg #[.int .i64 b.who, .int .i64 b.seq, .slice b.ao b.n b.cap]] w fun e w' => e = .returned (.bool (Sv.sameE a.en b.en)) ∧ Below w.heap.size w w' := by
  have H1 : Hid (Below w.heap.size w (boxe b (boxe a w))) := boxe2_below a b w
  have CC : Hid (Calls Tryz.prog 87 #[.slice a.ao a.n a.cap, .slice b.ao b.n b.cap] (boxe b (boxe a w)) fun e w' => e = .returned (.bool (Ac.sameO (a.vs.map PV.pt) (b.vs.map PV.pt))) ∧ Below (boxe b (boxe a w)).heap.size (boxe b (boxe a w)) w') := sameO_any a.ao b.ao a.n a.cap b.n b.cap a.vs b.vs _ (ha.below H1.out) (hb.below H1.out)
  clear ha hb
  obtain ⟨r, hr⟩ : ∃ r, Sv.sameE a.en b.en = r := ⟨_, rfl⟩
  rw [hr]
  unfold Sv.sameE at hr
  simp only [EV.en] at hr
  generalize Ac.sameO (a.vs.map PV.pt) (b.vs.map PV.pt) = c at *
  cases h1 : (a.who == b.who)
  · obtain rfl := hr.symm.trans (show _ = false by rw [h1]; rfl)
    clear hr
    go_enter Tryz.func25, Tryz.ntmps25
    go_wp2
    go_ret
    exact ⟨rfl, H1.out⟩
  · cases h2 : (a.seq == b.seq)
    · obtain rfl := hr.symm.trans (show _ = false by rw [h1, h2]; rfl)
      clear hr
      go_enter Tryz.func25, Tryz.ntmps25
      go_wp2
      go_ret
      exact ⟨rfl, H1.out⟩
    · obtain rfl := hr.symm.trans (show _ = c by rw [h1, h2]; rfl)
      clear hr
      go_enter Tryz.func25, Tryz.ntmps25
      go_wp2_with fail
      change Calls Tryz.prog 87 _ (boxe b (boxe a w)) _
      refine CC.out.mono ?_
      rintro e w1 ⟨rfl, hb⟩
      have H2 : Hid (Below w.heap.size w w1) := H1.out.trans (hb.mono H1.out.size)
      clear hb
      go_wp2
      go_ret
      exact ⟨rfl, H2.out⟩

set_option maxRecDepth 100000 in
set_option maxHeartbeats 1600000 in
theorem eqFuncE_any (ao ao' : Option Addr) (n cap n' cap' : Nat) (es us : List EV) (w : World) (hO : Ents w ao n cap es) (hO' : Ents w ao' n' cap' us) :
    Calls Tryz.prog 86 #[.slice ao n cap, .slice ao' n' cap', .func (.func 25) #[] #[]] w fun e w' => e = .returned (.bool (Sv.sameL (es.map EV.en) (us.map EV.en))) ∧ Below w.heap.size w w' := by
  have HO : Hid (Ents w ao n cap es) := hO
  have HO' : Hid (Ents w ao' n' cap' us) := hO'
  have HN : Hid (es.length = n) := hO.len
  have HN' : Hid (us.length = n') := hO'.len
  have hcap := hO.row.room
  have hbig := hO.row.big
  clear hO hO'
  obtain ⟨r, hr⟩ : ∃ r, Sv.sameL (es.map EV.en) (us.map EV.en) = r := ⟨_, rfl⟩
  have HR : Hid (Sv.sameL (es.map EV.en) (us.map EV.en) = r) := hr
  rw [hr]
  clear hr
  by_cases hnn : n = n'
  · subst hnn
    go_enter Tryz.func86, Tryz.ntmps86
    go_wp2
    go_loopw [17] (fun i wr => ∃ k : Nat, k ≤ n ∧ i = .int .i64 k ∧ Below w.heap.size w wr ∧ Sv.sameL ((es.map EV.en).drop k) ((us.map EV.en).drop k) = r) (fun i _ => n - (intOf i).toNat)
    case atStart => exact ⟨0, Nat.zero_le _, rfl, Below.refl _ _, HR.out⟩
    case round =>
      obtain ⟨k, hk, rfl, hbr, hsm⟩ := hrel
      have HM : Hid (Sv.sameL ((es.map EV.en).drop k) ((us.map EV.en).drop k) = r) := hsm
      have HBR : Hid (Below w.heap.size w wr) := hbr
      clear hsm hbr
      by_cases hlt : k < n
      · obtain ⟨b, off, rfl, hGt⟩ := HO.out.get (by omega)
        obtain ⟨b', off', rfl, hGt'⟩ := HO'.out.get (by omega)
        have h1 : k < es.length := by rw [HN.out]; exact hlt
        have h2 : k < us.length := by rw [HN'.out]; exact hlt
        have HX : Hid (Sv.sameL ((es.map EV.en).drop k) ((us.map EV.en).drop k) = (Sv.sameE es[k].en us[k].en && Sv.sameL ((es.map EV.en).drop (k + 1)) ((us.map EV.en).drop (k + 1)))) := by
          have := Sv.sameL_step (es.map EV.en) (us.map EV.en) k (by rw [List.length_map]; exact h1) (by rw [List.length_map]; exact h2)
          rw [List.getElem_map, List.getElem_map] at this
          exact this
        obtain ⟨a0, a1, a2⟩ := (hGt k h1).below HBR.out
        have Sb := hGt' k h2
        obtain ⟨b0, b1, b2⟩ := Sb.below (HBR.out.trans ((boxe_below es[k] wr).mono HBR.out.size))
        have HB1 : Hid (Below w.heap.size w (boxe us[k] (boxe es[k] wr))) := HBR.out.trans ((boxe2_below _ _ wr).mono HBR.out.size)
        have HPa : Hid (Ops (boxe us[k] (boxe es[k] wr)) es[k].ao es[k].n es[k].cap es[k].vs) := (HO.out.ops _ (List.getElem_mem h1)).below HB1.out
        have HPb : Hid (Ops (boxe us[k] (boxe es[k] wr)) us[k].ao us[k].n us[k].cap us[k].vs) := (HO'.out.ops _ (List.getElem_mem h2)).below HB1.out
        have HS1 : Hid (Thr (boxe us[k] (boxe es[k] wr)) wr.heap.size 0 es[k]) := boxe2_fst es[k] us[k] wr
        have HS2 : Hid (Thr (boxe us[k] (boxe es[k] wr)) (boxe es[k] wr).heap.size 0 us[k]) := boxe_at us[k] (boxe es[k] wr)
        clear hGt hGt' Sb
        generalize es[k] = v at *
        generalize us[k] = u at *
        clear h1 h2
        go_upto_region 6 with fail
        change Code.wp Tryz.prog _ _ _ (boxe v wr)
        go_upto_region 7 with fail
        change Code.wp Tryz.prog _ _ _ (boxe u (boxe v wr))
        generalize boxe u (boxe v wr) = W at *
        clear a0 a1 a2 b0 b1 b2
        obtain ⟨a0, a1, a2⟩ := HS1.out
        obtain ⟨b0, b1, b2⟩ := HS2.out
        simp only [Nat.zero_add] at a0 a1 a2 b0 b1 b2
        go_wp2_with fail
        refine (sameE_any v u _ HPa.out HPb.out).mono ?_
        rintro e w1 ⟨rfl, hb⟩
        have H2 : Hid (Below w.heap.size w w1) := HB1.out.trans (hb.mono HB1.out.size)
        clear hb a0 a1 a2 b0 b1 b2
        cases hal : Sv.sameE v.en u.en
        · obtain rfl : r = false := by rw [← HM.out, HX.out, hal]; rfl
          clear hal
          go_wp2
          go_ret
          exact ⟨rfl, H2.out⟩
        · have HM2 : Hid (Sv.sameL ((es.map EV.en).drop (k + 1)) ((us.map EV.en).drop (k + 1)) = r) := by show _ = _; rw [← HM.out, HX.out, hal, Bool.true_and]
          clear hal
          go_wp2
          go_roundw
          case rel => exact ⟨k + 1, by omega, by go_num, H2.out, HM2.out⟩
          case measure => simp [intOf]; omega
      · obtain rfl : k = n := by omega
        obtain rfl : r = true := by
          rw [← HM.out, List.drop_eq_nil_of_le (by rw [List.length_map, HN.out]; exact Nat.le_refl _), List.drop_eq_nil_of_le (by rw [List.length_map, HN'.out]; exact Nat.le_refl _)]
          rfl
        go_wp2
        go_ret
        exact ⟨rfl, HBR.out⟩
  · obtain rfl : r = false := by rw [← HR.out]; exact Sv.sameL_len _ _ (by rw [List.length_map, List.length_map, HN.out, HN'.out]; exact hnn)
    have hne : ((n : Int) != (n' : Int)) = true := by simp; omega
    have hne' : (n != n') = true := by simp; omega
    go_enter Tryz.func86, Tryz.ntmps86
    go_wp2
    go_ret
    exact ⟨rfl, Below.refl _ _⟩

set_option maxRecDepth 100000 in
set_option maxHeartbeats 1600000 in
theorem eachE_any (ao : Option Addr) (n cap : Nat) (es : List EV) (w : World) (hE : Ents w ao n cap es) (hS : Sch w) :
    Calls Tryz.prog 80 #[.slice ao n cap, .func (.func 85) #[] #[]] w fun e w' => e = .returned (.int .i64 (Sv.entsE (es.map EV.en))) ∧ Below w.heap.size w w' := by
  have HE : Hid (Ents w ao n cap es) := hE
  have HS : Hid (Sch w) := hS
  have HN : Hid (es.length = n) := hE.len
  have hcap := hE.row.room
  have hbig := hE.row.big
  clear hE hS
  obtain ⟨r, hr⟩ : ∃ r, Sv.entsE (es.map EV.en) = r := ⟨_, rfl⟩
  have HR : Hid (Sv.entsE (es.map EV.en) = r) := hr
  rw [hr]
  clear hr
  go_enter Tryz.func80, Tryz.ntmps80
  go_wp2
  go_loopw [10] (fun i wr => ∃ k : Nat, k ≤ n ∧ i = .int .i64 k ∧ Below w.heap.size w wr ∧ Sv.entsE ((es.map EV.en).drop k) = r) (fun i _ => n - (intOf i).toNat)
  case atStart => exact ⟨0, Nat.zero_le _, rfl, Below.refl _ _, HR.out⟩
  case round =>
    obtain ⟨k, hk, rfl, hbr, hsm⟩ := hrel
    have HM : Hid (Sv.entsE ((es.map EV.en).drop k) = r) := hsm
    have HBR : Hid (Below w.heap.size w wr) := hbr
    clear hsm hbr
    by_cases hlt : k < n
    · obtain ⟨b, off, rfl, hGt⟩ := HE.out.get (by omega)
      have h1 : k < es.length := by rw [HN.out]; exact hlt
      have HX : Hid (Sv.entsE ((es.map EV.en).drop k) = if Sv.entE es[k].en = 0 then Sv.entsE ((es.map EV.en).drop (k + 1)) else Sv.entE es[k].en) := by
        have := Sv.entsE_step (es.map EV.en) k (by rw [List.length_map]; exact h1)
        rw [List.getElem_map] at this
        exact this
      obtain ⟨a0, a1, a2⟩ := (hGt k h1).below HBR.out
      have HB1 : Hid (Below w.heap.size w (boxe es[k] wr)) := HBR.out.trans ((boxe_below _ wr).mono HBR.out.size)
      have HOP : Hid (Ops (boxe es[k] wr) es[k].ao es[k].n es[k].cap es[k].vs) := (HE.out.ops _ (List.getElem_mem h1)).below HB1.out
      have HS1 : Hid (Sch (boxe es[k] wr)) := HS.out.below HB1.out
      have HT : Hid (Thr (boxe es[k] wr) wr.heap.size 0 es[k]) := boxe_at es[k] wr
      clear hGt
      generalize es[k] = v at *
      go_upto_region 4 with fail
      change Code.wp Tryz.prog _ _ _ (boxe v wr)
      generalize boxe v wr = W at *
      clear a0 a1 a2
      obtain ⟨a0, a1, a2⟩ := HT.out
      simp only [Nat.zero_add] at a0 a1 a2
      go_wp2_with fail
      refine (entE_any v _ HOP.out HS1.out).mono ?_
      rintro e w1 ⟨rfl, hb⟩
      have H2 : Hid (Below w.heap.size w w1) := HB1.out.trans (hb.mono HB1.out.size)
      clear hb a0 a1 a2
      obtain ⟨q, hq⟩ : ∃ q, Sv.entE v.en = q := ⟨_, rfl⟩
      rw [hq] at HX ⊢
      clear hq
      by_cases hz : q = 0
      · have HM2 : Hid (Sv.entsE ((es.map EV.en).drop (k + 1)) = r) := by show _ = _; rw [← HM.out, HX.out, if_pos hz]
        subst hz
        go_wp2
        go_roundw
        case rel => exact ⟨k + 1, by omega, by go_num, H2.out, HM2.out⟩
        case measure => simp [intOf]; omega
      · have hne : (q != 0) = true := by simp [hz]
        obtain rfl : r = q := by rw [← HM.out, HX.out, if_neg hz]
        go_wp2
        go_ret
        exact ⟨rfl, H2.out⟩
    · obtain rfl : k = n := by omega
      obtain rfl : r = 0 := by
        rw [← HM.out, List.drop_eq_nil_of_le (by rw [List.length_map, HN.out]; exact Nat.le_refl _)]
        rfl
      go_wp2
      go_ret
      exact ⟨rfl, HBR.out⟩

set_option maxRecDepth 100000 in
set_option maxHeartbeats 1600000 in
theorem each_any (F : FuncId) (c : Value) (ao : Option Addr) (n cap : Nat) (es : List EV) (Inv : Nat → World → Prop) (Bad : Int → World → Prop) (w : World) (hF : F = 81 ∨ F = 152) (hR : n ≤ cap ∧ cap ≤ 9223372036854775807 ∧ es.length = n)
    (hE : ∀ k wr, Inv k wr → Ents wr ao n cap es) (hx : ∀ k wr (v : EV), Inv k wr → Inv k (boxe v wr)) (h0 : Inv 0 w)
    (hst : ∀ k (hk : k < es.length) wr, Inv k wr → Calls Tryz.prog F #[.agg #[.int .i64 es[k].who, .int .i64 es[k].seq, .slice es[k].ao es[k].n es[k].cap], c] wr fun e w' => ∃ E, e = .returned (.int .i64 E) ∧ (E = 0 → Inv (k + 1) w') ∧ (E ≠ 0 → Bad E w')) :
    Calls Tryz.prog 80 #[.slice ao n cap, .func (.func F) #[] #[c]] w fun e w' => ∃ E, e = .returned (.int .i64 E) ∧ (E = 0 → Inv n w') ∧ (E ≠ 0 → Bad E w') := by
  obtain ⟨hcap, hbig, hlen⟩ := hR
  have HN : Hid (es.length = n) := hlen
  have HE : Hid (∀ k wr, Inv k wr → Ents wr ao n cap es) := hE
  have HX : Hid (∀ k wr (v : EV), Inv k wr → Inv k (boxe v wr)) := hx
  have HST : Hid (∀ k (hk : k < es.length) wr, Inv k wr → Calls Tryz.prog F #[.agg #[.int .i64 es[k].who, .int .i64 es[k].seq, .slice es[k].ao es[k].n es[k].cap], c] wr fun e w' => ∃ E, e = .returned (.int .i64 E) ∧ (E = 0 → Inv (k + 1) w') ∧ (E ≠ 0 → Bad E w')) := hst
  have HF : Hid (F = 81 ∨ F = 152) := hF
  have H0 : Hid (Inv 0 w) := h0
  clear hE hx hst hF h0 hlen
  go_enter Tryz.func80, Tryz.ntmps80
  go_wp2
  go_loopw [10] (fun i wr => ∃ k : Nat, k ≤ n ∧ i = .int .i64 k ∧ Inv k wr) (fun i _ => n - (intOf i).toNat)
  case atStart => exact ⟨0, Nat.zero_le _, rfl, H0.out⟩
  case round =>
    obtain ⟨k, hk, rfl, hinv⟩ := hrel
    have HI : Hid (Inv k wr) := hinv
    clear hinv
    by_cases hlt : k < n
    · obtain ⟨b, off, rfl, hGt⟩ := (HE.out k wr HI.out).get (by omega)
      have h1 : k < es.length := by rw [HN.out]; exact hlt
      obtain ⟨a0, a1, a2⟩ := hGt k h1
      have CF : Hid (Calls Tryz.prog F #[.agg #[.int .i64 es[k].who, .int .i64 es[k].seq, .slice es[k].ao es[k].n es[k].cap], c] (boxe es[k] wr) fun e w' => ∃ E, e = .returned (.int .i64 E) ∧ (E = 0 → Inv (k + 1) w') ∧ (E ≠ 0 → Bad E w')) := HST.out k h1 _ (HX.out k wr _ HI.out)
      have HT : Hid (Thr (boxe es[k] wr) wr.heap.size 0 es[k]) := boxe_at es[k] wr
      clear hGt
      generalize es[k] = v at *
      go_upto_region 4 with fail
      change Code.wp Tryz.prog _ _ _ (boxe v wr)
      generalize boxe v wr = W at *
      clear a0 a1 a2
      obtain ⟨a0, a1, a2⟩ := HT.out
      simp only [Nat.zero_add] at a0 a1 a2
      rcases HF.out with rfl | rfl
      all_goals
        go_wp2_with fail
        refine CF.out.mono ?_
        rintro e w1 ⟨q, rfl, hi, hb⟩
        have HI2 : Hid (q = 0 → Inv (k + 1) w1) := hi
        have HB2 : Hid (q ≠ 0 → Bad q w1) := hb
        clear hi hb a0 a1 a2
        by_cases hz : q = 0
        · have HI3 : Hid (Inv (k + 1) w1) := HI2.out hz
          subst hz
          go_wp2
          go_roundw
          case rel => exact ⟨k + 1, by omega, by go_num, HI3.out⟩
          case measure => simp [intOf]; omega
        · have hne : (q != 0) = true := by simp [hz]
          go_wp2
          go_ret
          exact ⟨q, rfl, fun e => absurd e hz, HB2.out⟩
    · obtain rfl : k = n := by omega
      go_wp2
      go_ret
      exact ⟨0, rfl, fun _ => HI.out, fun h => absurd rfl h⟩
end Go.Proofs.YtbhcklkbckacpaaGreatDoor
