/-
  Texts of this proof, one behind the other.
-/
import Derived.Test.YtbhcklkbckacpaaDoorG7

/-
  Package ot: turned: two operations, each behind the other one.
-/
namespace Go.Proofs.YtbhcklkbckacpaaDoor
open Go.RowKit

set_option maxRecDepth 100000 in
set_option maxHeartbeats 12800000 in
theorem turned_any (ao ao' : Option Addr) (n cap n' cap' : Nat) (vs vs' : List PV) (w : World) (hO : Ops w ao n cap vs) (hO' : Ops w ao' n' cap' vs') (hR : Ac.Right (vs.map PV.pt)) (hR' : Ac.Right (vs'.map PV.pt)) (hnd : Ac.nd (vs.map PV.pt) = Ac.nd (vs'.map PV.pt)) :
    Calls Tryd.prog 32 #[.agg #[.slice ao n cap, .int .i64 0, .slice ao' n' cap', .int .i64 0]] w fun e w' => (∃ a0 n0 c0 u0 a1 n1 c1 u1, e = .returned (.agg #[.slice a0 n0 c0, .slice a1 n1 c1]) ∧ Ops w' a0 n0 c0 u0 ∧ Ops w' a1 n1 c1 u1 ∧ Ac.turn (Ac.acts (vs.map PV.pt)) (Ac.acts (vs'.map PV.pt)) = (Ac.acts (u0.map PV.pt), Ac.acts (u1.map PV.pt)) ∧ (∀ v ∈ u0, Ac.err1 v.pt = 0) ∧ (∀ v ∈ u1, Ac.err1 v.pt = 0) ∧ u0.length ≤ 80 ∧ u1.length ≤ 80) ∧ Below w.heap.size w w' := by
  obtain ⟨i0, hi, hz0, hz1, hz2⟩ := info_parts Tryd.infP
  have HT0 : Hid (TurnW w (boxo (boxo (boxr ⟨ao, n, cap, vs, 0⟩ ⟨ao', n', cap', vs', 0⟩ w))) ⟨ao, n, cap, vs, 0⟩ ⟨ao', n', cap', vs', 0⟩ (.slice none 0 0) (.slice none 0 0) [] []) := TurnW.start _ _ w hO hO'
  have HI0 : Hid (Ac.TurnI (vs.map PV.pt) (vs'.map PV.pt) (vs.map PV.pt) 0 (vs'.map PV.pt) 0 [] []) := Ac.TurnI.start hR hR' hnd
  have HF : Hid ((vs.map PV.pt).length + (vs'.map PV.pt).length ≤ 80) := by have := hR.few; have := hR'.few; show _ ≤ _; omega
  obtain ⟨A, hA⟩ : ∃ A, vs.map PV.pt = A := ⟨_, rfl⟩
  obtain ⟨B, hB⟩ : ∃ B, vs'.map PV.pt = B := ⟨_, rfl⟩
  have HI1 : Hid (Ac.TurnI A B (vs.map PV.pt) 0 (vs'.map PV.pt) 0 [] []) := by have := HI0.out; rw [hA, hB] at this; show Ac.TurnI A B (vs.map PV.pt) 0 (vs'.map PV.pt) 0 [] []; rw [hA, hB]; exact this
  rw [hA, hB] at HF ⊢
  clear HI0
  clear hO hO' hR hR' hnd hA hB
  go_enter Tryd.func32, Tryd.ntmps32
  go_wp2_with fail
  go_loopw [9] (fun _ wr => ∃ r s x y ux uy, TurnW w wr r s x y ux uy ∧ Ac.TurnI A B (r.vs.map PV.pt) r.g (s.vs.map PV.pt) s.g (ux.map PV.pt) (uy.map PV.pt)) (fun _ wr => lenAt wr ⟨w.heap.size, 0, none⟩ + lenAt wr ⟨w.heap.size, 2, none⟩)
  case atStart => exact ⟨_, _, _, _, [], [], HT0.out, HI1.out⟩
  case round =>
    obtain ⟨r, s, x, y, ux, uy, hT, hI⟩ := hrel
    have HT : Hid (TurnW w wr r s x y ux uy) := hT
    have HI : Hid (Ac.TurnI A B (r.vs.map PV.pt) r.g (s.vs.map PV.pt) s.g (ux.map PV.pt) (uy.map PV.pt)) := hI
    clear hT hI HT0 HI1
    obtain ⟨rvs, hrv⟩ : ∃ rvs, r.vs = rvs := ⟨_, rfl⟩
    cases rvs with
    | nil =>
      have C1 : Hid (Calls Tryd.prog 71 #[.pointer (some ⟨w.heap.size, 0, none⟩)] wr fun e w' => e = .returned (.bool false) ∧ w' = wr) := isLeft_any w.heap.size r s wr false (by have := HT.out.hr.len; rw [hrv] at this; simp at this; simp; omega) HT.out.pb
      have HD : Hid (Ac.turn (Ac.acts A) (Ac.acts B) = (Ac.acts (ux.map PV.pt), Ac.acts (uy.map PV.pt))) := by have := HI.out; rw [hrv] at this; exact this.done
      have m0 : wr.cell? ⟨w.heap.size + 2, 0, none⟩ = some x := HT.out.mb.cell 0
      have m1 : wr.cell? ⟨w.heap.size + 2, 1, none⟩ = some y := HT.out.mb.cell 1
      have r0 : wr.cell? ⟨w.heap.size + 1, 0, none⟩ = some (.slice none 0 0) := HT.out.rb.cell 0
      have r1 : wr.cell? ⟨w.heap.size + 1, 1, none⟩ = some (.slice none 0 0) := HT.out.rb.cell 1
      have f0 := HT.out.rb.frozen 0
      have f1 := HT.out.rb.frozen 1
      obtain ⟨k1, ⟨xa, xl, xc, hx, hxo⟩, ⟨ya, yl, yc, hy, hyo⟩, k4⟩ := HT.out.ret
      have K1 : Hid _ := k1
      have K4 : Hid _ := k4
      have HXO : Hid (Ops (set2 wr (w.heap.size + 1) x y) xa xl xc ux) := hxo
      have HYO : Hid (Ops (set2 wr (w.heap.size + 1) x y) ya yl yc uy) := hyo
      clear hrv hxo hyo k1 k4
      subst hx hy
      go_wp2_with fail
      refine C1.out.mono ?_
      rintro e w1 ⟨rfl, hw⟩
      obtain rfl := hw.symm
      go_wp2
      change bodyPost Tryd.prog _ _ Exit.ret _ (set2 wr (w.heap.size + 1) (.slice xa xl xc) (.slice ya yl yc))
      have hl1 := HI.out.lx
      have hl2 := HI.out.ly
      have hf := HF.out
      rw [List.length_map] at hl1 hl2
      exact bodyPost_ret (ret_oo rfl _ rfl K1.out) rfl ⟨⟨_, _, _, ux, _, _, _, uy, rfl, HXO.out, HYO.out, HD.out, fun v hv => HI.out.okx _ (List.mem_map.2 ⟨v, hv, rfl⟩), fun v hv => HI.out.oky _ (List.mem_map.2 ⟨v, hv, rfl⟩), by omega, by omega⟩, K4.out⟩
    | cons v t =>
      obtain ⟨v', t', hsv⟩ : ∃ v' t', s.vs = v' :: t' := by
        cases hs : s.vs with
        | nil =>
          have := HI.out.left.2 (by rw [hs]; rfl)
          rw [hrv] at this
          cases this
        | cons v' t' => exact ⟨v', t', rfl⟩
      have HO1 : Hid (Ops w r.ao r.n r.cap (v :: t)) := by have := HT.out.hr; rw [hrv] at this; exact this
      have HO2 : Hid (Ops w s.ao s.n s.cap (v' :: t')) := by have := HT.out.hs; rw [hsv] at this; exact this
      have HI1 : Hid (Ac.TurnI A B (v.pt :: t.map PV.pt) r.g (v'.pt :: t'.map PV.pt) s.g (ux.map PV.pt) (uy.map PV.pt)) := by have := HI.out; rw [hrv, hsv] at this; exact this
      have C1 : Hid (Calls Tryd.prog 71 #[.pointer (some ⟨w.heap.size, 0, none⟩)] wr fun e w' => e = .returned (.bool true) ∧ w' = wr) := isLeft_any w.heap.size r s wr true (by have := HT.out.hr.len; rw [hrv] at this; simp at this; simp; omega) HT.out.pb
      have EV : Hid (Ac.err1 v.pt = 0) := HI1.out.rp.ok _ (List.mem_cons_self ..)
      have EW : Hid (Ac.err1 v'.pt = 0) := HI1.out.rq.ok _ (List.mem_cons_self ..)
      have E1 : Hid (lgV v = (Ac.lg v.pt : Int)) := lg_lgV (HO1.out.pts v (List.mem_cons_self ..)) EV.out
      have E2 : Hid (lgV v' = (Ac.lg v'.pt : Int)) := lg_lgV (HO2.out.pts v' (List.mem_cons_self ..)) EW.out
      have hl1 : (r.g : Int) < lgV v ∧ lgV v ≤ 80 := by have h1 := HI1.out.rp.lt _ _ rfl; have h2 := (Ac.lg_bd EV.out).2; rw [E1.out]; omega
      have hl2 : (s.g : Int) < lgV v' ∧ lgV v' ≤ 80 := by have h1 := HI1.out.rq.lt _ _ rfl; have h2 := (Ac.lg_bd EW.out).2; rw [E2.out]; omega
      by_cases kv : v.kind = 2
      · obtain ⟨q, hq⟩ : ∃ q : Nat, lgV v - r.g = q := ⟨(lgV v - r.g).toNat, by omega⟩
        have hq1 : 1 ≤ q := by omega
        have hqe : lgV v = ((r.g + q : Nat) : Int) := by omega
        have C2 : Hid (Calls Tryd.prog 72 #[.pointer (some ⟨w.heap.size, 0, none⟩)] wr fun e w' => e = .returned (.tuple #[.int .i64 0, .bool true]) ∧ w' = wr) := putting_a w.heap.size r s wr HT.out.pb (HT.out.hr.below HT.out.blw) (HT.out.hs.below HT.out.blw) (by rw [hrv]; simp [atK, kv])
        have C3 : Hid (Calls Tryd.prog 73 #[.pointer (some ⟨w.heap.size, 0, none⟩)] wr fun e w' => e = .returned (.agg #[.int .i64 (pieceV v r.g q).kind, .int .i64 (pieceV v r.g q).n, .slice (pieceV v r.g q).ao (pieceV v r.g q).m (pieceV v r.g q).cap, .int .i64 (pieceV v r.g q).set, .int .i64 (pieceV v r.g q).clr, .bool (pieceV v r.g q).goes, .string (pieceV v r.g q).link]) ∧ Blk w' w.heap.size (prC (r.next v t q) s) 69 ∧ Kept wr w' [w.heap.size]) := takePart0_any w.heap.size r s v t q wr HT.out.pb (HO1.out.below HT.out.blw) (HO1.out.off (Nat.le_refl _)) hq1 hqe (by omega)
        have HPU : Hid (Pvt w (pieceV v r.g q)) := (HO1.out.pts v (List.mem_cons_self ..)).piece hq1 (fun k => by have h := hqe; unfold lgV at h; rw [if_pos k] at h; omega)
        have HMQ : Hid ((pieceV v r.g q).m = q) := by show _ = _; unfold pieceV; rw [if_pos kv]
        have HNO : Hid (Ops w (r.next v t q).ao (r.next v t q).n (r.next v t q).cap (r.next v t q).vs) := RV.next_ok HO1.out q
        have HIN : Hid (Ac.TurnI A B ((r.next v t q).vs.map PV.pt) (r.next v t q).g (s.vs.map PV.pt) s.g ((ux ++ [pieceV v r.g q]).map PV.pt) ((uy ++ [(⟨1, q, none, 0, 0, [], 0, 0, false, ⟨#[]⟩⟩ : PV)]).map PV.pt)) := by
          have h := HI1.out.putA kv
          have hE : r.g + q = Ac.lg v.pt := by have := E1.out; omega
          have hqq : Ac.lg v.pt - r.g = q := by omega
          rw [hqq] at h
          have hn := next_pt (r := r) (t := t) (HO1.out.pts v (List.mem_cons_self ..)) EV.out q
          show Ac.TurnI _ _ _ _ _ _ _ _
          rw [hn.1, hn.2, Ac.nxtP_end hE, Ac.nxtG_end hE, hsv]
          simp only [List.map_append, List.map_cons, List.map_nil, pieceV_pt]
          exact h
        have hml : ux.length ≤ 80 ∧ uy.length ≤ 80 := by have h1 := HI.out.lx; have h2 := HI.out.ly; have h3 := HF.out; rw [List.length_map] at h1 h2; exact ⟨by omega, by omega⟩
        have HLES : Hid ((r.next v t q).vs.length < r.vs.length) := by
          have hE : ((r.g + q : Nat) : Int) = lgV v := hqe.symm
          show _ < _
          unfold RV.next
          rw [if_pos hE, hrv]
          simp
        clear hqe hq1 E1 E2 EV EW HI1 hrv hsv kv hl1
        generalize pieceV v r.g q = u at *
        generalize r.next v t q = nx at *
        go_wp2_with fail
        refine C1.out.mono ?_
        rintro e w1 ⟨rfl, hw⟩
        obtain rfl := hw.symm
        go_wp2_with fail
        refine C2.out.mono ?_
        rintro e w1 ⟨rfl, hw⟩
        obtain rfl := hw.symm
        go_wp2_with fail
        refine C3.out.mono ?_
        rintro e w2 ⟨rfl, hb2, hk2⟩
        have HT2 : Hid (TurnW w w2 nx s x y ux uy) := HT.out.pair hk2 hb2 HNO.out HT.out.hs
        have HT3 : Hid (TurnW w (boxp u w2) nx s x y ux uy) := HT2.out.under (boxp_below u w2)
        have HPB : Hid (Blk (boxp u w2) w2.heap.size (pvC u) 77) := boxp_blk u w2
        clear hb2 hk2 C1 C2 C3
        go_upto_region 6 with fail
        change Code.wp Tryd.prog _ _ _ (boxp u w2)
        generalize boxp u w2 = W3 at *
        have p0 : W3.cell? ⟨w2.heap.size, 0, none⟩ = some (.int .i64 u.kind) := HPB.out.cell 0
        have p1 : W3.cell? ⟨w2.heap.size, 1, none⟩ = some (.int .i64 u.n) := HPB.out.cell 1
        have p2 : W3.cell? ⟨w2.heap.size, 2, none⟩ = some (.slice u.ao u.m u.cap) := HPB.out.cell 2
        have p3 : W3.cell? ⟨w2.heap.size, 3, none⟩ = some (.int .i64 u.set) := HPB.out.cell 3
        have p4 : W3.cell? ⟨w2.heap.size, 4, none⟩ = some (.int .i64 u.clr) := HPB.out.cell 4
        have p5 : W3.cell? ⟨w2.heap.size, 5, none⟩ = some (.bool u.goes) := HPB.out.cell 5
        have p6 : W3.cell? ⟨w2.heap.size, 6, none⟩ = some (.string u.link) := HPB.out.cell 6
        have m0 : W3.cell? ⟨w.heap.size + 2, 0, none⟩ = some x := HT3.out.mb.cell 0
        have m1 : W3.cell? ⟨w.heap.size + 2, 1, none⟩ = some y := HT3.out.mb.cell 1
        have m2 : W3.cell? ⟨w.heap.size + 1 + 1, 0, none⟩ = some x := HT3.out.mb.cell 0
        have m3 : W3.cell? ⟨w.heap.size + 1 + 1, 1, none⟩ = some y := HT3.out.mb.cell 1
        obtain ⟨xl, hxl⟩ : ∃ xl, ux.length = xl := ⟨_, rfl⟩
        obtain ⟨yl, hyl⟩ : ∃ yl, uy.length = yl := ⟨_, rfl⟩
        rw [hxl, hyl] at hml
        obtain ⟨hml1, hml2⟩ := hml
        have HXL : Hid (ux.length = xl) := hxl
        have HYL : Hid (uy.length = yl) := hyl
        clear hxl hyl
        have HOX : Hid (W3.ownsRow (w.heap.size + 3) 77 7 x xl (pvCells ux)) := by have := HT3.out.mx; rw [HXL.out] at this; exact this
        have hsz : w.heap.size + 3 ≤ W3.heap.size := HT3.out.mb.lt
        have hsy : w.heap.size + 1 + 1 < W3.heap.size := HT3.out.mb.lt
        have hps : w2.heap.size < W3.heap.size := HPB.out.lt
        go_region_law (first | (refine step_append_lies _ rfl (.tmp 21) (.tmp 23) 23 rfl (w.heap.size + 3) 77 i0 (.agg #[.int .i64 0, .int .i64 0, .slice none 0 0, .int .i64 0, .int .i64 0, .bool false, .string ⟨#[]⟩]) 7 80 Tryd.underlying23 hi hz0 hz1 hz2 rfl (by decide) x xl (pvCells ux) rfl (HOX.out.drew.alloc _) ⟨W3.heap.size, 0, none⟩ 1 1 (pvC u) rfl rfl (World.news_of_block (cs := (pvC u).toArray) (heap_alloc_new W3.drew _)) (by rw [← pvCells_one]; exact pvCells_oneCell _) (by decide) (by unfold maxLen; omega) (by omega) (by simp; omega) _ rfl ?_; intro g cap2 w4 hown hgrow hat hlt; obtain ⟨-, hB4⟩ := HT3.out.midX ((Below.refl _ _).drew.alloc (Nat.le_refl _) _) hgrow; have n0 : w4.cell? ⟨w.heap.size + 1 + 1, 0, none⟩ = some x := hB4.cell 0; have z0 : w4.frozen? ⟨w.heap.size + 1 + 1, 0, none⟩ = false := hB4.frozen 0; clear hB4))
        all_goals
          have hal3 : Below W3.heap.size W3 (W3.drew.alloc (.cells #[.int .i64 u.kind, .int .i64 u.n, .slice u.ao u.m u.cap, .int .i64 u.set, .int .i64 u.clr, .bool u.goes, .string u.link] 77)) := (Below.refl _ _).drew.alloc (Nat.le_refl _) _
          have HT5 := HT3.out.pushX (us := [u]) hal3 (fun z hz => by rw [List.mem_singleton.1 hz]; exact HPU.out) (by rw [List.length_append, HXL.out]) (by rw [pvCells_one]; exact hown) hgrow hat
          have HPB5 : Blk (w4.setCell ⟨w.heap.size + 2, 0, none⟩ (.slice (some ⟨g, 0, none⟩) (xl + 1) cap2)) w2.heap.size (pvC u) 77 := (((HT3.out.midX hal3 hgrow).1).blk HPB.out (fun hx => by have := (HT2.out.mx.lt _ (ob_mem hx)).2; omega)).other _ _ (by have := HT2.out.mb.lt; simp; omega)
          clear hal3 hown hgrow hat hlt n0 z0
          change Exit.then _ _ Exit.normal _ (w4.setCell ⟨w.heap.size + 2, 0, none⟩ (.slice (some ⟨g, 0, none⟩) (xl + 1) cap2))
          generalize w4.setCell ⟨w.heap.size + 2, 0, none⟩ (.slice (some ⟨g, 0, none⟩) (xl + 1) cap2) = W5 at *
          have HT5 : Hid _ := HT5
          have HPB5 : Hid (Blk W5 w2.heap.size (pvC u) 77) := HPB5
          have n1 : W5.cell? ⟨w.heap.size + 1 + 1, 1, none⟩ = some y := HT5.out.mb.cell 1
          have p2' : W5.cell? ⟨w2.heap.size, 2, none⟩ = some (.slice u.ao u.m u.cap) := HPB5.out.cell 2
          have hps5 : w2.heap.size < W5.heap.size := HPB5.out.lt
          have hsz5 : w.heap.size + 3 ≤ W5.heap.size := HT5.out.mb.lt
          have hsy5 : w.heap.size + 1 + 1 < W5.heap.size := HT5.out.mb.lt
          have HOY : Hid (W5.ownsRow (w.heap.size + 3) 77 7 y yl (pvCells uy)) := by have := HT5.out.my; rw [HYL.out] at this; exact this
          have hwi : IntKind.i64.wrap 1 = 1 := by decide
          have hwi0 : IntKind.i64.wrap 0 = 0 := by decide
          clear p0 p1 p2 p3 p4 p5 p6 m0 m1 m2 m3
          go_wp2_with fail
          go_region_law (first | (refine step_append_lies _ rfl (.tmp 31) (.tmp 36) 23 rfl (w.heap.size + 3) 77 i0 (.agg #[.int .i64 0, .int .i64 0, .slice none 0 0, .int .i64 0, .int .i64 0, .bool false, .string ⟨#[]⟩]) 7 80 Tryd.underlying23 hi hz0 hz1 hz2 rfl (by decide) y yl (pvCells uy) rfl (HOY.out.drew.alloc _) ⟨W5.heap.size, 0, none⟩ 1 1 (pvC ⟨1, (u.m : Int), none, 0, 0, [], 0, 0, false, ⟨#[]⟩⟩) rfl rfl (World.news_of_block (cs := (pvC ⟨1, (u.m : Int), none, 0, 0, [], 0, 0, false, ⟨#[]⟩⟩).toArray) (heap_alloc_new W5.drew _)) (by rw [← pvCells_one]; exact pvCells_oneCell _) (by decide) (by unfold maxLen; omega) (by omega) (by simp; omega) _ rfl ?_; intro g6 cap6 w6 hown6 hgrow6 hat6 hlt6; obtain ⟨-, hB6⟩ := HT5.out.midY ((Below.refl _ _).drew.alloc (Nat.le_refl _) _) hgrow6; have n3 : w6.cell? ⟨w.heap.size + 1 + 1, 1, none⟩ = some y := hB6.cell 1; have z3 : w6.frozen? ⟨w.heap.size + 1 + 1, 1, none⟩ = false := hB6.frozen 1; clear hB6))
          all_goals
            have hal6 : Below W5.heap.size W5 (W5.drew.alloc (.cells #[.int .i64 1, .int .i64 u.m, .slice none 0 0, .int .i64 0, .int .i64 0, .bool false, .string ⟨#[]⟩] 77)) := (Below.refl _ _).drew.alloc (Nat.le_refl _) _
            have HT7 := HT5.out.pushY (us := [⟨1, (u.m : Int), none, 0, 0, [], 0, 0, false, ⟨#[]⟩⟩]) hal6 (fun z hz => by rw [List.mem_singleton.1 hz]; exact ⟨doc_none w, Nat.zero_le _⟩) (by rw [List.length_append, HYL.out]) (by rw [pvCells_one]; exact hown6) hgrow6 hat6
            clear hal6 hown6 hgrow6 hat6 hlt6 n3 z3
            change Exit.then _ _ Exit.normal _ (w6.setCell ⟨w.heap.size + 2, 1, none⟩ (.slice (some ⟨g6, 0, none⟩) (yl + 1) cap6))
            generalize w6.setCell ⟨w.heap.size + 2, 1, none⟩ (.slice (some ⟨g6, 0, none⟩) (yl + 1) cap6) = W7 at *
            have HT7 : Hid _ := HT7
            clear n1 p2'
            go_wp2
            go_roundw
            case rel => exact ⟨_, _, _, _, _, _, HT7.out, by rw [HMQ.out]; exact HIN.out⟩
            case measure => have h1 := HT.out.left; have h2 := HT7.out.left; have h3 := HLES.out; omega
      · by_cases kw : v'.kind = 2
        · obtain ⟨q, hq⟩ : ∃ q : Nat, lgV v' - s.g = q := ⟨(lgV v' - s.g).toNat, by omega⟩
          have hq1 : 1 ≤ q := by omega
          have hqe : lgV v' = ((s.g + q : Nat) : Int) := by omega
          have C2 : Hid (Calls Tryd.prog 72 #[.pointer (some ⟨w.heap.size, 0, none⟩)] wr fun e w' => e = .returned (.tuple #[.int .i64 1, .bool true]) ∧ w' = wr) := putting_b w.heap.size r s wr HT.out.pb (HT.out.hr.below HT.out.blw) (HT.out.hs.below HT.out.blw) (by rw [hrv]; simp [atK, kv]) (by rw [hsv]; simp [atK, kw])
          have C3 : Hid (Calls Tryd.prog 73 #[.pointer (some ⟨w.heap.size, 2, none⟩)] wr fun e w' => e = .returned (.agg #[.int .i64 (pieceV v' s.g q).kind, .int .i64 (pieceV v' s.g q).n, .slice (pieceV v' s.g q).ao (pieceV v' s.g q).m (pieceV v' s.g q).cap, .int .i64 (pieceV v' s.g q).set, .int .i64 (pieceV v' s.g q).clr, .bool (pieceV v' s.g q).goes, .string (pieceV v' s.g q).link]) ∧ Blk w' w.heap.size (prC r (s.next v' t' q)) 69 ∧ Kept wr w' [w.heap.size]) := takePart2_any w.heap.size r s v' t' q wr HT.out.pb (HO2.out.below HT.out.blw) (HO2.out.off (Nat.le_refl _)) hq1 hqe (by omega)
          have HPU : Hid (Pvt w (pieceV v' s.g q)) := (HO2.out.pts v' (List.mem_cons_self ..)).piece hq1 (fun k => by have h := hqe; unfold lgV at h; rw [if_pos k] at h; omega)
          have HMQ : Hid ((pieceV v' s.g q).m = q) := by show _ = _; unfold pieceV; rw [if_pos kw]
          have HNO : Hid (Ops w (s.next v' t' q).ao (s.next v' t' q).n (s.next v' t' q).cap (s.next v' t' q).vs) := RV.next_ok HO2.out q
          have HIN : Hid (Ac.TurnI A B (r.vs.map PV.pt) r.g ((s.next v' t' q).vs.map PV.pt) (s.next v' t' q).g ((ux ++ [(⟨1, q, none, 0, 0, [], 0, 0, false, ⟨#[]⟩⟩ : PV)]).map PV.pt) ((uy ++ [pieceV v' s.g q]).map PV.pt)) := by
            have h := HI1.out.putB kv kw
            have hE : s.g + q = Ac.lg v'.pt := by have := E2.out; omega
            have hqq : Ac.lg v'.pt - s.g = q := by omega
            rw [hqq] at h
            have hn := next_pt (r := s) (t := t') (HO2.out.pts v' (List.mem_cons_self ..)) EW.out q
            show Ac.TurnI _ _ _ _ _ _ _ _
            rw [hn.1, hn.2, Ac.nxtP_end hE, Ac.nxtG_end hE, hrv]
            simp only [List.map_append, List.map_cons, List.map_nil, pieceV_pt]
            exact h
          have hml : ux.length ≤ 80 ∧ uy.length ≤ 80 := by have h1 := HI.out.lx; have h2 := HI.out.ly; have h3 := HF.out; rw [List.length_map] at h1 h2; exact ⟨by omega, by omega⟩
          have HLES : Hid ((s.next v' t' q).vs.length < s.vs.length) := by
            have hE : ((s.g + q : Nat) : Int) = lgV v' := hqe.symm
            show _ < _
            unfold RV.next
            rw [if_pos hE, hsv]
            simp
          clear hqe hq1 E1 E2 EV EW HI1 hrv hsv kv kw hl1 hl2
          generalize pieceV v' s.g q = u at *
          generalize s.next v' t' q = nx at *
          go_wp2_with fail
          refine C1.out.mono ?_
          rintro e w1 ⟨rfl, hw⟩
          obtain rfl := hw.symm
          go_wp2_with fail
          refine C2.out.mono ?_
          rintro e w1 ⟨rfl, hw⟩
          obtain rfl := hw.symm
          go_wp2_with fail
          refine C3.out.mono ?_
          rintro e w2 ⟨rfl, hb2, hk2⟩
          have HT2 : Hid (TurnW w w2 r nx x y ux uy) := HT.out.pair hk2 hb2 HT.out.hr HNO.out
          have HT3 : Hid (TurnW w (boxp u w2) r nx x y ux uy) := HT2.out.under (boxp_below u w2)
          have HPB : Hid (Blk (boxp u w2) w2.heap.size (pvC u) 77) := boxp_blk u w2
          clear hb2 hk2 C1 C2 C3
          go_upto_region 6 with fail
          change Code.wp Tryd.prog _ _ _ (boxp u w2)
          generalize boxp u w2 = W3 at *
          have p0 : W3.cell? ⟨w2.heap.size, 0, none⟩ = some (.int .i64 u.kind) := HPB.out.cell 0
          have p1 : W3.cell? ⟨w2.heap.size, 1, none⟩ = some (.int .i64 u.n) := HPB.out.cell 1
          have p2 : W3.cell? ⟨w2.heap.size, 2, none⟩ = some (.slice u.ao u.m u.cap) := HPB.out.cell 2
          have p3 : W3.cell? ⟨w2.heap.size, 3, none⟩ = some (.int .i64 u.set) := HPB.out.cell 3
          have p4 : W3.cell? ⟨w2.heap.size, 4, none⟩ = some (.int .i64 u.clr) := HPB.out.cell 4
          have p5 : W3.cell? ⟨w2.heap.size, 5, none⟩ = some (.bool u.goes) := HPB.out.cell 5
          have p6 : W3.cell? ⟨w2.heap.size, 6, none⟩ = some (.string u.link) := HPB.out.cell 6
          have m0 : W3.cell? ⟨w.heap.size + 2, 1, none⟩ = some y := HT3.out.mb.cell 1
          have m1 : W3.cell? ⟨w.heap.size + 2, 0, none⟩ = some x := HT3.out.mb.cell 0
          have m2 : W3.cell? ⟨w.heap.size + 1 + 1, 1, none⟩ = some y := HT3.out.mb.cell 1
          have m3 : W3.cell? ⟨w.heap.size + 1 + 1, 0, none⟩ = some x := HT3.out.mb.cell 0
          obtain ⟨yl, hyl⟩ : ∃ yl, uy.length = yl := ⟨_, rfl⟩
          obtain ⟨xl, hxl⟩ : ∃ xl, ux.length = xl := ⟨_, rfl⟩
          rw [hyl, hxl] at hml
          obtain ⟨hml1, hml2⟩ := hml
          have HYL : Hid (uy.length = yl) := hyl
          have HXL : Hid (ux.length = xl) := hxl
          clear hyl hxl
          have HOY : Hid (W3.ownsRow (w.heap.size + 3) 77 7 y yl (pvCells uy)) := by have := HT3.out.my; rw [HYL.out] at this; exact this
          have hsz : w.heap.size + 3 ≤ W3.heap.size := HT3.out.mb.lt
          have hsy : w.heap.size + 1 + 1 < W3.heap.size := HT3.out.mb.lt
          have hps : w2.heap.size < W3.heap.size := HPB.out.lt
          go_region_law (first | (refine step_append_lies _ rfl (.tmp 21) (.tmp 23) 23 rfl (w.heap.size + 3) 77 i0 (.agg #[.int .i64 0, .int .i64 0, .slice none 0 0, .int .i64 0, .int .i64 0, .bool false, .string ⟨#[]⟩]) 7 80 Tryd.underlying23 hi hz0 hz1 hz2 rfl (by decide) y yl (pvCells uy) rfl (HOY.out.drew.alloc _) ⟨W3.heap.size, 0, none⟩ 1 1 (pvC u) rfl rfl (World.news_of_block (cs := (pvC u).toArray) (heap_alloc_new W3.drew _)) (by rw [← pvCells_one]; exact pvCells_oneCell _) (by decide) (by unfold maxLen; omega) (by omega) (by simp; omega) _ rfl ?_; intro g cap2 w4 hown hgrow hat hlt; obtain ⟨-, hB4⟩ := HT3.out.midY ((Below.refl _ _).drew.alloc (Nat.le_refl _) _) hgrow; have n0 : w4.cell? ⟨w.heap.size + 1 + 1, 1, none⟩ = some y := hB4.cell 1; have z0 : w4.frozen? ⟨w.heap.size + 1 + 1, 1, none⟩ = false := hB4.frozen 1; clear hB4))
          all_goals
            have hal3 : Below W3.heap.size W3 (W3.drew.alloc (.cells #[.int .i64 u.kind, .int .i64 u.n, .slice u.ao u.m u.cap, .int .i64 u.set, .int .i64 u.clr, .bool u.goes, .string u.link] 77)) := (Below.refl _ _).drew.alloc (Nat.le_refl _) _
            have HT5 := HT3.out.pushY (us := [u]) hal3 (fun z hz => by rw [List.mem_singleton.1 hz]; exact HPU.out) (by rw [List.length_append, HYL.out]) (by rw [pvCells_one]; exact hown) hgrow hat
            have HPB5 : Blk (w4.setCell ⟨w.heap.size + 2, 1, none⟩ (.slice (some ⟨g, 0, none⟩) (yl + 1) cap2)) w2.heap.size (pvC u) 77 := (((HT3.out.midY hal3 hgrow).1).blk HPB.out (fun hx => by have := (HT2.out.my.lt _ (ob_mem hx)).2; omega)).other _ _ (by have := HT2.out.mb.lt; simp; omega)
            clear hal3 hown hgrow hat hlt n0 z0
            change Exit.then _ _ Exit.normal _ (w4.setCell ⟨w.heap.size + 2, 1, none⟩ (.slice (some ⟨g, 0, none⟩) (yl + 1) cap2))
            generalize w4.setCell ⟨w.heap.size + 2, 1, none⟩ (.slice (some ⟨g, 0, none⟩) (yl + 1) cap2) = W5 at *
            have HT5 : Hid _ := HT5
            have HPB5 : Hid (Blk W5 w2.heap.size (pvC u) 77) := HPB5
            have n1 : W5.cell? ⟨w.heap.size + 1 + 1, 0, none⟩ = some x := HT5.out.mb.cell 0
            have p2' : W5.cell? ⟨w2.heap.size, 2, none⟩ = some (.slice u.ao u.m u.cap) := HPB5.out.cell 2
            have hps5 : w2.heap.size < W5.heap.size := HPB5.out.lt
            have hsz5 : w.heap.size + 3 ≤ W5.heap.size := HT5.out.mb.lt
            have hsy5 : w.heap.size + 1 + 1 < W5.heap.size := HT5.out.mb.lt
            have HOX : Hid (W5.ownsRow (w.heap.size + 3) 77 7 x xl (pvCells ux)) := by have := HT5.out.mx; rw [HXL.out] at this; exact this
            have hwi : IntKind.i64.wrap 1 = 1 := by decide
            have hwi0 : IntKind.i64.wrap 0 = 0 := by decide
            clear p0 p1 p2 p3 p4 p5 p6 m0 m1 m2 m3
            go_wp2_with fail
            go_region_law (first | (refine step_append_lies _ rfl (.tmp 31) (.tmp 36) 23 rfl (w.heap.size + 3) 77 i0 (.agg #[.int .i64 0, .int .i64 0, .slice none 0 0, .int .i64 0, .int .i64 0, .bool false, .string ⟨#[]⟩]) 7 80 Tryd.underlying23 hi hz0 hz1 hz2 rfl (by decide) x xl (pvCells ux) rfl (HOX.out.drew.alloc _) ⟨W5.heap.size, 0, none⟩ 1 1 (pvC ⟨1, (u.m : Int), none, 0, 0, [], 0, 0, false, ⟨#[]⟩⟩) rfl rfl (World.news_of_block (cs := (pvC ⟨1, (u.m : Int), none, 0, 0, [], 0, 0, false, ⟨#[]⟩⟩).toArray) (heap_alloc_new W5.drew _)) (by rw [← pvCells_one]; exact pvCells_oneCell _) (by decide) (by unfold maxLen; omega) (by omega) (by simp; omega) _ rfl ?_; intro g6 cap6 w6 hown6 hgrow6 hat6 hlt6; obtain ⟨-, hB6⟩ := HT5.out.midX ((Below.refl _ _).drew.alloc (Nat.le_refl _) _) hgrow6; have n3 : w6.cell? ⟨w.heap.size + 1 + 1, 0, none⟩ = some x := hB6.cell 0; have z3 : w6.frozen? ⟨w.heap.size + 1 + 1, 0, none⟩ = false := hB6.frozen 0; clear hB6))
            all_goals
              have hal6 : Below W5.heap.size W5 (W5.drew.alloc (.cells #[.int .i64 1, .int .i64 u.m, .slice none 0 0, .int .i64 0, .int .i64 0, .bool false, .string ⟨#[]⟩] 77)) := (Below.refl _ _).drew.alloc (Nat.le_refl _) _
              have HT7 := HT5.out.pushX (us := [⟨1, (u.m : Int), none, 0, 0, [], 0, 0, false, ⟨#[]⟩⟩]) hal6 (fun z hz => by rw [List.mem_singleton.1 hz]; exact ⟨doc_none w, Nat.zero_le _⟩) (by rw [List.length_append, HXL.out]) (by rw [pvCells_one]; exact hown6) hgrow6 hat6
              clear hal6 hown6 hgrow6 hat6 hlt6 n3 z3
              change Exit.then _ _ Exit.normal _ (w6.setCell ⟨w.heap.size + 2, 0, none⟩ (.slice (some ⟨g6, 0, none⟩) (xl + 1) cap6))
              generalize w6.setCell ⟨w.heap.size + 2, 0, none⟩ (.slice (some ⟨g6, 0, none⟩) (xl + 1) cap6) = W7 at *
              have HT7 : Hid _ := HT7
              clear n1 p2'
              go_wp2
              go_roundw
              case rel => exact ⟨_, _, _, _, _, _, HT7.out, by rw [HMQ.out]; exact HIN.out⟩
              case measure => have h1 := HT.out.left; have h2 := HT7.out.left; have h3 := HLES.out; omega
        · obtain ⟨q, hmin⟩ : ∃ q : Nat, min (lgV v - r.g) (lgV v' - s.g) = q := ⟨(min (lgV v - r.g) (lgV v' - s.g)).toNat, by omega⟩
          have hq1 : 1 ≤ q := by omega
          have hqa : ((r.g + q : Nat) : Int) ≤ lgV v := by omega
          have hqb : ((s.g + q : Nat) : Int) ≤ lgV v' := by omega
          have C2 : Hid (Calls Tryd.prog 72 #[.pointer (some ⟨w.heap.size, 0, none⟩)] wr fun e w' => e = .returned (.tuple #[.int .i64 0, .bool false]) ∧ w' = wr) := putting_c w.heap.size r s wr HT.out.pb (HT.out.hr.below HT.out.blw) (HT.out.hs.below HT.out.blw) (by rw [hrv]; simp [atK, kv]) (by rw [hsv]; simp [atK, kw])
          have C3 : Hid (Calls Tryd.prog 75 #[.pointer (some ⟨w.heap.size, 0, none⟩)] wr fun e w' => e = .returned (.agg #[.int .i64 (pieceV v r.g q).kind, .int .i64 (pieceV v r.g q).n, .slice (pieceV v r.g q).ao (pieceV v r.g q).m (pieceV v r.g q).cap, .int .i64 (pieceV v r.g q).set, .int .i64 (pieceV v r.g q).clr, .bool (pieceV v r.g q).goes, .string (pieceV v r.g q).link, .int .i64 (pieceV v' s.g q).kind, .int .i64 (pieceV v' s.g q).n, .slice (pieceV v' s.g q).ao (pieceV v' s.g q).m (pieceV v' s.g q).cap, .int .i64 (pieceV v' s.g q).set, .int .i64 (pieceV v' s.g q).clr, .bool (pieceV v' s.g q).goes, .string (pieceV v' s.g q).link]) ∧ Blk w' w.heap.size (prC (r.next v t q) (s.next v' t' q)) 69 ∧ Kept wr w' [w.heap.size]) := takeBoth_any w.heap.size r s v t v' t' q w wr HT.out.blw (Nat.le_refl _) HT.out.pb HO1.out HO2.out hq1 hqa hqb (by omega) (by omega) hmin
          have HPU : Hid (Pvt w (pieceV v r.g q)) := (HO1.out.pts v (List.mem_cons_self ..)).piece hq1 (fun k => absurd k kv)
          have HPW : Hid (Pvt w (pieceV v' s.g q)) := (HO2.out.pts v' (List.mem_cons_self ..)).piece hq1 (fun k => absurd k kw)
          have hn1 := next_pt (r := r) (t := t) (HO1.out.pts v (List.mem_cons_self ..)) EV.out q
          have hn2 := next_pt (r := s) (t := t') (HO2.out.pts v' (List.mem_cons_self ..)) EW.out q
          have hqn : q = min (Ac.lg v.pt - r.g) (Ac.lg v'.pt - s.g) := by have h1 := E1.out; have h2 := E2.out; omega
          have HIN : Hid (Ac.TurnI A B ((r.next v t q).vs.map PV.pt) (r.next v t q).g ((s.next v' t' q).vs.map PV.pt) (s.next v' t' q).g ((ux ++ behXV (pieceV v r.g q) (pieceV v' s.g q)).map PV.pt) ((uy ++ behYV (pieceV v r.g q) (pieceV v' s.g q)).map PV.pt)) := by
            have h := HI1.out.both kv kw hqn
            show Ac.TurnI _ _ _ _ _ _ _ _
            rw [hn1.1, hn1.2, hn2.1, hn2.2, List.map_append, List.map_append, behXV_pt, behYV_pt, pieceV_pt, pieceV_pt]
            exact h
          have HLES : Hid ((r.next v t q).vs.length + (s.next v' t' q).vs.length < r.vs.length + s.vs.length) := by
            have h := Ac.nxt_less (p := v.pt) (q := v'.pt) (t := t.map PV.pt) (u := t'.map PV.pt) (g := r.g) (h := s.g) (n := q) (by have h1 := E1.out; have h2 := E2.out; omega)
            rw [← hn1.1, ← hn2.1] at h
            simp only [List.length_map] at h
            show _ < _
            rw [hrv, hsv]
            simp only [List.length_cons]
            omega
          have hml : ux.length ≤ 80 ∧ uy.length ≤ 80 := by have h1 := HI.out.lx; have h2 := HI.out.ly; have h3 := HF.out; rw [List.length_map] at h1 h2; exact ⟨by omega, by omega⟩
          obtain ⟨M1, M2⟩ := Ac.piece_m4 EV.out kv r.g q
          obtain ⟨M3, M4⟩ := Ac.piece_m4 EW.out kw s.g q
          have hk1 : (pieceV v r.g q).kind = 1 ∨ (pieceV v r.g q).kind = 3 := by
            have e : (pieceV v r.g q).kind = v.kind := congrArg Ac.Pt.kind (pieceV_pt v r.g q) |>.trans (Ac.piece_kind ..)
            rw [e]
            rcases Ac.kind_of EV.out with h | h | h
            · exact .inl h
            · exact absurd h kv
            · exact .inr h
          have hk2 : (pieceV v' s.g q).kind = 1 ∨ (pieceV v' s.g q).kind = 3 := by
            have e : (pieceV v' s.g q).kind = v'.kind := congrArg Ac.Pt.kind (pieceV_pt v' s.g q) |>.trans (Ac.piece_kind ..)
            rw [e]
            rcases Ac.kind_of EW.out with h | h | h
            · exact .inl h
            · exact absurd h kw
            · exact .inr h
          have C4 : Hid (∀ w', Below w.heap.size w w' → Calls Tryd.prog 74 #[.agg #[.int .i64 (pieceV v r.g q).kind, .int .i64 (pieceV v r.g q).n, .slice (pieceV v r.g q).ao (pieceV v r.g q).m (pieceV v r.g q).cap, .int .i64 (pieceV v r.g q).set, .int .i64 (pieceV v r.g q).clr, .bool (pieceV v r.g q).goes, .string (pieceV v r.g q).link, .int .i64 (pieceV v' s.g q).kind, .int .i64 (pieceV v' s.g q).n, .slice (pieceV v' s.g q).ao (pieceV v' s.g q).m (pieceV v' s.g q).cap, .int .i64 (pieceV v' s.g q).set, .int .i64 (pieceV v' s.g q).clr, .bool (pieceV v' s.g q).goes, .string (pieceV v' s.g q).link]] w' fun e w'' => (∃ a0 n0 c0 a1 n1 c1, e = .returned (.agg #[.slice a0 n0 c0, .slice a1 n1 c1]) ∧ Ops w'' a0 n0 c0 (behXV (pieceV v r.g q) (pieceV v' s.g q)) ∧ Ops w'' a1 n1 c1 (behYV (pieceV v r.g q) (pieceV v' s.g q)) ∧ Fresh w' a0 n0 ∧ Fresh w' a1 n1) ∧ Below w'.heap.size w' w'') := fun w' hb => beh_any _ _ w' (HPU.out.below hb) (HPW.out.below hb) hk1 hk2 (by rw [← pieceV_pt] at M1; exact M1) (by rw [← pieceV_pt] at M2; exact M2) (by rw [← pieceV_pt] at M3; exact M3) (by rw [← pieceV_pt] at M4; exact M4)
          have HNO : Hid (RV.ok w (r.next v t q)) := RV.next_ok HO1.out q
          have HNP : Hid (RV.ok w (s.next v' t' q)) := RV.next_ok HO2.out q
          have HBX : Hid ((∀ z ∈ behXV (pieceV v r.g q) (pieceV v' s.g q), Pvt w z) ∧ (behXV (pieceV v r.g q) (pieceV v' s.g q)).length ≤ 1) := ⟨behXV_pvt HPU.out, behXV_len _ _⟩
          have HBY : Hid ((∀ z ∈ behYV (pieceV v r.g q) (pieceV v' s.g q), Pvt w z) ∧ (behYV (pieceV v r.g q) (pieceV v' s.g q)).length ≤ 1) := ⟨behYV_pvt HPW.out, behYV_len _ _⟩
          clear hmin hq1 hqa hqb E1 E2 EV EW HI1 hrv hsv kv kw hl1 hl2 hk1 hk2 M1 M2 M3 M4 hn1 hn2 hqn HPU HPW HO1 HO2
          generalize behXV (pieceV v r.g q) (pieceV v' s.g q) = bx at *
          generalize behYV (pieceV v r.g q) (pieceV v' s.g q) = bY at *
          generalize pieceV v r.g q = u at *
          generalize pieceV v' s.g q = u' at *
          generalize r.next v t q = nx at *
          generalize s.next v' t' q = nx' at *
          obtain ⟨hbx0, hbx1⟩ := HBX.out
          obtain ⟨hby0, hby1⟩ := HBY.out
          clear HBX HBY
          have HBX : Hid (∀ z ∈ bx, Pvt w z) := hbx0
          have HBY : Hid (∀ z ∈ bY, Pvt w z) := hby0
          clear hbx0 hby0
          go_wp2_with fail
          refine C1.out.mono ?_
          rintro e w1 ⟨rfl, hw⟩
          obtain rfl := hw.symm
          go_wp2_with fail
          refine C2.out.mono ?_
          rintro e w1 ⟨rfl, hw⟩
          obtain rfl := hw.symm
          go_wp2_with fail
          refine C3.out.mono ?_
          rintro e w2 ⟨rfl, hb2, hk2⟩
          have HT2 : Hid (TurnW w w2 nx nx' x y ux uy) := HT.out.pair hk2 hb2 HNO.out HNP.out
          clear hb2 hk2 C1 C2 C3
          go_wp2_with fail
          refine (C4.out _ HT2.out.blw).mono ?_
          rintro e w3 ⟨⟨a0, n0, c0, a1, n1, c1, rfl, o0, o1, -, fr1⟩, hb3⟩
          have HT3 : Hid (TurnW w w3 nx nx' x y ux uy) := HT2.out.under hb3
          have HA0 : Hid (Ops w3 a0 n0 c0 bx) := o0
          have HA1 : Hid (Ops w3 a1 n1 c1 bY) := o1
          have HFR : Hid (Fresh w2 a1 n1) := fr1
          have hn0 : n0 ≤ 1 := by have := o0.len; omega
          have hn1 : n1 ≤ 1 := by have := o1.len; omega
          clear o0 o1 fr1 hb3 C4 hbx1 hby1
          obtain ⟨xl, hxl⟩ : ∃ xl, ux.length = xl := ⟨_, rfl⟩
          obtain ⟨yl, hyl⟩ : ∃ yl, uy.length = yl := ⟨_, rfl⟩
          rw [hxl, hyl] at hml
          obtain ⟨hml1, hml2⟩ := hml
          have HXL : Hid (ux.length = xl) := hxl
          have HYL : Hid (uy.length = yl) := hyl
          clear hxl hyl
          have HO0 : Hid (w3.ownsRow (w.heap.size + 3) 77 7 x xl (pvCells ux)) := by have := HT3.out.mx; rw [HXL.out] at this; exact this
          have mc0 : w3.cell? ⟨w.heap.size + 2, 0, none⟩ = some x := HT3.out.mb.cell 0
          have hs0 : w.heap.size + 3 ≤ w3.heap.size := HT3.out.mb.lt
          have ix0 := idx0 (.slice a0 n0 c0) (.slice a1 n1 c1)
          have ix1 := idx1 (.slice a0 n0 c0) (.slice a1 n1 c1)
          go_wp2_with fail
          refine wp_loop_rounds 3 ?_
          rw [rounds_succ]
          go_wp2_with (at_builtin; refine wpList_append_row _ rfl (.tmp 48) (.tmp 49) 23 rfl (w.heap.size + 3) 77 i0 (.agg #[.int .i64 0, .int .i64 0, .slice none 0 0, .int .i64 0, .int .i64 0, .bool false, .string ⟨#[]⟩]) 7 80 Tryd.underlying23 hi hz0 hz1 hz2 rfl (by decide) x xl (pvCells ux) rfl HO0.out a0 n0 c0 (pvCells bx) rfl HA0.out.row (pvCells_oneCell _) (by unfold maxLen; omega) (by omega) hs0 ?_)
          intro xv w4 hown4 hg4 hat4
          obtain ⟨hk4, hB4⟩ := HT3.out.midX (Below.refl _ _) hg4
          have HT5 := HT3.out.growX (us := bx) (Below.refl _ _) HBX.out (m := xl + n0) (by rw [List.length_append, HXL.out, HA0.out.len]) hown4 hg4 hat4
          have HR1 : Row (w4.setCell ⟨w.heap.size + 2, 0, none⟩ xv) a1 n1 c1 7 (pvCells bY) := (HA1.out.row.kept (by decide) hk4 (fun a hm ha hx => by have h1 := HFR.out a hm ha; have h2 := (HT2.out.mx.lt _ (ob_mem hx)).2; omega)).kept (by decide) (kept_set w4 (w.heap.size + 2) 0 xv [w.heap.size + 2] (by simp)) (fun a hm ha hx => by have h1 := HFR.out a hm ha; have h2 := HT2.out.mb.lt; rw [List.mem_singleton] at hx; omega)
          have mc4 : w4.cell? ⟨w.heap.size + 2, 0, none⟩ = some x := hB4.cell 0
          have fz4 := hB4.frozen 0
          obtain ⟨xa, xc, hxv, -⟩ := own_row hown4
          subst hxv
          clear hk4 hB4 hown4 hg4 hat4 mc0
          go_wp2_with fail
          generalize w4.setCell ⟨w.heap.size + 2, 0, none⟩ (.slice xa (xl + n0) xc) = W5 at *
          have HT5 : Hid (TurnW w W5 nx nx' (.slice xa (xl + n0) xc) y (ux ++ bx) uy) := HT5
          have HR1 : Hid (Row W5 a1 n1 c1 7 (pvCells bY)) := HR1
          have HO1 : Hid (W5.ownsRow (w.heap.size + 3) 77 7 y yl (pvCells uy)) := by have := HT5.out.my; rw [HYL.out] at this; exact this
          have mc1 : W5.cell? ⟨w.heap.size + 2, 1, none⟩ = some y := HT5.out.mb.cell 1
          have hs1 : w.heap.size + 3 ≤ W5.heap.size := HT5.out.mb.lt
          clear mc4 fz4 HO0 hs0
          rw [rounds_succ]
          go_wp2_with (at_builtin; refine wpList_append_row _ rfl (.tmp 48) (.tmp 49) 23 rfl (w.heap.size + 3) 77 i0 (.agg #[.int .i64 0, .int .i64 0, .slice none 0 0, .int .i64 0, .int .i64 0, .bool false, .string ⟨#[]⟩]) 7 80 Tryd.underlying23 hi hz0 hz1 hz2 rfl (by decide) y yl (pvCells uy) rfl HO1.out a1 n1 c1 (pvCells bY) rfl HR1.out (pvCells_oneCell _) (by unfold maxLen; omega) (by omega) hs1 ?_)
          intro yv w6 hown6 hg6 hat6
          obtain ⟨hk6, hB6⟩ := HT5.out.midY (Below.refl _ _) hg6
          have HT7 := HT5.out.growY (us := bY) (Below.refl _ _) HBY.out (m := yl + n1) (by rw [List.length_append, HYL.out, HA1.out.len]) hown6 hg6 hat6
          have mc6 : w6.cell? ⟨w.heap.size + 2, 1, none⟩ = some y := hB6.cell 1
          have fz6 := hB6.frozen 1
          obtain ⟨ya, yc, hyv, -⟩ := own_row hown6
          subst hyv
          clear hk6 hB6 hown6 hg6 hat6 mc1
          go_wp2_with fail
          generalize w6.setCell ⟨w.heap.size + 2, 1, none⟩ (.slice ya (yl + n1) yc) = W7 at *
          have HT7 : Hid (TurnW w W7 nx nx' (.slice xa (xl + n0) xc) (.slice ya (yl + n1) yc) (ux ++ bx) (uy ++ bY)) := HT7
          clear mc6 fz6
          rw [rounds_succ]
          go_wp2
          go_roundw
          case rel => exact ⟨_, _, _, _, _, _, HT7.out, HIN.out⟩
          case measure => have h1 := HT.out.left; have h2 := HT7.out.left; have h3 := HLES.out; omega
end Go.Proofs.YtbhcklkbckacpaaDoor

/-
  Package ot: what does the same as two parts, the other one for what the first one leaves.
-/
namespace Go.Proofs.YtbhcklkbckacpaaDoor
open Go.RowKit
theorem oneV_pvt {w : World} {f : PV} (h : Pvt w f) {p : PV} (hp : Pvt w p) : Pvt w (oneV f p) := ⟨h.doc, by show (if p.goes then p.link else f.link).size ≤ _; split; exact hp.fit; exact h.fit⟩

set_option maxRecDepth 100000 in
set_option maxHeartbeats 3200000 in
theorem aft_kk (pn : Int) (pao : Option Addr) (pm pcap : Nat) (pit : List It) (pst pcl : Int) (pgs : Bool) (plk : ByteArray) (qn : Int) (qao : Option Addr) (qm qcap : Nat) (qit : List It) (qst qcl : Int) (qgs : Bool) (qlk : ByteArray) (w : World)
    (hp : Pvt w ⟨1, pn, pao, pm, pcap, pit, pst, pcl, pgs, plk⟩) (hq : Pvt w ⟨1, qn, qao, qm, qcap, qit, qst, qcl, qgs, qlk⟩) (h1 : Ac.m4 pst) (h2 : Ac.m4 pcl) (h3 : Ac.m4 qst) (h4 : Ac.m4 qcl) :
    Calls Tryd.prog 79 #[.agg #[.int .i64 1, .int .i64 pn, .slice pao pm pcap, .int .i64 pst, .int .i64 pcl, .bool pgs, .string plk, .int .i64 1, .int .i64 qn, .slice qao qm qcap, .int .i64 qst, .int .i64 qcl, .bool qgs, .string qlk]] w fun e w' => (∃ g, e = .returned (.slice (some ⟨g, 0, none⟩) 1 1) ∧ Ops w' (some ⟨g, 0, none⟩) 1 1 [oneV ⟨1, pn, pao, pm, pcap, pit, pst, pcl, pgs, plk⟩ ⟨1, qn, qao, qm, qcap, qit, qst, qcl, qgs, qlk⟩]) ∧ Below w.heap.size w w' := by
  have H1 : Hid (Below w.heap.size w (boxq ⟨1, pn, pao, pm, pcap, pit, pst, pcl, pgs, plk⟩ ⟨1, qn, qao, qm, qcap, qit, qst, qcl, qgs, qlk⟩ w)) := boxq_below _ _ w
  have HB : Hid (Blk (boxq ⟨1, pn, pao, pm, pcap, pit, pst, pcl, pgs, plk⟩ ⟨1, qn, qao, qm, qcap, qit, qst, qcl, qgs, qlk⟩ w) w.heap.size (ppC ⟨1, pn, pao, pm, pcap, pit, pst, pcl, pgs, plk⟩ ⟨1, qn, qao, qm, qcap, qit, qst, qcl, qgs, qlk⟩) 122) := boxq_blk _ _ w
  have CO : Hid (∀ w', Calls Tryd.prog 100 #[.agg #[.int .i64 1, .int .i64 pn, .slice pao pm pcap, .int .i64 pst, .int .i64 pcl, .bool pgs, .string plk], .agg #[.int .i64 1, .int .i64 qn, .slice qao qm qcap, .int .i64 qst, .int .i64 qcl, .bool qgs, .string qlk]] w' fun e w'' => e = .returned (.agg #[.int .i64 (oneV ⟨1, pn, pao, pm, pcap, pit, pst, pcl, pgs, plk⟩ ⟨1, qn, qao, qm, qcap, qit, qst, qcl, qgs, qlk⟩).kind, .int .i64 (oneV ⟨1, pn, pao, pm, pcap, pit, pst, pcl, pgs, plk⟩ ⟨1, qn, qao, qm, qcap, qit, qst, qcl, qgs, qlk⟩).n, .slice (oneV ⟨1, pn, pao, pm, pcap, pit, pst, pcl, pgs, plk⟩ ⟨1, qn, qao, qm, qcap, qit, qst, qcl, qgs, qlk⟩).ao (oneV ⟨1, pn, pao, pm, pcap, pit, pst, pcl, pgs, plk⟩ ⟨1, qn, qao, qm, qcap, qit, qst, qcl, qgs, qlk⟩).m (oneV ⟨1, pn, pao, pm, pcap, pit, pst, pcl, pgs, plk⟩ ⟨1, qn, qao, qm, qcap, qit, qst, qcl, qgs, qlk⟩).cap, .int .i64 (oneV ⟨1, pn, pao, pm, pcap, pit, pst, pcl, pgs, plk⟩ ⟨1, qn, qao, qm, qcap, qit, qst, qcl, qgs, qlk⟩).set, .int .i64 (oneV ⟨1, pn, pao, pm, pcap, pit, pst, pcl, pgs, plk⟩ ⟨1, qn, qao, qm, qcap, qit, qst, qcl, qgs, qlk⟩).clr, .bool (oneV ⟨1, pn, pao, pm, pcap, pit, pst, pcl, pgs, plk⟩ ⟨1, qn, qao, qm, qcap, qit, qst, qcl, qgs, qlk⟩).goes, .string (oneV ⟨1, pn, pao, pm, pcap, pit, pst, pcl, pgs, plk⟩ ⟨1, qn, qao, qm, qcap, qit, qst, qcl, qgs, qlk⟩).link]) ∧ Below w'.heap.size w' w'') := fun w' => one_any ⟨1, pn, pao, pm, pcap, pit, pst, pcl, pgs, plk⟩ ⟨1, qn, qao, qm, qcap, qit, qst, qcl, qgs, qlk⟩ w' h1 h2 h3 h4
  have HO : Hid (Pvt w (oneV ⟨1, pn, pao, pm, pcap, pit, pst, pcl, pgs, plk⟩ ⟨1, qn, qao, qm, qcap, qit, qst, qcl, qgs, qlk⟩)) := oneV_pvt hp hq
  clear hp hq h1 h2 h3 h4
  generalize oneV ⟨1, pn, pao, pm, pcap, pit, pst, pcl, pgs, plk⟩ ⟨1, qn, qao, qm, qcap, qit, qst, qcl, qgs, qlk⟩ = y at *
  have he0 := eql_kinds 1 1 1 1
  have hgk := guardK
  go_enter Tryd.func79, Tryd.ntmps79
  go_upto_region 1 with fail
  change Code.wp Tryd.prog _ _ _ (boxq ⟨1, pn, pao, pm, pcap, pit, pst, pcl, pgs, plk⟩ ⟨1, qn, qao, qm, qcap, qit, qst, qcl, qgs, qlk⟩ w)
  generalize boxq ⟨1, pn, pao, pm, pcap, pit, pst, pcl, pgs, plk⟩ ⟨1, qn, qao, qm, qcap, qit, qst, qcl, qgs, qlk⟩ w = W at *
  have c0 : W.cell? ⟨w.heap.size, 0, none⟩ = some (.int .i64 1) := HB.out.cell 0
  have c1 : W.cell? ⟨w.heap.size, 1, none⟩ = some (.int .i64 pn) := HB.out.cell 1
  have c2 : W.cell? ⟨w.heap.size, 2, none⟩ = some (.slice pao pm pcap) := HB.out.cell 2
  have c3 : W.cell? ⟨w.heap.size, 3, none⟩ = some (.int .i64 pst) := HB.out.cell 3
  have c4 : W.cell? ⟨w.heap.size, 4, none⟩ = some (.int .i64 pcl) := HB.out.cell 4
  have c5 : W.cell? ⟨w.heap.size, 5, none⟩ = some (.bool pgs) := HB.out.cell 5
  have c6 : W.cell? ⟨w.heap.size, 6, none⟩ = some (.string plk) := HB.out.cell 6
  have c7 : W.cell? ⟨w.heap.size, 7, none⟩ = some (.int .i64 1) := HB.out.cell 7
  have c8 : W.cell? ⟨w.heap.size, 8, none⟩ = some (.int .i64 qn) := HB.out.cell 8
  have c9 : W.cell? ⟨w.heap.size, 9, none⟩ = some (.slice qao qm qcap) := HB.out.cell 9
  have c10 : W.cell? ⟨w.heap.size, 10, none⟩ = some (.int .i64 qst) := HB.out.cell 10
  have c11 : W.cell? ⟨w.heap.size, 11, none⟩ = some (.int .i64 qcl) := HB.out.cell 11
  have c12 : W.cell? ⟨w.heap.size, 12, none⟩ = some (.bool qgs) := HB.out.cell 12
  have c13 : W.cell? ⟨w.heap.size, 13, none⟩ = some (.string qlk) := HB.out.cell 13
  go_wp2_with fail
  refine (CO.out _).mono ?_
  rintro e w1 ⟨rfl, hb⟩
  have H2 : Hid (Below w.heap.size w w1) := H1.out.trans (hb.mono H1.out.size)
  clear hb
  go_wp2
  go_ret
  have hbx := H2.out.trans ((boxp_below y w1).mono H2.out.size)
  exact ⟨⟨_, rfl, ops_one (HO.out.below H2.out)⟩, hbx⟩

set_option maxRecDepth 100000 in
set_option maxHeartbeats 3200000 in
theorem aft_kc (pn : Int) (pao : Option Addr) (pm pcap : Nat) (pit : List It) (pst pcl : Int) (pgs : Bool) (plk : ByteArray) (qn : Int) (qao : Option Addr) (qm qcap : Nat) (qit : List It) (qst qcl : Int) (qgs : Bool) (qlk : ByteArray) (w : World)
    (hq : Pvt w ⟨3, qn, qao, qm, qcap, qit, qst, qcl, qgs, qlk⟩) :
    Calls Tryd.prog 79 #[.agg #[.int .i64 1, .int .i64 pn, .slice pao pm pcap, .int .i64 pst, .int .i64 pcl, .bool pgs, .string plk, .int .i64 3, .int .i64 qn, .slice qao qm qcap, .int .i64 qst, .int .i64 qcl, .bool qgs, .string qlk]] w fun e w' => (∃ g, e = .returned (.slice (some ⟨g, 0, none⟩) 1 1) ∧ Ops w' (some ⟨g, 0, none⟩) 1 1 [⟨3, qn, qao, qm, qcap, qit, qst, qcl, qgs, qlk⟩]) ∧ Below w.heap.size w w' := by
  have H1 : Hid (Below w.heap.size w (boxq ⟨1, pn, pao, pm, pcap, pit, pst, pcl, pgs, plk⟩ ⟨3, qn, qao, qm, qcap, qit, qst, qcl, qgs, qlk⟩ w)) := boxq_below _ _ w
  have HB : Hid (Blk (boxq ⟨1, pn, pao, pm, pcap, pit, pst, pcl, pgs, plk⟩ ⟨3, qn, qao, qm, qcap, qit, qst, qcl, qgs, qlk⟩ w) w.heap.size (ppC ⟨1, pn, pao, pm, pcap, pit, pst, pcl, pgs, plk⟩ ⟨3, qn, qao, qm, qcap, qit, qst, qcl, qgs, qlk⟩) 122) := boxq_blk _ _ w
  have he0 := eql_kinds 1 3 1 1
  have he1 := eql_kinds 1 3 1 3
  have hgk := guardK
  go_enter Tryd.func79, Tryd.ntmps79
  go_upto_region 1 with fail
  change Code.wp Tryd.prog _ _ _ (boxq ⟨1, pn, pao, pm, pcap, pit, pst, pcl, pgs, plk⟩ ⟨3, qn, qao, qm, qcap, qit, qst, qcl, qgs, qlk⟩ w)
  generalize boxq ⟨1, pn, pao, pm, pcap, pit, pst, pcl, pgs, plk⟩ ⟨3, qn, qao, qm, qcap, qit, qst, qcl, qgs, qlk⟩ w = W at *
  have c0 : W.cell? ⟨w.heap.size, 0, none⟩ = some (.int .i64 1) := HB.out.cell 0
  have c1 : W.cell? ⟨w.heap.size, 1, none⟩ = some (.int .i64 pn) := HB.out.cell 1
  have c2 : W.cell? ⟨w.heap.size, 2, none⟩ = some (.slice pao pm pcap) := HB.out.cell 2
  have c3 : W.cell? ⟨w.heap.size, 3, none⟩ = some (.int .i64 pst) := HB.out.cell 3
  have c4 : W.cell? ⟨w.heap.size, 4, none⟩ = some (.int .i64 pcl) := HB.out.cell 4
  have c5 : W.cell? ⟨w.heap.size, 5, none⟩ = some (.bool pgs) := HB.out.cell 5
  have c6 : W.cell? ⟨w.heap.size, 6, none⟩ = some (.string plk) := HB.out.cell 6
  have c7 : W.cell? ⟨w.heap.size, 7, none⟩ = some (.int .i64 3) := HB.out.cell 7
  have c8 : W.cell? ⟨w.heap.size, 8, none⟩ = some (.int .i64 qn) := HB.out.cell 8
  have c9 : W.cell? ⟨w.heap.size, 9, none⟩ = some (.slice qao qm qcap) := HB.out.cell 9
  have c10 : W.cell? ⟨w.heap.size, 10, none⟩ = some (.int .i64 qst) := HB.out.cell 10
  have c11 : W.cell? ⟨w.heap.size, 11, none⟩ = some (.int .i64 qcl) := HB.out.cell 11
  have c12 : W.cell? ⟨w.heap.size, 12, none⟩ = some (.bool qgs) := HB.out.cell 12
  have c13 : W.cell? ⟨w.heap.size, 13, none⟩ = some (.string qlk) := HB.out.cell 13
  go_wp2
  go_ret
  exact ⟨⟨_, rfl, ops_one (v := ⟨3, qn, qao, qm, qcap, qit, qst, qcl, qgs, qlk⟩) (hq.below H1.out)⟩, H1.out.trans ((boxp_below ⟨3, qn, qao, qm, qcap, qit, qst, qcl, qgs, qlk⟩ W).mono H1.out.size)⟩

set_option maxRecDepth 100000 in
set_option maxHeartbeats 3200000 in
theorem aft_pk (pn : Int) (pao : Option Addr) (pm pcap : Nat) (pit : List It) (pst pcl : Int) (pgs : Bool) (plk : ByteArray) (qn : Int) (qao : Option Addr) (qm qcap : Nat) (qit : List It) (qst qcl : Int) (qgs : Bool) (qlk : ByteArray) (w : World)
    (hp : Pvt w ⟨2, pn, pao, pm, pcap, pit, pst, pcl, pgs, plk⟩) (hq : qlk.size ≤ 9223372036854775807) (h0 : 0 < pm) (h80 : pm ≤ 80) (hm : Ac.M4 pit) (h3 : Ac.m4 qst) (h4 : Ac.m4 qcl) :
    Calls Tryd.prog 79 #[.agg #[.int .i64 2, .int .i64 pn, .slice pao pm pcap, .int .i64 pst, .int .i64 pcl, .bool pgs, .string plk, .int .i64 1, .int .i64 qn, .slice qao qm qcap, .int .i64 qst, .int .i64 qcl, .bool qgs, .string qlk]] w fun e w' => (∃ g g2 cap2, e = .returned (.slice (some ⟨g2, 0, none⟩) 1 1) ∧ Ops w' (some ⟨g2, 0, none⟩) 1 1 [⟨2, 0, some ⟨g, 0, none⟩, pm, cap2, pit.map fun x => Ac.change x ⟨qst, qcl, qgs, qlk⟩, 0, 0, false, ⟨#[]⟩⟩] ∧ w.heap.size ≤ g) ∧ Below w.heap.size w w' := by
  have H1 : Hid (Below w.heap.size w (boxq ⟨2, pn, pao, pm, pcap, pit, pst, pcl, pgs, plk⟩ ⟨1, qn, qao, qm, qcap, qit, qst, qcl, qgs, qlk⟩ w)) := boxq_below _ _ w
  have HB : Hid (Blk (boxq ⟨2, pn, pao, pm, pcap, pit, pst, pcl, pgs, plk⟩ ⟨1, qn, qao, qm, qcap, qit, qst, qcl, qgs, qlk⟩ w) w.heap.size (ppC ⟨2, pn, pao, pm, pcap, pit, pst, pcl, pgs, plk⟩ ⟨1, qn, qao, qm, qcap, qit, qst, qcl, qgs, qlk⟩) 122) := boxq_blk _ _ w
  obtain ⟨ib, io, hao, hA⟩ := hp.doc.lies (by change pm ≠ 0; omega)
  change pao = some ⟨ib, io, none⟩ at hao
  change At w ib io pit at hA
  have hlen : pit.length = pm := hp.doc.len
  have HFI : Hid (Fit (pit.map fun x => Ac.change x ⟨qst, qcl, qgs, qlk⟩)) := fit_change hp.doc.fit _ hq
  have HLN : Hid ((pit.map fun x => Ac.change x ⟨qst, qcl, qgs, qlk⟩).length = pm) := by show _ = _; rw [List.length_map]; exact hlen
  have CC : Hid (∀ w', Below w.heap.size w w' → Calls Tryd.prog 63 #[.slice (some ⟨ib, io, none⟩) pm pcap, .agg #[.int .i64 1, .int .i64 qn, .slice qao qm qcap, .int .i64 qst, .int .i64 qcl, .bool qgs, .string qlk]] w' fun e w'' => (∃ g cap', e = .returned (.slice (some ⟨g, 0, none⟩) pm cap') ∧ w''.ownsRow w'.heap.size 79 3 (.slice (some ⟨g, 0, none⟩) pm cap') pm (itCells (pit.map fun x => Ac.change x ⟨qst, qcl, qgs, qlk⟩))) ∧ Below w'.heap.size w' w'') := fun w' hb => changed_any ib io pm pcap pit 1 qn qao qm qcap qit qst qcl qgs qlk w' (hA.below hb) hlen h0 h80 hm h3 h4
  clear hp hA hm hlen h3 h4
  subst hao
  generalize (pit.map fun x => Ac.change x ⟨qst, qcl, qgs, qlk⟩) = nit at *
  have he0 := eql_kinds 2 1 1 1
  have he1 := eql_kinds 2 1 1 3
  have he2 := eql_kinds 2 1 2 1
  have hgk := guardK
  go_enter Tryd.func79, Tryd.ntmps79
  go_upto_region 1 with fail
  change Code.wp Tryd.prog _ _ _ (boxq ⟨2, pn, some ⟨ib, io, none⟩, pm, pcap, pit, pst, pcl, pgs, plk⟩ ⟨1, qn, qao, qm, qcap, qit, qst, qcl, qgs, qlk⟩ w)
  generalize boxq ⟨2, pn, some ⟨ib, io, none⟩, pm, pcap, pit, pst, pcl, pgs, plk⟩ ⟨1, qn, qao, qm, qcap, qit, qst, qcl, qgs, qlk⟩ w = W at *
  have c0 : W.cell? ⟨w.heap.size, 0, none⟩ = some (.int .i64 2) := HB.out.cell 0
  have c1 : W.cell? ⟨w.heap.size, 1, none⟩ = some (.int .i64 pn) := HB.out.cell 1
  have c2 : W.cell? ⟨w.heap.size, 2, none⟩ = some (.slice (some ⟨ib, io, none⟩) pm pcap) := HB.out.cell 2
  have c3 : W.cell? ⟨w.heap.size, 3, none⟩ = some (.int .i64 pst) := HB.out.cell 3
  have c4 : W.cell? ⟨w.heap.size, 4, none⟩ = some (.int .i64 pcl) := HB.out.cell 4
  have c5 : W.cell? ⟨w.heap.size, 5, none⟩ = some (.bool pgs) := HB.out.cell 5
  have c6 : W.cell? ⟨w.heap.size, 6, none⟩ = some (.string plk) := HB.out.cell 6
  have c7 : W.cell? ⟨w.heap.size, 7, none⟩ = some (.int .i64 1) := HB.out.cell 7
  have c8 : W.cell? ⟨w.heap.size, 8, none⟩ = some (.int .i64 qn) := HB.out.cell 8
  have c9 : W.cell? ⟨w.heap.size, 9, none⟩ = some (.slice qao qm qcap) := HB.out.cell 9
  have c10 : W.cell? ⟨w.heap.size, 10, none⟩ = some (.int .i64 qst) := HB.out.cell 10
  have c11 : W.cell? ⟨w.heap.size, 11, none⟩ = some (.int .i64 qcl) := HB.out.cell 11
  have c12 : W.cell? ⟨w.heap.size, 12, none⟩ = some (.bool qgs) := HB.out.cell 12
  have c13 : W.cell? ⟨w.heap.size, 13, none⟩ = some (.string qlk) := HB.out.cell 13
  go_wp2_with fail
  refine (CC.out _ H1.out).mono ?_
  rintro e w1 ⟨⟨g, cap2, rfl, hown⟩, hb⟩
  have H2 : Hid (Below w.heap.size w w1) := H1.out.trans (hb.mono H1.out.size)
  have hge := ownBlk_ge hown g rfl
  have HG : Hid (w.heap.size ≤ g) := Nat.le_trans H1.out.size hge
  obtain ⟨a', c', he, hD⟩ := own_doc hown HFI.out HLN.out
  have HD : Hid (Doc w1 (some ⟨g, 0, none⟩) pm cap2 nit) := by
    simp only [Value.slice.injEq] at he
    obtain ⟨h1, -, h3⟩ := he
    rw [h1, h3]
    exact hD
  clear hb hown hge he hD
  go_wp2
  go_ret
  refine ⟨⟨g, _, cap2, rfl, ops_one (v := ⟨2, 0, some ⟨g, 0, none⟩, pm, cap2, nit, 0, 0, false, ⟨#[]⟩⟩) ⟨HD.out, Nat.zero_le _⟩, HG.out⟩, H2.out.trans ((boxp_below ⟨2, 0, some ⟨g, 0, none⟩, pm, cap2, nit, 0, 0, false, ⟨#[]⟩⟩ w1).mono H2.out.size)⟩

set_option maxRecDepth 100000 in
set_option maxHeartbeats 3200000 in
theorem aft_pc (pn : Int) (pao : Option Addr) (pm pcap : Nat) (pit : List It) (pst pcl : Int) (pgs : Bool) (plk : ByteArray) (qn : Int) (qao : Option Addr) (qm qcap : Nat) (qit : List It) (qst qcl : Int) (qgs : Bool) (qlk : ByteArray) (w : World)
     :
    Calls Tryd.prog 79 #[.agg #[.int .i64 2, .int .i64 pn, .slice pao pm pcap, .int .i64 pst, .int .i64 pcl, .bool pgs, .string plk, .int .i64 3, .int .i64 qn, .slice qao qm qcap, .int .i64 qst, .int .i64 qcl, .bool qgs, .string qlk]] w fun e w' => (e = .returned (.slice none 0 0)) ∧ Below w.heap.size w w' := by
  have H1 : Hid (Below w.heap.size w (boxq ⟨2, pn, pao, pm, pcap, pit, pst, pcl, pgs, plk⟩ ⟨3, qn, qao, qm, qcap, qit, qst, qcl, qgs, qlk⟩ w)) := boxq_below _ _ w
  have HB : Hid (Blk (boxq ⟨2, pn, pao, pm, pcap, pit, pst, pcl, pgs, plk⟩ ⟨3, qn, qao, qm, qcap, qit, qst, qcl, qgs, qlk⟩ w) w.heap.size (ppC ⟨2, pn, pao, pm, pcap, pit, pst, pcl, pgs, plk⟩ ⟨3, qn, qao, qm, qcap, qit, qst, qcl, qgs, qlk⟩) 122) := boxq_blk _ _ w
  have he0 := eql_kinds 2 3 1 1
  have he1 := eql_kinds 2 3 1 3
  have he2 := eql_kinds 2 3 2 1
  have hgk := guardK
  go_enter Tryd.func79, Tryd.ntmps79
  go_upto_region 1 with fail
  change Code.wp Tryd.prog _ _ _ (boxq ⟨2, pn, pao, pm, pcap, pit, pst, pcl, pgs, plk⟩ ⟨3, qn, qao, qm, qcap, qit, qst, qcl, qgs, qlk⟩ w)
  generalize boxq ⟨2, pn, pao, pm, pcap, pit, pst, pcl, pgs, plk⟩ ⟨3, qn, qao, qm, qcap, qit, qst, qcl, qgs, qlk⟩ w = W at *
  have c0 : W.cell? ⟨w.heap.size, 0, none⟩ = some (.int .i64 2) := HB.out.cell 0
  have c1 : W.cell? ⟨w.heap.size, 1, none⟩ = some (.int .i64 pn) := HB.out.cell 1
  have c2 : W.cell? ⟨w.heap.size, 2, none⟩ = some (.slice pao pm pcap) := HB.out.cell 2
  have c3 : W.cell? ⟨w.heap.size, 3, none⟩ = some (.int .i64 pst) := HB.out.cell 3
  have c4 : W.cell? ⟨w.heap.size, 4, none⟩ = some (.int .i64 pcl) := HB.out.cell 4
  have c5 : W.cell? ⟨w.heap.size, 5, none⟩ = some (.bool pgs) := HB.out.cell 5
  have c6 : W.cell? ⟨w.heap.size, 6, none⟩ = some (.string plk) := HB.out.cell 6
  have c7 : W.cell? ⟨w.heap.size, 7, none⟩ = some (.int .i64 3) := HB.out.cell 7
  have c8 : W.cell? ⟨w.heap.size, 8, none⟩ = some (.int .i64 qn) := HB.out.cell 8
  have c9 : W.cell? ⟨w.heap.size, 9, none⟩ = some (.slice qao qm qcap) := HB.out.cell 9
  have c10 : W.cell? ⟨w.heap.size, 10, none⟩ = some (.int .i64 qst) := HB.out.cell 10
  have c11 : W.cell? ⟨w.heap.size, 11, none⟩ = some (.int .i64 qcl) := HB.out.cell 11
  have c12 : W.cell? ⟨w.heap.size, 12, none⟩ = some (.bool qgs) := HB.out.cell 12
  have c13 : W.cell? ⟨w.heap.size, 13, none⟩ = some (.string qlk) := HB.out.cell 13
  go_wp2
  go_ret
  exact ⟨rfl, H1.out⟩

/-- Whatever two parts they are, that fit together. -/
theorem aft_any (p q : PV) (w : World) (hp : Pvt w p) (hq : Pvt w q) (kp : p.kind = 1 ∨ p.kind = 2) (kq : q.kind = 1 ∨ q.kind = 3) (ep : Ac.err1 p.pt = 0) (eq : Ac.err1 q.pt = 0) :
    Calls Tryd.prog 79 #[.agg #[.int .i64 p.kind, .int .i64 p.n, .slice p.ao p.m p.cap, .int .i64 p.set, .int .i64 p.clr, .bool p.goes, .string p.link, .int .i64 q.kind, .int .i64 q.n, .slice q.ao q.m q.cap, .int .i64 q.set, .int .i64 q.clr, .bool q.goes, .string q.link]] w fun e w' => (∃ a0 n0 c0 us, e = .returned (.slice a0 n0 c0) ∧ Ops w' a0 n0 c0 us ∧ us.map PV.pt = Ac.oneX p.pt q.pt ∧ us.length ≤ 1 ∧ ∀ u ∈ us, u.m = 0 ∨ High w.heap.size u) ∧ Below w.heap.size w w' := by
  have m0 : ∀ v : PV, Pvt w v → Ac.err1 v.pt = 0 → ¬ v.kind = 2 → v.m = 0 ∧ Ac.m4 v.set ∧ Ac.m4 v.clr := fun v hv he hk => by
    rcases Ac.gd_of he with ⟨_, hm, _, hi, _⟩ | ⟨ps, e, _⟩ | ⟨m, e, _⟩
    · have hl := hv.doc.len
      change v.items = [] at hi
      rw [hi] at hl
      exact ⟨hl.symm, (Ac.marks_of hm).1, (Ac.marks_of hm).2.1⟩
    · exact absurd (congrArg Ac.Pt.kind e) hk
    · have hl := hv.doc.len
      have hi : v.items = [] := congrArg Ac.Pt.items e
      have h1 : v.set = 0 := congrArg Ac.Pt.set e
      have h2 : v.clr = 0 := congrArg Ac.Pt.clr e
      rw [hi] at hl
      rw [h1, h2]
      exact ⟨hl.symm, ⟨by decide, by decide⟩, ⟨by decide, by decide⟩⟩
  have hz : ∀ {k v : Int}, k = v → ∀ u, ¬ v = u → ¬ k = u := fun h u hn e => hn (h ▸ e)
  have mq := m0 q hq eq (by omega)
  have hit : p.kind = 2 → 0 < p.m ∧ p.m ≤ 80 ∧ Ac.M4 p.items := fun k => by
    obtain ⟨l1, l2, l3⟩ := Ac.put_len ep k
    have hl := hp.doc.len
    change 1 ≤ p.items.length at l1
    change p.items.length ≤ 80 at l2
    exact ⟨by omega, by omega, fun x hx => (Ac.err_parts (Ac.errs_all l3 x hx)).2.1⟩
  have mp := m0 p hp ep
  obtain ⟨pk, pn, pao, pm, pcap, pit, pst, pcl, pgs, plk⟩ := p
  obtain ⟨qk, qn, qao, qm, qcap, qit, qst, qcl, qgs, qlk⟩ := q
  simp only at *
  rcases kp with rfl | rfl
  · obtain ⟨hm0, hs1, hs2⟩ := mp (by decide)
    rcases kq with rfl | rfl
    · refine (aft_kk pn pao pm pcap pit pst pcl pgs plk qn qao qm qcap qit qst qcl qgs qlk w hp hq hs1 hs2 mq.2.1 mq.2.2).mono ?_
      rintro e w' ⟨⟨g, he, o⟩, hb⟩
      exact ⟨⟨_, _, _, _, he, o, rfl, by simp, fun u hu => by rw [List.mem_singleton.1 hu]; exact .inl hm0⟩, hb⟩
    · refine (aft_kc pn pao pm pcap pit pst pcl pgs plk qn qao qm qcap qit qst qcl qgs qlk w hq).mono ?_
      rintro e w' ⟨⟨g, he, o⟩, hb⟩
      exact ⟨⟨_, _, _, _, he, o, rfl, by simp, fun u hu => by rw [List.mem_singleton.1 hu]; exact .inl mq.1⟩, hb⟩
  · obtain ⟨h0, h80, hM⟩ := hit rfl
    rcases kq with rfl | rfl
    · refine (aft_pk pn pao pm pcap pit pst pcl pgs plk qn qao qm qcap qit qst qcl qgs qlk w hp hq.fit h0 h80 hM mq.2.1 mq.2.2).mono ?_
      rintro e w' ⟨⟨g, g2, cap2, he, o, hg⟩, hb⟩
      refine ⟨⟨_, _, _, _, he, o, rfl, by simp, fun u hu => by rw [List.mem_singleton.1 hu]; exact .inr (fun a _ ha => by change some _ = some a at ha; cases ha; exact hg)⟩, hb⟩
    · refine (aft_pc pn pao pm pcap pit pst pcl pgs plk qn qao qm qcap qit qst qcl qgs qlk w).mono ?_
      rintro e w' ⟨he, hb⟩
      exact ⟨⟨_, _, _, [], he, ops_zero w' none, rfl, by simp, fun u hu => absurd hu (by simp)⟩, hb⟩
end Go.Proofs.YtbhcklkbckacpaaDoor

/-
  Package ot: joined: two operations as one.
-/
namespace Go.Proofs.YtbhcklkbckacpaaDoor
open Go.RowKit

/-- Where the loop of Join stands: the pair, what is made. -/
structure JoinW (w wr : World) (r s : RV) (x : Value) (ux : List PV) : Prop where
  pb : Blk wr w.heap.size (prC r s) 69
  hr : Ops w r.ao r.n r.cap r.vs
  hs : Ops w s.ao s.n s.cap s.vs
  mx : wr.ownsRow (w.heap.size + 1) 77 7 x ux.length (pvCells ux)
  pts : ∀ u ∈ ux, Pvt wr u
  far : ∀ u ∈ ux, Far u x
  off : ∀ u ∈ ux, ∀ a : Addr, u.m ≠ 0 → u.ao = some a → a.block ≠ w.heap.size
  blw : Below w.heap.size w wr
theorem JoinW.under {w wr wr' : World} {r s : RV} {x : Value} {ux : List PV} (h : JoinW w wr r s x ux) (hb : Below wr.heap.size wr wr') : JoinW w wr' r s x ux :=
  ⟨(hb.block _ h.pb.lt).trans h.pb, h.hr, h.hs, own_under h.mx hb, fun u hu => (h.pts u hu).below hb, h.far, h.off, h.blw.trans (hb.mono h.blw.size)⟩
theorem JoinW.pair {w wr wr' : World} {r s r' s' : RV} {x : Value} {ux : List PV} (h : JoinW w wr r s x ux) (hk : Kept wr wr' [w.heap.size]) (hb : Blk wr' w.heap.size (prC r' s') 69) (hr : Ops w r'.ao r'.n r'.cap r'.vs) (hs : Ops w s'.ao s'.n s'.cap s'.vs) : JoinW w wr' r' s' x ux :=
  ⟨hb, hr, hs, own_keeps h.mx hk (fun k hk e => by have := ownBlk_ge h.mx k e; rw [List.mem_singleton] at hk; omega), fun u hu => (h.pts u hu).kept hk (fun a hm ha hx => h.off u hu a hm ha (List.mem_singleton.1 hx)), h.far, h.off, h.blw.trans (hk.below h.blw.size (fun k hk => by rw [List.mem_singleton.1 hk]; exact Nat.le_refl _))⟩
theorem JoinW.grow {w wr w3 : World} {r s : RV} {x xv : Value} {ux us : List PV} {m : Nat} (h : JoinW w wr r s x ux) (hp : ∀ u ∈ us, Pvt wr u) (hf : ∀ u ∈ us, Far u x) (ho : ∀ u ∈ us, ∀ a : Addr, u.m ≠ 0 → u.ao = some a → a.block ≠ w.heap.size) (hm : (ux ++ us).length = m)
    (hown : w3.ownsRow (w.heap.size + 1) 77 7 xv m (pvCells ux ++ pvCells us)) (hg : wr.grownBy w3 x.ownBlock) (hat : ∀ k, xv.ownBlock = some k → x.ownBlock = some k ∨ k = wr.heap.size) : JoinW w w3 r s xv (ux ++ us) := by
  have hk := grown_kept hg
  have hlo := ob_lo h.mx
  have key : ∀ u, Pvt wr u → Far u x → Pvt w3 u ∧ Far u xv := fun u hu hfu => by
    refine ⟨hu.kept hk (fun a hm ha hx => hfu a hm ha (ob_mem hx).symm), fun a hm ha e => ?_⟩
    rcases hat a.block e.symm with e2 | e2
    · exact hfu a hm ha e2.symm
    · have := hu.lies hm ha
      omega
  refine ⟨hk.blk h.pb (fun hx => by have := hlo _ hx; omega), h.hr, h.hs, by rw [hm, pvCells_app]; exact hown, fun u hu => ?_, fun u hu => ?_, fun u hu => ?_, h.blw.trans (hk.below h.blw.size (fun k hk => by have := hlo k hk; omega))⟩
  · rcases List.mem_append.1 hu with hu | hu
    · exact (key u (h.pts u hu) (h.far u hu)).1
    · exact (key u (hp u hu) (hf u hu)).1
  · rcases List.mem_append.1 hu with hu | hu
    · exact (key u (h.pts u hu) (h.far u hu)).2
    · exact (key u (hp u hu) (hf u hu)).2
  · rcases List.mem_append.1 hu with hu | hu
    · exact h.off u hu
    · exact ho u hu
theorem JoinW.start (r s : RV) (w : World) (hr : Ops w r.ao r.n r.cap r.vs) (hs : Ops w s.ao s.n s.cap s.vs) : JoinW w (boxr r s w) r s (.slice none 0 0) [] :=
  ⟨Blk.new w _ _, hr, hs, World.ownsRow_nil _ _ _ _, fun u hu => absurd hu (by simp), fun u hu => absurd hu (by simp), fun u hu => absurd hu (by simp), (Below.refl _ _).alloc (Nat.le_refl _) _⟩
theorem JoinW.left {w wr : World} {r s : RV} {x : Value} {ux : List PV} (h : JoinW w wr r s x ux) : lenAt wr ⟨w.heap.size, 0, none⟩ + lenAt wr ⟨w.heap.size, 2, none⟩ = r.vs.length + s.vs.length := by
  have h0 : wr.cell? ⟨w.heap.size, 0, none⟩ = some (.slice r.ao r.n r.cap) := h.pb.cell 0
  have h2 : wr.cell? ⟨w.heap.size, 2, none⟩ = some (.slice s.ao s.n s.cap) := h.pb.cell 2
  unfold lenAt
  rw [h0, h2, h.hr.len, h.hs.len]
/-- What lies below lies neither in the pair nor in what is made. -/
theorem low_far {w wr : World} {x : Value} {n : Nat} {xs : List Value} {u : PV} (hx : wr.ownsRow (w.heap.size + 1) 77 7 x n xs) (hu : Pvt w u) : Far u x ∧ ∀ a : Addr, u.m ≠ 0 → u.ao = some a → a.block ≠ w.heap.size :=
  ⟨fun a hm ha e => by have h1 := hu.lies hm ha; have h2 := ownBlk_ge hx a.block e.symm; omega, fun a hm ha => by have h1 := hu.lies hm ha; omega⟩
theorem high_far {w wr : World} {x : Value} {n : Nat} {xs : List Value} {u : PV} (hx : wr.ownsRow (w.heap.size + 1) 77 7 x n xs) (hw : w.heap.size < wr.heap.size) (hu : u.m = 0 ∨ High wr.heap.size u) : Far u x ∧ ∀ a : Addr, u.m ≠ 0 → u.ao = some a → a.block ≠ w.heap.size := by
  rcases hu with h | h
  · exact ⟨far_zero h x, fun a hm => absurd h hm⟩
  · exact ⟨fun a hm ha e => by have h1 := h a hm ha; have h2 := (hx.lt a.block e.symm).2; omega, fun a hm ha => by have h1 := h a hm ha; omega⟩

set_option maxRecDepth 100000 in
set_option maxHeartbeats 12800000 in
theorem joined_any (ao ao' : Option Addr) (n cap n' cap' : Nat) (vs vs' : List PV) (w : World) (hO : Ops w ao n cap vs) (hO' : Ops w ao' n' cap' vs') (hR : Ac.Right (vs.map PV.pt)) (hR' : Ac.Right (vs'.map PV.pt)) (hnd : Ac.lv (vs.map PV.pt) = Ac.nd (vs'.map PV.pt)) :
    Calls Tryd.prog 34 #[.agg #[.slice ao n cap, .int .i64 0, .slice ao' n' cap', .int .i64 0]] w fun e w' => (∃ a0 n0 c0 u0, e = .returned (.slice a0 n0 c0) ∧ Ops w' a0 n0 c0 u0 ∧ Ac.join (Ac.acts (vs.map PV.pt)) (Ac.acts (vs'.map PV.pt)) = Ac.acts (u0.map PV.pt) ∧ (∀ v ∈ u0, Ac.err1 v.pt = 0) ∧ u0.length ≤ 80) ∧ Below w.heap.size w w' := by
  obtain ⟨i0, hi, hz0, hz1, hz2⟩ := info_parts Tryd.infP
  have HT0 : Hid (JoinW w (boxr ⟨ao, n, cap, vs, 0⟩ ⟨ao', n', cap', vs', 0⟩ w) ⟨ao, n, cap, vs, 0⟩ ⟨ao', n', cap', vs', 0⟩ (.slice none 0 0) []) := JoinW.start _ _ w hO hO'
  have HI0 : Hid (Ac.JoinI (vs.map PV.pt) (vs'.map PV.pt) (vs.map PV.pt) 0 (vs'.map PV.pt) 0 []) := Ac.JoinI.start hR hR' hnd
  have HF : Hid ((vs.map PV.pt).length + (vs'.map PV.pt).length ≤ 80) := by have := hR.few; have := hR'.few; show _ ≤ _; omega
  obtain ⟨A, hA⟩ : ∃ A, vs.map PV.pt = A := ⟨_, rfl⟩
  obtain ⟨B, hB⟩ : ∃ B, vs'.map PV.pt = B := ⟨_, rfl⟩
  have HI1 : Hid (Ac.JoinI A B (vs.map PV.pt) 0 (vs'.map PV.pt) 0 []) := by have := HI0.out; rw [hA, hB] at this; show Ac.JoinI A B (vs.map PV.pt) 0 (vs'.map PV.pt) 0 []; rw [hA, hB]; exact this
  rw [hA, hB] at HF ⊢
  clear HI0
  clear hO hO' hR hR' hnd hA hB
  go_enter Tryd.func34, Tryd.ntmps34
  go_wp2_with fail
  go_loopw [3] (fun x wr => ∃ r s ux, JoinW w wr r s x ux ∧ Ac.JoinI A B (r.vs.map PV.pt) r.g (s.vs.map PV.pt) s.g (ux.map PV.pt)) (fun _ wr => lenAt wr ⟨w.heap.size, 0, none⟩ + lenAt wr ⟨w.heap.size, 2, none⟩)
  case atStart => exact ⟨_, _, [], HT0.out, HI1.out⟩
  case round =>
    obtain ⟨r, s, ux, hT, hI⟩ := hrel
    have HT : Hid (JoinW w wr r s u3 ux) := hT
    have HI : Hid (Ac.JoinI A B (r.vs.map PV.pt) r.g (s.vs.map PV.pt) s.g (ux.map PV.pt)) := hI
    clear hT hI HT0 HI1
    obtain ⟨rvs, hrv⟩ : ∃ rvs, r.vs = rvs := ⟨_, rfl⟩
    cases rvs with
    | nil =>
      have C1 : Hid (Calls Tryd.prog 71 #[.pointer (some ⟨w.heap.size, 0, none⟩)] wr fun e w' => e = .returned (.bool false) ∧ w' = wr) := isLeft_any w.heap.size r s wr false (by have := HT.out.hr.len; rw [hrv] at this; simp at this; simp; omega) HT.out.pb
      have HD : Hid (Ac.join (Ac.acts A) (Ac.acts B) = Ac.acts (ux.map PV.pt)) := by have := HI.out; rw [hrv] at this; exact this.done
      obtain ⟨xa, xc, hx, hxr⟩ := own_row HT.out.mx
      have HXO : Hid (Ops wr xa ux.length xc ux) := ⟨hxr, HT.out.pts⟩
      obtain ⟨xl, hxl⟩ : ∃ xl, ux.length = xl := ⟨_, rfl⟩
      have HXL : Hid (ux.length = xl) := hxl
      rw [hxl] at hx
      clear hrv hxr hxl
      subst hx
      go_wp2_with fail
      refine C1.out.mono ?_
      rintro e w1 ⟨rfl, hw⟩
      obtain rfl := hw.symm
      go_wp2
      go_ret
      have hl1 := HI.out.lx
      have hf := HF.out
      rw [List.length_map] at hl1
      exact ⟨⟨xa, xl, xc, ux, rfl, by rw [← HXL.out]; exact HXO.out, HD.out, fun v hv => HI.out.okx _ (List.mem_map.2 ⟨v, hv, rfl⟩), by omega⟩, HT.out.blw⟩
    | cons v t =>
      obtain ⟨v', t', hsv⟩ : ∃ v' t', s.vs = v' :: t' := by
        cases hs : s.vs with
        | nil =>
          have := HI.out.left.2 (by rw [hs]; rfl)
          rw [hrv] at this
          cases this
        | cons v' t' => exact ⟨v', t', rfl⟩
      have HO1 : Hid (Ops w r.ao r.n r.cap (v :: t)) := by have := HT.out.hr; rw [hrv] at this; exact this
      have HO2 : Hid (Ops w s.ao s.n s.cap (v' :: t')) := by have := HT.out.hs; rw [hsv] at this; exact this
      have HI1 : Hid (Ac.JoinI A B (v.pt :: t.map PV.pt) r.g (v'.pt :: t'.map PV.pt) s.g (ux.map PV.pt)) := by have := HI.out; rw [hrv, hsv] at this; exact this
      have C1 : Hid (Calls Tryd.prog 71 #[.pointer (some ⟨w.heap.size, 0, none⟩)] wr fun e w' => e = .returned (.bool true) ∧ w' = wr) := isLeft_any w.heap.size r s wr true (by have := HT.out.hr.len; rw [hrv] at this; simp at this; simp; omega) HT.out.pb
      have EV : Hid (Ac.err1 v.pt = 0) := HI1.out.rp.ok _ (List.mem_cons_self ..)
      have EW : Hid (Ac.err1 v'.pt = 0) := HI1.out.rq.ok _ (List.mem_cons_self ..)
      have E1 : Hid (lgV v = (Ac.lg v.pt : Int)) := lg_lgV (HO1.out.pts v (List.mem_cons_self ..)) EV.out
      have E2 : Hid (lgV v' = (Ac.lg v'.pt : Int)) := lg_lgV (HO2.out.pts v' (List.mem_cons_self ..)) EW.out
      have hl1 : (r.g : Int) < lgV v ∧ lgV v ≤ 80 := by have h1 := HI1.out.rp.lt _ _ rfl; have h2 := (Ac.lg_bd EV.out).2; rw [E1.out]; omega
      have hl2 : (s.g : Int) < lgV v' ∧ lgV v' ≤ 80 := by have h1 := HI1.out.rq.lt _ _ rfl; have h2 := (Ac.lg_bd EW.out).2; rw [E2.out]; omega
      have C2 := isAt_any w.heap.size 0 r.ao r.n r.cap r.vs 3 wr (HT.out.pb.cell 0) (HT.out.hr.below HT.out.blw)
      have C2' := isAt_any w.heap.size 2 s.ao s.n s.cap s.vs 2 wr (HT.out.pb.cell 2) (HT.out.hs.below HT.out.blw)
      by_cases kv : v.kind = 3
      · have ha : atK r.vs 3 = true := by rw [hrv]; simp [atK, kv]
        rw [ha] at C2
        have C2 : Hid (Calls Tryd.prog 78 #[.pointer (some ⟨w.heap.size, 0, none⟩), .int .i64 3] wr fun e w' => e = .returned (.bool true) ∧ w' = wr) := C2
        clear C2' ha
        obtain ⟨q, hq⟩ : ∃ q : Nat, lgV v - r.g = q := ⟨(lgV v - r.g).toNat, by omega⟩
        have hq1 : 1 ≤ q := by omega
        have hqe : lgV v = ((r.g + q : Nat) : Int) := by omega
        have C3 : Hid (Calls Tryd.prog 73 #[.pointer (some ⟨w.heap.size, 0, none⟩)] wr fun e w' => e = .returned (.agg #[.int .i64 (pieceV v r.g q).kind, .int .i64 (pieceV v r.g q).n, .slice (pieceV v r.g q).ao (pieceV v r.g q).m (pieceV v r.g q).cap, .int .i64 (pieceV v r.g q).set, .int .i64 (pieceV v r.g q).clr, .bool (pieceV v r.g q).goes, .string (pieceV v r.g q).link]) ∧ Blk w' w.heap.size (prC (r.next v t q) s) 69 ∧ Kept wr w' [w.heap.size]) := takePart0_any w.heap.size r s v t q wr HT.out.pb (HO1.out.below HT.out.blw) (HO1.out.off (Nat.le_refl _)) hq1 hqe (by omega)
        have HPU : Hid (Pvt w (pieceV v r.g q)) := (HO1.out.pts v (List.mem_cons_self ..)).piece hq1 (fun k => by have h := hqe; unfold lgV at h; rw [if_pos k] at h; omega)
        have HNO : Hid (RV.ok w (r.next v t q)) := RV.next_ok HO1.out q
        have HIN : Hid (Ac.JoinI A B ((r.next v t q).vs.map PV.pt) (r.next v t q).g (s.vs.map PV.pt) s.g ((ux ++ [pieceV v r.g q]).map PV.pt)) := by
          have h := HI1.out.cutA kv
          have hE : r.g + q = Ac.lg v.pt := by have := E1.out; omega
          have hqq : Ac.lg v.pt - r.g = q := by omega
          rw [hqq] at h
          have hn := next_pt (r := r) (t := t) (HO1.out.pts v (List.mem_cons_self ..)) EV.out q
          show Ac.JoinI _ _ _ _ _ _ _
          rw [hn.1, hn.2, Ac.nxtP_end hE, Ac.nxtG_end hE, hsv]
          simp only [List.map_append, List.map_cons, List.map_nil, pieceV_pt]
          exact h
        have hml : ux.length ≤ 80 := by have h1 := HI.out.lx; have h3 := HF.out; rw [List.length_map] at h1; omega
        have HLES : Hid ((r.next v t q).vs.length < r.vs.length) := by
          have hE : ((r.g + q : Nat) : Int) = lgV v := hqe.symm
          show _ < _
          unfold RV.next
          rw [if_pos hE, hrv]
          simp
        clear hqe hq1 E1 E2 EV EW HI1 hrv hsv kv hl1 hl2
        generalize pieceV v r.g q = u at *
        generalize r.next v t q = nx at *
        go_wp2_with fail
        refine C1.out.mono ?_
        rintro e w1 ⟨rfl, hw⟩
        obtain rfl := hw.symm
        go_wp2_with fail
        refine C2.out.mono ?_
        rintro e w1 ⟨rfl, hw⟩
        obtain rfl := hw.symm
        go_wp2_with fail
        refine C3.out.mono ?_
        rintro e w2 ⟨rfl, hb2, hk2⟩
        have HT2 : Hid (JoinW w w2 nx s u3 ux) := HT.out.pair hk2 hb2 HNO.out HT.out.hs
        have HT3 : Hid (JoinW w (boxp u w2) nx s u3 ux) := HT2.out.under (boxp_below u w2)
        have HSO : Hid (Ops (boxp u w2) (some ⟨w2.heap.size, 0, none⟩) 1 1 [u]) := ops_one (HPU.out.below HT2.out.blw)
        clear hb2 hk2 C1 C2 C3
        obtain ⟨xl, hxl⟩ : ∃ xl, ux.length = xl := ⟨_, rfl⟩
        rw [hxl] at hml
        have HXL : Hid (ux.length = xl) := hxl
        clear hxl
        have HOX : Hid ((boxp u w2).ownsRow (w.heap.size + 1) 77 7 u3 xl (pvCells ux)) := by have := HT3.out.mx; rw [HXL.out] at this; exact this
        have hs3 : w.heap.size + 1 ≤ (boxp u w2).heap.size := HT3.out.pb.lt
        go_wp2_with (at_builtin; refine wpList_append_row (boxp u w2) rfl (.tmp 12) (.tmp 15) 23 rfl (w.heap.size + 1) 77 i0 (.agg #[.int .i64 0, .int .i64 0, .slice none 0 0, .int .i64 0, .int .i64 0, .bool false, .string ⟨#[]⟩]) 7 80 Tryd.underlying23 hi hz0 hz1 hz2 rfl (by decide) u3 xl (pvCells ux) rfl HOX.out (some ⟨w2.heap.size, 0, none⟩) 1 1 (pvCells [u]) rfl HSO.out.row (pvCells_oneCell _) (by unfold maxLen; omega) (by omega) hs3 ?_)
        intro xv w4 hown4 hg4 hat4
        have hlf := low_far HT3.out.mx HPU.out
        have HT5 : Hid (JoinW w w4 nx s xv (ux ++ [u])) := HT3.out.grow (us := [u]) (m := xl + 1) HSO.out.pts (fun z hz => by rw [List.mem_singleton.1 hz]; exact hlf.1) (fun z hz => by rw [List.mem_singleton.1 hz]; exact hlf.2) (by rw [List.length_append, HXL.out]; rfl) hown4 hg4 hat4
        clear hown4 hg4 hat4 hlf
        go_wp2
        go_roundw
        case rel => exact ⟨_, _, _, HT5.out, HIN.out⟩
        case measure => have h1 := HT.out.left; have h2 := HT5.out.left; have h3 := HLES.out; omega
      · have ha : atK r.vs 3 = false := by rw [hrv]; simp [atK, kv]
        rw [ha] at C2
        have C2 : Hid (Calls Tryd.prog 78 #[.pointer (some ⟨w.heap.size, 0, none⟩), .int .i64 3] wr fun e w' => e = .returned (.bool false) ∧ w' = wr) := C2
        clear ha
        by_cases kw : v'.kind = 2
        · have ha : atK s.vs 2 = true := by rw [hsv]; simp [atK, kw]
          rw [ha] at C2'
          have C2' : Hid (Calls Tryd.prog 78 #[.pointer (some ⟨w.heap.size, 2, none⟩), .int .i64 2] wr fun e w' => e = .returned (.bool true) ∧ w' = wr) := C2'
          clear ha
          obtain ⟨q, hq⟩ : ∃ q : Nat, lgV v' - s.g = q := ⟨(lgV v' - s.g).toNat, by omega⟩
          have hq1 : 1 ≤ q := by omega
          have hqe : lgV v' = ((s.g + q : Nat) : Int) := by omega
          have C3 : Hid (Calls Tryd.prog 73 #[.pointer (some ⟨w.heap.size, 2, none⟩)] wr fun e w' => e = .returned (.agg #[.int .i64 (pieceV v' s.g q).kind, .int .i64 (pieceV v' s.g q).n, .slice (pieceV v' s.g q).ao (pieceV v' s.g q).m (pieceV v' s.g q).cap, .int .i64 (pieceV v' s.g q).set, .int .i64 (pieceV v' s.g q).clr, .bool (pieceV v' s.g q).goes, .string (pieceV v' s.g q).link]) ∧ Blk w' w.heap.size (prC r (s.next v' t' q)) 69 ∧ Kept wr w' [w.heap.size]) := takePart2_any w.heap.size r s v' t' q wr HT.out.pb (HO2.out.below HT.out.blw) (HO2.out.off (Nat.le_refl _)) hq1 hqe (by omega)
          have HPU : Hid (Pvt w (pieceV v' s.g q)) := (HO2.out.pts v' (List.mem_cons_self ..)).piece hq1 (fun k => by have h := hqe; unfold lgV at h; rw [if_pos k] at h; omega)
          have HNO : Hid (RV.ok w (s.next v' t' q)) := RV.next_ok HO2.out q
          have HIN : Hid (Ac.JoinI A B (r.vs.map PV.pt) r.g ((s.next v' t' q).vs.map PV.pt) (s.next v' t' q).g ((ux ++ [pieceV v' s.g q]).map PV.pt)) := by
            have h := HI1.out.putB kv kw
            have hE : s.g + q = Ac.lg v'.pt := by have := E2.out; omega
            have hqq : Ac.lg v'.pt - s.g = q := by omega
            rw [hqq] at h
            have hn := next_pt (r := s) (t := t') (HO2.out.pts v' (List.mem_cons_self ..)) EW.out q
            show Ac.JoinI _ _ _ _ _ _ _
            rw [hn.1, hn.2, Ac.nxtP_end hE, Ac.nxtG_end hE, hrv]
            simp only [List.map_append, List.map_cons, List.map_nil, pieceV_pt]
            exact h
          have hml : ux.length ≤ 80 := by have h1 := HI.out.lx; have h3 := HF.out; rw [List.length_map] at h1; omega
          have HLES : Hid ((s.next v' t' q).vs.length < s.vs.length) := by
            have hE : ((s.g + q : Nat) : Int) = lgV v' := hqe.symm
            show _ < _
            unfold RV.next
            rw [if_pos hE, hsv]
            simp
          clear hqe hq1 E1 E2 EV EW HI1 hrv hsv kv kw hl1 hl2
          generalize pieceV v' s.g q = u at *
          generalize s.next v' t' q = nx at *
          go_wp2_with fail
          refine C1.out.mono ?_
          rintro e w1 ⟨rfl, hw⟩
          obtain rfl := hw.symm
          go_wp2_with fail
          refine C2.out.mono ?_
          rintro e w1 ⟨rfl, hw⟩
          obtain rfl := hw.symm
          go_wp2_with fail
          refine C2'.out.mono ?_
          rintro e w1 ⟨rfl, hw⟩
          obtain rfl := hw.symm
          go_wp2_with fail
          refine C3.out.mono ?_
          rintro e w2 ⟨rfl, hb2, hk2⟩
          have HT2 : Hid (JoinW w w2 r nx u3 ux) := HT.out.pair hk2 hb2 HT.out.hr HNO.out
          have HT3 : Hid (JoinW w (boxp u w2) r nx u3 ux) := HT2.out.under (boxp_below u w2)
          have HSO : Hid (Ops (boxp u w2) (some ⟨w2.heap.size, 0, none⟩) 1 1 [u]) := ops_one (HPU.out.below HT2.out.blw)
          clear hb2 hk2 C1 C2 C3
          obtain ⟨xl, hxl⟩ : ∃ xl, ux.length = xl := ⟨_, rfl⟩
          rw [hxl] at hml
          have HXL : Hid (ux.length = xl) := hxl
          clear hxl
          have HOX : Hid ((boxp u w2).ownsRow (w.heap.size + 1) 77 7 u3 xl (pvCells ux)) := by have := HT3.out.mx; rw [HXL.out] at this; exact this
          have hs3 : w.heap.size + 1 ≤ (boxp u w2).heap.size := HT3.out.pb.lt
          go_wp2_with (at_builtin; refine wpList_append_row (boxp u w2) rfl (.tmp 20) (.tmp 23) 23 rfl (w.heap.size + 1) 77 i0 (.agg #[.int .i64 0, .int .i64 0, .slice none 0 0, .int .i64 0, .int .i64 0, .bool false, .string ⟨#[]⟩]) 7 80 Tryd.underlying23 hi hz0 hz1 hz2 rfl (by decide) u3 xl (pvCells ux) rfl HOX.out (some ⟨w2.heap.size, 0, none⟩) 1 1 (pvCells [u]) rfl HSO.out.row (pvCells_oneCell _) (by unfold maxLen; omega) (by omega) hs3 ?_)
          intro xv w4 hown4 hg4 hat4
          have hlf := low_far HT3.out.mx HPU.out
          have HT5 : Hid (JoinW w w4 r nx xv (ux ++ [u])) := HT3.out.grow (us := [u]) (m := xl + 1) HSO.out.pts (fun z hz => by rw [List.mem_singleton.1 hz]; exact hlf.1) (fun z hz => by rw [List.mem_singleton.1 hz]; exact hlf.2) (by rw [List.length_append, HXL.out]; rfl) hown4 hg4 hat4
          clear hown4 hg4 hat4 hlf
          go_wp2
          go_roundw
          case rel => exact ⟨_, _, _, HT5.out, HIN.out⟩
          case measure => have h1 := HT.out.left; have h2 := HT5.out.left; have h3 := HLES.out; omega
        · have ha : atK s.vs 2 = false := by rw [hsv]; simp [atK, kw]
          rw [ha] at C2'
          have C2' : Hid (Calls Tryd.prog 78 #[.pointer (some ⟨w.heap.size, 2, none⟩), .int .i64 2] wr fun e w' => e = .returned (.bool false) ∧ w' = wr) := C2'
          clear ha
          obtain ⟨q, hmin⟩ : ∃ q : Nat, min (lgV v - r.g) (lgV v' - s.g) = q := ⟨(min (lgV v - r.g) (lgV v' - s.g)).toNat, by omega⟩
          have hq1 : 1 ≤ q := by omega
          have hqa : ((r.g + q : Nat) : Int) ≤ lgV v := by omega
          have hqb : ((s.g + q : Nat) : Int) ≤ lgV v' := by omega
          have C3 : Hid (Calls Tryd.prog 75 #[.pointer (some ⟨w.heap.size, 0, none⟩)] wr fun e w' => e = .returned (.agg #[.int .i64 (pieceV v r.g q).kind, .int .i64 (pieceV v r.g q).n, .slice (pieceV v r.g q).ao (pieceV v r.g q).m (pieceV v r.g q).cap, .int .i64 (pieceV v r.g q).set, .int .i64 (pieceV v r.g q).clr, .bool (pieceV v r.g q).goes, .string (pieceV v r.g q).link, .int .i64 (pieceV v' s.g q).kind, .int .i64 (pieceV v' s.g q).n, .slice (pieceV v' s.g q).ao (pieceV v' s.g q).m (pieceV v' s.g q).cap, .int .i64 (pieceV v' s.g q).set, .int .i64 (pieceV v' s.g q).clr, .bool (pieceV v' s.g q).goes, .string (pieceV v' s.g q).link]) ∧ Blk w' w.heap.size (prC (r.next v t q) (s.next v' t' q)) 69 ∧ Kept wr w' [w.heap.size]) := takeBoth_any w.heap.size r s v t v' t' q w wr HT.out.blw (Nat.le_refl _) HT.out.pb HO1.out HO2.out hq1 hqa hqb (by omega) (by omega) hmin
          have HPU : Hid (Pvt w (pieceV v r.g q)) := (HO1.out.pts v (List.mem_cons_self ..)).piece hq1 (fun k => by have h := hqa; unfold lgV at h; rw [if_pos k] at h; omega)
          have HPW : Hid (Pvt w (pieceV v' s.g q)) := (HO2.out.pts v' (List.mem_cons_self ..)).piece hq1 (fun k => absurd k kw)
          have hn1 := next_pt (r := r) (t := t) (HO1.out.pts v (List.mem_cons_self ..)) EV.out q
          have hn2 := next_pt (r := s) (t := t') (HO2.out.pts v' (List.mem_cons_self ..)) EW.out q
          have hqn : q = min (Ac.lg v.pt - r.g) (Ac.lg v'.pt - s.g) := by have h1 := E1.out; have h2 := E2.out; omega
          have HIN : Hid (∀ us : List PV, us.map PV.pt = Ac.oneX (pieceV v r.g q).pt (pieceV v' s.g q).pt → Ac.JoinI A B ((r.next v t q).vs.map PV.pt) (r.next v t q).g ((s.next v' t' q).vs.map PV.pt) (s.next v' t' q).g ((ux ++ us).map PV.pt)) := fun us hus => by
            have h := HI1.out.both kv kw hqn
            rw [hn1.1, hn1.2, hn2.1, hn2.2, List.map_append, hus, pieceV_pt, pieceV_pt]
            exact h
          have HLES : Hid ((r.next v t q).vs.length + (s.next v' t' q).vs.length < r.vs.length + s.vs.length) := by
            have h := Ac.nxt_less (p := v.pt) (q := v'.pt) (t := t.map PV.pt) (u := t'.map PV.pt) (g := r.g) (h := s.g) (n := q) (by have h1 := E1.out; have h2 := E2.out; omega)
            rw [← hn1.1, ← hn2.1] at h
            simp only [List.length_map] at h
            show _ < _
            rw [hrv, hsv]
            simp only [List.length_cons]
            omega
          have hml : ux.length ≤ 80 := by have h1 := HI.out.lx; have h3 := HF.out; rw [List.length_map] at h1; omega
          have EP : Ac.err1 (pieceV v r.g q).pt = 0 := by rw [pieceV_pt]; exact Ac.piece_err EV.out hq1 (by have := E1.out; omega)
          have EQ : Ac.err1 (pieceV v' s.g q).pt = 0 := by rw [pieceV_pt]; exact Ac.piece_err EW.out hq1 (by have := E2.out; omega)
          have hk1 : (pieceV v r.g q).kind = 1 ∨ (pieceV v r.g q).kind = 2 := by
            have e : (pieceV v r.g q).kind = v.kind := congrArg Ac.Pt.kind (pieceV_pt v r.g q) |>.trans (Ac.piece_kind ..)
            rw [e]
            rcases Ac.kind_of EV.out with h | h | h
            · exact .inl h
            · exact .inr h
            · exact absurd h kv
          have hk2 : (pieceV v' s.g q).kind = 1 ∨ (pieceV v' s.g q).kind = 3 := by
            have e : (pieceV v' s.g q).kind = v'.kind := congrArg Ac.Pt.kind (pieceV_pt v' s.g q) |>.trans (Ac.piece_kind ..)
            rw [e]
            rcases Ac.kind_of EW.out with h | h | h
            · exact .inl h
            · exact absurd h kw
            · exact .inr h
          have C4 : Hid (∀ w', Below w.heap.size w w' → Calls Tryd.prog 79 #[.agg #[.int .i64 (pieceV v r.g q).kind, .int .i64 (pieceV v r.g q).n, .slice (pieceV v r.g q).ao (pieceV v r.g q).m (pieceV v r.g q).cap, .int .i64 (pieceV v r.g q).set, .int .i64 (pieceV v r.g q).clr, .bool (pieceV v r.g q).goes, .string (pieceV v r.g q).link, .int .i64 (pieceV v' s.g q).kind, .int .i64 (pieceV v' s.g q).n, .slice (pieceV v' s.g q).ao (pieceV v' s.g q).m (pieceV v' s.g q).cap, .int .i64 (pieceV v' s.g q).set, .int .i64 (pieceV v' s.g q).clr, .bool (pieceV v' s.g q).goes, .string (pieceV v' s.g q).link]] w' fun e w'' => (∃ a0 n0 c0 us, e = .returned (.slice a0 n0 c0) ∧ Ops w'' a0 n0 c0 us ∧ us.map PV.pt = Ac.oneX (pieceV v r.g q).pt (pieceV v' s.g q).pt ∧ us.length ≤ 1 ∧ ∀ u ∈ us, u.m = 0 ∨ High w'.heap.size u) ∧ Below w'.heap.size w' w'') := fun w' hb => aft_any _ _ w' (HPU.out.below hb) (HPW.out.below hb) hk1 hk2 EP EQ
          have HNO : Hid (RV.ok w (r.next v t q)) := RV.next_ok HO1.out q
          have HNP : Hid (RV.ok w (s.next v' t' q)) := RV.next_ok HO2.out q
          clear hmin hq1 hqa hqb E1 E2 EV EW HI1 hrv hsv kv kw hl1 hl2 hk1 hk2 EP EQ hn1 hn2 hqn HPU HPW HO1 HO2
          generalize Ac.oneX (pieceV v r.g q).pt (pieceV v' s.g q).pt = OX at *
          generalize pieceV v r.g q = u at *
          generalize pieceV v' s.g q = u' at *
          generalize r.next v t q = nx at *
          generalize s.next v' t' q = nx' at *
          go_wp2_with fail
          refine C1.out.mono ?_
          rintro e w1 ⟨rfl, hw⟩
          obtain rfl := hw.symm
          go_wp2_with fail
          refine C2.out.mono ?_
          rintro e w1 ⟨rfl, hw⟩
          obtain rfl := hw.symm
          go_wp2_with fail
          refine C2'.out.mono ?_
          rintro e w1 ⟨rfl, hw⟩
          obtain rfl := hw.symm
          go_wp2_with fail
          refine C3.out.mono ?_
          rintro e w2 ⟨rfl, hb2, hk2⟩
          have HT2 : Hid (JoinW w w2 nx nx' u3 ux) := HT.out.pair hk2 hb2 HNO.out HNP.out
          clear hb2 hk2 C1 C2 C2' C3
          go_wp2_with fail
          refine (C4.out _ HT2.out.blw).mono ?_
          rintro e w3 ⟨⟨a0, n0, c0, us, rfl, o0, hpt, hl0, hfr⟩, hb3⟩
          have HT3 : Hid (JoinW w w3 nx nx' u3 ux) := HT2.out.under hb3
          have HSO : Hid (Ops w3 a0 n0 c0 us) := o0
          have HPT : Hid (us.map PV.pt = OX) := hpt
          have HFR : Hid (∀ u ∈ us, u.m = 0 ∨ High w2.heap.size u) := hfr
          have hn0 : n0 ≤ 1 := by have := o0.len; omega
          clear o0 hb3 C4 hpt hl0 hfr
          obtain ⟨xl, hxl⟩ : ∃ xl, ux.length = xl := ⟨_, rfl⟩
          rw [hxl] at hml
          have HXL : Hid (ux.length = xl) := hxl
          clear hxl
          have HOX : Hid (w3.ownsRow (w.heap.size + 1) 77 7 u3 xl (pvCells ux)) := by have := HT3.out.mx; rw [HXL.out] at this; exact this
          have hs3 : w.heap.size + 1 ≤ w3.heap.size := HT3.out.pb.lt
          go_wp2_with (at_builtin; refine wpList_append_row w3 rfl (.tmp 5) (.tmp 7) 23 rfl (w.heap.size + 1) 77 i0 (.agg #[.int .i64 0, .int .i64 0, .slice none 0 0, .int .i64 0, .int .i64 0, .bool false, .string ⟨#[]⟩]) 7 80 Tryd.underlying23 hi hz0 hz1 hz2 rfl (by decide) u3 xl (pvCells ux) rfl HOX.out a0 n0 c0 (pvCells us) rfl HSO.out.row (pvCells_oneCell _) (by unfold maxLen; omega) (by omega) hs3 ?_)
          intro xv w4 hown4 hg4 hat4
          have hlf : ∀ z ∈ us, Far z u3 ∧ ∀ a : Addr, z.m ≠ 0 → z.ao = some a → a.block ≠ w.heap.size := fun z hz => high_far HT2.out.mx HT2.out.pb.lt (HFR.out z hz)
          have HT5 : Hid (JoinW w w4 nx nx' xv (ux ++ us)) := HT3.out.grow (us := us) (m := xl + n0) HSO.out.pts (fun z hz => (hlf z hz).1) (fun z hz => (hlf z hz).2) (by rw [List.length_append, HXL.out, HSO.out.len]) hown4 hg4 hat4
          clear hown4 hg4 hat4 hlf
          go_wp2
          go_roundw
          case rel => exact ⟨_, _, _, HT5.out, HIN.out us HPT.out⟩
          case measure => have h1 := HT.out.left; have h2 := HT5.out.left; have h3 := HLES.out; omega
end Go.Proofs.YtbhcklkbckacpaaDoor
