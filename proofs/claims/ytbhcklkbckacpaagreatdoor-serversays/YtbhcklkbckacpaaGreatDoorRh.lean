/-
  The reference's tidied and TidyOf.
-/
import Derived.Test.YtbhcklkbckacpaaGreatDoorRg
namespace Go.Proofs.YtbhcklkbckacpaaGreatDoor
open Go.RowKit
theorem like_says (q p : PV) : Ac.likeK q.pt (Ac.chOf p.pt) = ((q.kind == 1) && Ac.says q.pt p.pt) := by
  rw [Bool.eq_iff_iff, Ac.likeK_eq, Bool.and_eq_true, Ac.says_eq, beq_iff_eq]
  rfl

set_option maxRecDepth 100000 in
set_option maxHeartbeats 25600000 in
theorem tidied_any (la : Option Addr) (n lc B : Nat) (L : List AV) (w : World) (hR : w.ownsRow B 196 11 (.slice la n lc) n (avCells L)) (hn : L.length = n) (hn2 : n ≤ 20000) (hok : ∀ a ∈ L, Ac.OkT w a) :
    Calls Tryz.prog 168 #[.slice la n lc] w fun e w' => (∃ a m c us, e = .returned (.slice a m c) ∧ Ops w' a m c us ∧ us.map PV.pt = Ac.tdy [] [] 0 (L.map Ac.toA)) ∧ Below w.heap.size w w' := by
  obtain ⟨i0, hi, hz0, hz1, hz2⟩ := info_parts Tryz.infI
  obtain ⟨i1, hi1, hy0, hy1, hy2⟩ := info_parts Tryz.infP
  have HRW : Hid (w.ownsRow B 196 11 (.slice la n lc) n (avCells L)) := hR
  have HN : Hid (L.length = n) := hn
  have HOK : Hid (∀ a ∈ L, Ac.OkT w a) := hok
  have hrm : n ≤ lc := by obtain ⟨a, c, e, hr⟩ := own_row hR; simp only [Value.slice.injEq, true_and] at e; rw [e.2]; exact hr.room
  have hrb : lc ≤ 9223372036854775807 := by obtain ⟨a, c, e, hr⟩ := own_row hR; simp only [Value.slice.injEq, true_and] at e; rw [e.2]; exact hr.big
  have HTD : Hid (Ac.tdy [] [] 0 (L.map Ac.toA) = (Ac.aT L).out ++ Ac.flushP (Ac.aT L).put (Ac.aT L).cut) := Ac.aT_tdy L ⟨[], [], 0⟩
  have HT0 : Hid (Tdy w (.slice none 0 0) (.slice none 0 0) [] [] 0 (tide0 w)) := tide0_tdy w
  clear hR hn hok
  obtain ⟨R, hR⟩ : ∃ R, Ac.tdy [] [] 0 (L.map Ac.toA) = R := ⟨_, rfl⟩
  rw [hR] at HTD ⊢
  clear hR
  go_enter Tryz.func168, Tryz.ntmps168
  go_wp2
  go_loopw [13] (fun i wr => ∃ j : Nat, j ≤ n ∧ i = .int .i64 j ∧ ∃ tv pv out, Tdy w tv pv out (Ac.aT (L.take j)).put (Ac.aT (L.take j)).cut wr ∧ out.map PV.pt = (Ac.aT (L.take j)).out ∧ Bnd out (Ac.aT (L.take j)).put (Ac.aT (L.take j)).cut j) (fun i _ => n - (intOf i).toNat)
  case atStart => exact ⟨0, Nat.zero_le _, rfl, _, _, [], HT0.out, rfl, fun z hz => absurd hz (by simp), Nat.zero_le _, Nat.zero_le _, Nat.zero_le _⟩
  case round =>
    obtain ⟨j, hj, rfl, tv, pv, out, hT, hpt, hbd⟩ := hrel
    have HT : Hid (Tdy w tv pv out (Ac.aT (L.take j)).put (Ac.aT (L.take j)).cut wr) := hT
    have HPT : Hid (out.map PV.pt = (Ac.aT (L.take j)).out) := hpt
    have HBD : Hid (Bnd out (Ac.aT (L.take j)).put (Ac.aT (L.take j)).cut j) := hbd
    clear hT hpt hbd HT0
    by_cases hjn : j < n
    · have hjL : j < L.length := by rw [HN.out]; exact hjn
      obtain ⟨lg, lc2, hla, -, hlg⟩ := HRW.out.form (by omega)
      simp only [Value.slice.injEq, true_and] at hla
      obtain ⟨rfl, -⟩ := hla
      have HMS : Hid (Ac.aT (L.take (j + 1)) = Ac.aS (Ac.aT (L.take j)) L[j]) := Ac.aT_step L j hjL
      have hokt := HOK.out L[j] (List.getElem_mem hjL)
      obtain ⟨c0, c1, c2, c3, c4, c5, c6, c7, c8, c9, c10⟩ := (own_elev HRW.out HN.out j hjL).below HT.out.blw
      generalize Ac.aT (L.take j) = s at *
      generalize L[j] = a at *
      clear hjL
      obtain ⟨so, sp, sc⟩ := s
      simp only at HT HPT HBD
      have hb1 := HBD.out.len
      have hb2 := HBD.out.put
      have hb3 := HBD.out.cut
      have hsz : w.heap.size + 3 ≤ wr.heap.size := HT.out.cb.lt
      have HS5 : Hid (Elev (boxa a wr) wr.heap.size 0 a) := boxa_at a wr
      have hw5 : Below wr.heap.size wr (boxa a wr) := boxa_below a wr
      have HT5 : Hid (Tdy w tv pv out sp sc (boxa a wr)) := HT.out.under hw5
      have HL5 : Hid (wr.heap.size < (boxa a wr).heap.size) := by show _ < _; rw [boxa_size]; omega
      have hsz5 : w.heap.size + 3 ≤ (boxa a wr).heap.size := HT5.out.cb.lt
      have HNB : Hid (∀ x ∈ w.heap.size :: (w.heap.size + 1) :: (w.heap.size + 2) :: ob tv, x ≠ wr.heap.size) := fun x hx e => by
        simp only [List.mem_cons] at hx
        rcases hx with h | h | h | h
        · omega
        · omega
        · omega
        · have := (HT.out.tide.own.lt x (ob_mem h)).2; omega
      clear hw5
      rcases hokt with ⟨hk, hfx⟩ | ⟨hk, hpk, hpn, hpm, hpi, hpv⟩ | hk
      · obtain ⟨kind, x, p⟩ := a
        simp only at hk hfx
        subst hk
        have hms : Ac.aS ⟨so, sp, sc⟩ ⟨2, x, p⟩ = ⟨so, sp ++ [x], sc⟩ := rfl
        rw [hms] at HMS
        obtain ⟨ml, hml⟩ : ∃ ml, sp.length = ml := ⟨_, rfl⟩
        rw [hml] at hb2
        have HFI : Hid (Fit [x]) := fun z hz => by rw [List.mem_singleton.1 hz]; exact hfx
        have HMQ : Hid ((sp ++ [x]).length = ml + 1) := by show _ = _; rw [List.length_append, hml]; rfl
        have HO5 : Hid ((boxa ⟨2, x, p⟩ wr).ownsRow (w.heap.size + 3) 39 3 pv ml (itCells sp)) := by have := HT5.out.pown; rw [hml] at this; exact this
        obtain ⟨pa, pc, hpv, -⟩ := own_row HO5.out
        have HBD2 : Hid (Bnd out (sp ++ [x]) sc (j + 1)) := ⟨fun z hz => by have := HBD.out.n z hz; omega, by omega, by rw [HMQ.out]; omega, by omega⟩
        clear hms hml hfx
        subst hpv
        go_upto_region 8 with fail
        change Code.wp Tryz.prog _ _ _ (boxa ⟨2, x, p⟩ wr)
        generalize boxa ⟨2, x, p⟩ wr = W5 at *
        clear c0 c1 c2 c3 c4 c5 c6 c7 c8 c9 c10
        obtain ⟨d0, d1, d2, d3, d4, d5, d6, d7, d8, d9, d10⟩ := HS5.out
        simp only [Nat.zero_add] at d0 d1 d2 d3 d4 d5 d6 d7 d8 d9 d10
        have p5 : W5.cell? ⟨w.heap.size + 1, 0, none⟩ = some (.slice pa ml pc) := HT5.out.pb.cell 0
        go_wp2_with (at_builtin; refine wpList_append_lies _ rfl (.tmp 93) (.tmp 96) 33 rfl (w.heap.size + 3) 39 i0 (.agg #[.int .u8 0, .int .i64 0, .string ⟨#[]⟩]) 3 32 Tryz.underlying33 hi hz0 hz1 hz2 rfl (by decide) _ ml (itCells sp) rfl (HO5.out.alloc _) ⟨W5.heap.size, 0, none⟩ 1 1 (itCells [x]) rfl rfl (World.news_of_block (cs := (itCells [x]).toArray) (heap_alloc_new W5 _)) (itCells_one _) (by decide) (by unfold maxLen; omega) (by omega) (Nat.le_trans hsz5 (al_blw W5 _).size) _ rfl ?c7)
        case c7 =>
          intro g2 cap2 w8 hown hgrow hat hlt2
          have hTa := HT5.out.under (al_blw W5 (.cells (itCells [x]).toArray 39))
          have hb8 := (grown_kept hgrow).blk hTa.pb (fun hx => by have := ownBlk_ge HO5.out _ (ob_mem hx); omega)
          have HFIN : Hid (Tdy w tv (.slice (some ⟨g2, 0, none⟩) (ml + 1) cap2) out (sp ++ [x]) sc (w8.setCell ⟨w.heap.size + 1, 0, none⟩ (.slice (some ⟨g2, 0, none⟩) (ml + 1) cap2))) := hTa.puts HFI.out (by rw [itCells_app]; exact hown) HMQ.out hgrow (by rcases hat with h | h; exact .inl h; exact .inr (h.trans (World.size_alloc ..).symm))
          have p8 := hb8.cell 0
          have f8 := hb8.frozen 0
          clear hown hgrow hat hlt2 hb8 hTa
          simp only [List.getElem?_cons_zero] at p8
          go_wp2
          go_roundw
          case rel => exact ⟨j + 1, by omega, by go_num, _, _, out, by rw [HMS.out]; exact HFIN.out, by rw [HMS.out]; exact HPT.out, by rw [HMS.out]; exact HBD2.out⟩
          case measure => simp [intOf]; omega
      · obtain ⟨kind, x, p⟩ := a
        simp only at hk hpk hpn hpm hpi hpv
        subst hk
        have hms : Ac.aS ⟨so, sp, sc⟩ ⟨1, x, p⟩ = ⟨Ac.addK (so ++ Ac.flushP sp sc) (Ac.chOf p.pt), [], 0⟩ := rfl
        rw [hms] at HMS
        have HPN : Hid (p.n = 1) := hpn
        have HPM : Hid (p.m = 0) := hpm
        have HPP : Hid (p.pt = Ac.keepP (Ac.chOf p.pt) 1) := by
          show _ = _
          obtain ⟨a1, a2, a3, a4, a5, a6, a7, a8, a9, a10⟩ := p
          simp only at hpk hpn hpi
          subst hpk hpn hpi
          rfl
        have HPW : Hid (Pvt w p) := hpv
        clear hms hpk hpn hpm hpi hpv
        go_upto_region 8 with fail
        change Code.wp Tryz.prog _ _ _ (boxa ⟨1, x, p⟩ wr)
        generalize boxa ⟨1, x, p⟩ wr = W5 at *
        clear c0 c1 c2 c3 c4 c5 c6 c7 c8 c9 c10
        obtain ⟨d0, d1, d2, d3, d4, d5, d6, d7, d8, d9, d10⟩ := HS5.out
        simp only [Nat.zero_add] at d0 d1 d2 d3 d4 d5 d6 d7 d8 d9 d10
        go_wp2_with fail
        refine (settleR_any w W5 tv pv out sp sc HT5.out (by omega) (by omega) (by omega)).mono ?_
        rintro e w6 ⟨rfl, tv6, out6, hT6, hp6, hl6, hk6⟩
        have HE6 : Hid (Elev w6 wr.heap.size 0 ⟨1, x, p⟩) := HS5.out.same (hk6.block _ HL5.out (fun hm => HNB.out _ hm rfl))
        have HPT6 : Hid (out6.map PV.pt = so ++ Ac.flushP sp sc) := by show _ = _; rw [hp6, HPT.out]
        have HN6 : Hid (∀ z ∈ out6, 0 ≤ z.n ∧ z.n ≤ j) := HBD.out.flushed hp6
        obtain ⟨ol6, hol6⟩ : ∃ ol6, out6.length = ol6 := ⟨_, rfl⟩
        have HOL6 : Hid (out6.length = ol6) := hol6
        rw [hol6] at hl6
        have HO6 : Hid (w6.ownsRow (w.heap.size + 3) 162 7 tv6 ol6 (pvCells out6)) := by have := hT6.tide.own; rw [hol6] at this; exact this
        obtain ⟨ta, tc, htv, hrow6⟩ := own_row HO6.out
        have hr6 := hrow6.room
        have hg6 := hrow6.big
        have HT6 : Hid (Tdy w tv6 (.slice none 0 0) out6 [] 0 w6) := hT6
        have HP6 : Hid (Pvt w6 p) := HPW.out.below hT6.blw
        have hsz6 : w.heap.size + 3 ≤ w6.heap.size := hT6.cb.lt
        clear hT6 hp6 hk6 hol6 hrow6 d0 d1 d2 d3 d4 d5 d6 d7 d8 d9 d10
        subst htv
        have t6 : w6.cell? ⟨w.heap.size, 0, none⟩ = some (.slice ta ol6 tc) := HT6.out.tb.cell 0
        have tf6 := HT6.out.tb.frozen 0
        obtain ⟨y0, y1, y2, y3, y4, y5, y6, y7, y8, y9, y10⟩ := HE6.out
        simp only [Nat.zero_add] at y0 y1 y2 y3 y4 y5 y6 y7 y8 y9 y10
        rcases List.eq_nil_or_concat out6 with e | ⟨out0, q, e⟩
        · subst e
          obtain rfl : ol6 = 0 := HOL6.out.symm
          go_upto_region 11 with fail
          go_quiet (fail)
          go_wp2_with (at_builtin; refine wpList_append_lies _ rfl (.tmp 86) (.tmp 89) 44 rfl (w.heap.size + 3) 162 i1 (.agg #[.int .i64 0, .int .i64 0, .slice none 0 0, .int .i64 0, .int .i64 0, .bool false, .string ⟨#[]⟩]) 7 80 Tryz.underlying44 hi1 hy0 hy1 hy2 rfl (by decide) _ 0 (pvCells []) rfl ?c1 ⟨w6.heap.size, 0, none⟩ 1 1 (pvC p) rfl rfl ?c2 ?c3 (by decide) ?c4 ?c5 ?c6 _ rfl ?c7)
          case c1 => exact World.ownsRow.alloc (w := w6.drewN nq) HO6.out _
          case c2 => exact World.news_of_block (cs := (pvC p).toArray) (heap_alloc_new (w6.drewN nq) _)
          case c3 => exact fun u hu => pvCells_oneCell [p] u (by rw [pvCells_one]; exact hu)
          case c4 => unfold maxLen; omega
          case c5 => omega
          case c6 => first | omega | (simp; omega)
          case c7 =>
            intro g7 cap7 w7 hown hgrow hat hlt7
            obtain ⟨hT7, hk7⟩ := HT6.out.append HOL6.out HP6.out HPM.out ((drewN_blw w6 nq).trans ((al_blw (w6.drewN nq) _).mono (Nat.le_refl _))) hown hgrow (by rcases hat with h | h; exact .inl h; exact .inr (h.trans (World.size_alloc ..).symm))
            have hb7 := hk7.blk HT6.out.tb (fun hx => by have := ownBlk_ge HT6.out.tide.own _ (ob_mem hx); omega)
            have HT7 : Hid (Tdy w (.slice (some ⟨g7, 0, none⟩) (0 + 1) cap7) (.slice none 0 0) ([] ++ [p]) [] 0 (w7.setCell ⟨w.heap.size, 0, none⟩ (.slice (some ⟨g7, 0, none⟩) (0 + 1) cap7))) := hT7
            have t7 := hb7.cell 0
            have f7 := hb7.frozen 0
            have HPT7 : Hid (([] ++ [p]).map PV.pt = Ac.addK (so ++ Ac.flushP sp sc) (Ac.chOf p.pt)) := by
              show _ = _
              rw [← HPT6.out]
              show [p.pt] = [Ac.keepP (Ac.chOf p.pt) 1]; rw [← HPP.out]
            have HBD7 : Hid (Bnd ([] ++ [p]) [] 0 (j + 1)) := by
              refine ⟨fun z hz => ?_, ?_, Nat.zero_le _, Nat.zero_le _⟩
              · rcases List.mem_append.1 hz with hz | hz
                · have := HN6.out z hz; omega
                · rw [List.mem_singleton.1 hz, HPN.out]; omega
              · rw [List.length_append, HOL6.out]; simp; omega
            clear hown hgrow hat hlt7 hT7 hk7 hb7
            simp only [List.getElem?_cons_zero] at t7
            go_wp2
            go_roundw
            case rel => exact ⟨j + 1, by omega, by go_num, _, _, _, by rw [HMS.out]; exact HT7.out, by rw [HMS.out]; exact HPT7.out, by rw [HMS.out]; exact HBD7.out⟩
            case measure => simp [intOf]; omega
        · rw [List.concat_eq_append] at e
          subst e
          obtain ⟨jj, hjj⟩ : ∃ jj, out0.length = jj := ⟨_, rfl⟩
          obtain rfl : ol6 = jj + 1 := by rw [← HOL6.out, List.length_append, hjj]; rfl
          have HJJ : Hid (out0.length = jj) := hjj
          obtain ⟨g0, tc0, htv, -, hg0⟩ := HO6.out.form (Nat.succ_pos jj)
          simp only [Value.slice.injEq, true_and] at htv
          obtain ⟨rfl, -⟩ := htv
          have hjl : jj < (out0 ++ [q]).length := by rw [List.length_append, hjj]; simp
          obtain ⟨k0, k1, k2, k3, k4, k5, k6⟩ := pvCells_at (out0 ++ [q]) jj hjl
          have hgj : (out0 ++ [q])[jj] = q := by simp [← hjj]
          rw [hgj] at k0 k1 k2 k3 k4 k5 k6
          have hc : ∀ i u, i < 7 → (pvCells (out0 ++ [q]))[jj * 7 + i]? = some u → w6.cell? ⟨g0, jj * 7 + i, none⟩ = some u := fun i u hi h => (HO6.out.cellAt (jj * 7 + i) (by omega)).trans h
          have x0 := hc 0 _ (by omega) k0
          have x1 := hc 1 _ (by omega) k1
          have x3 := hc 3 _ (by omega) k3
          have x4 := hc 4 _ (by omega) k4
          have x5 := hc 5 _ (by omega) k5
          have x6 := hc 6 _ (by omega) k6
          simp only [Nat.add_zero] at x0
          have q1 : (0 : Int) ≤ (jj : Int) := by omega
          have q2 : (jj : Int) < (jj : Int) + 1 := by omega
          clear hc k0 k1 k2 k3 k4 k5 k6 hgj hjl hjj
          cases t0 : (q.kind == 1)
          · have hlk : ((q.kind == 1) && Ac.says q.pt p.pt) = false := by rw [t0]; rfl
            go_upto_region 11 with fail
            go_quiet (fail)
            go_wp2_with (at_builtin; refine wpList_append_lies _ rfl (.tmp 86) (.tmp 89) 44 rfl (w.heap.size + 3) 162 i1 (.agg #[.int .i64 0, .int .i64 0, .slice none 0 0, .int .i64 0, .int .i64 0, .bool false, .string ⟨#[]⟩]) 7 80 Tryz.underlying44 hi1 hy0 hy1 hy2 rfl (by decide) _ (jj + 1) (pvCells (out0 ++ [q])) rfl ?c1 ⟨w6.heap.size, 0, none⟩ 1 1 (pvC p) rfl rfl ?c2 ?c3 (by decide) ?c4 ?c5 ?c6 _ rfl ?c7)
            case c1 => exact World.ownsRow.alloc (w := w6.drewN nq) HO6.out _
            case c2 => exact World.news_of_block (cs := (pvC p).toArray) (heap_alloc_new (w6.drewN nq) _)
            case c3 => exact fun u hu => pvCells_oneCell [p] u (by rw [pvCells_one]; exact hu)
            case c4 => unfold maxLen; omega
            case c5 => omega
            case c6 => first | omega | (simp; omega)
            case c7 =>
              intro g7 cap7 w7 hown hgrow hat hlt7
              obtain ⟨hT7, hk7⟩ := HT6.out.append HOL6.out HP6.out HPM.out ((drewN_blw w6 nq).trans ((al_blw (w6.drewN nq) _).mono (Nat.le_refl _))) hown hgrow (by rcases hat with h | h; exact .inl h; exact .inr (h.trans (World.size_alloc ..).symm))
              have hb7 := hk7.blk HT6.out.tb (fun hx => by have := ownBlk_ge HT6.out.tide.own _ (ob_mem hx); omega)
              have HT7 : Hid (Tdy w (.slice (some ⟨g7, 0, none⟩) ((jj + 1) + 1) cap7) (.slice none 0 0) ((out0 ++ [q]) ++ [p]) [] 0 (w7.setCell ⟨w.heap.size, 0, none⟩ (.slice (some ⟨g7, 0, none⟩) ((jj + 1) + 1) cap7))) := hT7
              have t7 := hb7.cell 0
              have f7 := hb7.frozen 0
              have HPT7 : Hid (((out0 ++ [q]) ++ [p]).map PV.pt = Ac.addK (so ++ Ac.flushP sp sc) (Ac.chOf p.pt)) := by
                show _ = _
                rw [← HPT6.out]
                rw [List.map_append, List.map_append]
                show out0.map PV.pt ++ [q.pt] ++ [p.pt] = Ac.addK (out0.map PV.pt ++ [q.pt]) (Ac.chOf p.pt)
                rw [Ac.addK_snoc, like_says, hlk, HPP.out]
                rfl
              have HBD7 : Hid (Bnd ((out0 ++ [q]) ++ [p]) [] 0 (j + 1)) := by
                refine ⟨fun z hz => ?_, ?_, Nat.zero_le _, Nat.zero_le _⟩
                · rcases List.mem_append.1 hz with hz | hz
                  · have := HN6.out z hz; omega
                  · rw [List.mem_singleton.1 hz, HPN.out]; omega
                · rw [List.length_append, HOL6.out]; simp; omega
              clear hown hgrow hat hlt7 hT7 hk7 hb7
              simp only [List.getElem?_cons_zero] at t7
              go_wp2
              go_roundw
              case rel => exact ⟨j + 1, by omega, by go_num, _, _, _, by rw [HMS.out]; exact HT7.out, by rw [HMS.out]; exact HPT7.out, by rw [HMS.out]; exact HBD7.out⟩
              case measure => simp [intOf]; omega
          · skip
            cases t1 : (q.set == p.set)
            · have hlk : ((q.kind == 1) && Ac.says q.pt p.pt) = false := by simp [Ac.says, PV.pt, t0, t1]
              go_upto_region 11 with fail
              go_quiet (fail)
              go_wp2_with (at_builtin; refine wpList_append_lies _ rfl (.tmp 86) (.tmp 89) 44 rfl (w.heap.size + 3) 162 i1 (.agg #[.int .i64 0, .int .i64 0, .slice none 0 0, .int .i64 0, .int .i64 0, .bool false, .string ⟨#[]⟩]) 7 80 Tryz.underlying44 hi1 hy0 hy1 hy2 rfl (by decide) _ (jj + 1) (pvCells (out0 ++ [q])) rfl ?c1 ⟨w6.heap.size, 0, none⟩ 1 1 (pvC p) rfl rfl ?c2 ?c3 (by decide) ?c4 ?c5 ?c6 _ rfl ?c7)
              case c1 => exact World.ownsRow.alloc (w := w6.drewN nq) HO6.out _
              case c2 => exact World.news_of_block (cs := (pvC p).toArray) (heap_alloc_new (w6.drewN nq) _)
              case c3 => exact fun u hu => pvCells_oneCell [p] u (by rw [pvCells_one]; exact hu)
              case c4 => unfold maxLen; omega
              case c5 => omega
              case c6 => first | omega | (simp; omega)
              case c7 =>
                intro g7 cap7 w7 hown hgrow hat hlt7
                obtain ⟨hT7, hk7⟩ := HT6.out.append HOL6.out HP6.out HPM.out ((drewN_blw w6 nq).trans ((al_blw (w6.drewN nq) _).mono (Nat.le_refl _))) hown hgrow (by rcases hat with h | h; exact .inl h; exact .inr (h.trans (World.size_alloc ..).symm))
                have hb7 := hk7.blk HT6.out.tb (fun hx => by have := ownBlk_ge HT6.out.tide.own _ (ob_mem hx); omega)
                have HT7 : Hid (Tdy w (.slice (some ⟨g7, 0, none⟩) ((jj + 1) + 1) cap7) (.slice none 0 0) ((out0 ++ [q]) ++ [p]) [] 0 (w7.setCell ⟨w.heap.size, 0, none⟩ (.slice (some ⟨g7, 0, none⟩) ((jj + 1) + 1) cap7))) := hT7
                have t7 := hb7.cell 0
                have f7 := hb7.frozen 0
                have HPT7 : Hid (((out0 ++ [q]) ++ [p]).map PV.pt = Ac.addK (so ++ Ac.flushP sp sc) (Ac.chOf p.pt)) := by
                  show _ = _
                  rw [← HPT6.out]
                  rw [List.map_append, List.map_append]
                  show out0.map PV.pt ++ [q.pt] ++ [p.pt] = Ac.addK (out0.map PV.pt ++ [q.pt]) (Ac.chOf p.pt)
                  rw [Ac.addK_snoc, like_says, hlk, HPP.out]
                  rfl
                have HBD7 : Hid (Bnd ((out0 ++ [q]) ++ [p]) [] 0 (j + 1)) := by
                  refine ⟨fun z hz => ?_, ?_, Nat.zero_le _, Nat.zero_le _⟩
                  · rcases List.mem_append.1 hz with hz | hz
                    · have := HN6.out z hz; omega
                    · rw [List.mem_singleton.1 hz, HPN.out]; omega
                  · rw [List.length_append, HOL6.out]; simp; omega
                clear hown hgrow hat hlt7 hT7 hk7 hb7
                simp only [List.getElem?_cons_zero] at t7
                go_wp2
                go_roundw
                case rel => exact ⟨j + 1, by omega, by go_num, _, _, _, by rw [HMS.out]; exact HT7.out, by rw [HMS.out]; exact HPT7.out, by rw [HMS.out]; exact HBD7.out⟩
                case measure => simp [intOf]; omega
            · skip
              cases t2 : (q.clr == p.clr)
              · have hlk : ((q.kind == 1) && Ac.says q.pt p.pt) = false := by simp [Ac.says, PV.pt, t0, t1, t2]
                go_upto_region 11 with fail
                go_quiet (fail)
                go_wp2_with (at_builtin; refine wpList_append_lies _ rfl (.tmp 86) (.tmp 89) 44 rfl (w.heap.size + 3) 162 i1 (.agg #[.int .i64 0, .int .i64 0, .slice none 0 0, .int .i64 0, .int .i64 0, .bool false, .string ⟨#[]⟩]) 7 80 Tryz.underlying44 hi1 hy0 hy1 hy2 rfl (by decide) _ (jj + 1) (pvCells (out0 ++ [q])) rfl ?c1 ⟨w6.heap.size, 0, none⟩ 1 1 (pvC p) rfl rfl ?c2 ?c3 (by decide) ?c4 ?c5 ?c6 _ rfl ?c7)
                case c1 => exact World.ownsRow.alloc (w := w6.drewN nq) HO6.out _
                case c2 => exact World.news_of_block (cs := (pvC p).toArray) (heap_alloc_new (w6.drewN nq) _)
                case c3 => exact fun u hu => pvCells_oneCell [p] u (by rw [pvCells_one]; exact hu)
                case c4 => unfold maxLen; omega
                case c5 => omega
                case c6 => first | omega | (simp; omega)
                case c7 =>
                  intro g7 cap7 w7 hown hgrow hat hlt7
                  obtain ⟨hT7, hk7⟩ := HT6.out.append HOL6.out HP6.out HPM.out ((drewN_blw w6 nq).trans ((al_blw (w6.drewN nq) _).mono (Nat.le_refl _))) hown hgrow (by rcases hat with h | h; exact .inl h; exact .inr (h.trans (World.size_alloc ..).symm))
                  have hb7 := hk7.blk HT6.out.tb (fun hx => by have := ownBlk_ge HT6.out.tide.own _ (ob_mem hx); omega)
                  have HT7 : Hid (Tdy w (.slice (some ⟨g7, 0, none⟩) ((jj + 1) + 1) cap7) (.slice none 0 0) ((out0 ++ [q]) ++ [p]) [] 0 (w7.setCell ⟨w.heap.size, 0, none⟩ (.slice (some ⟨g7, 0, none⟩) ((jj + 1) + 1) cap7))) := hT7
                  have t7 := hb7.cell 0
                  have f7 := hb7.frozen 0
                  have HPT7 : Hid (((out0 ++ [q]) ++ [p]).map PV.pt = Ac.addK (so ++ Ac.flushP sp sc) (Ac.chOf p.pt)) := by
                    show _ = _
                    rw [← HPT6.out]
                    rw [List.map_append, List.map_append]
                    show out0.map PV.pt ++ [q.pt] ++ [p.pt] = Ac.addK (out0.map PV.pt ++ [q.pt]) (Ac.chOf p.pt)
                    rw [Ac.addK_snoc, like_says, hlk, HPP.out]
                    rfl
                  have HBD7 : Hid (Bnd ((out0 ++ [q]) ++ [p]) [] 0 (j + 1)) := by
                    refine ⟨fun z hz => ?_, ?_, Nat.zero_le _, Nat.zero_le _⟩
                    · rcases List.mem_append.1 hz with hz | hz
                      · have := HN6.out z hz; omega
                      · rw [List.mem_singleton.1 hz, HPN.out]; omega
                    · rw [List.length_append, HOL6.out]; simp; omega
                  clear hown hgrow hat hlt7 hT7 hk7 hb7
                  simp only [List.getElem?_cons_zero] at t7
                  go_wp2
                  go_roundw
                  case rel => exact ⟨j + 1, by omega, by go_num, _, _, _, by rw [HMS.out]; exact HT7.out, by rw [HMS.out]; exact HPT7.out, by rw [HMS.out]; exact HBD7.out⟩
                  case measure => simp [intOf]; omega
              · skip
                cases t3 : (q.goes == p.goes)
                · have hlk : ((q.kind == 1) && Ac.says q.pt p.pt) = false := by simp [Ac.says, PV.pt, t0, t1, t2, t3]
                  go_upto_region 11 with fail
                  go_quiet (fail)
                  go_wp2_with (at_builtin; refine wpList_append_lies _ rfl (.tmp 86) (.tmp 89) 44 rfl (w.heap.size + 3) 162 i1 (.agg #[.int .i64 0, .int .i64 0, .slice none 0 0, .int .i64 0, .int .i64 0, .bool false, .string ⟨#[]⟩]) 7 80 Tryz.underlying44 hi1 hy0 hy1 hy2 rfl (by decide) _ (jj + 1) (pvCells (out0 ++ [q])) rfl ?c1 ⟨w6.heap.size, 0, none⟩ 1 1 (pvC p) rfl rfl ?c2 ?c3 (by decide) ?c4 ?c5 ?c6 _ rfl ?c7)
                  case c1 => exact World.ownsRow.alloc (w := w6.drewN nq) HO6.out _
                  case c2 => exact World.news_of_block (cs := (pvC p).toArray) (heap_alloc_new (w6.drewN nq) _)
                  case c3 => exact fun u hu => pvCells_oneCell [p] u (by rw [pvCells_one]; exact hu)
                  case c4 => unfold maxLen; omega
                  case c5 => omega
                  case c6 => first | omega | (simp; omega)
                  case c7 =>
                    intro g7 cap7 w7 hown hgrow hat hlt7
                    obtain ⟨hT7, hk7⟩ := HT6.out.append HOL6.out HP6.out HPM.out ((drewN_blw w6 nq).trans ((al_blw (w6.drewN nq) _).mono (Nat.le_refl _))) hown hgrow (by rcases hat with h | h; exact .inl h; exact .inr (h.trans (World.size_alloc ..).symm))
                    have hb7 := hk7.blk HT6.out.tb (fun hx => by have := ownBlk_ge HT6.out.tide.own _ (ob_mem hx); omega)
                    have HT7 : Hid (Tdy w (.slice (some ⟨g7, 0, none⟩) ((jj + 1) + 1) cap7) (.slice none 0 0) ((out0 ++ [q]) ++ [p]) [] 0 (w7.setCell ⟨w.heap.size, 0, none⟩ (.slice (some ⟨g7, 0, none⟩) ((jj + 1) + 1) cap7))) := hT7
                    have t7 := hb7.cell 0
                    have f7 := hb7.frozen 0
                    have HPT7 : Hid (((out0 ++ [q]) ++ [p]).map PV.pt = Ac.addK (so ++ Ac.flushP sp sc) (Ac.chOf p.pt)) := by
                      show _ = _
                      rw [← HPT6.out]
                      rw [List.map_append, List.map_append]
                      show out0.map PV.pt ++ [q.pt] ++ [p.pt] = Ac.addK (out0.map PV.pt ++ [q.pt]) (Ac.chOf p.pt)
                      rw [Ac.addK_snoc, like_says, hlk, HPP.out]
                      rfl
                    have HBD7 : Hid (Bnd ((out0 ++ [q]) ++ [p]) [] 0 (j + 1)) := by
                      refine ⟨fun z hz => ?_, ?_, Nat.zero_le _, Nat.zero_le _⟩
                      · rcases List.mem_append.1 hz with hz | hz
                        · have := HN6.out z hz; omega
                        · rw [List.mem_singleton.1 hz, HPN.out]; omega
                      · rw [List.length_append, HOL6.out]; simp; omega
                    clear hown hgrow hat hlt7 hT7 hk7 hb7
                    simp only [List.getElem?_cons_zero] at t7
                    go_wp2
                    go_roundw
                    case rel => exact ⟨j + 1, by omega, by go_num, _, _, _, by rw [HMS.out]; exact HT7.out, by rw [HMS.out]; exact HPT7.out, by rw [HMS.out]; exact HBD7.out⟩
                    case measure => simp [intOf]; omega
                · skip
                  cases t4 : (q.link.toList == p.link.toList)
                  · have hlk : ((q.kind == 1) && Ac.says q.pt p.pt) = false := by simp [Ac.says, PV.pt, t0, t1, t2, t3, t4]
                    go_upto_region 11 with fail
                    go_quiet (fail)
                    go_wp2_with (at_builtin; refine wpList_append_lies _ rfl (.tmp 86) (.tmp 89) 44 rfl (w.heap.size + 3) 162 i1 (.agg #[.int .i64 0, .int .i64 0, .slice none 0 0, .int .i64 0, .int .i64 0, .bool false, .string ⟨#[]⟩]) 7 80 Tryz.underlying44 hi1 hy0 hy1 hy2 rfl (by decide) _ (jj + 1) (pvCells (out0 ++ [q])) rfl ?c1 ⟨w6.heap.size, 0, none⟩ 1 1 (pvC p) rfl rfl ?c2 ?c3 (by decide) ?c4 ?c5 ?c6 _ rfl ?c7)
                    case c1 => exact World.ownsRow.alloc (w := w6.drewN nq) HO6.out _
                    case c2 => exact World.news_of_block (cs := (pvC p).toArray) (heap_alloc_new (w6.drewN nq) _)
                    case c3 => exact fun u hu => pvCells_oneCell [p] u (by rw [pvCells_one]; exact hu)
                    case c4 => unfold maxLen; omega
                    case c5 => omega
                    case c6 => first | omega | (simp; omega)
                    case c7 =>
                      intro g7 cap7 w7 hown hgrow hat hlt7
                      obtain ⟨hT7, hk7⟩ := HT6.out.append HOL6.out HP6.out HPM.out ((drewN_blw w6 nq).trans ((al_blw (w6.drewN nq) _).mono (Nat.le_refl _))) hown hgrow (by rcases hat with h | h; exact .inl h; exact .inr (h.trans (World.size_alloc ..).symm))
                      have hb7 := hk7.blk HT6.out.tb (fun hx => by have := ownBlk_ge HT6.out.tide.own _ (ob_mem hx); omega)
                      have HT7 : Hid (Tdy w (.slice (some ⟨g7, 0, none⟩) ((jj + 1) + 1) cap7) (.slice none 0 0) ((out0 ++ [q]) ++ [p]) [] 0 (w7.setCell ⟨w.heap.size, 0, none⟩ (.slice (some ⟨g7, 0, none⟩) ((jj + 1) + 1) cap7))) := hT7
                      have t7 := hb7.cell 0
                      have f7 := hb7.frozen 0
                      have HPT7 : Hid (((out0 ++ [q]) ++ [p]).map PV.pt = Ac.addK (so ++ Ac.flushP sp sc) (Ac.chOf p.pt)) := by
                        show _ = _
                        rw [← HPT6.out]
                        rw [List.map_append, List.map_append]
                        show out0.map PV.pt ++ [q.pt] ++ [p.pt] = Ac.addK (out0.map PV.pt ++ [q.pt]) (Ac.chOf p.pt)
                        rw [Ac.addK_snoc, like_says, hlk, HPP.out]
                        rfl
                      have HBD7 : Hid (Bnd ((out0 ++ [q]) ++ [p]) [] 0 (j + 1)) := by
                        refine ⟨fun z hz => ?_, ?_, Nat.zero_le _, Nat.zero_le _⟩
                        · rcases List.mem_append.1 hz with hz | hz
                          · have := HN6.out z hz; omega
                          · rw [List.mem_singleton.1 hz, HPN.out]; omega
                        · rw [List.length_append, HOL6.out]; simp; omega
                      clear hown hgrow hat hlt7 hT7 hk7 hb7
                      simp only [List.getElem?_cons_zero] at t7
                      go_wp2
                      go_roundw
                      case rel => exact ⟨j + 1, by omega, by go_num, _, _, _, by rw [HMS.out]; exact HT7.out, by rw [HMS.out]; exact HPT7.out, by rw [HMS.out]; exact HBD7.out⟩
                      case measure => simp [intOf]; omega
                  · skip
                    have hlk : ((q.kind == 1) && Ac.says q.pt p.pt) = true := by simp [Ac.says, PV.pt, t0, t1, t2, t3, t4]
                    have hqn := HN6.out q (by simp)
                    have z1 : w6.frozen? ⟨g0, jj * 7 + 1, none⟩ = false := HO6.out.frozenAt (jj * 7 + 1)
                    have HPT7 : Hid ((out0 ++ [{ q with n := q.n + 1 }]).map PV.pt = Ac.addK (so ++ Ac.flushP sp sc) (Ac.chOf p.pt)) := by
                      show _ = _
                      rw [← HPT6.out, List.map_append, List.map_append]
                      show out0.map PV.pt ++ [PV.pt { q with n := q.n + 1 }] = Ac.addK (out0.map PV.pt ++ [q.pt]) (Ac.chOf p.pt)
                      rw [Ac.addK_snoc, like_says, hlk]
                      rfl
                    have HBD7 : Hid (Bnd (out0 ++ [{ q with n := q.n + 1 }]) [] 0 (j + 1)) := by
                      refine ⟨fun z hz => ?_, ?_, Nat.zero_le _, Nat.zero_le _⟩
                      · rcases List.mem_append.1 hz with hz | hz
                        · have := HN6.out z (List.mem_append_left _ hz); omega
                        · rw [List.mem_singleton.1 hz]; simp only; omega
                      · rw [List.length_append, HJJ.out]; simp; omega
                    go_upto_region 11 with fail
                    go_quiet (fail)
                    have HT7 : Hid (Tdy w (.slice (some ⟨g0, 0, none⟩) (jj + 1) tc) (.slice none 0 0) (out0 ++ [{ q with n := q.n + 1 }]) [] 0 ((w6.drewN nq).setCell ⟨g0, jj * 7 + 1, none⟩ (.int .i64 (q.n + 1)))) := HT6.out.more HJJ.out
                    go_wp2
                    go_roundw
                    case rel => exact ⟨j + 1, by omega, by go_num, _, _, _, by rw [HMS.out]; exact HT7.out, by rw [HMS.out]; exact HPT7.out, by rw [HMS.out]; exact HBD7.out⟩
                    case measure => simp [intOf]; omega
      · obtain ⟨kind, x, p⟩ := a
        simp only at hk
        subst hk
        have hms : Ac.aS ⟨so, sp, sc⟩ ⟨3, x, p⟩ = ⟨so, sp, sc + 1⟩ := rfl
        rw [hms] at HMS
        have HFIN : Hid (Tdy w tv pv out sp (sc + 1) ((boxa ⟨3, x, p⟩ wr).setCell ⟨w.heap.size + 2, 0, none⟩ (.int .i64 ((sc + 1 : Nat) : Int)))) := HT5.out.cuts (sc + 1)
        have HBD2 : Hid (Bnd out sp (sc + 1) (j + 1)) := ⟨fun z hz => by have := HBD.out.n z hz; omega, by omega, by omega, by omega⟩
        clear hms
        go_upto_region 8 with fail
        change Code.wp Tryz.prog _ _ _ (boxa ⟨3, x, p⟩ wr)
        generalize boxa ⟨3, x, p⟩ wr = W5 at *
        clear c0 c1 c2 c3 c4 c5 c6 c7 c8 c9 c10
        obtain ⟨d0, d1, d2, d3, d4, d5, d6, d7, d8, d9, d10⟩ := HS5.out
        simp only [Nat.zero_add] at d0 d1 d2 d3 d4 d5 d6 d7 d8 d9 d10
        have k5 : W5.cell? ⟨w.heap.size + 2, 0, none⟩ = some (.int .i64 sc) := HT5.out.cb.cell 0
        have f5 := HT5.out.cb.frozen 0
        rw [Int.natCast_add] at HFIN
        go_wp2
        go_roundw
        case rel => exact ⟨j + 1, by omega, by go_num, _, _, out, by rw [HMS.out]; exact HFIN.out, by rw [HMS.out]; exact HPT.out, by rw [HMS.out]; exact HBD2.out⟩
        case measure => simp [intOf]; omega
    · have hjj : j = n := by omega
      have hft : L.take j = L := List.take_of_length_le (by rw [HN.out]; omega)
      rw [hft] at HT HPT HBD
      generalize Ac.aT L = s at *
      obtain ⟨so, sp, sc⟩ := s
      simp only at HT HPT HBD HTD
      have hb1 := HBD.out.len
      have hb2 := HBD.out.put
      have hb3 := HBD.out.cut
      subst hjj
      clear hft
      go_wp2_with fail
      refine (settleR_any w wr tv pv out sp sc HT.out (by omega) (by omega) (by omega)).mono ?_
      rintro e w6 ⟨rfl, tv6, out6, hT6, hp6, hl6, hk6⟩
      have t9 : w6.cell? ⟨w.heap.size, 0, none⟩ = some tv6 := hT6.tb.cell 0
      obtain ⟨a, c, htv, hrow⟩ := own_row hT6.tide.own
      have HOPS : Hid (Ops w6 a out6.length c out6) := ⟨hrow, hT6.tide.pts⟩
      have HPT6 : Hid (out6.map PV.pt = R) := by show _ = _; rw [hp6, HPT.out, HTD.out]
      have HB : Hid (Below w.heap.size w w6) := hT6.blw
      obtain ⟨rl, hrl⟩ : ∃ rl, out6.length = rl := ⟨_, rfl⟩
      rw [hrl] at htv HOPS
      clear hrow hrl hT6 hp6 hk6 hl6
      subst htv
      go_wp2
      go_ret
      exact ⟨⟨a, _, c, out6, rfl, HOPS.out, HPT6.out⟩, HB.out⟩
end Go.Proofs.YtbhcklkbckacpaaGreatDoor
