/-
  The statement ServerOrder: an operation that is taken on an elder revision is what it was, turned behind all since.
-/
import Derived.Test.YtbhcklkbckacpaaDoorVl0
namespace Go.Proofs.YtbhcklkbckacpaaDoor
open Go.RowKit

set_option maxRecDepth 100000 in
set_option maxHeartbeats 12800000 in
theorem order_any (s : SV) (rev : Int) (x : EV) (w : World) (hV : Srv w s) (hO : Ops w x.ao x.n x.cap x.vs) (hS : Sch w) :
    Calls Tryd.prog 5 #[.agg #[.slice s.fa s.fn s.fc, .slice s.la s.ln s.lc, .slice s.na s.nn s.nc], .int .i64 rev, .agg #[.int .i64 x.who, .int .i64 x.seq, .slice x.ao x.n x.cap]] w fun e w' => e = .returned (.bool true) ∧ Below w.heap.size w w' := by
  have H0 : Hid (Below w.heap.size w (boxe x (boxs s w))) := (boxs_below s w).trans ((boxe_below x _).mono (boxs_below s w).size)
  have HS0 : Hid (Blk (boxe x (boxs s w)) w.heap.size (svC s) 35) := (boxs_blk s w).alloc _
  have HX0 : Hid (Blk (boxe x (boxs s w)) (w.heap.size + 1) (evC x) 37) := by have := boxe_blk x (boxs s w); rw [boxs_size] at this; exact this
  have CT : Hid (Calls Tryd.prog 15 #[.agg #[.slice s.fa s.fn s.fc, .slice s.la s.ln s.lc, .slice s.na s.nn s.nc], .int .i64 rev, .agg #[.int .i64 x.who, .int .i64 x.seq, .slice x.ao x.n x.cap]] (boxe x (boxs s w)) fun e w' => (∃ t, e = .returned (.tuple #[.agg #[.slice t.fa t.fn t.fc, .slice t.la t.ln t.lc, .slice t.na t.nn t.nc], .int .i64 (Sv.takE s.se rev x.en)]) ∧ Srv w' t ∧ t.se = Sv.takS s.se rev x.en) ∧ Below (boxe x (boxs s w)).heap.size (boxe x (boxs s w)) w') := take_any s rev x _ (hV.below H0.out) (hO.below H0.out) (hS.below H0.out)
  have HSC : Hid (∀ w', Below w.heap.size w w' → Sch w') := fun w' hb => hS.below hb
  have HXO : Hid (∀ w', Below w.heap.size w w' → Ops w' x.ao x.n x.cap x.vs) := fun w' hb => hO.below hb
  have HSV : Hid (∀ w', Below w.heap.size w w' → Srv w' s) := fun w' hb => hV.below hb
  clear hV hO hS
  obtain ⟨r, hr⟩ : ∃ r, Sv.takE s.se rev x.en = r := ⟨_, rfl⟩
  rw [hr] at CT
  have HE : Hid (Sv.takE s.se rev x.en = r) := hr
  clear hr
  by_cases hz : r = 0
  · have HE0 : Hid (Sv.takE s.se rev x.en = 0) := HE.out.trans hz
    subst hz
    rcases (Sv.take_0 HE0.out).2.2 with hh | hnw
    · have HH : Hid (Sv.takS s.se rev x.en = s.se) := (Sv.take_has (Sv.take_0 HE0.out).1 (Sv.take_0 HE0.out).2.1 hh).2
      clear hh
      go_enter Tryd.func5, Tryd.ntmps5
      go_upto_region 1 with fail
      change Code.wp Tryd.prog _ _ _ (boxe x (boxs s w))
      generalize (boxe x (boxs s w)) = W0 at *
      have p0 : W0.cell? ⟨w.heap.size, 0, none⟩ = some (.slice s.fa s.fn s.fc) := HS0.out.cell 0
      have p1 : W0.cell? ⟨w.heap.size, 1, none⟩ = some (.slice s.la s.ln s.lc) := HS0.out.cell 1
      have p2 : W0.cell? ⟨w.heap.size, 2, none⟩ = some (.slice s.na s.nn s.nc) := HS0.out.cell 2
      have a0 : W0.cell? ⟨w.heap.size + 1, 0, none⟩ = some (.int .i64 x.who) := HX0.out.cell 0
      have a1 : W0.cell? ⟨w.heap.size + 1, 1, none⟩ = some (.int .i64 x.seq) := HX0.out.cell 1
      have a2 : W0.cell? ⟨w.heap.size + 1, 2, none⟩ = some (.slice x.ao x.n x.cap) := HX0.out.cell 2
      go_wp2_with fail
      refine CT.out.mono ?_
      rintro e w1 ⟨⟨t, rfl, hT, hse⟩, hb⟩
      have HB1 : Hid (Below W0.heap.size W0 (boxs t w1)) := hb.trans ((boxs_below t w1).mono hb.size)
      have HTB : Hid (Blk (boxs t w1) w1.heap.size (svC t) 35) := boxs_blk t w1
      have HTS : Hid (Srv (boxs t w1) t) := hT.below (boxs_below t w1)
      have HSE : Hid (t.se = Sv.takS s.se rev x.en) := hse
      clear hT hse hb p0 p1 p2 a0 a1 a2 CT
      go_upto_region 2 with fail
      change Code.wp Tryd.prog _ _ _ (boxs t w1)
      generalize boxs t w1 = W1 at *
      generalize w1.heap.size = tb at *
      have HW1 : Hid (Below w.heap.size w W1) := H0.out.trans (HB1.out.mono H0.out.size)
      go_wp2_with fail
      refine (served_any W1 (HSC.out _ HW1.out)).mono ?_
      rintro e W ⟨rfl, hb⟩
      have HB2 : Hid (Below W1.heap.size W1 W) := hb
      have HW : Hid (Below w.heap.size w W) := HW1.out.trans (hb.mono HW1.out.size)
      clear hb
      have HBT : Hid (Blk W tb (svC t) 35) := (HB2.out.block _ HTB.out.lt).trans HTB.out
      have HBS : Hid (Blk W w.heap.size (svC s) 35) := by
        have h1 : Blk W1 w.heap.size (svC s) 35 := (HB1.out.block _ HS0.out.lt).trans HS0.out
        exact (HB2.out.block _ h1.lt).trans h1
      have HBX : Hid (Blk W (w.heap.size + 1) (evC x) 37) := by
        have h1 : Blk W1 (w.heap.size + 1) (evC x) 37 := (HB1.out.block _ HX0.out.lt).trans HX0.out
        exact (HB2.out.block _ h1.lt).trans h1
      have HT2 : Hid (Srv W t) := HTS.out.below HB2.out
      have HS2 : Hid (Srv W s) := HSV.out _ HW.out
      have lt_ : t.se.log.length = t.ln := by show (t.log.map EV.en).length = t.ln; rw [List.length_map]; exact HT2.out.log.len
      have ls_ : s.se.log.length = s.ln := by show (s.log.map EV.en).length = s.ln; rw [List.length_map]; exact HS2.out.log.len
      have hq : t.ln = s.ln := by rw [← lt_, HSE.out, HH.out, ls_]
      have n1 : ((t.ln : Int) == (s.ln : Int)) = true := by simp [hq]
      have n2 : (t.ln == s.ln) = true := by simp [hq]
      have n3 : decide (t.ln = s.ln) = true := by simp [hq]
      clear hq lt_ ls_
      have t0 : W.cell? ⟨tb, 0, none⟩ = some (.slice t.fa t.fn t.fc) := HBT.out.cell 0
      have t1 : W.cell? ⟨tb, 1, none⟩ = some (.slice t.la t.ln t.lc) := HBT.out.cell 1
      have t2 : W.cell? ⟨tb, 2, none⟩ = some (.slice t.na t.nn t.nc) := HBT.out.cell 2
      have s0 : W.cell? ⟨w.heap.size, 0, none⟩ = some (.slice s.fa s.fn s.fc) := HBS.out.cell 0
      have s1 : W.cell? ⟨w.heap.size, 1, none⟩ = some (.slice s.la s.ln s.lc) := HBS.out.cell 1
      have s2 : W.cell? ⟨w.heap.size, 2, none⟩ = some (.slice s.na s.nn s.nc) := HBS.out.cell 2
      have x0 : W.cell? ⟨w.heap.size + 1, 0, none⟩ = some (.int .i64 x.who) := HBX.out.cell 0
      have x1 : W.cell? ⟨w.heap.size + 1, 1, none⟩ = some (.int .i64 x.seq) := HBX.out.cell 1
      have x2 : W.cell? ⟨w.heap.size + 1, 2, none⟩ = some (.slice x.ao x.n x.cap) := HBX.out.cell 2
      go_wp2_with fail
      refine (served_any W (HSC.out _ HW.out)).mono ?_
      rintro e w3 ⟨rfl, hb⟩
      have HW3 : Hid (Below w.heap.size w w3) := HW.out.trans (hb.mono HW.out.size)
      clear hb
      go_wp2
      go_ret
      exact ⟨rfl, HW3.out⟩
    · have HNW : Hid (Sv.New s.se rev x.en) := hnw
      clear hnw
      go_enter Tryd.func5, Tryd.ntmps5
      go_upto_region 1 with fail
      change Code.wp Tryd.prog _ _ _ (boxe x (boxs s w))
      generalize (boxe x (boxs s w)) = W0 at *
      have p0 : W0.cell? ⟨w.heap.size, 0, none⟩ = some (.slice s.fa s.fn s.fc) := HS0.out.cell 0
      have p1 : W0.cell? ⟨w.heap.size, 1, none⟩ = some (.slice s.la s.ln s.lc) := HS0.out.cell 1
      have p2 : W0.cell? ⟨w.heap.size, 2, none⟩ = some (.slice s.na s.nn s.nc) := HS0.out.cell 2
      have a0 : W0.cell? ⟨w.heap.size + 1, 0, none⟩ = some (.int .i64 x.who) := HX0.out.cell 0
      have a1 : W0.cell? ⟨w.heap.size + 1, 1, none⟩ = some (.int .i64 x.seq) := HX0.out.cell 1
      have a2 : W0.cell? ⟨w.heap.size + 1, 2, none⟩ = some (.slice x.ao x.n x.cap) := HX0.out.cell 2
      go_wp2_with fail
      refine CT.out.mono ?_
      rintro e w1 ⟨⟨t, rfl, hT, hse⟩, hb⟩
      have HB1 : Hid (Below W0.heap.size W0 (boxs t w1)) := hb.trans ((boxs_below t w1).mono hb.size)
      have HTB : Hid (Blk (boxs t w1) w1.heap.size (svC t) 35) := boxs_blk t w1
      have HTS : Hid (Srv (boxs t w1) t) := hT.below (boxs_below t w1)
      have HSE : Hid (t.se = Sv.takS s.se rev x.en) := hse
      clear hT hse hb p0 p1 p2 a0 a1 a2 CT
      go_upto_region 2 with fail
      change Code.wp Tryd.prog _ _ _ (boxs t w1)
      generalize boxs t w1 = W1 at *
      generalize w1.heap.size = tb at *
      have HW1 : Hid (Below w.heap.size w W1) := H0.out.trans (HB1.out.mono H0.out.size)
      go_wp2_with fail
      refine (served_any W1 (HSC.out _ HW1.out)).mono ?_
      rintro e W ⟨rfl, hb⟩
      have HB2 : Hid (Below W1.heap.size W1 W) := hb
      have HW : Hid (Below w.heap.size w W) := HW1.out.trans (hb.mono HW1.out.size)
      clear hb
      have HBT : Hid (Blk W tb (svC t) 35) := (HB2.out.block _ HTB.out.lt).trans HTB.out
      have HBS : Hid (Blk W w.heap.size (svC s) 35) := by
        have h1 : Blk W1 w.heap.size (svC s) 35 := (HB1.out.block _ HS0.out.lt).trans HS0.out
        exact (HB2.out.block _ h1.lt).trans h1
      have HBX : Hid (Blk W (w.heap.size + 1) (evC x) 37) := by
        have h1 : Blk W1 (w.heap.size + 1) (evC x) 37 := (HB1.out.block _ HX0.out.lt).trans HX0.out
        exact (HB2.out.block _ h1.lt).trans h1
      have HT2 : Hid (Srv W t) := HTS.out.below HB2.out
      have HS2 : Hid (Srv W s) := HSV.out _ HW.out
      have lt_ : t.se.log.length = t.ln := by show (t.log.map EV.en).length = t.ln; rw [List.length_map]; exact HT2.out.log.len
      have ls_ : s.se.log.length = s.ln := by show (s.log.map EV.en).length = s.ln; rw [List.length_map]; exact HS2.out.log.len
      obtain ⟨r, rfl⟩ : ∃ r : Nat, rev = r := ⟨rev.toNat, by have := HNW.out.lo; omega⟩
      have hrl : r ≤ s.ln := by have := HNW.out.hi; omega
      obtain ⟨o1, o2, o3⟩ := Sv.ord_start HE0.out HNW.out
      have htk := Sv.take_new HE0.out HNW.out
      have HTK : Hid (t.se = ⟨s.se.first, s.se.log ++ [⟨x.en.who, x.en.seq, Sv.behO (s.se.log.drop (r : Int).toNat) x.en.o⟩], Ac.done s.se.now (Sv.behO (s.se.log.drop (r : Int).toNat) x.en.o)⟩) := HSE.out.trans htk
      have hlen : t.ln = s.ln + 1 := by rw [← lt_, HTK.out, ← ls_]; exact List.length_append.trans rfl
      have n1 : ((t.ln : Int) == (s.ln : Int)) = false := by simp; omega
      have n2 : (t.ln == s.ln) = false := by simp; omega
      have n3 : decide (t.ln = s.ln) = false := by simp; omega
      have hs60 : s.ln < 60 := by have := HNW.out.few; omega
      have hsr := HS2.out.log.row.room
      have hsg := HS2.out.log.row.big
      have htr := HT2.out.log.row.room
      have htg := HT2.out.log.row.big
      have hsl := slice_entsH s.la s.ln s.lc r hrl hsr
      have hsl2 := slice_ents s.la s.ln s.lc r hrl
      obtain ⟨O, hO⟩ : ∃ O, Sv.behO (s.se.log.drop (r : Int).toNat) x.en.o = O := ⟨_, rfl⟩
      rw [hO] at o3 HTK
      have HTN : Hid (t.now = Ac.done s.se.now O) := congrArg Sv.Se.now HTK.out
      have HLAST : Hid (∃ v, t.log[s.ln]? = some v ∧ v.vs.map PV.pt = O) := by
        have h1 : t.log.map EV.en = s.se.log ++ [⟨x.en.who, x.en.seq, O⟩] := congrArg Sv.Se.log HTK.out
        have h2 : (t.log.map EV.en)[s.ln]? = some ⟨x.en.who, x.en.seq, O⟩ := by rw [h1, List.getElem?_append_right (by omega), ls_, Nat.sub_self]; rfl
        rw [List.getElem?_map] at h2
        cases hh : t.log[s.ln]? with
        | none => rw [hh] at h2; cases h2
        | some v => rw [hh] at h2; exact ⟨v, rfl, congrArg Sv.En.o (Option.some.inj h2)⟩
      obtain ⟨D, hD⟩ : ∃ D, Sv.fldD s.se.first (s.se.log.take (r : Int).toNat) = D := ⟨_, rfl⟩
      rw [hD] at o2 o3
      have CF : Hid (∀ w', Below W.heap.size W w' → Calls Tryd.prog 22 #[.slice s.fa s.fn s.fc, .slice (subE s.la 0 s.lc) r s.lc] w' fun e w'' => (∃ a n' c, e = .returned (.tuple #[.slice a n' c, .int .i64 0]) ∧ Doc w'' a n' c D) ∧ Below w'.heap.size w' w'') := fun w' hb => by
        have hw := HW.out.trans (hb.mono HW.out.size)
        have h := fold_any s.fa s.fn s.fc s.first (subE s.la 0 s.lc) r s.lc (s.log.take r) w' (HS2.out.below hb).first ((HS2.out.log.take r hrl).below hb) (HSC.out _ hw)
        have e1 : (s.log.take r).map EV.en = s.se.log.take (r : Int).toNat := by rw [List.map_take]; rfl
        rw [e1, show Sv.fldE s.first (s.se.log.take (r : Int).toNat) = 0 from o1, show Sv.fldD s.first (s.se.log.take (r : Int).toNat) = D from hD] at h
        exact h
      have HES : Hid (∀ w', Below W.heap.size W w' → Ents w' (subE s.la r s.lc) (s.ln - r) (s.lc - r) (s.log.drop r)) := fun w' hb => (HS2.out.log.drop r hrl).below hb
      have HDR : Hid ((s.log.drop r).map EV.en = s.se.log.drop (r : Int).toNat) := by show _ = _; rw [List.map_drop]; rfl
      have HOX : Hid (∀ w', Below W.heap.size W w' → Ops w' x.ao x.n x.cap x.vs) := fun w' hb => HXO.out _ (HW.out.trans (hb.mono HW.out.size))
      have HSW : Hid (∀ w', Below W.heap.size W w' → Sch w') := fun w' hb => HSC.out _ (HW.out.trans (hb.mono HW.out.size))
      have HTW : Hid (∀ w', Below W.heap.size W w' → Srv w' t) := fun w' hb => HT2.out.below hb
      have HALL : Hid (∀ w', Below W.heap.size W w' → w'.cell? ⟨tb, 0, none⟩ = some (.slice t.fa t.fn t.fc) ∧ w'.cell? ⟨tb, 1, none⟩ = some (.slice t.la t.ln t.lc) ∧ w'.cell? ⟨tb, 2, none⟩ = some (.slice t.na t.nn t.nc) ∧ w'.cell? ⟨w.heap.size, 0, none⟩ = some (.slice s.fa s.fn s.fc) ∧ w'.cell? ⟨w.heap.size, 1, none⟩ = some (.slice s.la s.ln s.lc) ∧ w'.cell? ⟨w.heap.size, 2, none⟩ = some (.slice s.na s.nn s.nc) ∧ w'.cell? ⟨w.heap.size + 1, 0, none⟩ = some (.int .i64 x.who) ∧ w'.cell? ⟨w.heap.size + 1, 1, none⟩ = some (.int .i64 x.seq) ∧ w'.cell? ⟨w.heap.size + 1, 2, none⟩ = some (.slice x.ao x.n x.cap)) := fun w' hb => ⟨cell_below (HBT.out.cell 0) hb, cell_below (HBT.out.cell 1) hb, cell_below (HBT.out.cell 2) hb, cell_below (HBS.out.cell 0) hb, cell_below (HBS.out.cell 1) hb, cell_below (HBS.out.cell 2) hb, cell_below (HBX.out.cell 0) hb, cell_below (HBX.out.cell 1) hb, cell_below (HBX.out.cell 2) hb⟩
      have HO2 : Hid (Ac.fitE D x.en.o = 0 ∨ Ac.fitE D x.en.o = 2) := o2
      have HO3 : Hid (Ac.fitE D x.en.o = 0 → Sv.Ord D (s.se.log.drop (r : Int).toNat) s.se.now O x.en.o (Ac.done D x.en.o)) := o3
      clear o1 o2 o3 htk hO hD HE0 HNW HSE HTK HB1 HB2 HTB HS0 HX0 HTS HS2 HT2 HXO HSV HSC lt_ ls_ HBT HBS HBX H0 HW1
      obtain ⟨t0, t1, t2, s0, s1, s2, x0, x1, x2⟩ := HALL.out W (Below.refl _ _)
      have q1 : (0 : Int) ≤ (r : Int) := by omega
      have q2 : (r : Int) ≤ (s.ln : Int) := by omega
      go_upto_region 4 with fail
      go_region_with (go_at_call 22; refine (CF.out _ ?_).mono ?_; exact (Below.refl _ _).drew; rintro e w5 ⟨⟨da, dn, dc, rfl, hD5⟩, hb5⟩; have HB5 : Hid (Below W.heap.size W w5) := drew_step hb5; have HD5 : Hid (Doc w5 da dn dc D) := hD5; clear hb5 hD5)
      all_goals
        clear t0 t1 t2 s0 s1 s2 x0 x1 x2
        obtain ⟨t0, t1, t2, s0, s1, s2, x0, x1, x2⟩ := HALL.out _ HB5.out
        have CA : Calls Tryd.prog 24 #[.slice da dn dc, .slice x.ao x.n x.cap] w5 fun e w' => (∃ a n c, e = .returned (.tuple #[.slice a n c, .int .i64 (Ac.fitE D x.en.o)]) ∧ Doc w' a n c (Ac.done D x.en.o)) ∧ Below w5.heap.size w5 w' := (apply_any da x.ao dn dc x.n x.cap D x.vs w5 HD5.out (HOX.out _ HB5.out) (HSW.out _ HB5.out)).mono fun e w' ⟨⟨a, c, h1, h2⟩, hb⟩ => ⟨⟨a, _, c, h1, h2⟩, hb⟩
        obtain ⟨E, hE⟩ : ∃ E, Ac.fitE D x.en.o = E := ⟨_, rfl⟩
        rw [hE] at CA
        have HE : Hid (Ac.fitE D x.en.o = E) := hE
        clear hE
        go_wp2_with fail
        refine CA.mono ?_
        rintro e w6 ⟨⟨ca, cn, cc, rfl, hC⟩, hb⟩
        have HB6 : Hid (Below W.heap.size W w6) := HB5.out.trans (hb.mono HB5.out.size)
        have HC6 : Hid (Doc w6 ca cn cc (Ac.done D x.en.o)) := hC
        clear hC hb CA
        clear t0 t1 t2 s0 s1 s2 x0 x1 x2
        obtain ⟨t0, t1, t2, s0, s1, s2, x0, x1, x2⟩ := HALL.out _ HB6.out
        by_cases hz : E = 0
        · have HORD : Hid (Sv.Ord D (s.se.log.drop (r : Int).toNat) s.se.now O x.en.o (Ac.done D x.en.o)) := HO3.out (HE.out.trans hz)
          subst hz
          have HLN : Hid ((s.log.drop r).length = s.ln - r) := (HES.out _ HB6.out).len
          have HX6 : Hid (Ops w6 x.ao x.n x.cap x.vs) := HOX.out _ HB6.out
          have hr3 : s.ln - r ≤ s.lc - r := by omega
          have HORD2 : Hid (Sv.Ord D ((s.log.drop r).map EV.en) s.se.now O (x.vs.map PV.pt) (Ac.done D x.en.o)) := by rw [HDR.out]; exact HORD.out
          clear HORD HDR HO2 HO3 HE
          generalize subE s.la r s.lc = sa at *
          generalize hes : s.log.drop r = es at *
          clear hes
          generalize hmm : s.ln - r = m at *
          have hmn : m ≤ 60 := by omega
          generalize s.lc - r = mc at *
          go_wp2_with fail
          go_loopw [10, 11, 70] (fun cv ov i wr => ∃ (k : Nat) (oa : Option Addr) (on oc : Nat) (vs : List PV) (ca : Option Addr) (cn cc : Nat) (cl dl : List It), k ≤ m ∧ i = .int .i64 k ∧ ov = .slice oa on oc ∧ cv = .slice ca cn cc ∧ Ops wr oa on oc vs ∧ Doc wr ca cn cc cl ∧ Sv.Ord dl ((es.map EV.en).drop k) s.se.now O (vs.map PV.pt) cl ∧ Below W.heap.size W wr) (fun _ _ i _ => m - (intOf i).toNat)
          case atStart => exact ⟨0, x.ao, x.n, x.cap, x.vs, ca, cn, cc, _, D, Nat.zero_le _, rfl, rfl, rfl, HX6.out, HC6.out, HORD2.out, HB6.out⟩
          case round =>
            obtain ⟨k, oa, on, oc, vs, ca, cn, cc, cl, dl, hk, rfl, rfl, rfl, hOP, hDC, hOR, hBR⟩ := hrel
            have HOP : Hid (Ops wr oa on oc vs) := hOP
            have HDC : Hid (Doc wr ca cn cc cl) := hDC
            have HOR : Hid (Sv.Ord dl ((es.map EV.en).drop k) s.se.now O (vs.map PV.pt) cl) := hOR
            have HBR : Hid (Below W.heap.size W wr) := hBR
            clear hOP hDC hOR hBR
            by_cases hlt : k < m
            · have hkl : k < es.length := by rw [HLN.out]; exact hlt
              obtain ⟨b, off, rfl, hGt⟩ := (HES.out _ HBR.out).get (by omega)
              obtain ⟨a0, a1, a2⟩ := hGt k hkl
              have hst := HOR.out
              rw [List.drop_eq_getElem_cons (by rw [List.length_map]; exact hkl), List.getElem_map] at hst
              obtain ⟨st1, st2⟩ := hst.step
              have HST : Hid (Ac.fitE cl (Ac.trnX es[k].en.o (vs.map PV.pt)) = 0 → Sv.Ord (Ac.done dl es[k].en.o) ((es.map EV.en).drop (k + 1)) s.se.now O (Ac.trnY es[k].en.o (vs.map PV.pt)) (Ac.done cl (Ac.trnX es[k].en.o (vs.map PV.pt)))) := st2
              have HBx : Hid (Below W.heap.size W (boxe es[k] wr)) := HBR.out.trans ((boxe_below _ wr).mono HBR.out.size)
              have hOV : Ops (boxe es[k] wr) es[k].ao es[k].n es[k].cap es[k].vs := (HES.out _ HBx.out).ops _ (List.getElem_mem hkl)
              have CT : Hid (Calls Tryd.prog 9 #[.slice es[k].ao es[k].n es[k].cap, .slice oa on oc] (boxe es[k] wr) fun e w' => TurnP (Ac.trnX es[k].en.o (vs.map PV.pt)) (Ac.trnY es[k].en.o (vs.map PV.pt)) 0 e w' ∧ Below (boxe es[k] wr).heap.size (boxe es[k] wr) w') := by
                have h := turn_any es[k].ao oa es[k].n es[k].cap on oc es[k].vs vs (boxe es[k] wr) hOV (HOP.out.below (boxe_below _ wr)) (HSW.out _ HBx.out)
                rw [show Ac.trnE (es[k].vs.map PV.pt) (vs.map PV.pt) = 0 from st1] at h
                exact h
              have HT : Hid (Thr (boxe es[k] wr) wr.heap.size 0 es[k]) := boxe_at es[k] wr
              have HDX : Hid (Doc (boxe es[k] wr) ca cn cc cl) := HDC.out.below (boxe_below _ wr)
              clear hGt hst st1 st2 hOV
              generalize es[k] = v at *
              go_upto_region 14 with fail
              change Code.wp Tryd.prog _ _ _ (boxe v wr)
              generalize boxe v wr = W8 at *
              clear a0 a1 a2
              obtain ⟨a0, a1, a2⟩ := HT.out
              simp only [Nat.zero_add] at a0 a1 a2
              generalize Ac.trnX v.en.o (vs.map PV.pt) = X at *
              generalize Ac.trnY v.en.o (vs.map PV.pt) = Y at *
              go_wp2_with fail
              refine CT.out.mono ?_
              rintro e w9 ⟨⟨xa, xn, xc, xu, ya, yn, yc, yu, rfl, hx, hy, px, py⟩, hb⟩
              have HB9 : Hid (Below W.heap.size W w9) := HBx.out.trans (hb.mono HBx.out.size)
              have CA : Calls Tryd.prog 24 #[.slice ca cn cc, .slice xa xn xc] w9 fun e w' => (∃ a n c, e = .returned (.tuple #[.slice a n c, .int .i64 (Ac.fitE cl X)]) ∧ Doc w' a n c (Ac.done cl X)) ∧ Below w9.heap.size w9 w' := (apply_any ca xa cn cc xn xc cl xu w9 (HDX.out.below hb) hx (HSW.out _ HB9.out)).mono fun e w' ⟨⟨a, c, h1, h2⟩, hb⟩ => by rw [px] at h1 h2; exact ⟨⟨a, _, c, h1, h2⟩, hb⟩
              have HY9 : Hid (Ops w9 ya yn yc yu) := hy
              have HPY : Hid (yu.map PV.pt = Y) := py
              obtain ⟨E, hE⟩ : ∃ E, Ac.fitE cl X = E := ⟨_, rfl⟩
              rw [hE] at CA
              have HE : Hid (Ac.fitE cl X = E) := hE
              clear hb hx hy px py a0 a1 a2 hE
              go_wp2_with fail
              refine CA.mono ?_
              rintro e w10 ⟨⟨na, nn, nc, rfl, hC⟩, hb⟩
              have HB10 : Hid (Below W.heap.size W w10) := HB9.out.trans (hb.mono HB9.out.size)
              have HY10 : Hid (Ops w10 ya yn yc yu) := HY9.out.below hb
              have HC10 : Hid (Doc w10 na nn nc (Ac.done cl X)) := hC
              clear hb hC CA
              by_cases hz : E = 0
              · have HN : Hid (Sv.Ord (Ac.done dl v.en.o) ((es.map EV.en).drop (k + 1)) s.se.now O (yu.map PV.pt) (Ac.done cl X)) := by rw [HPY.out]; exact HST.out (HE.out.trans hz)
                subst hz
                go_wp2
                go_roundw
                case rel => exact ⟨k + 1, ya, yn, yc, yu, na, nn, nc, _, _, by omega, by go_num, rfl, rfl, HY10.out, HC10.out, HN.out, HB10.out⟩
                case measure => simp [intOf]; omega
              · have hne : (E != 0) = true := by simp [hz]
                go_wp2
                go_ret
                exact ⟨rfl, HW.out.trans (HB10.out.mono HW.out.size)⟩
            · obtain rfl : k = m := by omega
              have hnl := HOR.out
              rw [List.drop_eq_nil_of_le (by rw [List.length_map, HLN.out]; exact Nat.le_refl _)] at hnl
              obtain ⟨hv, hc⟩ := hnl.nil
              have hT := HTW.out _ HBR.out
              have CS : Hid (Calls Tryd.prog 23 #[.slice ca cn cc, .slice t.na t.nn t.nc] wr fun e w'' => e = .returned (.bool true) ∧ Below wr.heap.size wr w'') := (same_any _ _ _ _ _ _ _ _ _ HDC.out hT.now).mono fun e w'' ⟨h, m, hm⟩ => ⟨by rw [h, hc, HTN.out, Sv.its_self], by rw [hm]; exact drewN_blw _ m⟩
              obtain ⟨v, hv2, hvp⟩ := HLAST.out
              obtain ⟨hl1, hl2⟩ := List.getElem?_eq_some_iff.1 hv2
              obtain ⟨lb, lo, hla, hGt⟩ := hT.log.get (by omega)
              have hth := hGt s.ln hl1
              rw [hl2] at hth
              have HTH : Hid (∀ w', Below wr.heap.size wr w' → w'.cell? ⟨lb, lo + s.ln * 3 + 2, none⟩ = some (.slice v.ao v.n v.cap)) := fun w' hb => cell_below hth.c2 hb
              have HOV : Hid (∀ w', Below wr.heap.size wr w' → Calls Tryd.prog 25 #[.slice oa on oc, .slice v.ao v.n v.cap] w' fun e w'' => e = .returned (.bool true) ∧ Below w'.heap.size w' w'') := fun w' hb => (sameO_any oa v.ao on oc v.n v.cap vs v.vs w' (HOP.out.below hb) ((hT.log.ops v (by rw [← hl2]; exact List.getElem_mem hl1)).below hb)).mono fun e w'' ⟨h, hb2⟩ => ⟨by rw [h, hv, hvp, Ac.sameO_self], hb2⟩
              clear hnl hv hc hT hv2 hvp hl1 hl2 hGt hth
              clear t0 t1 t2 s0 s1 s2 x0 x1 x2
              obtain ⟨t0, t1, t2, s0, s1, s2, x0, x1, x2⟩ := HALL.out _ HBR.out
              go_wp2_with fail
              refine CS.out.mono ?_
              rintro e w11 ⟨rfl, hb⟩
              have HB11 : Hid (Below wr.heap.size wr w11) := hb
              have HB11w : Hid (Below W.heap.size W w11) := HBR.out.trans (hb.mono HBR.out.size)
              clear hb
              clear t0 t1 t2 s0 s1 s2 x0 x1 x2
              obtain ⟨t0, t1, t2, s0, s1, s2, x0, x1, x2⟩ := HALL.out _ HB11w.out
              rw [hla, hlen] at t1
              have z2 := HTH.out _ HB11.out
              have hi1 : wrap64 (((s.ln + 1 : Nat) : Int) - 1) = (s.ln : Int) := by unfold wrap64; omega
              have hi2 : IntKind.i64.wrap (((s.ln + 1 : Nat) : Int) - 1) = (s.ln : Int) := by rw [show ((s.ln + 1 : Nat) : Int) - 1 = (s.ln : Int) by omega]; exact IntWalk.i64_in _ ⟨by omega, by omega⟩
              have hi3 : ((s.ln + 1 : Nat) : Int) - 1 = (s.ln : Int) := by omega
              go_wp2_with fail
              refine (HOV.out _ HB11.out).mono ?_
              rintro e w12 ⟨rfl, hb⟩
              have HB12 : Hid (Below W.heap.size W w12) := HB11w.out.trans (hb.mono HB11w.out.size)
              clear hb
              go_wp2
              go_ret
              exact ⟨rfl, HW.out.trans (HB12.out.mono HW.out.size)⟩
        · have h2 : E = 2 := by have := HO2.out; rw [HE.out] at this; exact this.resolve_left hz
          subst h2
          go_wp2
          go_ret
          exact ⟨rfl, HW.out.trans (HB6.out.mono HW.out.size)⟩
  · have hne : (r != 0) = true := by simp [hz]
    clear hz
    go_enter Tryd.func5, Tryd.ntmps5
    go_upto_region 1 with fail
    change Code.wp Tryd.prog _ _ _ (boxe x (boxs s w))
    generalize (boxe x (boxs s w)) = W0 at *
    have p0 : W0.cell? ⟨w.heap.size, 0, none⟩ = some (.slice s.fa s.fn s.fc) := HS0.out.cell 0
    have p1 : W0.cell? ⟨w.heap.size, 1, none⟩ = some (.slice s.la s.ln s.lc) := HS0.out.cell 1
    have p2 : W0.cell? ⟨w.heap.size, 2, none⟩ = some (.slice s.na s.nn s.nc) := HS0.out.cell 2
    have a0 : W0.cell? ⟨w.heap.size + 1, 0, none⟩ = some (.int .i64 x.who) := HX0.out.cell 0
    have a1 : W0.cell? ⟨w.heap.size + 1, 1, none⟩ = some (.int .i64 x.seq) := HX0.out.cell 1
    have a2 : W0.cell? ⟨w.heap.size + 1, 2, none⟩ = some (.slice x.ao x.n x.cap) := HX0.out.cell 2
    go_wp2_with fail
    refine CT.out.mono ?_
    rintro e w1 ⟨⟨t, rfl, hT, hse⟩, hb⟩
    have HB1 : Hid (Below W0.heap.size W0 (boxs t w1)) := hb.trans ((boxs_below t w1).mono hb.size)
    have HTB : Hid (Blk (boxs t w1) w1.heap.size (svC t) 35) := boxs_blk t w1
    have HTS : Hid (Srv (boxs t w1) t) := hT.below (boxs_below t w1)
    have HSE : Hid (t.se = Sv.takS s.se rev x.en) := hse
    clear hT hse hb p0 p1 p2 a0 a1 a2 CT
    go_upto_region 2 with fail
    change Code.wp Tryd.prog _ _ _ (boxs t w1)
    generalize boxs t w1 = W1 at *
    generalize w1.heap.size = tb at *
    have HW1 : Hid (Below w.heap.size w W1) := H0.out.trans (HB1.out.mono H0.out.size)
    go_wp2_with fail
    refine (served_any W1 (HSC.out _ HW1.out)).mono ?_
    rintro e W ⟨rfl, hb⟩
    have HB2 : Hid (Below W1.heap.size W1 W) := hb
    have HW : Hid (Below w.heap.size w W) := HW1.out.trans (hb.mono HW1.out.size)
    clear hb
    go_wp2_with fail
    refine (served_any W (HSC.out _ HW.out)).mono ?_
    rintro e w3 ⟨rfl, hb⟩
    have HW3 : Hid (Below w.heap.size w w3) := HW.out.trans (hb.mono HW.out.size)
    clear hb
    go_wp2
    go_ret
    exact ⟨rfl, HW3.out⟩
end Go.Proofs.YtbhcklkbckacpaaDoor
