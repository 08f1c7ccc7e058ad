/-
  Package server: Take, of whatever server and entry; New; the laws' closed fact.
-/
import Derived.Test.YtbhcklkbckacpaaGreatDoorVi
import Derived.Test.YtbhcklkbckacpaaGreatDoorUm
import Derived.Deep.CutRange
namespace Go.Proofs.YtbhcklkbckacpaaGreatDoor
open Go.RowKit
theorem take_any (s : SV) (rev : Int) (x : EV) (w : World) (hV : Srv w s) (hO : Ops w x.ao x.n x.cap x.vs) (hS : Sch w) :
    Calls Tryz.prog 18 #[.agg #[.slice s.fa s.fn s.fc, .slice s.la s.ln s.lc, .slice s.na s.nn s.nc], .int .i64 rev, .agg #[.int .i64 x.who, .int .i64 x.seq, .slice x.ao x.n x.cap]] w fun e w' => (∃ t, e = .returned (.tuple #[svA t, .int .i64 (Sv.takE s.se rev x.en)]) ∧ Srv w' t ∧ t.se = Sv.takS s.se rev x.en) ∧ Below w.heap.size w w' := by
  have hlen : s.se.log.length = s.ln := by show (s.log.map EV.en).length = s.ln; rw [List.length_map]; exact hV.log.len
  have bad : ∀ q, Sv.takE s.se rev x.en = q → ¬ q = 0 → (Calls Tryz.prog 18 #[.agg #[.slice s.fa s.fn s.fc, .slice s.la s.ln s.lc, .slice s.na s.nn s.nc], .int .i64 rev, .agg #[.int .i64 x.who, .int .i64 x.seq, .slice x.ao x.n x.cap]] w fun e w' => (∃ t, e = .returned (.tuple #[svA t, .int .i64 q]) ∧ Srv w' t ∧ t.se = ⟨[], [], []⟩) ∧ Below w.heap.size w w') → Calls Tryz.prog 18 #[.agg #[.slice s.fa s.fn s.fc, .slice s.la s.ln s.lc, .slice s.na s.nn s.nc], .int .i64 rev, .agg #[.int .i64 x.who, .int .i64 x.seq, .slice x.ao x.n x.cap]] w fun e w' => (∃ t, e = .returned (.tuple #[svA t, .int .i64 (Sv.takE s.se rev x.en)]) ∧ Srv w' t ∧ t.se = Sv.takS s.se rev x.en) ∧ Below w.heap.size w w' := fun q h1 h2 h3 => by
    have e : Sv.takS s.se rev x.en = ⟨[], [], []⟩ := by unfold Sv.takS; rw [h1, if_neg h2]
    rw [h1, e]
    exact h3
  by_cases h1 : Sv.srvE s.se = 0
  · by_cases h2 : Sv.entE x.en = 0
    · cases hh : Sv.has s.se x.en.who x.en.seq
      · have hnh : ¬ Sv.has s.se x.en.who x.en.seq = true := by rw [hh]; exact Bool.false_ne_true
        by_cases hr : rev < 0
        · refine bad 6 ?_ (by decide) (take_neg s rev x w hV hO hS h1 h2 hh hr)
          unfold Sv.takE
          rw [if_pos h1, if_pos h2, if_neg hnh, if_pos (Or.inl hr)]
        · by_cases hr2 : (s.ln : Int) < rev
          · refine bad 6 ?_ (by decide) (take_over s rev x w hV hO hS h1 h2 hh hr hr2)
            unfold Sv.takE
            rw [if_pos h1, if_pos h2, if_neg hnh, if_pos (Or.inr (by rw [hlen]; exact hr2))]
          · have hno : ¬ (rev < 0 ∨ (s.se.log.length : Int) < rev) := by rw [hlen]; omega
            by_cases h60 : s.ln = 60
            · refine bad 2 ?_ (by decide) (take_many s rev x w hV hO hS h1 h2 hh hr hr2 h60)
              unfold Sv.takE
              rw [if_pos h1, if_pos h2, if_neg hnh, if_neg hno, if_pos (hlen.trans h60)]
            · have h60' : ¬ s.se.log.length = 60 := by rw [hlen]; exact h60
              by_cases hB : Sv.behE (s.se.log.drop rev.toNat) x.en.o = 0
              · have hT : Sv.takE s.se rev x.en = Ac.fitE s.se.now (Sv.behO (s.se.log.drop rev.toNat) x.en.o) := by
                  unfold Sv.takE
                  rw [if_pos h1, if_pos h2, if_neg hnh, if_neg hno, if_neg h60', if_pos hB]
                by_cases hE : Ac.fitE s.now (Sv.behO (s.se.log.drop rev.toNat) x.en.o) = 0
                · have hT0 : Sv.takE s.se rev x.en = 0 := hT.trans hE
                  have e : Sv.takS s.se rev x.en = ⟨s.first, s.se.log ++ [⟨x.who, x.seq, Sv.behO (s.se.log.drop rev.toNat) x.en.o⟩], Ac.done s.now (Sv.behO (s.se.log.drop rev.toNat) x.en.o)⟩ := by
                    unfold Sv.takS
                    rw [if_pos hT0, if_neg hnh]
                    rfl
                  rw [hT0, e]
                  exact take_ok s rev x w hV hO hS h1 h2 hh hr hr2 h60 hB hE
                · exact bad _ hT hE (take_fit s rev x w hV hO hS h1 h2 hh hr hr2 h60 hB _ rfl hE)
              · refine bad _ ?_ hB (take_beh s rev x w hV hO hS h1 h2 hh hr hr2 h60 _ rfl hB)
                unfold Sv.takE
                rw [if_pos h1, if_pos h2, if_neg hnh, if_neg hno, if_neg h60', if_neg hB]
      · obtain ⟨e1, e2⟩ := Sv.take_has (rev := rev) h1 h2 hh
        rw [e1, e2]
        exact take_hasP s rev x w hV hO hS h1 h2 hh
    · refine bad _ ?_ h2 (take_bad s rev x w hV hO hS _ (if_pos h1) h2)
      unfold Sv.takE
      rw [if_pos h1, if_neg h2]
  · refine bad _ ?_ h1 (take_bad s rev x w hV hO hS _ (if_neg h1) h1)
    unfold Sv.takE
    rw [if_neg h1]

set_option maxRecDepth 100000 in
set_option maxHeartbeats 1600000 in
theorem new_ok (ao : Option Addr) (n cap : Nat) (l : List It) (w : World) (hD : Doc w ao n cap l) (hS : Sch w) (hc : Dc.check l = 0) :
    Calls Tryz.prog 17 #[.slice ao n cap] w fun e w' => (∃ t, e = .returned (.tuple #[svA t, .int .i64 0]) ∧ Srv w' t ∧ t.se = ⟨l, [], l⟩) ∧ Below w.heap.size w w' := by
  have H1 : Hid (Below w.heap.size w (boxs sv0 w)) := boxs_below _ _
  have HR : Hid (Blk (boxs sv0 w) w.heap.size (svC sv0) 42) := boxs_blk _ _
  have CC : Hid (Calls Tryz.prog 74 #[.slice ao n cap] (boxs sv0 w) fun e w' => e = .returned (.int .i64 0) ∧ Below (boxs sv0 w).heap.size (boxs sv0 w) w') := by have := check_any ao n cap l (boxs sv0 w) (hD.below H1.out) (hS.below H1.out); rw [hc] at this; exact this
  have hf := Dc.check_few hc
  rw [hD.len] at hf
  have CP : Hid (∀ w', Below w.heap.size w w' → Calls Tryz.prog 75 #[.agg #[.slice ao n cap, .slice none 0 0, .slice ao n cap]] w' fun e w'' => (∃ t, e = .returned (.agg #[.slice t.fa t.fn t.fc, .slice t.la t.ln t.lc, .slice t.na t.nn t.nc]) ∧ Cpy w'.heap.size w'' t ∧ t.se = ⟨l, [], l⟩ ∧ t.fn = n ∧ t.ln = 0 ∧ t.nn = n) ∧ Below w'.heap.size w' w'') := fun w' hb => copyOf_any ⟨ao, n, cap, l, none, 0, 0, [], ao, n, cap, l⟩ w' ⟨hD.below hb, Ents.nil w', hD.below hb⟩ hf.2 hf.2 (Nat.zero_le _) (fun v hv => absurd hv (by simp))
  clear hD hS hc hf
  go_enter Tryz.func17, Tryz.ntmps17
  go_upto_region 1 with fail
  change Code.wp Tryz.prog _ _ _ (boxs sv0 w)
  generalize boxs sv0 w = W at *
  go_wp2_with fail
  refine CC.out.mono ?_
  rintro e w1 ⟨rfl, hb⟩
  have H2 : Hid (Below W.heap.size W w1) := hb
  have H2w : Hid (Below w.heap.size w w1) := H1.out.trans (hb.mono H1.out.size)
  clear hb
  go_wp2_with fail
  refine (CP.out _ H2w.out).mono ?_
  rintro e w2 ⟨⟨t, rfl, hcp, hse, -, -, -⟩, hb⟩
  have hR1 : Blk w1 w.heap.size (svC sv0) 42 := (H2.out.block _ HR.out.lt).trans HR.out
  have HR2 : Hid (Blk w2 w.heap.size (svC sv0) 42) := (hb.block _ hR1.lt).trans hR1
  have HC : Hid (Cpy w1.heap.size w2 t) := hcp
  have HSE : Hid (t.se = ⟨l, [], l⟩) := hse
  have hlt : w.heap.size < w1.heap.size := hR1.lt
  have H3 : Hid (Below w.heap.size w w2) := H2w.out.trans (hb.mono H2w.out.size)
  clear hcp hse hb hR1
  have r0 : w2.cell? ⟨w.heap.size, 0, none⟩ = some (.slice none 0 0) := HR2.out.cell 0
  have r1 : w2.cell? ⟨w.heap.size, 1, none⟩ = some (.slice none 0 0) := HR2.out.cell 1
  have r2 : w2.cell? ⟨w.heap.size, 2, none⟩ = some (.slice none 0 0) := HR2.out.cell 2
  have g0 := HR2.out.frozen 0
  have g1 := HR2.out.frozen 1
  have g2 := HR2.out.frozen 2
  go_wp2
  change bodyPost Tryz.prog _ _ Exit.ret _ (putS w2 w.heap.size t)
  exact bodyPost_ret (ret_srv2 (t := t) rfl _ rfl rfl (putS_blk HR2.out)) rfl ⟨⟨t, rfl, (HC.out.kept (putS_kept _ _ _) (fun k hk => by simp at hk; omega)).srv, HSE.out⟩, H3.out.trans (putS_below _ _ _)⟩
theorem cell_apartS {w : World} {g : Nat} {x : SV} {T : TypeId} (h : Blk w g (svC x) T) {b o : Nat} {u : Value} (hu : w.cell? ⟨b, o, none⟩ = some u) (hs : ∀ a n c, u ≠ .slice a n c) : b ≠ g := by
  rintro rfl
  rw [h.cell o] at hu
  match o, hu with
  | 0, hu => exact hs _ _ _ (Option.some.inj hu).symm
  | 1, hu => exact hs _ _ _ (Option.some.inj hu).symm
  | 2, hu => exact hs _ _ _ (Option.some.inj hu).symm
  | o + 3, hu => cases hu
theorem Doc.offS {w : World} {a : Option Addr} {n c : Nat} {l : List It} {g : Nat} {x : SV} {T : TypeId} (h : Doc w a n c l) (hB : Blk w g (svC x) T) : ∀ ad : Addr, n ≠ 0 → a = some ad → ad.block ∉ [g] := fun ad hn e hx => by
  obtain ⟨b, off, e2, hA⟩ := h.lies hn
  rw [e] at e2
  cases e2
  exact cell_apartS hB (hA.c 0 (by rw [h.len]; omega)) (fun _ _ _ e => by cases e) (List.mem_singleton.1 hx)
theorem Row.offS {w : World} {a : Option Addr} {n c sz : Nat} {cs : List Value} {g : Nat} {x : SV} {T : TypeId} (h : Row w a n c sz cs) (hB : Blk w g (svC x) T) (hs : n ≠ 0 → ∃ u, cs[0]? = some u ∧ ∀ a n c, u ≠ .slice a n c) : ∀ ad : Addr, n ≠ 0 → a = some ad → ad.block ∉ [g] := fun ad hn e hx => by
  obtain ⟨b, off, e2, hc⟩ := h.lies hn
  obtain ⟨u, hu, hne⟩ := hs hn
  rw [e] at e2
  cases e2
  exact cell_apartS hB (hc 0 u hu) hne (List.mem_singleton.1 hx)
theorem Ops.keptS {w w' : World} {a : Option Addr} {n c : Nat} {vs : List PV} {g : Nat} {x : SV} {T : TypeId} (h : Ops w a n c vs) (hB : Blk w g (svC x) T) (hk : Kept w w' [g]) : Ops w' a n c vs :=
  h.kept hk (h.row.offS hB (fun hn => by
    have hl := h.len
    match vs, hl with
    | [], hl => exact absurd hl.symm hn
    | y :: vs, _ => exact ⟨.int .i64 y.kind, rfl, fun _ _ _ e => by cases e⟩)) (fun v hv => (h.pts v hv).doc.offS hB)
theorem Srv.keptS {w w' : World} {t : SV} {g : Nat} {x : SV} {T : TypeId} (h : Srv w t) (hB : Blk w g (svC x) T) (hk : Kept w w' [g]) : Srv w' t :=
  ⟨h.first.kept hk (h.first.offS hB), ⟨h.log.row.kept (by decide) hk (h.log.row.offS hB (fun hn => by
    have hl := h.log.len
    generalize t.log = es at hl ⊢
    match es, hl with
    | [], hl => exact absurd hl.symm hn
    | y :: es, _ => exact ⟨.int .i64 y.who, rfl, fun _ _ _ e => by cases e⟩)), fun v hv => (h.log.ops v hv).keptS hB hk⟩, h.now.kept hk (h.now.offS hB)⟩
def o7V (g : Nat) (c : UInt8) : List PV := [⟨1, 1, none, 0, 0, [], 0, 0, false, ⟨#[]⟩⟩, ⟨2, 0, some ⟨g, 0, none⟩, 1, 1, [⟨c, 0, ⟨#[]⟩⟩], 0, 0, false, ⟨#[]⟩⟩, ⟨1, 6, none, 0, 0, [], 0, 0, false, ⟨#[]⟩⟩]
def o7P (c : UInt8) : List Ac.Pt := [⟨1, 1, [], 0, 0, false, ⟨#[]⟩⟩, ⟨2, 0, [⟨c, 0, ⟨#[]⟩⟩], 0, 0, false, ⟨#[]⟩⟩, ⟨1, 6, [], 0, 0, false, ⟨#[]⟩⟩]
def o7W (c : UInt8) (w : World) : World := (w.alloc (.cells #[.int .u8 c.toNat, .int .i64 0, .string ⟨#[]⟩] 39)).alloc (.cells #[.int .i64 1, .int .i64 1, .slice none 0 0, .int .i64 0, .int .i64 0, .bool false, .string ⟨#[]⟩, .int .i64 2, .int .i64 0, .slice (some ⟨w.heap.size, 0, none⟩) 1 1, .int .i64 0, .int .i64 0, .bool false, .string ⟨#[]⟩, .int .i64 1, .int .i64 6, .slice none 0 0, .int .i64 0, .int .i64 0, .bool false, .string ⟨#[]⟩] 162)
theorem o7_below (c : UInt8) (w : World) : Below w.heap.size w (o7W c w) := ((Below.refl _ _).alloc (Nat.le_refl _) _).alloc (by simp) _
theorem o7_ops (c : UInt8) (w : World) : Ops (o7W c w) (some ⟨w.heap.size + 1, 0, none⟩) 3 3 (o7V w.heap.size c) := by
  have h1 : Blk (w.alloc (.cells #[.int .u8 c.toNat, .int .i64 0, .string ⟨#[]⟩] 39)) w.heap.size (itCells [⟨c, 0, ⟨#[]⟩⟩]) 39 := Blk.new w _ _
  have hP : Blk (o7W c w) (w.heap.size + 1) (pvCells (o7V w.heap.size c)) 162 := Blk.newAt _ _ _ _ (World.size_alloc ..)
  have hI : Blk (o7W c w) w.heap.size (itCells [⟨c, 0, ⟨#[]⟩⟩]) 39 := h1.alloc _
  have hA : At (o7W c w) w.heap.size 0 [⟨c, 0, ⟨#[]⟩⟩] := at_block hI
  refine ⟨⟨rfl, Nat.le_refl _, by decide, fun _ => ⟨_, 0, rfl, fun j u hu => ?_⟩⟩, fun v hv => ?_⟩
  · rw [Nat.zero_add]
    exact (hP.cell j).trans hu
  · simp only [o7V, List.mem_cons, List.not_mem_nil, or_false] at hv
    rcases hv with rfl | rfl | rfl
    · exact ⟨doc_none _, by decide⟩
    · exact ⟨⟨fun x hx => by rw [List.mem_singleton.1 hx]; exact Nat.zero_le _, rfl, Nat.le_refl _, (by decide : 1 ≤ 9223372036854775807), fun _ => ⟨_, 0, rfl, hA⟩⟩, Nat.zero_le _⟩
    · exact ⟨doc_none _, by decide⟩
set_option maxRecDepth 100000 in
set_option maxHeartbeats 1600000 in
theorem puts5_any (c : UInt8) (w : World) : Calls Tryz.prog 84 #[.int .u8 c.toNat, .int .i64 1, .int .i64 5] w fun e w' => e = .returned (.slice (some ⟨w.heap.size + 1, 0, none⟩) 3 3) ∧ Ops w' (some ⟨w.heap.size + 1, 0, none⟩) 3 3 (o3V w.heap.size c) ∧ Below w.heap.size w w' := by
  have HO : Hid (Ops (o3W c w) (some ⟨w.heap.size + 1, 0, none⟩) 3 3 (o3V w.heap.size c)) := o3_ops c w
  have HB : Hid (Below w.heap.size w (o3W c w)) := o3_below c w
  go_enter Tryz.func84, Tryz.ntmps84
  go_wp2
  go_ret
  exact ⟨rfl, HO.out, HB.out⟩
set_option maxRecDepth 100000 in
set_option maxHeartbeats 1600000 in
theorem puts7_any (c : UInt8) (w : World) : Calls Tryz.prog 84 #[.int .u8 c.toNat, .int .i64 1, .int .i64 7] w fun e w' => e = .returned (.slice (some ⟨w.heap.size + 1, 0, none⟩) 3 3) ∧ Ops w' (some ⟨w.heap.size + 1, 0, none⟩) 3 3 (o7V w.heap.size c) ∧ Below w.heap.size w w' := by
  have HO : Hid (Ops (o7W c w) (some ⟨w.heap.size + 1, 0, none⟩) 3 3 (o7V w.heap.size c)) := o7_ops c w
  have HB : Hid (Below w.heap.size w (o7W c w)) := o7_below c w
  go_enter Tryz.func84, Tryz.ntmps84
  go_wp2
  go_ret
  exact ⟨rfl, HO.out, HB.out⟩
def sv1 : Sv.Se := ⟨smallDoc, [], smallDoc⟩
def en1 : Sv.En := ⟨1, 1, o3P 120⟩
def en2 : Sv.En := ⟨2, 1, o3P 121⟩
def en3 : Sv.En := ⟨2, 2, o7P 122⟩
def sv2 : Sv.Se := Sv.takS sv1 0 en1
def sv3 : Sv.Se := Sv.takS sv2 0 en2
theorem k_1 : Sv.takE sv1 0 en1 = 0 := by decide +kernel
theorem k_2 : Sv.takE sv2 0 en2 = 0 := by decide +kernel
theorem k_3 : Sv.takE sv3 3 en3 = 6 := by decide +kernel
theorem k_4 : sv3.log.length = 2 := by decide +kernel
theorem k_5 : sv3.now.length = 7 := by decide +kernel
theorem k_6 : sv3.now[1]?.map (fun x => x.c) = some 120 := by decide +kernel
theorem k_7 : sv3.now[2]?.map (fun x => x.c) = some 121 := by decide +kernel
theorem k_8 : Sv.has sv3 2 1 = true := by decide +kernel
end Go.Proofs.YtbhcklkbckacpaaGreatDoor
