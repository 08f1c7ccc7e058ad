/-
  Package ot: what does the same as two parts, the other one for what the first one leaves.
-/
import Derived.Test.YtaigleblmbblcaaGreatDoorM9
namespace Go.Proofs.YtaigleblmbblcaaGreatDoor
open Go.RowKit
theorem oneV_pvt {w : World} {f : PV} (h : Pvt w f) {p : PV} (hp : Pvt w p) : Pvt w (oneV f p) := ⟨h.doc, by show (if p.goes then p.link else f.link).size ≤ _; split; exact hp.fit; exact h.fit⟩

set_option maxRecDepth 100000 in
set_option maxHeartbeats 3200000 in
theorem aft_kk (pn : Int) (pao : Option Addr) (pm pcap : Nat) (pit : List It) (pst pcl : Int) (pgs : Bool) (plk : ByteArray) (qn : Int) (qao : Option Addr) (qm qcap : Nat) (qit : List It) (qst qcl : Int) (qgs : Bool) (qlk : ByteArray) (w : World)
    (hp : Pvt w ⟨1, pn, pao, pm, pcap, pit, pst, pcl, pgs, plk⟩) (hq : Pvt w ⟨1, qn, qao, qm, qcap, qit, qst, qcl, qgs, qlk⟩) (h1 : Ac.m4 pst) (h2 : Ac.m4 pcl) (h3 : Ac.m4 qst) (h4 : Ac.m4 qcl) :
    Calls Tryz.prog 124 #[.agg #[.int .i64 1, .int .i64 pn, .slice pao pm pcap, .int .i64 pst, .int .i64 pcl, .bool pgs, .string plk, .int .i64 1, .int .i64 qn, .slice qao qm qcap, .int .i64 qst, .int .i64 qcl, .bool qgs, .string qlk]] w fun e w' => (∃ g, e = .returned (.slice (some ⟨g, 0, none⟩) 1 1) ∧ Ops w' (some ⟨g, 0, none⟩) 1 1 [oneV ⟨1, pn, pao, pm, pcap, pit, pst, pcl, pgs, plk⟩ ⟨1, qn, qao, qm, qcap, qit, qst, qcl, qgs, qlk⟩]) ∧ Below w.heap.size w w' := by
  have H1 : Hid (Below w.heap.size w (boxq ⟨1, pn, pao, pm, pcap, pit, pst, pcl, pgs, plk⟩ ⟨1, qn, qao, qm, qcap, qit, qst, qcl, qgs, qlk⟩ w)) := boxq_below _ _ w
  have HB : Hid (Blk (boxq ⟨1, pn, pao, pm, pcap, pit, pst, pcl, pgs, plk⟩ ⟨1, qn, qao, qm, qcap, qit, qst, qcl, qgs, qlk⟩ w) w.heap.size (ppC ⟨1, pn, pao, pm, pcap, pit, pst, pcl, pgs, plk⟩ ⟨1, qn, qao, qm, qcap, qit, qst, qcl, qgs, qlk⟩) 139) := boxq_blk _ _ w
  have CO : Hid (∀ w', Calls Tryz.prog 135 #[.agg #[.int .i64 1, .int .i64 pn, .slice pao pm pcap, .int .i64 pst, .int .i64 pcl, .bool pgs, .string plk], .agg #[.int .i64 1, .int .i64 qn, .slice qao qm qcap, .int .i64 qst, .int .i64 qcl, .bool qgs, .string qlk]] w' fun e w'' => e = .returned (.agg #[.int .i64 (oneV ⟨1, pn, pao, pm, pcap, pit, pst, pcl, pgs, plk⟩ ⟨1, qn, qao, qm, qcap, qit, qst, qcl, qgs, qlk⟩).kind, .int .i64 (oneV ⟨1, pn, pao, pm, pcap, pit, pst, pcl, pgs, plk⟩ ⟨1, qn, qao, qm, qcap, qit, qst, qcl, qgs, qlk⟩).n, .slice (oneV ⟨1, pn, pao, pm, pcap, pit, pst, pcl, pgs, plk⟩ ⟨1, qn, qao, qm, qcap, qit, qst, qcl, qgs, qlk⟩).ao (oneV ⟨1, pn, pao, pm, pcap, pit, pst, pcl, pgs, plk⟩ ⟨1, qn, qao, qm, qcap, qit, qst, qcl, qgs, qlk⟩).m (oneV ⟨1, pn, pao, pm, pcap, pit, pst, pcl, pgs, plk⟩ ⟨1, qn, qao, qm, qcap, qit, qst, qcl, qgs, qlk⟩).cap, .int .i64 (oneV ⟨1, pn, pao, pm, pcap, pit, pst, pcl, pgs, plk⟩ ⟨1, qn, qao, qm, qcap, qit, qst, qcl, qgs, qlk⟩).set, .int .i64 (oneV ⟨1, pn, pao, pm, pcap, pit, pst, pcl, pgs, plk⟩ ⟨1, qn, qao, qm, qcap, qit, qst, qcl, qgs, qlk⟩).clr, .bool (oneV ⟨1, pn, pao, pm, pcap, pit, pst, pcl, pgs, plk⟩ ⟨1, qn, qao, qm, qcap, qit, qst, qcl, qgs, qlk⟩).goes, .string (oneV ⟨1, pn, pao, pm, pcap, pit, pst, pcl, pgs, plk⟩ ⟨1, qn, qao, qm, qcap, qit, qst, qcl, qgs, qlk⟩).link]) ∧ Below w'.heap.size w' w'') := fun w' => one_any ⟨1, pn, pao, pm, pcap, pit, pst, pcl, pgs, plk⟩ ⟨1, qn, qao, qm, qcap, qit, qst, qcl, qgs, qlk⟩ w' h1 h2 h3 h4
  have HO : Hid (Pvt w (oneV ⟨1, pn, pao, pm, pcap, pit, pst, pcl, pgs, plk⟩ ⟨1, qn, qao, qm, qcap, qit, qst, qcl, qgs, qlk⟩)) := oneV_pvt hp hq
  clear hp hq h1 h2 h3 h4
  generalize oneV ⟨1, pn, pao, pm, pcap, pit, pst, pcl, pgs, plk⟩ ⟨1, qn, qao, qm, qcap, qit, qst, qcl, qgs, qlk⟩ = y at *
  have he0 := eql_kinds 1 1 1 1
  have hgk := guardK
  go_enter Tryz.func124, Tryz.ntmps124
  go_upto_region 1 with fail
  change Code.wp Tryz.prog _ _ _ (boxq ⟨1, pn, pao, pm, pcap, pit, pst, pcl, pgs, plk⟩ ⟨1, qn, qao, qm, qcap, qit, qst, qcl, qgs, qlk⟩ w)
  generalize boxq ⟨1, pn, pao, pm, pcap, pit, pst, pcl, pgs, plk⟩ ⟨1, qn, qao, qm, qcap, qit, qst, qcl, qgs, qlk⟩ w = W at *
  have c0 : W.cell? ⟨w.heap.size, 0, none⟩ = some (.int .i64 1) := HB.out.cell 0
  have c1 : W.cell? ⟨w.heap.size, 1, none⟩ = some (.int .i64 pn) := HB.out.cell 1
  have c2 : W.cell? ⟨w.heap.size, 2, none⟩ = some (.slice pao pm pcap) := HB.out.cell 2
  have c3 : W.cell? ⟨w.heap.size, 3, none⟩ = some (.int .i64 pst) := HB.out.cell 3
  have c4 : W.cell? ⟨w.heap.size, 4, none⟩ = some (.int .i64 pcl) := HB.out.cell 4
  have c5 : W.cell? ⟨w.heap.size, 5, none⟩ = some (.bool pgs) := HB.out.cell 5
  have c6 : W.cell? ⟨w.heap.size, 6, none⟩ = some (.string plk) := HB.out.cell 6
  have c7 : W.cell? ⟨w.heap.size, 7, none⟩ = some (.int .i64 1) := HB.out.cell 7
  have c8 : W.cell? ⟨w.heap.size, 8, none⟩ = some (.int .i64 qn) := HB.out.cell 8
  have c9 : W.cell? ⟨w.heap.size, 9, none⟩ = some (.slice qao qm qcap) := HB.out.cell 9
  have c10 : W.cell? ⟨w.heap.size, 10, none⟩ = some (.int .i64 qst) := HB.out.cell 10
  have c11 : W.cell? ⟨w.heap.size, 11, none⟩ = some (.int .i64 qcl) := HB.out.cell 11
  have c12 : W.cell? ⟨w.heap.size, 12, none⟩ = some (.bool qgs) := HB.out.cell 12
  have c13 : W.cell? ⟨w.heap.size, 13, none⟩ = some (.string qlk) := HB.out.cell 13
  go_wp2_with fail
  refine (CO.out _).mono ?_
  rintro e w1 ⟨rfl, hb⟩
  have H2 : Hid (Below w.heap.size w w1) := H1.out.trans (hb.mono H1.out.size)
  clear hb
  go_wp2
  go_ret
  have hbx := H2.out.trans ((boxp_below y w1).mono H2.out.size)
  exact ⟨⟨_, rfl, ops_one (HO.out.below H2.out)⟩, hbx⟩

set_option maxRecDepth 100000 in
set_option maxHeartbeats 3200000 in
theorem aft_kc (pn : Int) (pao : Option Addr) (pm pcap : Nat) (pit : List It) (pst pcl : Int) (pgs : Bool) (plk : ByteArray) (qn : Int) (qao : Option Addr) (qm qcap : Nat) (qit : List It) (qst qcl : Int) (qgs : Bool) (qlk : ByteArray) (w : World)
    (hq : Pvt w ⟨3, qn, qao, qm, qcap, qit, qst, qcl, qgs, qlk⟩) :
    Calls Tryz.prog 124 #[.agg #[.int .i64 1, .int .i64 pn, .slice pao pm pcap, .int .i64 pst, .int .i64 pcl, .bool pgs, .string plk, .int .i64 3, .int .i64 qn, .slice qao qm qcap, .int .i64 qst, .int .i64 qcl, .bool qgs, .string qlk]] w fun e w' => (∃ g, e = .returned (.slice (some ⟨g, 0, none⟩) 1 1) ∧ Ops w' (some ⟨g, 0, none⟩) 1 1 [⟨3, qn, qao, qm, qcap, qit, qst, qcl, qgs, qlk⟩]) ∧ Below w.heap.size w w' := by
  have H1 : Hid (Below w.heap.size w (boxq ⟨1, pn, pao, pm, pcap, pit, pst, pcl, pgs, plk⟩ ⟨3, qn, qao, qm, qcap, qit, qst, qcl, qgs, qlk⟩ w)) := boxq_below _ _ w
  have HB : Hid (Blk (boxq ⟨1, pn, pao, pm, pcap, pit, pst, pcl, pgs, plk⟩ ⟨3, qn, qao, qm, qcap, qit, qst, qcl, qgs, qlk⟩ w) w.heap.size (ppC ⟨1, pn, pao, pm, pcap, pit, pst, pcl, pgs, plk⟩ ⟨3, qn, qao, qm, qcap, qit, qst, qcl, qgs, qlk⟩) 139) := boxq_blk _ _ w
  have he0 := eql_kinds 1 3 1 1
  have he1 := eql_kinds 1 3 1 3
  have hgk := guardK
  go_enter Tryz.func124, Tryz.ntmps124
  go_upto_region 1 with fail
  change Code.wp Tryz.prog _ _ _ (boxq ⟨1, pn, pao, pm, pcap, pit, pst, pcl, pgs, plk⟩ ⟨3, qn, qao, qm, qcap, qit, qst, qcl, qgs, qlk⟩ w)
  generalize boxq ⟨1, pn, pao, pm, pcap, pit, pst, pcl, pgs, plk⟩ ⟨3, qn, qao, qm, qcap, qit, qst, qcl, qgs, qlk⟩ w = W at *
  have c0 : W.cell? ⟨w.heap.size, 0, none⟩ = some (.int .i64 1) := HB.out.cell 0
  have c1 : W.cell? ⟨w.heap.size, 1, none⟩ = some (.int .i64 pn) := HB.out.cell 1
  have c2 : W.cell? ⟨w.heap.size, 2, none⟩ = some (.slice pao pm pcap) := HB.out.cell 2
  have c3 : W.cell? ⟨w.heap.size, 3, none⟩ = some (.int .i64 pst) := HB.out.cell 3
  have c4 : W.cell? ⟨w.heap.size, 4, none⟩ = some (.int .i64 pcl) := HB.out.cell 4
  have c5 : W.cell? ⟨w.heap.size, 5, none⟩ = some (.bool pgs) := HB.out.cell 5
  have c6 : W.cell? ⟨w.heap.size, 6, none⟩ = some (.string plk) := HB.out.cell 6
  have c7 : W.cell? ⟨w.heap.size, 7, none⟩ = some (.int .i64 3) := HB.out.cell 7
  have c8 : W.cell? ⟨w.heap.size, 8, none⟩ = some (.int .i64 qn) := HB.out.cell 8
  have c9 : W.cell? ⟨w.heap.size, 9, none⟩ = some (.slice qao qm qcap) := HB.out.cell 9
  have c10 : W.cell? ⟨w.heap.size, 10, none⟩ = some (.int .i64 qst) := HB.out.cell 10
  have c11 : W.cell? ⟨w.heap.size, 11, none⟩ = some (.int .i64 qcl) := HB.out.cell 11
  have c12 : W.cell? ⟨w.heap.size, 12, none⟩ = some (.bool qgs) := HB.out.cell 12
  have c13 : W.cell? ⟨w.heap.size, 13, none⟩ = some (.string qlk) := HB.out.cell 13
  go_wp2
  go_ret
  exact ⟨⟨_, rfl, ops_one (v := ⟨3, qn, qao, qm, qcap, qit, qst, qcl, qgs, qlk⟩) (hq.below H1.out)⟩, H1.out.trans ((boxp_below ⟨3, qn, qao, qm, qcap, qit, qst, qcl, qgs, qlk⟩ W).mono H1.out.size)⟩

set_option maxRecDepth 100000 in
set_option maxHeartbeats 3200000 in
theorem aft_pk (pn : Int) (pao : Option Addr) (pm pcap : Nat) (pit : List It) (pst pcl : Int) (pgs : Bool) (plk : ByteArray) (qn : Int) (qao : Option Addr) (qm qcap : Nat) (qit : List It) (qst qcl : Int) (qgs : Bool) (qlk : ByteArray) (w : World)
    (hp : Pvt w ⟨2, pn, pao, pm, pcap, pit, pst, pcl, pgs, plk⟩) (hq : qlk.size ≤ 9223372036854775807) (h0 : 0 < pm) (h80 : pm ≤ 80) (hm : Ac.M4 pit) (h3 : Ac.m4 qst) (h4 : Ac.m4 qcl) :
    Calls Tryz.prog 124 #[.agg #[.int .i64 2, .int .i64 pn, .slice pao pm pcap, .int .i64 pst, .int .i64 pcl, .bool pgs, .string plk, .int .i64 1, .int .i64 qn, .slice qao qm qcap, .int .i64 qst, .int .i64 qcl, .bool qgs, .string qlk]] w fun e w' => (∃ g g2 cap2, e = .returned (.slice (some ⟨g2, 0, none⟩) 1 1) ∧ Ops w' (some ⟨g2, 0, none⟩) 1 1 [⟨2, 0, some ⟨g, 0, none⟩, pm, cap2, pit.map fun x => Ac.change x ⟨qst, qcl, qgs, qlk⟩, 0, 0, false, ⟨#[]⟩⟩] ∧ w.heap.size ≤ g) ∧ Below w.heap.size w w' := by
  have H1 : Hid (Below w.heap.size w (boxq ⟨2, pn, pao, pm, pcap, pit, pst, pcl, pgs, plk⟩ ⟨1, qn, qao, qm, qcap, qit, qst, qcl, qgs, qlk⟩ w)) := boxq_below _ _ w
  have HB : Hid (Blk (boxq ⟨2, pn, pao, pm, pcap, pit, pst, pcl, pgs, plk⟩ ⟨1, qn, qao, qm, qcap, qit, qst, qcl, qgs, qlk⟩ w) w.heap.size (ppC ⟨2, pn, pao, pm, pcap, pit, pst, pcl, pgs, plk⟩ ⟨1, qn, qao, qm, qcap, qit, qst, qcl, qgs, qlk⟩) 139) := boxq_blk _ _ w
  obtain ⟨ib, io, hao, hA⟩ := hp.doc.lies (by change pm ≠ 0; omega)
  change pao = some ⟨ib, io, none⟩ at hao
  change At w ib io pit at hA
  have hlen : pit.length = pm := hp.doc.len
  have HFI : Hid (Fit (pit.map fun x => Ac.change x ⟨qst, qcl, qgs, qlk⟩)) := fit_change hp.doc.fit _ hq
  have HLN : Hid ((pit.map fun x => Ac.change x ⟨qst, qcl, qgs, qlk⟩).length = pm) := by show _ = _; rw [List.length_map]; exact hlen
  have CC : Hid (∀ w', Below w.heap.size w w' → Calls Tryz.prog 71 #[.slice (some ⟨ib, io, none⟩) pm pcap, .agg #[.int .i64 1, .int .i64 qn, .slice qao qm qcap, .int .i64 qst, .int .i64 qcl, .bool qgs, .string qlk]] w' fun e w'' => (∃ g cap', e = .returned (.slice (some ⟨g, 0, none⟩) pm cap') ∧ w''.ownsRow w'.heap.size 41 3 (.slice (some ⟨g, 0, none⟩) pm cap') pm (itCells (pit.map fun x => Ac.change x ⟨qst, qcl, qgs, qlk⟩))) ∧ Below w'.heap.size w' w'') := fun w' hb => changed_any ib io pm pcap pit 1 qn qao qm qcap qit qst qcl qgs qlk w' (hA.below hb) hlen h0 h80 hm h3 h4
  clear hp hA hm hlen h3 h4
  subst hao
  generalize (pit.map fun x => Ac.change x ⟨qst, qcl, qgs, qlk⟩) = nit at *
  have he0 := eql_kinds 2 1 1 1
  have he1 := eql_kinds 2 1 1 3
  have he2 := eql_kinds 2 1 2 1
  have hgk := guardK
  go_enter Tryz.func124, Tryz.ntmps124
  go_upto_region 1 with fail
  change Code.wp Tryz.prog _ _ _ (boxq ⟨2, pn, some ⟨ib, io, none⟩, pm, pcap, pit, pst, pcl, pgs, plk⟩ ⟨1, qn, qao, qm, qcap, qit, qst, qcl, qgs, qlk⟩ w)
  generalize boxq ⟨2, pn, some ⟨ib, io, none⟩, pm, pcap, pit, pst, pcl, pgs, plk⟩ ⟨1, qn, qao, qm, qcap, qit, qst, qcl, qgs, qlk⟩ w = W at *
  have c0 : W.cell? ⟨w.heap.size, 0, none⟩ = some (.int .i64 2) := HB.out.cell 0
  have c1 : W.cell? ⟨w.heap.size, 1, none⟩ = some (.int .i64 pn) := HB.out.cell 1
  have c2 : W.cell? ⟨w.heap.size, 2, none⟩ = some (.slice (some ⟨ib, io, none⟩) pm pcap) := HB.out.cell 2
  have c3 : W.cell? ⟨w.heap.size, 3, none⟩ = some (.int .i64 pst) := HB.out.cell 3
  have c4 : W.cell? ⟨w.heap.size, 4, none⟩ = some (.int .i64 pcl) := HB.out.cell 4
  have c5 : W.cell? ⟨w.heap.size, 5, none⟩ = some (.bool pgs) := HB.out.cell 5
  have c6 : W.cell? ⟨w.heap.size, 6, none⟩ = some (.string plk) := HB.out.cell 6
  have c7 : W.cell? ⟨w.heap.size, 7, none⟩ = some (.int .i64 1) := HB.out.cell 7
  have c8 : W.cell? ⟨w.heap.size, 8, none⟩ = some (.int .i64 qn) := HB.out.cell 8
  have c9 : W.cell? ⟨w.heap.size, 9, none⟩ = some (.slice qao qm qcap) := HB.out.cell 9
  have c10 : W.cell? ⟨w.heap.size, 10, none⟩ = some (.int .i64 qst) := HB.out.cell 10
  have c11 : W.cell? ⟨w.heap.size, 11, none⟩ = some (.int .i64 qcl) := HB.out.cell 11
  have c12 : W.cell? ⟨w.heap.size, 12, none⟩ = some (.bool qgs) := HB.out.cell 12
  have c13 : W.cell? ⟨w.heap.size, 13, none⟩ = some (.string qlk) := HB.out.cell 13
  go_wp2_with fail
  refine (CC.out _ H1.out).mono ?_
  rintro e w1 ⟨⟨g, cap2, rfl, hown⟩, hb⟩
  have H2 : Hid (Below w.heap.size w w1) := H1.out.trans (hb.mono H1.out.size)
  have hge := ownBlk_ge hown g rfl
  have HG : Hid (w.heap.size ≤ g) := Nat.le_trans H1.out.size hge
  obtain ⟨a', c', he, hD⟩ := own_doc hown HFI.out HLN.out
  have HD : Hid (Doc w1 (some ⟨g, 0, none⟩) pm cap2 nit) := by
    simp only [Value.slice.injEq] at he
    obtain ⟨h1, -, h3⟩ := he
    rw [h1, h3]
    exact hD
  clear hb hown hge he hD
  go_wp2
  go_ret
  refine ⟨⟨g, _, cap2, rfl, ops_one (v := ⟨2, 0, some ⟨g, 0, none⟩, pm, cap2, nit, 0, 0, false, ⟨#[]⟩⟩) ⟨HD.out, Nat.zero_le _⟩, HG.out⟩, H2.out.trans ((boxp_below ⟨2, 0, some ⟨g, 0, none⟩, pm, cap2, nit, 0, 0, false, ⟨#[]⟩⟩ w1).mono H2.out.size)⟩

set_option maxRecDepth 100000 in
set_option maxHeartbeats 3200000 in
theorem aft_pc (pn : Int) (pao : Option Addr) (pm pcap : Nat) (pit : List It) (pst pcl : Int) (pgs : Bool) (plk : ByteArray) (qn : Int) (qao : Option Addr) (qm qcap : Nat) (qit : List It) (qst qcl : Int) (qgs : Bool) (qlk : ByteArray) (w : World)
     :
    Calls Tryz.prog 124 #[.agg #[.int .i64 2, .int .i64 pn, .slice pao pm pcap, .int .i64 pst, .int .i64 pcl, .bool pgs, .string plk, .int .i64 3, .int .i64 qn, .slice qao qm qcap, .int .i64 qst, .int .i64 qcl, .bool qgs, .string qlk]] w fun e w' => (e = .returned (.slice none 0 0)) ∧ Below w.heap.size w w' := by
  have H1 : Hid (Below w.heap.size w (boxq ⟨2, pn, pao, pm, pcap, pit, pst, pcl, pgs, plk⟩ ⟨3, qn, qao, qm, qcap, qit, qst, qcl, qgs, qlk⟩ w)) := boxq_below _ _ w
  have HB : Hid (Blk (boxq ⟨2, pn, pao, pm, pcap, pit, pst, pcl, pgs, plk⟩ ⟨3, qn, qao, qm, qcap, qit, qst, qcl, qgs, qlk⟩ w) w.heap.size (ppC ⟨2, pn, pao, pm, pcap, pit, pst, pcl, pgs, plk⟩ ⟨3, qn, qao, qm, qcap, qit, qst, qcl, qgs, qlk⟩) 139) := boxq_blk _ _ w
  have he0 := eql_kinds 2 3 1 1
  have he1 := eql_kinds 2 3 1 3
  have he2 := eql_kinds 2 3 2 1
  have hgk := guardK
  go_enter Tryz.func124, Tryz.ntmps124
  go_upto_region 1 with fail
  change Code.wp Tryz.prog _ _ _ (boxq ⟨2, pn, pao, pm, pcap, pit, pst, pcl, pgs, plk⟩ ⟨3, qn, qao, qm, qcap, qit, qst, qcl, qgs, qlk⟩ w)
  generalize boxq ⟨2, pn, pao, pm, pcap, pit, pst, pcl, pgs, plk⟩ ⟨3, qn, qao, qm, qcap, qit, qst, qcl, qgs, qlk⟩ w = W at *
  have c0 : W.cell? ⟨w.heap.size, 0, none⟩ = some (.int .i64 2) := HB.out.cell 0
  have c1 : W.cell? ⟨w.heap.size, 1, none⟩ = some (.int .i64 pn) := HB.out.cell 1
  have c2 : W.cell? ⟨w.heap.size, 2, none⟩ = some (.slice pao pm pcap) := HB.out.cell 2
  have c3 : W.cell? ⟨w.heap.size, 3, none⟩ = some (.int .i64 pst) := HB.out.cell 3
  have c4 : W.cell? ⟨w.heap.size, 4, none⟩ = some (.int .i64 pcl) := HB.out.cell 4
  have c5 : W.cell? ⟨w.heap.size, 5, none⟩ = some (.bool pgs) := HB.out.cell 5
  have c6 : W.cell? ⟨w.heap.size, 6, none⟩ = some (.string plk) := HB.out.cell 6
  have c7 : W.cell? ⟨w.heap.size, 7, none⟩ = some (.int .i64 3) := HB.out.cell 7
  have c8 : W.cell? ⟨w.heap.size, 8, none⟩ = some (.int .i64 qn) := HB.out.cell 8
  have c9 : W.cell? ⟨w.heap.size, 9, none⟩ = some (.slice qao qm qcap) := HB.out.cell 9
  have c10 : W.cell? ⟨w.heap.size, 10, none⟩ = some (.int .i64 qst) := HB.out.cell 10
  have c11 : W.cell? ⟨w.heap.size, 11, none⟩ = some (.int .i64 qcl) := HB.out.cell 11
  have c12 : W.cell? ⟨w.heap.size, 12, none⟩ = some (.bool qgs) := HB.out.cell 12
  have c13 : W.cell? ⟨w.heap.size, 13, none⟩ = some (.string qlk) := HB.out.cell 13
  go_wp2
  go_ret
  exact ⟨rfl, H1.out⟩

/-- Whatever two parts they are, that fit together. -/
theorem aft_any (p q : PV) (w : World) (hp : Pvt w p) (hq : Pvt w q) (kp : p.kind = 1 ∨ p.kind = 2) (kq : q.kind = 1 ∨ q.kind = 3) (ep : Ac.err1 p.pt = 0) (eq : Ac.err1 q.pt = 0) :
    Calls Tryz.prog 124 #[.agg #[.int .i64 p.kind, .int .i64 p.n, .slice p.ao p.m p.cap, .int .i64 p.set, .int .i64 p.clr, .bool p.goes, .string p.link, .int .i64 q.kind, .int .i64 q.n, .slice q.ao q.m q.cap, .int .i64 q.set, .int .i64 q.clr, .bool q.goes, .string q.link]] w fun e w' => (∃ a0 n0 c0 us, e = .returned (.slice a0 n0 c0) ∧ Ops w' a0 n0 c0 us ∧ us.map PV.pt = Ac.oneX p.pt q.pt ∧ us.length ≤ 1 ∧ ∀ u ∈ us, u.m = 0 ∨ High w.heap.size u) ∧ Below w.heap.size w w' := by
  have m0 : ∀ v : PV, Pvt w v → Ac.err1 v.pt = 0 → ¬ v.kind = 2 → v.m = 0 ∧ Ac.m4 v.set ∧ Ac.m4 v.clr := fun v hv he hk => by
    rcases Ac.gd_of he with ⟨_, hm, _, hi, _⟩ | ⟨ps, e, _⟩ | ⟨m, e, _⟩
    · have hl := hv.doc.len
      change v.items = [] at hi
      rw [hi] at hl
      exact ⟨hl.symm, (Ac.marks_of hm).1, (Ac.marks_of hm).2.1⟩
    · exact absurd (congrArg Ac.Pt.kind e) hk
    · have hl := hv.doc.len
      have hi : v.items = [] := congrArg Ac.Pt.items e
      have h1 : v.set = 0 := congrArg Ac.Pt.set e
      have h2 : v.clr = 0 := congrArg Ac.Pt.clr e
      rw [hi] at hl
      rw [h1, h2]
      exact ⟨hl.symm, ⟨by decide, by decide⟩, ⟨by decide, by decide⟩⟩
  have hz : ∀ {k v : Int}, k = v → ∀ u, ¬ v = u → ¬ k = u := fun h u hn e => hn (h ▸ e)
  have mq := m0 q hq eq (by omega)
  have hit : p.kind = 2 → 0 < p.m ∧ p.m ≤ 80 ∧ Ac.M4 p.items := fun k => by
    obtain ⟨l1, l2, l3⟩ := Ac.put_len ep k
    have hl := hp.doc.len
    change 1 ≤ p.items.length at l1
    change p.items.length ≤ 80 at l2
    exact ⟨by omega, by omega, fun x hx => (Ac.err_parts (Ac.errs_all l3 x hx)).2.1⟩
  have mp := m0 p hp ep
  obtain ⟨pk, pn, pao, pm, pcap, pit, pst, pcl, pgs, plk⟩ := p
  obtain ⟨qk, qn, qao, qm, qcap, qit, qst, qcl, qgs, qlk⟩ := q
  simp only at *
  rcases kp with rfl | rfl
  · obtain ⟨hm0, hs1, hs2⟩ := mp (by decide)
    rcases kq with rfl | rfl
    · refine (aft_kk pn pao pm pcap pit pst pcl pgs plk qn qao qm qcap qit qst qcl qgs qlk w hp hq hs1 hs2 mq.2.1 mq.2.2).mono ?_
      rintro e w' ⟨⟨g, he, o⟩, hb⟩
      exact ⟨⟨_, _, _, _, he, o, rfl, by simp, fun u hu => by rw [List.mem_singleton.1 hu]; exact .inl hm0⟩, hb⟩
    · refine (aft_kc pn pao pm pcap pit pst pcl pgs plk qn qao qm qcap qit qst qcl qgs qlk w hq).mono ?_
      rintro e w' ⟨⟨g, he, o⟩, hb⟩
      exact ⟨⟨_, _, _, _, he, o, rfl, by simp, fun u hu => by rw [List.mem_singleton.1 hu]; exact .inl mq.1⟩, hb⟩
  · obtain ⟨h0, h80, hM⟩ := hit rfl
    rcases kq with rfl | rfl
    · refine (aft_pk pn pao pm pcap pit pst pcl pgs plk qn qao qm qcap qit qst qcl qgs qlk w hp hq.fit h0 h80 hM mq.2.1 mq.2.2).mono ?_
      rintro e w' ⟨⟨g, g2, cap2, he, o, hg⟩, hb⟩
      refine ⟨⟨_, _, _, _, he, o, rfl, by simp, fun u hu => by rw [List.mem_singleton.1 hu]; exact .inr (fun a _ ha => by change some _ = some a at ha; cases ha; exact hg)⟩, hb⟩
    · refine (aft_pc pn pao pm pcap pit pst pcl pgs plk qn qao qm qcap qit qst qcl qgs qlk w).mono ?_
      rintro e w' ⟨he, hb⟩
      exact ⟨⟨_, _, _, [], he, ops_zero w' none, rfl, by simp, fun u hu => absurd hu (by simp)⟩, hb⟩
end Go.Proofs.YtaigleblmbblcaaGreatDoor
