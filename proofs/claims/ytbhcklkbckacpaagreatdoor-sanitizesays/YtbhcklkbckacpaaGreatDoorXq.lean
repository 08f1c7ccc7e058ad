/-
  export.Page of any list of items.
-/
import Derived.Test.YtbhcklkbckacpaaGreatDoorXp
import Derived.Test.YtbhcklkbckacpaaGreatDoorG5
import Derived.Test.YtbhcklkbckacpaaGreatDoorG12
namespace Go.Proofs.YtbhcklkbckacpaaGreatDoor
open Go.RowKit

theorem errs_all : ∀ {l : List It}, Dc.errs l = 0 → ∀ x ∈ l, Dc.err x = 0
  | [], _, x, hx => by simp at hx
  | y :: t, h, x, hx => by
    rw [Dc.errs] at h
    by_cases hy : Dc.err y = 0
    · rw [if_pos hy] at h
      rcases List.mem_cons.1 hx with rfl | hx
      · exact hy
      · exact errs_all h x hx
    · rw [if_neg hy] at h
      exact absurd h hy
theorem fine_of {x : It} (h : Dc.err x = 0) : Fine x := by
  unfold Dc.err at h
  split at h
  · cases h
  split at h
  · cases h
  rename_i h1 hm
  split at h
  · cases h
  rename_i hl
  have hm' : Dc.marks x = true := by simpa using hm
  have hl' : Dc.link x = true := by simpa using hl
  unfold Dc.marks at hm'
  simp at hm'
  refine ⟨hm'.1, hm'.2, ?_, fun he => ?_⟩
  · unfold Dc.link at hl'
    cases h0 : x.l.toList.isEmpty
    · rw [h0] at hl'
      simp at hl'
      have hmay := hl'.2
      unfold Lk.may at hmay
      simp only [Bool.and_eq_true, decide_eq_true_eq] at hmay
      have := hmay.1.1.2
      rw [len_list] at this
      exact this
    · have : x.l.data.toList = [] := by rw [Lib.toList_data] at h0; simpa using h0
      have h2 := len_list x.l
      rw [this] at h2
      rw [← h2]
      simp
  · unfold Dc.link at hl'
    rw [he] at hl'
    have h0 : x.l.toList.isEmpty = true := by simpa using hl'
    apply ext_list
    rw [B_data]
    rw [Lib.toList_data] at h0
    simpa using h0
structure Docu (l : List It) : Prop where
  fine : ∀ x ∈ l, Fine x
  few : l.length ≤ 80
  some : l ≠ []
  last : ∃ k x, l = k ++ [x] ∧ Dc.ends x = true
theorem docu_of {l : List It} (h : Dc.check l = 0) : Docu l := by
  have h80 := Dc.check_ok h
  by_cases h0 : Dc.errs l = 0
  · by_cases hn : l.length = 0
    · rw [Dc.check_none h0 hn] at h; cases h
    · have hl := Dc.check_last (l := l) (k := l.length - 1) (by omega) h0 (by omega) (by omega)
      rw [h] at hl
      have he : Dc.ends (l[l.length - 1]'(by omega)) = true := by
        cases hc : Dc.ends (l[l.length - 1]'(by omega))
        · rw [hc] at hl; cases hl
        · rfl
      have hne : l ≠ [] := by intro e; rw [e] at hn; exact hn rfl
      refine ⟨fun x hx => fine_of (errs_all h0 x hx), h80, hne, l.dropLast, l.getLast hne, (List.dropLast_concat_getLast hne).symm, ?_⟩
      rw [List.getLast_eq_getElem]
      exact he
  · rw [Dc.check_errs (by omega) h0] at h
    exact absurd h h0

structure Tabs (w : World) : Prop where
  sch : Sch w
  pairs : Pairs w
  blocks : Blocks w
  marks : Marks w
theorem Tabs.below {w w' : World} (h : Tabs w) (hb : Below w.heap.size w w') : Tabs w' :=
  ⟨h.sch.below hb, h.pairs.under hb, by obtain ⟨t, fr, hg⟩ := h.blocks; exact ⟨t, fr, (hb.block 2 (Array.getElem?_eq_some_iff.1 hg).1).trans hg⟩, h.marks.below hb⟩
theorem Tabs.big {w : World} (h : Tabs w) : 3 < w.heap.size := by
  obtain ⟨t, fr, hg⟩ := h.marks
  exact (Array.getElem?_eq_some_iff.1 hg).1

theorem At.drop {w : World} {b off : Nat} {l : List It} (h : At w b off l) (q : Nat) : At w b (off + q * 3) (l.drop q) := by
  have e : ∀ i, off + q * 3 + i * 3 = off + (q + i) * 3 := fun i => by rw [Nat.add_mul]; omega
  refine ⟨fun i hi => ?_, fun i hi => ?_, fun i hi => ?_⟩
  all_goals
    have h2 : q + i < l.length := by simp at hi; omega
    rw [List.getElem_drop, e]
  · exact h.c _ h2
  · exact h.m _ h2
  · exact h.l _ h2
theorem Doc.part {w : World} {b off n cap : Nat} {l : List It} (hD : Doc w (some ⟨b, off, none⟩) n cap l) (hA : At w b off l) (q q' : Nat) (h1 : q ≤ q') (h2 : q' ≤ n) :
    Doc w (some ⟨b, off + q * 3, none⟩) (q' - q) (cap - q) ((l.drop q).take (q' - q)) ∧ At w b (off + q * 3) ((l.drop q).take (q' - q)) := by
  have hA2 := (hA.drop q).take (q' - q)
  have hl := hD.len
  have hr := hD.room
  have hb := hD.big
  refine ⟨⟨fun x hx => hD.fit x (List.mem_of_mem_drop (List.mem_of_mem_take hx)), by simp; omega, by omega, by omega, fun _ => ⟨_, _, rfl, hA2⟩⟩, hA2⟩
theorem end_bytes (S : Pg.St) (m : Int) : Pg.bytes (Pg.endB S m).page = Pg.bytes S.page ++ Pg.bytes (Pg.lists S.list (m == 2)) ++ tagL (Pg.name (Pg.kind m)) (Pg.bytes S.ins) := by
  show Pg.bytes (S.page ++ Pg.lists S.list (m == 2) ++ .op (Pg.kind m) :: (S.ins ++ [.cl (Pg.kind m)])) = _
  rw [Pg.bytes_append, Pg.bytes_append, Pg.bytes_cons, Pg.bytes_append, Pg.bytes_cons, Pg.bytes_nil]
  simp [tagL, Pg.enc]
structure Stand (l : List It) (ps : List Nat) (w1 w : World) (k q : Nat) : Prop where
  le : q ≤ l.length
  place : q = l.length ∨ Dc.runB l q = true
  left : ps.drop k = Pg.from_ l l.length q
  blk : Blk w w1.heap.size (wcells (B (Pg.bytes (Pg.flush (Pg.run (l.take q))).page)) (B (Pg.bytes (Pg.flush (Pg.run (l.take q))).ins)) (Pg.flush (Pg.run (l.take q))).list) 178
  below : Below w1.heap.size w1 w
theorem Stand.lt {l : List It} {ps : List Nat} {w1 w : World} {k q : Nat} (h : Stand l ps w1 w k q) (hk : k < ps.length) : q < l.length := by
  by_cases hq : q < l.length
  · exact hq
  · have e : q = l.length := by have := h.le; omega
    have hl := h.left
    rw [e, Pg.from_end] at hl
    have := congrArg List.length hl
    simp at this
    omega
theorem Stand.head {l : List It} {ps : List Nat} {w1 w : World} {k q : Nat} (h : Stand l ps w1 w k q) (hk : k < ps.length) : ps[k]? = some q ∧ ps.drop (k + 1) = Pg.from_ l l.length (q + 1) := by
  have hq := h.lt hk
  have hb : Dc.runB l q = true := by rcases h.place with e | e; omega; exact e
  have hl := h.left
  rw [Pg.from_head l _ q hq hb] at hl
  refine ⟨?_, ?_⟩
  · have := congrArg (fun z => z[0]?) hl
    simpa using this
  · have := congrArg (List.drop 1) hl
    simpa using this
theorem Stand.end_ {l : List It} {ps : List Nat} {w1 w : World} {k q : Nat} (h : Stand l ps w1 w k q) (hk : ps.length ≤ k) : q = l.length := by
  rcases h.place with e | e
  · exact e
  · by_cases hq : q < l.length
    · have hl := h.left
      rw [Pg.from_head l _ q hq e, List.drop_eq_nil_of_le hk] at hl
      cases hl
    · have := h.le; omega
theorem Stand.stop {l : List It} {ps : List Nat} {w1 w w2 : World} {k q : Nat} (h : Stand l ps w1 w k q) (hk : k < ps.length) (hq : q < l.length) (he : Dc.ends l[q] = true)
    (hB : Blk w2 w1.heap.size (wcells (B (Pg.bytes (Pg.flush (Pg.run (l.take q))).page ++ Pg.bytes (Pg.lists (Pg.flush (Pg.run (l.take q))).list (l[q].m == 2)) ++ tagL (Pg.name (Pg.kind l[q].m)) (Pg.bytes (Pg.flush (Pg.run (l.take q))).ins))) (B []) (l[q].m == 2)) 178) (hb : Below w1.heap.size w1 w2) : Stand l ps w1 w2 (k + 1) (q + 1) := by
  refine ⟨by omega, ?_, (h.head hk).2, ?_, hb⟩
  · by_cases h1 : q + 1 = l.length
    · exact .inl h1
    · right
      rw [Dc.runB_succ (by omega)]
      unfold Dc.turns
      rw [he]
      simp
  · rw [Pg.end_at l q hq he, end_bytes]
    exact hB
theorem last_at {l : List It} (hU : Docu l) (j : Nat) (hj : j < l.length) (e : j + 1 = l.length) : Dc.ends l[j] = true := by
  obtain ⟨k0, x0, rfl, he⟩ := hU.last
  have : j = k0.length := by simp at e; omega
  subst this
  simpa using he
theorem Stand.on {l : List It} {ps : List Nat} {w1 w : World} {k q : Nat} (h : Stand l ps w1 w k q) (hU : Docu l) (hk : k < ps.length) (hq : q < l.length) (he : Dc.ends l[q] = false) :
    ∃ q', q < q' ∧ q' < l.length ∧ k + 1 < ps.length ∧ ps[k + 1]? = some q' ∧ ∀ w2, Blk w2 w1.heap.size (wcells (B (Pg.bytes (Pg.flush (Pg.run (l.take q))).page)) (B (Pg.bytes (Pg.flush (Pg.run (l.take q))).ins ++ Pg.bytes (Pg.seg l[q] (((l.drop q).take (q' - q)).map It.c)))) (Pg.flush (Pg.run (l.take q))).list) 178 → Below w1.heap.size w1 w2 → Stand l ps w1 w2 (k + 1) q' := by
  obtain ⟨q', h1, h2, h3, h4, h5⟩ := Pg.next l l.length _ (q + 1) rfl (by omega)
  have hb : Dc.runB l q = true := by rcases h.place with e | e; omega; exact e
  have hlt : q' < l.length := by
    rcases Nat.lt_or_ge q' l.length with hl | hl
    · exact hl
    · exfalso
      have hq1 : ¬ q + 1 = l.length := fun e => by rw [last_at hU q hq e] at he; cases he
      obtain ⟨i, hi⟩ : ∃ i, l.length = i + 1 + 1 := ⟨l.length - 2, by omega⟩
      have hr := h4 (i + 1) (by omega) (by omega)
      rw [Dc.runB_succ (by omega)] at hr
      have hl2 := last_at hU (i + 1) (by omega) (by omega)
      unfold Dc.turns at hr
      rw [hl2] at hr
      simp at hr
  have hb' : Dc.runB l q' = true := by rcases h3 with e | e; omega; exact e
  have hd : ps.drop (k + 1) = Pg.from_ l l.length q' := (h.head hk).2.trans h5
  have hh := hd
  rw [Pg.from_head l _ q' hlt hb'] at hh
  have hget : ps[k + 1]? = some q' := by
    have := congrArg (fun z => z[0]?) hh
    simpa using this
  refine ⟨q', by omega, hlt, (List.getElem?_eq_some_iff.1 hget).1, hget, fun w2 hB hbl => ⟨by omega, .inr hb', hd, ?_, hbl⟩⟩
  have hra := Pg.run_at l q q' (by omega) (by omega) h4 hb hq he
  rw [hra]
  show Blk w2 w1.heap.size (wcells _ (B (Pg.bytes ((Pg.flush (Pg.run (l.take q))).ins ++ Pg.seg l[q] (((l.drop q).take (q' - q)).map It.c)))) _) 178
  rw [Pg.bytes_append]
  exact hB

namespace Dc
def page (l : List It) : List UInt8 := if check l = 0 then Pg.page l else []
end Dc
theorem places_cell {w : World} {B0 g pc : Nat} {ps : List Nat} (h : w.ownsRow B0 3 1 (.slice (some ⟨g, 0, none⟩) ps.length pc) ps.length (ps.map ci)) {j p : Nat} (hj : ps[j]? = some p) : w.cell? ⟨g, j, none⟩ = some (.int .i64 p) := by
  have := h.cells (g := g) rfl j (ci p) (by simp [hj])
  have e : (⟨g, 0, none⟩ : Addr).add j = ⟨g, 0 + j, none⟩ := by unfold Addr.add; split <;> simp_all
  rw [e, Nat.zero_add] at this
  exact this

set_option maxRecDepth 100000 in
set_option maxHeartbeats 6400000 in
theorem page_ok (ao : Option Addr) (n cap : Nat) (l : List It) (w : World) (hD : Doc w ao n cap l) (hT : Tabs w) (hc : Dc.check l = 0) :
    Calls Tryz.prog 66 #[.slice ao n cap] w fun e w' => e = .returned (.tuple #[.string (B (Pg.page l)), .int .i64 0]) ∧ Below w.heap.size w w' := by
  have HD : Hid (Doc w ao n cap l) := hD
  have HN : Hid (l.length = n) := hD.len
  have hcap := hD.room
  have hbig := hD.big
  have HT : Hid (Tabs w) := hT
  have HU : Hid (Docu l) := docu_of hc
  have h80 : n ≤ 80 := by rw [← hD.len]; exact HU.out.few
  have CR : Hid (Calls Tryz.prog 138 #[.slice ao n cap] w fun e w' => (∃ v, e = .returned (.tuple #[v, .int .i64 0]) ∧ w'.ownsRow w.heap.size 3 1 v (Dc.runsTo l l.length).length ((Dc.runsTo l l.length).map ci)) ∧ Below w.heap.size w w') := by
    have := runs_any ao n cap l w hD hT.sch
    unfold Dc.runs at this
    rw [hc, if_pos rfl] at this
    exact this
  clear hD hT hc
  obtain ⟨RES, hRES⟩ : ∃ R, B (Pg.page l) = R := ⟨_, rfl⟩
  have HRES : Hid (B (Pg.page l) = RES) := hRES
  rw [hRES]
  clear hRES
  obtain ⟨ps, hps⟩ : ∃ ps, Dc.runsTo l l.length = ps := ⟨_, rfl⟩
  have HPS : Hid (ps = Pg.from_ l l.length 0) := hps.symm.trans (Pg.from_runs l l.length)
  have hpl : ps.length ≤ 80 := by rw [← hps]; have := Dc.runsTo_len l l.length; have := HU.out.few; omega
  rw [hps] at CR
  clear hps
  go_enter Tryz.func66, Tryz.ntmps66
  go_wp2_with fail
  refine CR.out.mono ?_
  rintro e w1 ⟨⟨v, rfl, ho⟩, hb⟩
  have hpos : 0 < ps.length := by
    have hne := HU.out.some
    have hl0 : 0 < l.length := by cases l with | nil => exact absurd rfl hne | cons => simp
    rw [HPS.out, Pg.from_head l _ 0 hl0 rfl]
    simp
  obtain ⟨g, pc, rfl, _, hg⟩ := ho.form hpos
  have HO : Hid (w1.ownsRow w.heap.size 3 1 (.slice (some ⟨g, 0, none⟩) ps.length pc) ps.length (ps.map ci)) := ho
  have H1 : Hid (Below w.heap.size w w1) := hb
  have T1 : Hid (Tabs w1) := HT.out.below hb
  have D1 : Hid (Doc w1 ao n cap l) := HD.out.below hb
  clear ho hb
  obtain ⟨m, hm⟩ : ∃ m, ps.length = m := ⟨_, rfl⟩
  have HM : Hid (ps.length = m) := hm
  rw [hm] at hpl hpos ⊢
  clear hm
  go_wp2
  go_loopw [19] (fun i wr => ∃ k q : Nat, k ≤ m ∧ i = .int .i64 k ∧ Stand l ps w1 wr k q) (fun i _ => m - (intOf i).toNat)
  case atStart =>
    refine ⟨0, 0, Nat.zero_le _, rfl, ⟨Nat.zero_le _, .inr rfl, HPS.out, ?_, (Below.refl _ _).alloc (Nat.le_refl _) _⟩⟩
    exact Blk.new w1 _ 178
  case round =>
    obtain ⟨k, q, hk, rfl, hS⟩ := hrel
    have HS : Hid (Stand l ps w1 wr k q) := hS
    clear hS
    obtain ⟨z1, z2, z3, z4⟩ := weighs HU.out.fine HU.out.few q
    by_cases hlt : k < m
    · have hkp : k < ps.length := by rw [HM.out]; exact hlt
      have hq := HS.out.lt hkp
      have hqn : q < n := by rw [← HN.out]; exact hq
      have pk := cell_below (places_cell HO.out (HS.out.head hkp).1) HS.out.below
      obtain ⟨b, off, rfl, A0⟩ := D1.out.lies (by omega)
      have A2 := A0.below HS.out.below
      obtain ⟨hc0, hc1, hc2⟩ := A2.get (List.getElem?_eq_getElem hq)
      have HF : Hid (Fine l[q]) := HU.out.fine _ (List.getElem_mem hq)
      have T2 : Hid (Tabs wr) := T1.out.below HS.out.below
      have hbig2 := T1.out.big
      cases he : Dc.ends l[q]
      · obtain ⟨q', g1, g2, g3, g4, g5⟩ := HS.out.on HU.out hkp hq he
        have pk2 := cell_below (places_cell HO.out g4) HS.out.below
        have hqn' : q' ≤ n := by rw [← HN.out]; omega
        obtain ⟨P1, P2⟩ := (D1.out.below HS.out.below).part A2 q q' (by omega) hqn'
        have hfst : ((l.drop q).take (q' - q))[0]? = some l[q] := by
          rw [List.getElem?_take_of_lt (by omega), List.getElem?_drop, Nat.add_zero]
          exact List.getElem?_eq_getElem hq
        have CRun : Hid (∀ W, Below wr.heap.size wr W → Calls Tryz.prog 140 #[.slice (some ⟨b, off + q * 3, none⟩) (q' - q) (cap - q)] W fun e w' => e = .returned (.string (B (Pg.bytes (Pg.seg l[q] (((l.drop q).take (q' - q)).map It.c))))) ∧ Below W.heap.size W w') := fun W hW =>
          run_any b (off + q * 3) (q' - q) (cap - q) _ l[q] W ⟨P2.below hW, P1.below hW, hfst, by omega, HF.out.short, T2.out.pairs.under hW, T2.out.marks.below hW⟩ HF.out.lo HF.out.hi
        have hsl : (Pg.bytes (Pg.seg l[q] (((l.drop q).take (q' - q)).map It.c))).length ≤ 1000 := by
          have := Pg.seg_len l[q] (((l.drop q).take (q' - q)).map It.c) HF.out.short
          rw [List.length_map, List.length_take] at this
          omega
        have hB := HS.out.blk
        have HG : Hid (∀ w2, Blk w2 w1.heap.size (wcells (B (Pg.bytes (Pg.flush (Pg.run (l.take q))).page)) (B (Pg.bytes (Pg.flush (Pg.run (l.take q))).ins ++ Pg.bytes (Pg.seg l[q] (((l.drop q).take (q' - q)).map It.c)))) (Pg.flush (Pg.run (l.take q))).list) 178 → Below w1.heap.size w1 w2 → Stand l ps w1 w2 (k + 1) q') := g5
        have hch : ((l[q].c.toNat : Int) == 10) = false := he
        clear P1 P2 hfst g5 A2 A0 HF he z1 z2 z3
        generalize Pg.bytes (Pg.seg l[q] (((l.drop q).take (q' - q)).map It.c)) = G at *
        generalize l[q] = x at *
        generalize Pg.flush (Pg.run (l.take q)) = S at *
        have c1 : wr.cell? ⟨w1.heap.size, 1, none⟩ = some (.string (B (Pg.bytes S.ins))) := hB.cell 1
        have y1 := hB.frozen 1
        have HBK : Hid (Blk wr w1.heap.size (wcells (B (Pg.bytes S.page)) (B (Pg.bytes S.ins)) S.list) 178) := hB
        have bl := hB.lt
        have q1 := B_size (Pg.bytes S.ins)
        have q2 := B_size G
        have HBL : Hid (Below w1.heap.size w1 wr) := HS.out.below
        have hw : IntKind.i64.wrap ((k : Int) + 1) = (k : Int) + 1 := by exact IntWalk.i64_in _ ⟨by omega, by omega⟩
        have hkm : k + 1 < m := by rw [← HM.out]; exact g3
        clear hB hq hkp HS
        go_wp2
        go_region_with (go_at_call 140; refine (CRun.out _ ?_).mono ?_; exact (Below.refl _ _).drew; rintro e w3 ⟨rfl, hb3⟩; have HB3 : Hid (Below wr.heap.size wr w3) := (Below.refl _ _).drew.trans hb3; have e1 := cell_below c1 HB3.out; have e2 := (HBK.out.far HB3.out).frozen 1; clear hb3)
        all_goals
          have HS3 : Hid (Stand l ps w1 (w3.setCell ⟨w1.heap.size, 1, none⟩ (.string (B (Pg.bytes S.ins) ++ B G))) (k + 1) q') := HG.out _ (by have := (HBK.out.far HB3.out).set 1 (.string (B (Pg.bytes S.ins) ++ B G)); rw [B_app] at this ⊢; exact this) (HBL.out.trans ((HB3.out.mono HBL.out.size).trans (set_below _ _ _)))
          go_wp2
          go_roundw
          case rel => exact ⟨k + 1, q', by omega, by go_num, HS3.out⟩
          case measure => simp [intOf]; omega
      · obtain ⟨j, hj⟩ := Int.eq_ofNat_of_zero_le HF.out.lo
        have hj4 : j < 4 := by have := HF.out.hi; omega
        have HG : Hid (∀ w2, Blk w2 w1.heap.size (wcells (B (Pg.bytes (Pg.flush (Pg.run (l.take q))).page ++ Pg.bytes (Pg.lists (Pg.flush (Pg.run (l.take q))).list ((j : Int) == 2)) ++ tagL (Pg.name (Pg.kind j)) (Pg.bytes (Pg.flush (Pg.run (l.take q))).ins))) (B []) ((j : Int) == 2)) 178 → Below w1.heap.size w1 w2 → Stand l ps w1 w2 (k + 1) (q + 1)) := fun w2 h1 h2 => HS.out.stop hkp hq he (by rw [hj]; exact h1) h2
        have CE := endb_any w1.heap.size j _ _ _ wr HS.out.blk T2.out.blocks (by omega) hj4 (by show (Pg.bytes (Pg.run (l.take q)).page).length ≤ _; omega) (by omega)
        have HCE : Hid (Calls Tryz.prog 139 #[.pointer (some ⟨w1.heap.size, 0, none⟩), .int .i64 j] wr fun e w' => e = .returned (.tuple #[]) ∧ Stand l ps w1 w' (k + 1) (q + 1)) := CE.mono fun e w' ⟨h1, h2, h3⟩ => ⟨h1, HG.out w' h2 (HS.out.below.trans h3)⟩
        have hch : ((l[q].c.toNat : Int) == 10) = true := he
        rw [hj] at hc1
        clear CE HG hj A0 A2 z1 z2 z3 z4 he HF
        generalize l[q] = x at *
        clear hq hkp
        go_wp2_with fail
        refine HCE.out.mono ?_
        rintro e w2 ⟨rfl, hS2⟩
        have HS2 : Hid (Stand l ps w1 w2 (k + 1) (q + 1)) := hS2
        clear hS2
        go_wp2
        go_roundw
        case rel => exact ⟨k + 1, q + 1, by omega, by go_num, HS2.out⟩
        case measure => simp [intOf]; omega
    · obtain rfl : k = m := by omega
      have hqe := HS.out.end_ (by rw [HM.out]; exact Nat.le_refl _)
      have hB := HS.out.blk
      rw [hqe, List.take_length] at hB
      have hz : (Pg.bytes (Pg.flush (Pg.run l)).page).length ≤ 16480 := by
        rw [hqe, List.take_length] at z1
        exact z1
      have HR2 : Hid (B (Pg.bytes (Pg.flush (Pg.run l)).page ++ Pg.bytes (Pg.lists (Pg.flush (Pg.run l)).list false)) = RES) := by
        show _ = _
        rw [← HRES.out, ← Pg.bytes_append]
        rfl
      have CT : Hid (Calls Tryz.prog 141 #[.pointer (some ⟨w1.heap.size, 0, none⟩), .bool false] wr fun e w' => e = .returned (.tuple #[]) ∧ Blk w' w1.heap.size (wcells RES (B (Pg.bytes (Pg.flush (Pg.run l)).ins)) false) 178 ∧ Below w1.heap.size wr w') := by
        have := turn_any w1.heap.size _ _ _ false wr hB (by omega)
        rw [HR2.out] at this
        exact this
      have HBL : Hid (Below w1.heap.size w1 wr) := HS.out.below
      clear hB z1 z2 z3 z4 HS
      go_wp2_with fail
      refine CT.out.mono ?_
      rintro e w2 ⟨rfl, hB2, hb2⟩
      have c0 : w2.cell? ⟨w1.heap.size, 0, none⟩ = some (.string RES) := hB2.cell 0
      have HE : Hid (Below w.heap.size w w2) := H1.out.trans ((HBL.out.trans hb2).mono H1.out.size)
      clear hB2 hb2
      go_wp2
      go_ret2
      exact ⟨rfl, HE.out⟩

theorem page_any (ao : Option Addr) (n cap : Nat) (l : List It) (w : World) (hD : Doc w ao n cap l) (hT : Tabs w) :
    Calls Tryz.prog 66 #[.slice ao n cap] w fun e w' => e = .returned (.tuple #[.string (B (Dc.page l)), .int .i64 (Dc.check l)]) ∧ Below w.heap.size w w' := by
  by_cases hc : Dc.check l = 0
  · have := page_ok ao n cap l w hD hT hc
    unfold Dc.page
    rw [if_pos hc, hc]
    exact this
  · have CR : Hid (Calls Tryz.prog 138 #[.slice ao n cap] w fun e w' => (∃ v, e = .returned (.tuple #[v, .int .i64 (Dc.check l)]) ∧ w'.ownsRow w.heap.size 3 1 v (Dc.runs l).length ((Dc.runs l).map ci)) ∧ Below w.heap.size w w') := runs_any ao n cap l w hD hT.sch
    have hp : B (Dc.page l) = (⟨#[]⟩ : ByteArray) := by unfold Dc.page; rw [if_neg hc]; rfl
    rw [hp]
    clear hp hD hT
    generalize Dc.check l = c at *
    have hcb : (c != 0) = true := by simpa using hc
    go_enter Tryz.func66, Tryz.ntmps66
    go_wp2_with fail
    refine CR.out.mono ?_
    rintro e w1 ⟨⟨v, rfl, ho⟩, hb⟩
    have HB : Hid (Below w.heap.size w w1) := hb
    clear hb ho
    go_wp2
    go_ret2
    exact ⟨rfl, HB.out⟩
end Go.Proofs.YtbhcklkbckacpaaGreatDoor
