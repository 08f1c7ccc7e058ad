/-
  Package server: an operation behind others; what is wrong with what is to be taken.
-/
import Derived.Test.YtbhcklkbckacpaaGreatDoorVe
namespace Go.Proofs.YtbhcklkbckacpaaGreatDoor
open Go.RowKit
theorem OpsFrom.poke {B : Nat} {w : World} {a : Option Addr} {n c : Nat} {vs : List PV} {g : Nat} {a0 : Option Addr} {n0 c0 : Nat} {T : TypeId} (h : OpsFrom B w a n c vs) (hB : Blk w g [.slice a0 n0 c0] T) (v : Value) : OpsFrom B (w.setCell ⟨g, 0, none⟩ v) a n c vs := ⟨h.ops.poke hB v, h.row, h.its⟩

set_option maxRecDepth 100000 in
set_option maxHeartbeats 1600000 in
theorem behind1_any (v : EV) (g : Nat) (a : Option Addr) (n c : Nat) (us : List PV) (w : World) (hB : Blk w g [.slice a n c] 44) (hU : Ops w a n c us) (hO : Ops w v.ao v.n v.cap v.vs) (hS : Sch w) :
    Calls Tryz.prog 152 #[.agg #[.int .i64 v.who, .int .i64 v.seq, .slice v.ao v.n v.cap], .pointer (some ⟨g, 0, none⟩)] w fun e w' => e = .returned (.int .i64 (Ac.trnE v.en.o (us.map PV.pt))) ∧ ∃ w1 a' n' c' us', w' = w1.setCell ⟨g, 0, none⟩ (.slice a' n' c') ∧ Below w.heap.size w w1 ∧ OpsFrom w.heap.size w1 a' n' c' us' ∧ us'.map PV.pt = Ac.trnY v.en.o (us.map PV.pt) := by
  have CA : Hid (Calls Tryz.prog 153 #[.slice v.ao v.n v.cap, .slice a n c] (boxe v w) fun e w' => TurnF (boxe v w).heap.size (Ac.trnX (v.vs.map PV.pt) (us.map PV.pt)) (Ac.trnY (v.vs.map PV.pt) (us.map PV.pt)) (Ac.trnE (v.vs.map PV.pt) (us.map PV.pt)) e w' ∧ Below (boxe v w).heap.size (boxe v w) w') := turnF_any v.ao a v.n v.cap n c v.vs us _ (hO.below (boxe_below v w)) (hU.below (boxe_below v w)) (hS.below (boxe_below v w))
  have H1 : Hid (Below w.heap.size w (boxe v w)) := boxe_below v w
  have HB : Hid (Blk (boxe v w) g [.slice a n c] 44) := hB.alloc _
  have HT : Hid (Thr (boxe v w) w.heap.size 0 v) := boxe_at v w
  clear hB hU hO hS
  change Calls Tryz.prog _ _ _ fun e w' => e = .returned (.int .i64 (Ac.trnE (v.vs.map PV.pt) (us.map PV.pt))) ∧ ∃ w1 a' n' c' us', w' = w1.setCell ⟨g, 0, none⟩ (.slice a' n' c') ∧ Below w.heap.size w w1 ∧ OpsFrom w.heap.size w1 a' n' c' us' ∧ us'.map PV.pt = Ac.trnY (v.vs.map PV.pt) (us.map PV.pt)
  generalize Ac.trnE (v.vs.map PV.pt) (us.map PV.pt) = E at *
  generalize Ac.trnY (v.vs.map PV.pt) (us.map PV.pt) = Y at *
  generalize Ac.trnX (v.vs.map PV.pt) (us.map PV.pt) = X at *
  go_enter Tryz.func152, Tryz.ntmps152
  go_upto_region 1 with fail
  change Code.wp Tryz.prog _ _ _ (boxe v w)
  generalize boxe v w = W at *
  obtain ⟨a0, a1, a2⟩ := HT.out
  simp only [Nat.zero_add] at a0 a1 a2
  have g0 : W.cell? ⟨g, 0, none⟩ = some (.slice a n c) := HB.out.cell 0
  go_wp2_with fail
  refine CA.out.mono ?_
  rintro e w1 ⟨⟨xa, xn, xc, xu, ya, yn, yc, yu, rfl, hx, hy, px, py⟩, hb⟩
  have HY : Hid (OpsFrom w.heap.size w1 ya yn yc yu) := hy.mono H1.out.size
  have HPY : Hid (yu.map PV.pt = Y) := py
  have H2 : Hid (Below w.heap.size w w1) := H1.out.trans (hb.mono H1.out.size)
  have HB1 : Hid (Blk w1 g [.slice a n c] 44) := (hb.block _ HB.out.lt).trans HB.out
  clear hx hy px py hb a0 a1 a2 g0
  have g0 : w1.cell? ⟨g, 0, none⟩ = some (.slice a n c) := HB1.out.cell 0
  have gf := HB1.out.frozen 0
  go_wp2
  go_ret
  exact ⟨rfl, w1, ya, yn, yc, yu, rfl, H2.out, HY.out, HPY.out⟩

theorem eachB_any (B g : Nat) (a : Option Addr) (n c : Nat) (vs : List PV) (la : Option Addr) (ln lc : Nat) (es : List EV) (w : World) (hg : B ≤ g) (hw : B ≤ w.heap.size) (hB : Blk w g [.slice a n c] 44) (hU : OpsFrom B w a n c vs) (hE : Ents w la ln lc es) (hS : Sch w) :
    Calls Tryz.prog 80 #[.slice la ln lc, .func (.func 152) #[] #[.pointer (some ⟨g, 0, none⟩)]] w fun e w' => e = .returned (.int .i64 (Sv.behE (es.map EV.en) (vs.map PV.pt))) ∧ (∃ a' n' c' us, Blk w' g [.slice a' n' c'] 44 ∧ OpsFrom B w' a' n' c' us ∧ us.map PV.pt = Sv.behO (es.map EV.en) (vs.map PV.pt)) ∧ Below B w w' := by
  refine (each_any 152 (.pointer (some ⟨g, 0, none⟩)) la ln lc es
    (fun k wr => Below B w wr ∧ Ents wr la ln lc es ∧ Sch wr ∧ ∃ a' n' c' us, Blk wr g [.slice a' n' c'] 44 ∧ OpsFrom B wr a' n' c' us ∧ Sv.behE ((es.map EV.en).drop k) (us.map PV.pt) = Sv.behE (es.map EV.en) (vs.map PV.pt) ∧ Sv.behO ((es.map EV.en).drop k) (us.map PV.pt) = Sv.behO (es.map EV.en) (vs.map PV.pt))
    (fun E wr => Below B w wr ∧ E = Sv.behE (es.map EV.en) (vs.map PV.pt) ∧ ∃ a' n' c' us, Blk wr g [.slice a' n' c'] 44 ∧ OpsFrom B wr a' n' c' us ∧ us.map PV.pt = Sv.behO (es.map EV.en) (vs.map PV.pt))
    w (.inr rfl) ⟨hE.row.room, hE.row.big, hE.len⟩ (fun k wr h => h.2.1) (fun k wr v h => ?_) ⟨Below.refl _ _, hE, hS, a, n, c, vs, hB, hU, rfl, rfl⟩ (fun k hk wr h => ?_)).mono ?_
  · obtain ⟨h1, h2, h3, a', n', c', us, h4, h5, h6, h7⟩ := h
    exact ⟨h1.trans ((boxe_below v wr).mono (Nat.le_trans hw h1.size)), h2.below (boxe_below v wr), h3.below (boxe_below v wr), a', n', c', us, h4.alloc _, h5.below (boxe_below v wr), h6, h7⟩
  · obtain ⟨h1, h2, h3, a', n', c', us, h4, h5, h6, h7⟩ := h
    refine (behind1_any es[k] g a' n' c' us wr h4 h5.ops (h2.ops _ (List.getElem_mem hk)) h3).mono ?_
    rintro e w' ⟨rfl, w1, a1, n1, c1, us1, rfl, hb, hd, hp⟩
    have hB1 : Blk w1 g [.slice a' n' c'] 44 := (hb.block _ h4.lt).trans h4
    have hBs : B ≤ wr.heap.size := Nat.le_trans hw h1.size
    have hbb : Below B w (w1.setCell ⟨g, 0, none⟩ (.slice a1 n1 c1)) := (h1.trans (hb.mono hBs)).setCell hg _
    have hst : ∀ (x : List Ac.Pt), Sv.behE ((es.map EV.en).drop k) x = (if Ac.trnE es[k].en.o x = 0 then Sv.behE ((es.map EV.en).drop (k + 1)) (Ac.trnY es[k].en.o x) else Ac.trnE es[k].en.o x) ∧ Sv.behO ((es.map EV.en).drop k) x = (if Ac.trnE es[k].en.o x = 0 then Sv.behO ((es.map EV.en).drop (k + 1)) (Ac.trnY es[k].en.o x) else Ac.trnY es[k].en.o x) := fun x => by
      rw [List.drop_eq_getElem_cons (by rw [List.length_map]; exact hk), List.getElem_map]
      exact ⟨rfl, rfl⟩
    obtain ⟨s1, s2⟩ := hst (us.map PV.pt)
    refine ⟨_, rfl, fun hz => ?_, fun hz => ?_⟩
    · rw [if_pos hz] at s1 s2
      exact ⟨hbb, (h2.below hb).poke hB1 _, (h3.below hb).poke hB1 _, a1, n1, c1, us1, hB1.set 0 _, (hd.mono hBs).poke hB1 _, by rw [hp, ← s1]; exact h6, by rw [hp, ← s2]; exact h7⟩
    · rw [if_neg hz] at s1 s2
      exact ⟨hbb, by rw [← s1]; exact h6, a1, n1, c1, us1, hB1.set 0 _, (hd.mono hBs).poke hB1 _, by rw [hp, ← s2]; exact h7⟩
  · rintro e w' ⟨E, rfl, h0, h1⟩
    by_cases hz : E = 0
    · obtain ⟨b1, -, -, a', n', c', us, b4, b5, b6, b7⟩ := h0 hz
      have hn : (es.map EV.en).drop ln = [] := List.drop_eq_nil_of_le (by rw [List.length_map, hE.len]; exact Nat.le_refl _)
      rw [hn] at b6 b7
      exact ⟨by rw [hz, ← b6]; rfl, ⟨a', n', c', us, b4, b5, b7⟩, b1⟩
    · obtain ⟨b1, b2, b3⟩ := h1 hz
      exact ⟨by rw [b2], b3, b1⟩
def boxop (a : Option Addr) (n c : Nat) (w : World) : World := w.alloc (.cells #[.slice a n c] 44)
theorem boxop_below (a : Option Addr) (n c : Nat) (w : World) : Below w.heap.size w (boxop a n c w) := (Below.refl _ _).alloc (Nat.le_refl _) _
theorem boxop_blk (a : Option Addr) (n c : Nat) (w : World) : Blk (boxop a n c w) w.heap.size [.slice a n c] 44 := Blk.new w _ _

set_option maxRecDepth 100000 in
set_option maxHeartbeats 1600000 in
theorem behind_any (la : Option Addr) (ln lc : Nat) (es : List EV) (ao : Option Addr) (n cap : Nat) (vs : List PV) (w : World) (hE : Ents w la ln lc es) (hO : Ops w ao n cap vs) (hS : Sch w) (h0 : 0 < n) (hn : n ≤ 40) (hm : ∀ v ∈ vs, v.m ≤ 80) :
    Calls Tryz.prog 77 #[.slice la ln lc, .slice ao n cap] w fun e w' => (∃ a n' c us, e = .returned (.tuple #[.slice a n' c, .int .i64 (Sv.behE (es.map EV.en) (vs.map PV.pt))]) ∧ OpsFrom w.heap.size w' a n' c us ∧ us.map PV.pt = Sv.behO (es.map EV.en) (vs.map PV.pt)) ∧ Below w.heap.size w w' := by
  have H1 : Hid (Below w.heap.size w (boxop ao n cap w)) := boxop_below _ _ _ _
  have HB : Hid (Blk (boxop ao n cap w) w.heap.size [.slice ao n cap] 44) := boxop_blk _ _ _ _
  have CC : Hid (Calls Tryz.prog 151 #[.slice ao n cap] (boxop ao n cap w) fun e w' => (∃ a c us, e = .returned (.slice a n c) ∧ OpsFrom (boxop ao n cap w).heap.size w' a n c us ∧ us.map PV.pt = vs.map PV.pt) ∧ Below (boxop ao n cap w).heap.size (boxop ao n cap w) w') := copy_any ao n cap vs _ (hO.below H1.out) h0 hn hm
  have CB : Hid (∀ a c us w1, us.map PV.pt = vs.map PV.pt → Below w.heap.size w w1 → Blk w1 w.heap.size [.slice ao n cap] 44 → OpsFrom w.heap.size w1 a n c us → Calls Tryz.prog 80 #[.slice la ln lc, .func (.func 152) #[] #[.pointer (some ⟨w.heap.size, 0, none⟩)]] (w1.setCell ⟨w.heap.size, 0, none⟩ (.slice a n c)) fun e w' => e = .returned (.int .i64 (Sv.behE (es.map EV.en) (vs.map PV.pt))) ∧ (∃ a' n' c' us, Blk w' w.heap.size [.slice a' n' c'] 44 ∧ OpsFrom w.heap.size w' a' n' c' us ∧ us.map PV.pt = Sv.behO (es.map EV.en) (vs.map PV.pt)) ∧ Below w.heap.size (w1.setCell ⟨w.heap.size, 0, none⟩ (.slice a n c)) w') := fun a c us w1 hp hb hB ho => by
    have := eachB_any w.heap.size w.heap.size a n c us la ln lc es (w1.setCell ⟨w.heap.size, 0, none⟩ (.slice a n c)) (Nat.le_refl _) (by rw [World.size_setCell]; exact hb.size) (hB.set 0 _) (ho.poke hB _) ((hE.below hb).poke hB _) ((hS.below hb).poke hB _)
    rw [hp] at this
    exact this
  clear hE hO hS hm h0 hn
  generalize Sv.behE (es.map EV.en) (vs.map PV.pt) = E at *
  generalize Sv.behO (es.map EV.en) (vs.map PV.pt) = D at *
  go_enter Tryz.func77, Tryz.ntmps77
  go_upto_region 1 with fail
  change Code.wp Tryz.prog _ _ _ (boxop ao n cap w)
  generalize boxop ao n cap w = W at *
  have g0 : W.cell? ⟨w.heap.size, 0, none⟩ = some (.slice ao n cap) := HB.out.cell 0
  go_wp2_with fail
  refine CC.out.mono ?_
  rintro e w1 ⟨⟨a, c, us, rfl, ho, hp⟩, hb⟩
  have H2 : Hid (Below w.heap.size w w1) := H1.out.trans (hb.mono H1.out.size)
  have HB1 : Hid (Blk w1 w.heap.size [.slice ao n cap] 44) := (hb.block _ HB.out.lt).trans HB.out
  have CE := CB.out a c us w1 hp H2.out HB1.out (ho.mono H1.out.size)
  clear ho hp hb g0
  have g0 : w1.cell? ⟨w.heap.size, 0, none⟩ = some (.slice ao n cap) := HB1.out.cell 0
  have gf := HB1.out.frozen 0
  have H3 : Hid (Below w.heap.size w (w1.setCell ⟨w.heap.size, 0, none⟩ (.slice a n c))) := H2.out.setCell (Nat.le_refl _) _
  go_upto_region 2 with fail
  change Code.wp Tryz.prog _ _ _ (w1.setCell ⟨w.heap.size, 0, none⟩ (.slice a n c))
  generalize w1.setCell ⟨w.heap.size, 0, none⟩ (.slice a n c) = W2 at *
  clear g0 gf
  go_wp2_with fail
  refine CE.mono ?_
  rintro e w3 ⟨rfl, ⟨a', n', c', us', hB, ho, hp⟩, hb⟩
  have HO : Hid (OpsFrom w.heap.size w3 a' n' c' us') := ho
  have HP : Hid (us'.map PV.pt = D) := hp
  have H4 : Hid (Below w.heap.size w w3) := H3.out.trans hb
  have g0 : w3.cell? ⟨w.heap.size, 0, none⟩ = some (.slice a' n' c') := hB.cell 0
  clear ho hp hb hB CE
  go_wp2
  exact bodyPost_ret (v := .tuple #[.slice a' n' c', .int .i64 E]) (by simp [results, Tryz.results77, go_sem]) rfl ⟨⟨a', n', c', us', rfl, HO.out, HP.out⟩, H4.out⟩

set_option maxRecDepth 100000 in
set_option maxHeartbeats 1600000 in
theorem checkTake_any (s : SV) (x : EV) (w : World) (hV : Srv w s) (hO : Ops w x.ao x.n x.cap x.vs) (hS : Sch w) :
    Calls Tryz.prog 76 #[.agg #[.slice s.fa s.fn s.fc, .slice s.la s.ln s.lc, .slice s.na s.nn s.nc], .agg #[.int .i64 x.who, .int .i64 x.seq, .slice x.ao x.n x.cap]] w fun e w' => e = .returned (.int .i64 (if Sv.srvE s.se = 0 then Sv.entE x.en else Sv.srvE s.se)) ∧ Below w.heap.size w w' := by
  have H1 : Hid (Below w.heap.size w (boxe x (boxs s w))) := (boxs_below s w).trans ((boxe_below x _).mono (boxs_below s w).size)
  have HT : Hid (Thr (boxe x (boxs s w)) (boxs s w).heap.size 0 x) := boxe_at x _
  have HP : Hid (Blk (boxe x (boxs s w)) w.heap.size (svC s) 42) := (boxs_blk s w).alloc _
  have C1 : Hid (Calls Tryz.prog 23 #[.agg #[.slice s.fa s.fn s.fc, .slice s.la s.ln s.lc, .slice s.na s.nn s.nc]] (boxe x (boxs s w)) fun e w' => e = .returned (.int .i64 (Sv.srvE s.se)) ∧ Below (boxe x (boxs s w)).heap.size (boxe x (boxs s w)) w') := srvE_any s _ (hV.below H1.out) (hS.below H1.out)
  have C2 : Hid (∀ w', Below (boxe x (boxs s w)).heap.size (boxe x (boxs s w)) w' → Calls Tryz.prog 85 #[.agg #[.int .i64 x.who, .int .i64 x.seq, .slice x.ao x.n x.cap]] w' fun e w'' => e = .returned (.int .i64 (Sv.entE x.en)) ∧ Below w'.heap.size w' w'') := fun w' hb => entE_any x w' ((hO.below H1.out).below hb) ((hS.below H1.out).below hb)
  clear hV hO hS
  rw [boxs_size] at HT
  generalize Sv.srvE s.se = r at *
  generalize Sv.entE x.en = q at *
  obtain ⟨z, hz0⟩ : ∃ z, (if r = 0 then q else r) = z := ⟨_, rfl⟩
  rw [hz0]
  have HZ : Hid ((if r = 0 then q else r) = z) := hz0
  clear hz0
  go_enter Tryz.func76, Tryz.ntmps76
  go_upto_region 1 with fail
  change Code.wp Tryz.prog _ _ _ (boxe x (boxs s w))
  generalize boxe x (boxs s w) = W at *
  have p0 : W.cell? ⟨w.heap.size, 0, none⟩ = some (.slice s.fa s.fn s.fc) := HP.out.cell 0
  have p1 : W.cell? ⟨w.heap.size, 1, none⟩ = some (.slice s.la s.ln s.lc) := HP.out.cell 1
  have p2 : W.cell? ⟨w.heap.size, 2, none⟩ = some (.slice s.na s.nn s.nc) := HP.out.cell 2
  go_wp2_with fail
  refine C1.out.mono ?_
  rintro e w1 ⟨rfl, hb⟩
  have H2 : Hid (Below W.heap.size W w1) := hb
  clear hb p0 p1 p2
  obtain ⟨a0, a1, a2⟩ := HT.out.below H2.out
  simp only [Nat.zero_add] at a0 a1 a2
  by_cases hz : r = 0
  · obtain rfl : z = q := by rw [← HZ.out, if_pos hz]
    subst hz
    go_wp2_with fail
    refine (C2.out _ H2.out).mono ?_
    rintro e w2 ⟨rfl, hb⟩
    have H3 : Hid (Below W.heap.size W w2) := H2.out.trans (hb.mono H2.out.size)
    clear hb
    go_wp2
    go_ret
    exact ⟨rfl, H1.out.trans (H3.out.mono H1.out.size)⟩
  · obtain rfl : z = r := by rw [← HZ.out, if_neg hz]
    have hne : (z != 0) = true := by simp [hz]
    go_wp2
    go_ret
    exact ⟨rfl, H1.out.trans (H2.out.mono H1.out.size)⟩
end Go.Proofs.YtbhcklkbckacpaaGreatDoor
