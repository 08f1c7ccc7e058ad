/-
  Package op, its small functions: whether two parts are alike, what of a part is used.
-/
import Derived.Test.YtgidmnoinbbajaaDoorOa
import Derived.Laws.ResultCell
import Derived.Laws.Rows
import Derived.Deep.CutRange
import Derived.Deep.CutBlock
namespace Go.Proofs.YtgidmnoinbbajaaDoor
open Go.RowKit

set_option maxRecDepth 100000 in
set_option maxHeartbeats 1600000 in
theorem equalI_any (ao ao' : Option Addr) (n cap n' cap' : Nat) (l l' : List It) (w : World) (hD : Doc w ao n cap l) (hD' : Doc w ao' n' cap' l') :
    Calls Tryd.prog 42 #[.slice ao n cap, .slice ao' n' cap'] w fun e w' => e = .returned (.bool (Dc.same l l')) ∧ ∃ m, w' = w.drewN m := by
  have HD : Hid (Doc w ao n cap l) := hD
  have HD' : Hid (Doc w ao' n' cap' l') := hD'
  have hcap := hD.room
  have hbig := hD.big
  clear hD hD'
  obtain ⟨r, hr⟩ : ∃ r, Dc.same l l' = r := ⟨_, rfl⟩
  have HR : Hid (Dc.same l l' = r) := hr
  rw [hr]
  clear hr
  by_cases hnn : n = n'
  · subst hnn
    have hg := guard36
    go_enter Tryd.func42, Tryd.ntmps42
    go_wp2
    go_loopw [13] (fun i wr => ∃ k : Nat, k ≤ n ∧ i = .int .i64 k ∧ (∃ m, wr = w.drewN m) ∧ Dc.same (l.drop k) (l'.drop k) = r) (fun i _ => n - (intOf i).toNat)
    case atStart => exact ⟨0, Nat.zero_le _, rfl, ⟨0, rfl⟩, HR.out⟩
    case round =>
      obtain ⟨k, hk, rfl, ⟨m, rfl⟩, hsm⟩ := hrel
      have HM : Hid (Dc.same (l.drop k) (l'.drop k) = r) := hsm
      clear hsm
      by_cases hlt : k < n
      · obtain ⟨b, off, rfl, A0⟩ := HD.out.lies (by omega)
        obtain ⟨b', off', rfl, A0'⟩ := HD'.out.lies (by omega)
        have h1 : k < l.length := by rw [HD.out.len]; exact hlt
        have h2 : k < l'.length := by rw [HD'.out.len]; exact hlt
        obtain ⟨ha0, ha1, ha2⟩ := A0.get (List.getElem?_eq_getElem h1)
        obtain ⟨hx0, hx1, hx2⟩ := A0'.get (List.getElem?_eq_getElem h2)
        have HX : Hid (Dc.same (l.drop k) (l'.drop k) = (Dc.alike l[k] l'[k] && Dc.same (l.drop (k + 1)) (l'.drop (k + 1)))) := Dc.same_step l l' k h1 h2
        clear A0 A0'
        generalize l[k] = x at *
        generalize l'[k] = y at *
        clear h1 h2
        have hq := neq_items x y
        cases hal : Dc.alike x y
        · have hrr : r = false := by rw [← HM.out, HX.out, hal]; rfl
          subst hrr
          rw [hal] at hq
          clear hal
          go_wp2
          go_quiet (fail)
          go_wp2
          go_ret
          exact ⟨rfl, _, (World.drewN_drewN _ _ _)⟩
        · have HM2 : Hid (Dc.same (l.drop (k + 1)) (l'.drop (k + 1)) = r) := by show _ = _; rw [← HM.out, HX.out, hal, Bool.true_and]
          rw [hal] at hq
          clear hal
          go_wp2
          go_quiet (fail)
          go_wp2
          go_roundw
          case rel => exact ⟨k + 1, by omega, by go_num, ⟨_, rfl⟩, HM2.out⟩
          case measure => simp [intOf]; omega
      · have hrr : r = true := by
          rw [← HM.out, List.drop_eq_nil_of_le (by rw [HD.out.len]; omega), List.drop_eq_nil_of_le (by rw [HD'.out.len]; omega)]
          rfl
        subst hrr
        go_wp2
        go_ret
        exact ⟨rfl, m, rfl⟩
  · have hrr : r = false := HR.out.symm.trans (Dc.same_len _ _ (by rw [HD.out.len, HD'.out.len]; exact hnn))
    subst hrr
    go_enter Tryd.func42, Tryd.ntmps42
    go_wp2
    go_ret
    exact ⟨rfl, 0, rfl⟩


set_option maxRecDepth 100000 in
set_option maxHeartbeats 1600000 in
theorem says_any (a b : PV) (w : World) : Calls Tryd.prog 61 #[.agg #[.int .i64 a.kind, .int .i64 a.n, .slice a.ao a.m a.cap, .int .i64 a.set, .int .i64 a.clr, .bool a.goes, .string a.link], .agg #[.int .i64 b.kind, .int .i64 b.n, .slice b.ao b.m b.cap, .int .i64 b.set, .int .i64 b.clr, .bool b.goes, .string b.link]] w fun e w' => e = .returned (.bool (Ac.says a.pt b.pt)) ∧ Below w.heap.size w w' := by
  have H1 : Hid (Below w.heap.size w (boxp b (boxp a w))) := boxp2_below a b w
  obtain ⟨r, hr⟩ : ∃ r, Ac.says a.pt b.pt = r := ⟨_, rfl⟩
  rw [hr]
  simp only [Ac.says, PV.pt] at hr
  cases h1 : (a.set == b.set)
  · skip
    obtain rfl := hr.symm.trans (show _ = false by simp [h1])
    go_enter Tryd.func61, Tryd.ntmps61
    go_wp2
    go_ret
    exact ⟨rfl, H1.out⟩
  · skip
    cases h2 : (a.clr == b.clr)
    · skip
      obtain rfl := hr.symm.trans (show _ = false by simp [h1, h2])
      go_enter Tryd.func61, Tryd.ntmps61
      go_wp2
      go_ret
      exact ⟨rfl, H1.out⟩
    · skip
      cases h3 : (a.goes == b.goes)
      · skip
        obtain rfl := hr.symm.trans (show _ = false by simp [h1, h2, h3])
        go_enter Tryd.func61, Tryd.ntmps61
        go_wp2
        go_ret
        exact ⟨rfl, H1.out⟩
      · skip
        cases h4 : (a.link.toList == b.link.toList)
        · obtain rfl := hr.symm.trans (show _ = false by simp [h1, h2, h3, h4])
          go_enter Tryd.func61, Tryd.ntmps61
          go_wp2
          go_ret
          exact ⟨rfl, H1.out⟩
        · obtain rfl := hr.symm.trans (show _ = true by simp [h1, h2, h3, h4])
          go_enter Tryd.func61, Tryd.ntmps61
          go_wp2
          go_ret
          exact ⟨rfl, H1.out⟩

def usedV (v : PV) : PV := if v.kind = 1 then { v with ao := none, m := 0, cap := 0, items := [] } else if v.kind = 2 then ⟨v.kind, 0, v.ao, v.m, v.cap, v.items, 0, 0, false, ⟨#[]⟩⟩ else ⟨v.kind, v.n, none, 0, 0, [], 0, 0, false, ⟨#[]⟩⟩
theorem usedV_pt (v : PV) : (usedV v).pt = Ac.usedP v.pt := by
  unfold usedV Ac.usedP PV.pt
  split
  · rfl
  · split <;> rfl
theorem doc_none (w : World) : Doc w none 0 0 [] := ⟨(fun x hx => absurd hx (by simp)), rfl, Nat.le_refl _, by decide, (fun h => absurd rfl h)⟩
theorem usedV_pvt {w : World} {v : PV} (h : Pvt w v) : Pvt w (usedV v) := by
  unfold usedV
  split
  · exact ⟨doc_none w, h.fit⟩
  · split
    · exact ⟨h.doc, Nat.zero_le _⟩
    · exact ⟨doc_none w, Nat.zero_le _⟩

theorem drewN_blw (w : World) (q : Nat) : Below w.heap.size w (w.drewN q) := ⟨rfl, rfl, rfl, Nat.le_refl _, fun _ _ => rfl⟩
set_option maxRecDepth 100000 in
set_option maxHeartbeats 1600000 in
theorem same1_any (a b : PV) (w : World) (ha : Pvt w a) (hb : Pvt w b) : Calls Tryd.prog 40 #[.agg #[.int .i64 a.kind, .int .i64 a.n, .slice a.ao a.m a.cap, .int .i64 a.set, .int .i64 a.clr, .bool a.goes, .string a.link], .agg #[.int .i64 b.kind, .int .i64 b.n, .slice b.ao b.m b.cap, .int .i64 b.set, .int .i64 b.clr, .bool b.goes, .string b.link]] w fun e w' => e = .returned (.bool (Ac.same1 a.pt b.pt)) ∧ Below w.heap.size w w' := by
  have H1 : Hid (Below w.heap.size w (boxp b (boxp a w))) := boxp2_below a b w
  have CE : Hid (Calls Tryd.prog 42 #[.slice a.ao a.m a.cap, .slice b.ao b.m b.cap] (boxp b (boxp a w)) fun e w' => e = .returned (.bool (Dc.same a.items b.items)) ∧ ∃ m, w' = (boxp b (boxp a w)).drewN m) := equalI_any _ _ _ _ _ _ _ _ _ (ha.doc.below H1.out) (hb.doc.below H1.out)
  clear ha hb
  obtain ⟨r, hr⟩ : ∃ r, Ac.same1 a.pt b.pt = r := ⟨_, rfl⟩
  rw [hr]
  unfold Ac.same1 at hr
  have CS : Hid (∀ w', Calls Tryd.prog 61 #[.agg #[.int .i64 a.kind, .int .i64 a.n, .slice a.ao a.m a.cap, .int .i64 a.set, .int .i64 a.clr, .bool a.goes, .string a.link], .agg #[.int .i64 b.kind, .int .i64 b.n, .slice b.ao b.m b.cap, .int .i64 b.set, .int .i64 b.clr, .bool b.goes, .string b.link]] w' fun e w'' => e = .returned (.bool (Ac.says a.pt b.pt)) ∧ Below w'.heap.size w' w'') := fun w' => says_any a b w'
  generalize Ac.says a.pt b.pt = sy at *
  simp only [PV.pt] at hr
  generalize Dc.same a.items b.items = sm at *
  cases h1 : (a.kind == b.kind)
  · obtain rfl := hr.symm.trans (show _ = false by rw [h1]; rfl)
    clear hr
    go_enter Tryd.func40, Tryd.ntmps40
    go_wp2
    go_ret
    exact ⟨rfl, H1.out⟩
  · cases h2 : (a.n == b.n)
    · obtain rfl := hr.symm.trans (show _ = false by rw [h1, h2]; rfl)
      clear hr
      go_enter Tryd.func40, Tryd.ntmps40
      go_wp2
      go_ret
      exact ⟨rfl, H1.out⟩
    · cases sm
      · obtain rfl := hr.symm.trans (show _ = false by rw [h1, h2]; rfl)
        clear hr
        go_enter Tryd.func40, Tryd.ntmps40
        go_wp2_with fail
        change Calls Tryd.prog 42 _ (boxp b (boxp a w)) _
        refine CE.out.mono ?_
        rintro e w1 ⟨rfl, m, hm⟩
        have H2 : Hid (Below w.heap.size w w1) := by rw [hm]; exact H1.out.trans ((drewN_blw _ m).mono H1.out.size)
        clear hm
        go_wp2
        go_ret
        exact ⟨rfl, H2.out⟩
      · obtain rfl := hr.symm.trans (show _ = sy by rw [h1, h2]; rfl)
        clear hr
        go_enter Tryd.func40, Tryd.ntmps40
        go_wp2_with fail
        change Calls Tryd.prog 42 _ (boxp b (boxp a w)) _
        refine CE.out.mono ?_
        rintro e w1 ⟨rfl, m, hm⟩
        have HB : Hid (Below (boxp b (boxp a w)).heap.size (boxp b (boxp a w)) w1) := by rw [hm]; exact drewN_blw _ m
        have H2 : Hid (Below w.heap.size w w1) := H1.out.trans (HB.out.mono H1.out.size)
        have SA := (boxp2_fst a b w).below HB.out
        have SB := (boxp2_snd a b w).below HB.out
        obtain ⟨a0, a1, a2, a3, a4, a5, a6⟩ := SA
        obtain ⟨b0, b1, b2, b3, b4, b5, b6⟩ := SB
        clear hm
        go_wp2_with fail
        refine (CS.out _).mono ?_
        rintro e w2 ⟨rfl, hb⟩
        have H3 : Hid (Below w.heap.size w w2) := H2.out.trans (hb.mono H2.out.size)
        clear hb
        go_wp2
        go_ret
        exact ⟨rfl, H3.out⟩

/-- A part of nothing. -/
def pv0 : PV := ⟨0, 0, none, 0, 0, [], 0, 0, false, ⟨#[]⟩⟩
theorem szPv (k : PV) : (Tryd.prog.info? 44).map (·.size) = some (pvC k).toArray.size := by
  have h : (Tryd.prog.info? 44).map (·.size) = some 7 := by kernel_rfl
  exact h
/-- A part that is handed back. -/
theorem ret_part {fn : Func} {p : Tmp} {k : PV} {w : World} {g : Nat} (h : fn.results = #[.cell p 44]) (tmps : Array Value) (hp : tmps.getD p undef = .pointer (some ⟨g, 0, none⟩)) (hB : Blk w g (pvC k) 44) : (results fn tmps).run Tryd.prog w = .ok (.agg #[.int .i64 k.kind, .int .i64 k.n, .slice k.ao k.m k.cap, .int .i64 k.set, .int .i64 k.clr, .bool k.goes, .string k.link]) w :=
  results_cell_row h tmps w g 44 (pvC k).toArray (0, 0) _ hp hB Tryd.underlying44 rfl (szPv k)
def putP (w : World) (g : Nat) (k : PV) : World := ((((((w.setCell ⟨g, 0, none⟩ (.int .i64 k.kind)).setCell ⟨g, 1, none⟩ (.int .i64 k.n)).setCell ⟨g, 2, none⟩ (.slice k.ao k.m k.cap)).setCell ⟨g, 3, none⟩ (.int .i64 k.set)).setCell ⟨g, 4, none⟩ (.int .i64 k.clr)).setCell ⟨g, 5, none⟩ (.bool k.goes)).setCell ⟨g, 6, none⟩ (.string k.link)
theorem putP_blk {w : World} {g : Nat} {j k : PV} (h : Blk w g (pvC j) 44) : Blk (putP w g k) g (pvC k) 44 := ((((((h.set 0 (.int .i64 k.kind)).set 1 (.int .i64 k.n)).set 2 (.slice k.ao k.m k.cap)).set 3 (.int .i64 k.set)).set 4 (.int .i64 k.clr)).set 5 (.bool k.goes)).set 6 (.string k.link)
theorem putP_below (w : World) (g : Nat) (k : PV) : Below g w (putP w g k) := (((((((Below.refl g w).setCell (Nat.le_refl _) _).setCell (Nat.le_refl _) _).setCell (Nat.le_refl _) _).setCell (Nat.le_refl _) _).setCell (Nat.le_refl _) _).setCell (Nat.le_refl _) _).setCell (Nat.le_refl _) _

theorem used_new (v : PV) (w : World) : Blk (boxp pv0 (boxp v w)) (w.heap.size + 1) (pvC pv0) 44 := by
  have := boxp_blk pv0 (boxp v w)
  rw [boxp_size] at this
  exact this
set_option maxRecDepth 100000 in
set_option maxHeartbeats 1600000 in
theorem used_any (v : PV) (w : World) : Calls Tryd.prog 60 #[.agg #[.int .i64 v.kind, .int .i64 v.n, .slice v.ao v.m v.cap, .int .i64 v.set, .int .i64 v.clr, .bool v.goes, .string v.link]] w fun e w' => e = .returned (.agg #[.int .i64 (usedV v).kind, .int .i64 (usedV v).n, .slice (usedV v).ao (usedV v).m (usedV v).cap, .int .i64 (usedV v).set, .int .i64 (usedV v).clr, .bool (usedV v).goes, .string (usedV v).link]) ∧ Below w.heap.size w w' := by
  have HB : Hid (Blk (boxp pv0 (boxp v w)) (w.heap.size + 1) (pvC pv0) 44) := used_new v w
  have HA : Hid (Blk (boxp pv0 (boxp v w)) w.heap.size (pvC v) 44) := (boxp_blk v w).alloc _
  have H1 : Hid (Below w.heap.size w (boxp pv0 (boxp v w))) := boxp2_below v pv0 w
  obtain ⟨u, hu⟩ : ∃ u, usedV v = u := ⟨_, rfl⟩
  rw [hu]
  have HU : Hid (usedV v = u) := hu
  clear hu
  obtain ⟨kind, n, ao, m, cap, items, st, cl, gs, lk⟩ := v
  go_enter Tryd.func60, Tryd.ntmps60
  go_upto_region 1 with fail
  change Code.wp Tryd.prog _ _ _ (boxp pv0 (boxp ⟨kind, n, ao, m, cap, items, st, cl, gs, lk⟩ w))
  generalize boxp pv0 (boxp ⟨kind, n, ao, m, cap, items, st, cl, gs, lk⟩ w) = W at *
  have a0 : W.cell? ⟨w.heap.size, 0, none⟩ = some (.int .i64 kind) := HA.out.cell 0
  have b0 : W.cell? ⟨w.heap.size + 1, 0, none⟩ = some (.int .i64 0) := HB.out.cell 0
  have g0 := HB.out.frozen 0
  have a1 : W.cell? ⟨w.heap.size, 1, none⟩ = some (.int .i64 n) := HA.out.cell 1
  have b1 : W.cell? ⟨w.heap.size + 1, 1, none⟩ = some (.int .i64 0) := HB.out.cell 1
  have g1 := HB.out.frozen 1
  have a2 : W.cell? ⟨w.heap.size, 2, none⟩ = some (.slice ao m cap) := HA.out.cell 2
  have b2 : W.cell? ⟨w.heap.size + 1, 2, none⟩ = some (.slice none 0 0) := HB.out.cell 2
  have g2 := HB.out.frozen 2
  have a3 : W.cell? ⟨w.heap.size, 3, none⟩ = some (.int .i64 st) := HA.out.cell 3
  have b3 : W.cell? ⟨w.heap.size + 1, 3, none⟩ = some (.int .i64 0) := HB.out.cell 3
  have g3 := HB.out.frozen 3
  have a4 : W.cell? ⟨w.heap.size, 4, none⟩ = some (.int .i64 cl) := HA.out.cell 4
  have b4 : W.cell? ⟨w.heap.size + 1, 4, none⟩ = some (.int .i64 0) := HB.out.cell 4
  have g4 := HB.out.frozen 4
  have a5 : W.cell? ⟨w.heap.size, 5, none⟩ = some (.bool gs) := HA.out.cell 5
  have b5 : W.cell? ⟨w.heap.size + 1, 5, none⟩ = some (.bool false) := HB.out.cell 5
  have g5 := HB.out.frozen 5
  have a6 : W.cell? ⟨w.heap.size, 6, none⟩ = some (.string lk) := HA.out.cell 6
  have b6 : W.cell? ⟨w.heap.size + 1, 6, none⟩ = some (.string ⟨#[]⟩) := HB.out.cell 6
  have g6 := HB.out.frozen 6
  have f2 := HA.out.frozen 2
  by_cases h1 : kind = 1
  · subst h1
    obtain rfl : u = ⟨1, n, none, 0, 0, [], st, cl, gs, lk⟩ := HU.out.symm
    go_wp2
    change bodyPost Tryd.prog _ _ Exit.ret _ (putP (W.setCell ⟨w.heap.size, 2, none⟩ (.slice none 0 0)) (w.heap.size + 1) ⟨1, n, none, 0, 0, [], st, cl, gs, lk⟩)
    exact bodyPost_ret (ret_part (k := ⟨1, n, none, 0, 0, [], st, cl, gs, lk⟩) rfl _ rfl (putP_blk (HB.out.other _ _ (by simp)))) rfl ⟨rfl, (H1.out.setCell (Nat.le_refl _) _).trans ((putP_below _ _ _).mono (by omega))⟩
  · have h1' : (kind == 1) = false := by simp [h1]
    by_cases h2 : kind = 2
    · subst h2
      obtain rfl : u = ⟨2, 0, ao, m, cap, items, 0, 0, false, ⟨#[]⟩⟩ := HU.out.symm
      clear h1
      go_wp2
      change bodyPost Tryd.prog _ _ Exit.ret _ (putP W (w.heap.size + 1) ⟨2, 0, ao, m, cap, items, 0, 0, false, ⟨#[]⟩⟩)
      exact bodyPost_ret (ret_part (k := ⟨2, 0, ao, m, cap, items, 0, 0, false, ⟨#[]⟩⟩) rfl _ rfl (putP_blk HB.out)) rfl ⟨rfl, H1.out.trans ((putP_below _ _ _).mono (by omega))⟩
    · have h2' : (kind == 2) = false := by simp [h2]
      obtain rfl : u = ⟨kind, n, none, 0, 0, [], 0, 0, false, ⟨#[]⟩⟩ := by rw [← HU.out]; unfold usedV; rw [if_neg h1, if_neg h2]
      clear h1 h2
      go_wp2
      change bodyPost Tryd.prog _ _ Exit.ret _ (putP W (w.heap.size + 1) ⟨kind, n, none, 0, 0, [], 0, 0, false, ⟨#[]⟩⟩)
      exact bodyPost_ret (ret_part (k := ⟨kind, n, none, 0, 0, [], 0, 0, false, ⟨#[]⟩⟩) rfl _ rfl (putP_blk HB.out)) rfl ⟨rfl, H1.out.trans ((putP_below _ _ _).mono (by omega))⟩
end Go.Proofs.YtgidmnoinbbajaaDoor
