/-
  Texts of this proof, one behind the other.
-/
import Derived.Test.YtbhcklkbckacpaaGreatDoorM2
import Derived.Laws.ResultCell
import Derived.Laws.Rows
import Derived.Deep.CutRange
import Derived.Deep.CutBlock
import Derived.Laws.BitsAll
import Derived.Deep.RegionHeld3

/-
  Package op, its small functions: whether two parts are alike, what of a part is used.
-/
namespace Go.Proofs.YtbhcklkbckacpaaGreatDoor
open Go.RowKit

set_option maxRecDepth 100000 in
set_option maxHeartbeats 1600000 in
theorem equalI_any (ao ao' : Option Addr) (n cap n' cap' : Nat) (l l' : List It) (w : World) (hD : Doc w ao n cap l) (hD' : Doc w ao' n' cap' l') :
    Calls Tryz.prog 164 #[.slice ao n cap, .slice ao' n' cap'] w fun e w' => e = .returned (.bool (Dc.same l l')) ∧ ∃ m, w' = w.drewN m := by
  have HD : Hid (Doc w ao n cap l) := hD
  have HD' : Hid (Doc w ao' n' cap' l') := hD'
  have hcap := hD.room
  have hbig := hD.big
  clear hD hD'
  obtain ⟨r, hr⟩ : ∃ r, Dc.same l l' = r := ⟨_, rfl⟩
  have HR : Hid (Dc.same l l' = r) := hr
  rw [hr]
  clear hr
  by_cases hnn : n = n'
  · subst hnn
    have hg := guard36
    go_enter Tryz.func164, Tryz.ntmps164
    go_wp2
    go_loopw [13] (fun i wr => ∃ k : Nat, k ≤ n ∧ i = .int .i64 k ∧ (∃ m, wr = w.drewN m) ∧ Dc.same (l.drop k) (l'.drop k) = r) (fun i _ => n - (intOf i).toNat)
    case atStart => exact ⟨0, Nat.zero_le _, rfl, ⟨0, rfl⟩, HR.out⟩
    case round =>
      obtain ⟨k, hk, rfl, ⟨m, rfl⟩, hsm⟩ := hrel
      have HM : Hid (Dc.same (l.drop k) (l'.drop k) = r) := hsm
      clear hsm
      by_cases hlt : k < n
      · obtain ⟨b, off, rfl, A0⟩ := HD.out.lies (by omega)
        obtain ⟨b', off', rfl, A0'⟩ := HD'.out.lies (by omega)
        have h1 : k < l.length := by rw [HD.out.len]; exact hlt
        have h2 : k < l'.length := by rw [HD'.out.len]; exact hlt
        obtain ⟨ha0, ha1, ha2⟩ := A0.get (List.getElem?_eq_getElem h1)
        obtain ⟨hx0, hx1, hx2⟩ := A0'.get (List.getElem?_eq_getElem h2)
        have HX : Hid (Dc.same (l.drop k) (l'.drop k) = (Dc.alike l[k] l'[k] && Dc.same (l.drop (k + 1)) (l'.drop (k + 1)))) := Dc.same_step l l' k h1 h2
        clear A0 A0'
        generalize l[k] = x at *
        generalize l'[k] = y at *
        clear h1 h2
        have hq := neq_items x y
        cases hal : Dc.alike x y
        · have hrr : r = false := by rw [← HM.out, HX.out, hal]; rfl
          subst hrr
          rw [hal] at hq
          clear hal
          go_wp2
          go_quiet (fail)
          go_wp2
          go_ret
          exact ⟨rfl, _, (World.drewN_drewN _ _ _)⟩
        · have HM2 : Hid (Dc.same (l.drop (k + 1)) (l'.drop (k + 1)) = r) := by show _ = _; rw [← HM.out, HX.out, hal, Bool.true_and]
          rw [hal] at hq
          clear hal
          go_wp2
          go_quiet (fail)
          go_wp2
          go_roundw
          case rel => exact ⟨k + 1, by omega, by go_num, ⟨_, rfl⟩, HM2.out⟩
          case measure => simp [intOf]; omega
      · have hrr : r = true := by
          rw [← HM.out, List.drop_eq_nil_of_le (by rw [HD.out.len]; omega), List.drop_eq_nil_of_le (by rw [HD'.out.len]; omega)]
          rfl
        subst hrr
        go_wp2
        go_ret
        exact ⟨rfl, m, rfl⟩
  · have hrr : r = false := HR.out.symm.trans (Dc.same_len _ _ (by rw [HD.out.len, HD'.out.len]; exact hnn))
    subst hrr
    go_enter Tryz.func164, Tryz.ntmps164
    go_wp2
    go_ret
    exact ⟨rfl, 0, rfl⟩


set_option maxRecDepth 100000 in
set_option maxHeartbeats 1600000 in
theorem says_any (a b : PV) (w : World) : Calls Tryz.prog 226 #[.agg #[.int .i64 a.kind, .int .i64 a.n, .slice a.ao a.m a.cap, .int .i64 a.set, .int .i64 a.clr, .bool a.goes, .string a.link], .agg #[.int .i64 b.kind, .int .i64 b.n, .slice b.ao b.m b.cap, .int .i64 b.set, .int .i64 b.clr, .bool b.goes, .string b.link]] w fun e w' => e = .returned (.bool (Ac.says a.pt b.pt)) ∧ Below w.heap.size w w' := by
  have H1 : Hid (Below w.heap.size w (boxp b (boxp a w))) := boxp2_below a b w
  obtain ⟨r, hr⟩ : ∃ r, Ac.says a.pt b.pt = r := ⟨_, rfl⟩
  rw [hr]
  simp only [Ac.says, PV.pt] at hr
  cases h1 : (a.set == b.set)
  · skip
    obtain rfl := hr.symm.trans (show _ = false by simp [h1])
    go_enter Tryz.func226, Tryz.ntmps226
    go_wp2
    go_ret
    exact ⟨rfl, H1.out⟩
  · skip
    cases h2 : (a.clr == b.clr)
    · skip
      obtain rfl := hr.symm.trans (show _ = false by simp [h1, h2])
      go_enter Tryz.func226, Tryz.ntmps226
      go_wp2
      go_ret
      exact ⟨rfl, H1.out⟩
    · skip
      cases h3 : (a.goes == b.goes)
      · skip
        obtain rfl := hr.symm.trans (show _ = false by simp [h1, h2, h3])
        go_enter Tryz.func226, Tryz.ntmps226
        go_wp2
        go_ret
        exact ⟨rfl, H1.out⟩
      · skip
        cases h4 : (a.link.toList == b.link.toList)
        · obtain rfl := hr.symm.trans (show _ = false by simp [h1, h2, h3, h4])
          go_enter Tryz.func226, Tryz.ntmps226
          go_wp2
          go_ret
          exact ⟨rfl, H1.out⟩
        · obtain rfl := hr.symm.trans (show _ = true by simp [h1, h2, h3, h4])
          go_enter Tryz.func226, Tryz.ntmps226
          go_wp2
          go_ret
          exact ⟨rfl, H1.out⟩

def usedV (v : PV) : PV := if v.kind = 1 then { v with ao := none, m := 0, cap := 0, items := [] } else if v.kind = 2 then ⟨v.kind, 0, v.ao, v.m, v.cap, v.items, 0, 0, false, ⟨#[]⟩⟩ else ⟨v.kind, v.n, none, 0, 0, [], 0, 0, false, ⟨#[]⟩⟩
theorem usedV_pt (v : PV) : (usedV v).pt = Ac.usedP v.pt := by
  unfold usedV Ac.usedP PV.pt
  split
  · rfl
  · split <;> rfl
theorem doc_none (w : World) : Doc w none 0 0 [] := ⟨(fun x hx => absurd hx (by simp)), rfl, Nat.le_refl _, by decide, (fun h => absurd rfl h)⟩
theorem usedV_pvt {w : World} {v : PV} (h : Pvt w v) : Pvt w (usedV v) := by
  unfold usedV
  split
  · exact ⟨doc_none w, h.fit⟩
  · split
    · exact ⟨h.doc, Nat.zero_le _⟩
    · exact ⟨doc_none w, Nat.zero_le _⟩

theorem drewN_blw (w : World) (q : Nat) : Below w.heap.size w (w.drewN q) := ⟨rfl, rfl, rfl, Nat.le_refl _, fun _ _ => rfl⟩
set_option maxRecDepth 100000 in
set_option maxHeartbeats 1600000 in
theorem same1_any (a b : PV) (w : World) (ha : Pvt w a) (hb : Pvt w b) : Calls Tryz.prog 162 #[.agg #[.int .i64 a.kind, .int .i64 a.n, .slice a.ao a.m a.cap, .int .i64 a.set, .int .i64 a.clr, .bool a.goes, .string a.link], .agg #[.int .i64 b.kind, .int .i64 b.n, .slice b.ao b.m b.cap, .int .i64 b.set, .int .i64 b.clr, .bool b.goes, .string b.link]] w fun e w' => e = .returned (.bool (Ac.same1 a.pt b.pt)) ∧ Below w.heap.size w w' := by
  have H1 : Hid (Below w.heap.size w (boxp b (boxp a w))) := boxp2_below a b w
  have CE : Hid (Calls Tryz.prog 164 #[.slice a.ao a.m a.cap, .slice b.ao b.m b.cap] (boxp b (boxp a w)) fun e w' => e = .returned (.bool (Dc.same a.items b.items)) ∧ ∃ m, w' = (boxp b (boxp a w)).drewN m) := equalI_any _ _ _ _ _ _ _ _ _ (ha.doc.below H1.out) (hb.doc.below H1.out)
  clear ha hb
  obtain ⟨r, hr⟩ : ∃ r, Ac.same1 a.pt b.pt = r := ⟨_, rfl⟩
  rw [hr]
  unfold Ac.same1 at hr
  have CS : Hid (∀ w', Calls Tryz.prog 226 #[.agg #[.int .i64 a.kind, .int .i64 a.n, .slice a.ao a.m a.cap, .int .i64 a.set, .int .i64 a.clr, .bool a.goes, .string a.link], .agg #[.int .i64 b.kind, .int .i64 b.n, .slice b.ao b.m b.cap, .int .i64 b.set, .int .i64 b.clr, .bool b.goes, .string b.link]] w' fun e w'' => e = .returned (.bool (Ac.says a.pt b.pt)) ∧ Below w'.heap.size w' w'') := fun w' => says_any a b w'
  generalize Ac.says a.pt b.pt = sy at *
  simp only [PV.pt] at hr
  generalize Dc.same a.items b.items = sm at *
  cases h1 : (a.kind == b.kind)
  · obtain rfl := hr.symm.trans (show _ = false by rw [h1]; rfl)
    clear hr
    go_enter Tryz.func162, Tryz.ntmps162
    go_wp2
    go_ret
    exact ⟨rfl, H1.out⟩
  · cases h2 : (a.n == b.n)
    · obtain rfl := hr.symm.trans (show _ = false by rw [h1, h2]; rfl)
      clear hr
      go_enter Tryz.func162, Tryz.ntmps162
      go_wp2
      go_ret
      exact ⟨rfl, H1.out⟩
    · cases sm
      · obtain rfl := hr.symm.trans (show _ = false by rw [h1, h2]; rfl)
        clear hr
        go_enter Tryz.func162, Tryz.ntmps162
        go_wp2_with fail
        change Calls Tryz.prog 164 _ (boxp b (boxp a w)) _
        refine CE.out.mono ?_
        rintro e w1 ⟨rfl, m, hm⟩
        have H2 : Hid (Below w.heap.size w w1) := by rw [hm]; exact H1.out.trans ((drewN_blw _ m).mono H1.out.size)
        clear hm
        go_wp2
        go_ret
        exact ⟨rfl, H2.out⟩
      · obtain rfl := hr.symm.trans (show _ = sy by rw [h1, h2]; rfl)
        clear hr
        go_enter Tryz.func162, Tryz.ntmps162
        go_wp2_with fail
        change Calls Tryz.prog 164 _ (boxp b (boxp a w)) _
        refine CE.out.mono ?_
        rintro e w1 ⟨rfl, m, hm⟩
        have HB : Hid (Below (boxp b (boxp a w)).heap.size (boxp b (boxp a w)) w1) := by rw [hm]; exact drewN_blw _ m
        have H2 : Hid (Below w.heap.size w w1) := H1.out.trans (HB.out.mono H1.out.size)
        have SA := (boxp2_fst a b w).below HB.out
        have SB := (boxp2_snd a b w).below HB.out
        obtain ⟨a0, a1, a2, a3, a4, a5, a6⟩ := SA
        obtain ⟨b0, b1, b2, b3, b4, b5, b6⟩ := SB
        clear hm
        go_wp2_with fail
        refine (CS.out _).mono ?_
        rintro e w2 ⟨rfl, hb⟩
        have H3 : Hid (Below w.heap.size w w2) := H2.out.trans (hb.mono H2.out.size)
        clear hb
        go_wp2
        go_ret
        exact ⟨rfl, H3.out⟩

def pv0 : PV := ⟨0, 0, none, 0, 0, [], 0, 0, false, ⟨#[]⟩⟩
theorem szPv (k : PV) : (Tryz.prog.info? 162).map (·.size) = some (pvC k).toArray.size := by
  have h : (Tryz.prog.info? 162).map (·.size) = some 7 := by kernel_rfl
  exact h
theorem ret_part {fn : Func} {p : Tmp} {k : PV} {w : World} {g : Nat} (h : fn.results = #[.cell p 162]) (tmps : Array Value) (hp : tmps.getD p undef = .pointer (some ⟨g, 0, none⟩)) (hB : Blk w g (pvC k) 162) : (results fn tmps).run Tryz.prog w = .ok (.agg #[.int .i64 k.kind, .int .i64 k.n, .slice k.ao k.m k.cap, .int .i64 k.set, .int .i64 k.clr, .bool k.goes, .string k.link]) w :=
  results_cell_row h tmps w g 162 (pvC k).toArray (0, 0) _ hp hB Tryz.underlying162 rfl (szPv k)
def putP (w : World) (g : Nat) (k : PV) : World := ((((((w.setCell ⟨g, 0, none⟩ (.int .i64 k.kind)).setCell ⟨g, 1, none⟩ (.int .i64 k.n)).setCell ⟨g, 2, none⟩ (.slice k.ao k.m k.cap)).setCell ⟨g, 3, none⟩ (.int .i64 k.set)).setCell ⟨g, 4, none⟩ (.int .i64 k.clr)).setCell ⟨g, 5, none⟩ (.bool k.goes)).setCell ⟨g, 6, none⟩ (.string k.link)
theorem putP_blk {w : World} {g : Nat} {j k : PV} (h : Blk w g (pvC j) 162) : Blk (putP w g k) g (pvC k) 162 := ((((((h.set 0 (.int .i64 k.kind)).set 1 (.int .i64 k.n)).set 2 (.slice k.ao k.m k.cap)).set 3 (.int .i64 k.set)).set 4 (.int .i64 k.clr)).set 5 (.bool k.goes)).set 6 (.string k.link)
theorem putP_below (w : World) (g : Nat) (k : PV) : Below g w (putP w g k) := (((((((Below.refl g w).setCell (Nat.le_refl _) _).setCell (Nat.le_refl _) _).setCell (Nat.le_refl _) _).setCell (Nat.le_refl _) _).setCell (Nat.le_refl _) _).setCell (Nat.le_refl _) _).setCell (Nat.le_refl _) _

theorem used_new (v : PV) (w : World) : Blk (boxp pv0 (boxp v w)) (w.heap.size + 1) (pvC pv0) 162 := by
  have := boxp_blk pv0 (boxp v w)
  rw [boxp_size] at this
  exact this
set_option maxRecDepth 100000 in
set_option maxHeartbeats 1600000 in
theorem used_any (v : PV) (w : World) : Calls Tryz.prog 267 #[.agg #[.int .i64 v.kind, .int .i64 v.n, .slice v.ao v.m v.cap, .int .i64 v.set, .int .i64 v.clr, .bool v.goes, .string v.link]] w fun e w' => e = .returned (.agg #[.int .i64 (usedV v).kind, .int .i64 (usedV v).n, .slice (usedV v).ao (usedV v).m (usedV v).cap, .int .i64 (usedV v).set, .int .i64 (usedV v).clr, .bool (usedV v).goes, .string (usedV v).link]) ∧ Below w.heap.size w w' := by
  have HB : Hid (Blk (boxp pv0 (boxp v w)) (w.heap.size + 1) (pvC pv0) 162) := used_new v w
  have HA : Hid (Blk (boxp pv0 (boxp v w)) w.heap.size (pvC v) 162) := (boxp_blk v w).alloc _
  have H1 : Hid (Below w.heap.size w (boxp pv0 (boxp v w))) := boxp2_below v pv0 w
  obtain ⟨u, hu⟩ : ∃ u, usedV v = u := ⟨_, rfl⟩
  rw [hu]
  have HU : Hid (usedV v = u) := hu
  clear hu
  obtain ⟨kind, n, ao, m, cap, items, st, cl, gs, lk⟩ := v
  go_enter Tryz.func267, Tryz.ntmps267
  go_upto_region 1 with fail
  change Code.wp Tryz.prog _ _ _ (boxp pv0 (boxp ⟨kind, n, ao, m, cap, items, st, cl, gs, lk⟩ w))
  generalize boxp pv0 (boxp ⟨kind, n, ao, m, cap, items, st, cl, gs, lk⟩ w) = W at *
  have a0 : W.cell? ⟨w.heap.size, 0, none⟩ = some (.int .i64 kind) := HA.out.cell 0
  have b0 : W.cell? ⟨w.heap.size + 1, 0, none⟩ = some (.int .i64 0) := HB.out.cell 0
  have g0 := HB.out.frozen 0
  have a1 : W.cell? ⟨w.heap.size, 1, none⟩ = some (.int .i64 n) := HA.out.cell 1
  have b1 : W.cell? ⟨w.heap.size + 1, 1, none⟩ = some (.int .i64 0) := HB.out.cell 1
  have g1 := HB.out.frozen 1
  have a2 : W.cell? ⟨w.heap.size, 2, none⟩ = some (.slice ao m cap) := HA.out.cell 2
  have b2 : W.cell? ⟨w.heap.size + 1, 2, none⟩ = some (.slice none 0 0) := HB.out.cell 2
  have g2 := HB.out.frozen 2
  have a3 : W.cell? ⟨w.heap.size, 3, none⟩ = some (.int .i64 st) := HA.out.cell 3
  have b3 : W.cell? ⟨w.heap.size + 1, 3, none⟩ = some (.int .i64 0) := HB.out.cell 3
  have g3 := HB.out.frozen 3
  have a4 : W.cell? ⟨w.heap.size, 4, none⟩ = some (.int .i64 cl) := HA.out.cell 4
  have b4 : W.cell? ⟨w.heap.size + 1, 4, none⟩ = some (.int .i64 0) := HB.out.cell 4
  have g4 := HB.out.frozen 4
  have a5 : W.cell? ⟨w.heap.size, 5, none⟩ = some (.bool gs) := HA.out.cell 5
  have b5 : W.cell? ⟨w.heap.size + 1, 5, none⟩ = some (.bool false) := HB.out.cell 5
  have g5 := HB.out.frozen 5
  have a6 : W.cell? ⟨w.heap.size, 6, none⟩ = some (.string lk) := HA.out.cell 6
  have b6 : W.cell? ⟨w.heap.size + 1, 6, none⟩ = some (.string ⟨#[]⟩) := HB.out.cell 6
  have g6 := HB.out.frozen 6
  have f2 := HA.out.frozen 2
  by_cases h1 : kind = 1
  · subst h1
    obtain rfl : u = ⟨1, n, none, 0, 0, [], st, cl, gs, lk⟩ := HU.out.symm
    go_wp2
    change bodyPost Tryz.prog _ _ Exit.ret _ (putP (W.setCell ⟨w.heap.size, 2, none⟩ (.slice none 0 0)) (w.heap.size + 1) ⟨1, n, none, 0, 0, [], st, cl, gs, lk⟩)
    exact bodyPost_ret (ret_part (k := ⟨1, n, none, 0, 0, [], st, cl, gs, lk⟩) rfl _ rfl (putP_blk (HB.out.other _ _ (by simp)))) rfl ⟨rfl, (H1.out.setCell (Nat.le_refl _) _).trans ((putP_below _ _ _).mono (by omega))⟩
  · have h1' : (kind == 1) = false := by simp [h1]
    by_cases h2 : kind = 2
    · subst h2
      obtain rfl : u = ⟨2, 0, ao, m, cap, items, 0, 0, false, ⟨#[]⟩⟩ := HU.out.symm
      clear h1
      go_wp2
      change bodyPost Tryz.prog _ _ Exit.ret _ (putP W (w.heap.size + 1) ⟨2, 0, ao, m, cap, items, 0, 0, false, ⟨#[]⟩⟩)
      exact bodyPost_ret (ret_part (k := ⟨2, 0, ao, m, cap, items, 0, 0, false, ⟨#[]⟩⟩) rfl _ rfl (putP_blk HB.out)) rfl ⟨rfl, H1.out.trans ((putP_below _ _ _).mono (by omega))⟩
    · have h2' : (kind == 2) = false := by simp [h2]
      obtain rfl : u = ⟨kind, n, none, 0, 0, [], 0, 0, false, ⟨#[]⟩⟩ := by rw [← HU.out]; unfold usedV; rw [if_neg h1, if_neg h2]
      clear h1 h2
      go_wp2
      change bodyPost Tryz.prog _ _ Exit.ret _ (putP W (w.heap.size + 1) ⟨kind, n, none, 0, 0, [], 0, 0, false, ⟨#[]⟩⟩)
      exact bodyPost_ret (ret_part (k := ⟨kind, n, none, 0, 0, [], 0, 0, false, ⟨#[]⟩⟩) rfl _ rfl (putP_blk HB.out)) rfl ⟨rfl, H1.out.trans ((putP_below _ _ _).mono (by omega))⟩
end Go.Proofs.YtbhcklkbckacpaaGreatDoor

/-
  Package op: what is wrong with a part.
-/
namespace Go.Proofs.YtbhcklkbckacpaaGreatDoor
open Go.RowKit

theorem chN_any (n : Int) (w : World) : Calls Tryz.prog 266 #[.int .i64 n] w fun e w' => e = .returned (.int .i64 (Ac.errN n)) ∧ w' = w := by
  unfold Ac.errN
  by_cases h1 : n < 1
  · rw [if_pos (.inl h1)]
    go_enter Tryz.func266, Tryz.ntmps266
    go_wp2
    go_ret
    exact ⟨rfl, rfl⟩
  · by_cases h2 : 80 < n
    · rw [if_pos (.inr h2)]
      go_enter Tryz.func266, Tryz.ntmps266
      go_wp2
      go_ret
      exact ⟨rfl, rfl⟩
    · rw [if_neg (by omega)]
      go_enter Tryz.func266, Tryz.ntmps266
      go_wp2
      go_ret
      exact ⟨rfl, rfl⟩

theorem areM_any (n : Int) (w : World) : Calls Tryz.prog 286 #[.int .i64 n] w fun e w' => e = .returned (.bool (Ac.areM n)) ∧ w' = w := by
  unfold Ac.areM
  by_cases h1 : 0 ≤ n
  · have e1 : decide (0 ≤ n) = true := by simp [h1]
    rw [e1, Bool.true_and]
    go_enter Tryz.func286, Tryz.ntmps286
    go_wp2
    go_ret
    exact ⟨rfl, rfl⟩
  · have e1 : decide (0 ≤ n) = false := by simp; omega
    rw [e1, Bool.false_and]
    go_enter Tryz.func286, Tryz.ntmps286
    go_wp2
    go_ret
    exact ⟨rfl, rfl⟩

set_option maxHeartbeats 800000 in
theorem chPut_any (ao : Option Addr) (m cap : Nat) (l : List It) (w : World) (hD : Doc w ao m cap l) (hS : Sch w) : Calls Tryz.prog 265 #[.slice ao m cap] w fun e w' => e = .returned (.int .i64 (Ac.errPut l)) ∧ Below w.heap.size w w' := by
  have CI : Hid (Calls Tryz.prog 148 #[.slice ao m cap] w fun e w' => e = .returned (.int .i64 (Dc.errs l)) ∧ Below w.heap.size w w') := items_any ao _ cap l w hD hS
  unfold Ac.errPut
  rw [hD.len]
  clear hD hS
  by_cases h1 : m < 1
  · rw [if_pos (.inl h1)]
    obtain rfl : m = 0 := by omega
    go_enter Tryz.func265, Tryz.ntmps265
    go_wp2
    go_ret
    exact ⟨rfl, Below.refl _ _⟩
  · by_cases h2 : 80 < m
    · rw [if_pos (.inr h2)]
      have e1 : ((m : Int) < 1) = False := by simp; omega
      go_enter Tryz.func265, Tryz.ntmps265
      go_wp2
      go_ret
      exact ⟨rfl, Below.refl _ _⟩
    · rw [if_neg (by omega)]
      generalize Dc.errs l = r at *
      go_enter Tryz.func265, Tryz.ntmps265
      go_wp2_with fail
      refine CI.out.mono ?_
      rintro e w1 ⟨rfl, hb⟩
      have H1 : Hid (Below w.heap.size w w1) := hb
      clear hb
      go_wp2
      go_ret
      exact ⟨rfl, H1.out⟩

theorem bits_and {a b : Int} (ha : Ac.areM a = true) (hb : Ac.areM b = true) : bits .and .i64 a b = ((a.toNat &&& b.toNat : Nat) : Int) := by
  unfold Ac.areM at ha hb
  simp only [Bool.and_eq_true, decide_eq_true_eq] at ha hb
  obtain ⟨x, hx, rfl⟩ := Ac.m4_nat ⟨ha.1, ha.2⟩
  obtain ⟨y, hy, rfl⟩ := Ac.m4_nat ⟨hb.1, hb.2⟩
  have : ∀ x : Fin 4, ∀ y : Fin 4, bits .and .i64 ((x.val : Nat) : Int) ((y.val : Nat) : Int) = ((((x.val : Nat) : Int).toNat &&& ((y.val : Nat) : Int).toNat : Nat) : Int) := by decide +kernel
  exact this ⟨x, hx⟩ ⟨y, hy⟩
set_option maxRecDepth 100000 in
set_option maxHeartbeats 1600000 in
theorem chK_any (v : PV) (w : World) (hf : v.link.size ≤ 9223372036854775807) (hS : Sch w) : Calls Tryz.prog 264 #[.agg #[.int .i64 v.kind, .int .i64 v.n, .slice v.ao v.m v.cap, .int .i64 v.set, .int .i64 v.clr, .bool v.goes, .string v.link]] w fun e w' => e = .returned (.int .i64 (Ac.errK v.pt)) ∧ Below w.heap.size w w' := by
  obtain ⟨kind, n, ao, m, cap, items, st, cl, gs, lk⟩ := v
  simp only at hf
  have H1 : Hid (Below w.heap.size w (boxp ⟨kind, n, ao, m, cap, items, st, cl, gs, lk⟩ w)) := boxp_below _ w
  have HS : Hid (Sch (boxp ⟨kind, n, ao, m, cap, items, st, cl, gs, lk⟩ w)) := hS.below (boxp_below _ w)
  have HSV : Hid (Seven (boxp ⟨kind, n, ao, m, cap, items, st, cl, gs, lk⟩ w) w.heap.size 0 ⟨kind, n, ao, m, cap, items, st, cl, gs, lk⟩) := boxp_at _ w
  have HF : Hid (lk.size ≤ 9223372036854775807) := hf
  clear hS hf
  obtain ⟨r, hr⟩ : ∃ r, Ac.errK (PV.pt ⟨kind, n, ao, m, cap, items, st, cl, gs, lk⟩) = r := ⟨_, rfl⟩
  rw [hr]
  change (if Ac.marksBad st cl then 3 else if Ac.linkBad gs lk then 4 else Ac.errN n) = r at hr
  have HR : Hid ((if Ac.marksBad st cl then 3 else if Ac.linkBad gs lk then 4 else Ac.errN n) = r) := hr
  clear hr
  cases h1 : Ac.areM st
  · obtain rfl : r = 3 := by rw [← HR.out]; unfold Ac.marksBad; rw [h1]; rfl
    clear HR
    go_enter Tryz.func264, Tryz.ntmps264
    go_wp2_with fail
    change Calls Tryz.prog 286 _ (boxp ⟨kind, n, ao, m, cap, items, st, cl, gs, lk⟩ w) _
    generalize boxp ⟨kind, n, ao, m, cap, items, st, cl, gs, lk⟩ w = W at *
    obtain ⟨c0, c1, c2, c3, c4, c5, c6⟩ := HSV.out
    simp only at c0 c1 c2 c3 c4 c5 c6
    refine (areM_any st _).mono ?_
    rintro e w1 ⟨rfl, rfl⟩
    rw [h1]
    go_wp2
    go_ret
    exact ⟨rfl, H1.out⟩
  · cases h2 : Ac.areM cl
    · obtain rfl : r = 3 := by rw [← HR.out]; unfold Ac.marksBad; rw [h1, h2]; rfl
      clear HR
      go_enter Tryz.func264, Tryz.ntmps264
      go_wp2_with fail
      change Calls Tryz.prog 286 _ (boxp ⟨kind, n, ao, m, cap, items, st, cl, gs, lk⟩ w) _
      generalize boxp ⟨kind, n, ao, m, cap, items, st, cl, gs, lk⟩ w = W at *
      obtain ⟨c0, c1, c2, c3, c4, c5, c6⟩ := HSV.out
      simp only at c0 c1 c2 c3 c4 c5 c6
      refine (areM_any st _).mono ?_
      rintro e w1 ⟨rfl, rfl⟩
      rw [h1]
      go_wp2_with fail
      refine (areM_any cl _).mono ?_
      rintro e w1 ⟨rfl, rfl⟩
      rw [h2]
      go_wp2
      go_ret
      exact ⟨rfl, H1.out⟩
    · have hbits := bits_and h1 h2
      obtain ⟨ab, hab⟩ : ∃ ab, st.toNat &&& cl.toNat = ab := ⟨_, rfl⟩
      have HAB : Hid (Ac.marksBad st cl = (ab != 0)) := by show _ = _; unfold Ac.marksBad; rw [h1, h2, hab]; rfl
      rw [hab] at hbits
      clear hab
      by_cases h3 : ab = 0
      · subst h3
        cases h4 : lk.toList.isEmpty
        · cases gs
          · obtain rfl : r = 4 := by rw [← HR.out, HAB.out]; unfold Ac.linkBad; rw [h4]; rfl
            clear HR
            go_enter Tryz.func264, Tryz.ntmps264
            go_wp2_with fail
            change Calls Tryz.prog 286 _ (boxp ⟨kind, n, ao, m, cap, items, st, cl, false, lk⟩ w) _
            generalize boxp ⟨kind, n, ao, m, cap, items, st, cl, false, lk⟩ w = W at *
            obtain ⟨c0, c1, c2, c3, c4, c5, c6⟩ := HSV.out
            simp only at c0 c1 c2 c3 c4 c5 c6
            refine (areM_any st _).mono ?_
            rintro e w1 ⟨rfl, rfl⟩
            rw [h1]
            go_wp2_with fail
            refine (areM_any cl _).mono ?_
            rintro e w1 ⟨rfl, rfl⟩
            rw [h2]
            go_wp2
            go_ret
            exact ⟨rfl, H1.out⟩
          · cases h5 : Lk.may lk.data.toList
            · obtain rfl : r = 4 := by rw [← HR.out, HAB.out]; unfold Ac.linkBad; rw [h4, h5]; rfl
              clear HR
              go_enter Tryz.func264, Tryz.ntmps264
              go_wp2_with fail
              change Calls Tryz.prog 286 _ (boxp ⟨kind, n, ao, m, cap, items, st, cl, true, lk⟩ w) _
              generalize boxp ⟨kind, n, ao, m, cap, items, st, cl, true, lk⟩ w = W at *
              obtain ⟨c0, c1, c2, c3, c4, c5, c6⟩ := HSV.out
              simp only at c0 c1 c2 c3 c4 c5 c6
              refine (areM_any st _).mono ?_
              rintro e w1 ⟨rfl, rfl⟩
              rw [h1]
              go_wp2_with fail
              refine (areM_any cl _).mono ?_
              rintro e w1 ⟨rfl, rfl⟩
              rw [h2]
              go_wp2_with fail
              refine (may_any lk _ HF.out HS.out).mono ?_
              rintro e w2 ⟨rfl, hb⟩
              rw [h5]
              have H3 : Hid (Below w.heap.size w w2) := H1.out.trans (hb.mono H1.out.size)
              clear hb
              go_wp2
              go_ret
              exact ⟨rfl, H3.out⟩
            · obtain rfl : r = Ac.errN n := by rw [← HR.out, HAB.out]; unfold Ac.linkBad; rw [h4, h5]; rfl
              clear HR
              go_enter Tryz.func264, Tryz.ntmps264
              go_wp2_with fail
              change Calls Tryz.prog 286 _ (boxp ⟨kind, n, ao, m, cap, items, st, cl, true, lk⟩ w) _
              generalize boxp ⟨kind, n, ao, m, cap, items, st, cl, true, lk⟩ w = W at *
              obtain ⟨c0, c1, c2, c3, c4, c5, c6⟩ := HSV.out
              simp only at c0 c1 c2 c3 c4 c5 c6
              refine (areM_any st _).mono ?_
              rintro e w1 ⟨rfl, rfl⟩
              rw [h1]
              go_wp2_with fail
              refine (areM_any cl _).mono ?_
              rintro e w1 ⟨rfl, rfl⟩
              rw [h2]
              go_wp2_with fail
              refine (may_any lk _ HF.out HS.out).mono ?_
              rintro e w2 ⟨rfl, hb⟩
              rw [h5]
              have H3 : Hid (Below w.heap.size w w2) := H1.out.trans (hb.mono H1.out.size)
              have d1 : w2.cell? ⟨w.heap.size, 1, none⟩ = some (.int .i64 n) := (HSV.out.below hb).c1
              clear hb
              go_wp2_with fail
              refine (chN_any n _).mono ?_
              rintro e w3 ⟨rfl, rfl⟩
              go_wp2
              go_ret
              exact ⟨rfl, H3.out⟩
        · obtain rfl : r = Ac.errN n := by rw [← HR.out, HAB.out]; unfold Ac.linkBad; rw [h4]; rfl
          clear HR
          go_enter Tryz.func264, Tryz.ntmps264
          go_wp2_with fail
          change Calls Tryz.prog 286 _ (boxp ⟨kind, n, ao, m, cap, items, st, cl, gs, lk⟩ w) _
          generalize boxp ⟨kind, n, ao, m, cap, items, st, cl, gs, lk⟩ w = W at *
          obtain ⟨c0, c1, c2, c3, c4, c5, c6⟩ := HSV.out
          simp only at c0 c1 c2 c3 c4 c5 c6
          refine (areM_any st _).mono ?_
          rintro e w1 ⟨rfl, rfl⟩
          rw [h1]
          go_wp2_with fail
          refine (areM_any cl _).mono ?_
          rintro e w1 ⟨rfl, rfl⟩
          rw [h2]
          go_wp2_with fail
          refine (chN_any n _).mono ?_
          rintro e w3 ⟨rfl, rfl⟩
          go_wp2
          go_ret
          exact ⟨rfl, H1.out⟩
      · have h3' : ((ab : Int) != 0) = true := by simp; omega
        obtain rfl : r = 3 := by rw [← HR.out, HAB.out]; have : (ab != 0) = true := by simp [h3]
                                 rw [this]; rfl
        clear HR
        go_enter Tryz.func264, Tryz.ntmps264
        go_wp2_with fail
        change Calls Tryz.prog 286 _ (boxp ⟨kind, n, ao, m, cap, items, st, cl, gs, lk⟩ w) _
        generalize boxp ⟨kind, n, ao, m, cap, items, st, cl, gs, lk⟩ w = W at *
        obtain ⟨c0, c1, c2, c3, c4, c5, c6⟩ := HSV.out
        simp only at c0 c1 c2 c3 c4 c5 c6
        refine (areM_any st _).mono ?_
        rintro e w1 ⟨rfl, rfl⟩
        rw [h1]
        go_wp2_with fail
        refine (areM_any cl _).mono ?_
        rintro e w1 ⟨rfl, rfl⟩
        rw [h2]
        go_wp2
        go_ret
        exact ⟨rfl, H1.out⟩
end Go.Proofs.YtbhcklkbckacpaaGreatDoor

/-
  Package op: what is wrong with a part, and with an operation.
-/
namespace Go.Proofs.YtbhcklkbckacpaaGreatDoor
open Go.RowKit

set_option maxRecDepth 100000 in
set_option maxHeartbeats 3200000 in
theorem chP_rest (kind n : Int) (ao : Option Addr) (m cap : Nat) (items : List It) (st cl : Int) (gs : Bool) (lk : ByteArray) (w : World) (e0 r : Int) (hk : kind = 1 ∨ kind = 2 ∨ kind = 3)
    (CC : Hid (Calls Tryz.prog (if kind = 1 then 264 else if kind = 2 then 265 else 266) (if kind = 1 then #[.agg #[.int .i64 kind, .int .i64 n, .slice ao m cap, .int .i64 st, .int .i64 cl, .bool gs, .string lk]] else if kind = 2 then #[.slice ao m cap] else #[.int .i64 n]) (boxp ⟨kind, n, ao, m, cap, items, st, cl, gs, lk⟩ w) fun e w' => e = .returned (.int .i64 e0) ∧ Below (boxp ⟨kind, n, ao, m, cap, items, st, cl, gs, lk⟩ w).heap.size (boxp ⟨kind, n, ao, m, cap, items, st, cl, gs, lk⟩ w) w'))
    (hP : Pvt w ⟨kind, n, ao, m, cap, items, st, cl, gs, lk⟩)
    (hr : r = if e0 = 0 then (if Ac.same1 (PV.pt ⟨kind, n, ao, m, cap, items, st, cl, gs, lk⟩) (Ac.usedP (PV.pt ⟨kind, n, ao, m, cap, items, st, cl, gs, lk⟩)) then 0 else 4) else e0) :
    Calls Tryz.prog 225 #[.agg #[.int .i64 kind, .int .i64 n, .slice ao m cap, .int .i64 st, .int .i64 cl, .bool gs, .string lk]] w fun e w' => e = .returned (.int .i64 r) ∧ Below w.heap.size w w' := by
  have H1 : Hid (Below w.heap.size w (boxp ⟨kind, n, ao, m, cap, items, st, cl, gs, lk⟩ w)) := boxp_below _ w
  have HSV : Hid (Seven (boxp ⟨kind, n, ao, m, cap, items, st, cl, gs, lk⟩ w) w.heap.size 0 ⟨kind, n, ao, m, cap, items, st, cl, gs, lk⟩) := boxp_at _ w
  have HP : Hid (Pvt (boxp ⟨kind, n, ao, m, cap, items, st, cl, gs, lk⟩ w) ⟨kind, n, ao, m, cap, items, st, cl, gs, lk⟩) := hP.below (boxp_below _ w)
  have HU0 : Hid (∀ w', Pvt w' ⟨kind, n, ao, m, cap, items, st, cl, gs, lk⟩ → Pvt w' (usedV ⟨kind, n, ao, m, cap, items, st, cl, gs, lk⟩)) := fun w' h => usedV_pvt h
  have CU0 : Hid (∀ w', Calls Tryz.prog 267 #[.agg #[.int .i64 kind, .int .i64 n, .slice ao m cap, .int .i64 st, .int .i64 cl, .bool gs, .string lk]] w' fun e w2 => e = .returned (.agg #[.int .i64 (usedV ⟨kind, n, ao, m, cap, items, st, cl, gs, lk⟩).kind, .int .i64 (usedV ⟨kind, n, ao, m, cap, items, st, cl, gs, lk⟩).n, .slice (usedV ⟨kind, n, ao, m, cap, items, st, cl, gs, lk⟩).ao (usedV ⟨kind, n, ao, m, cap, items, st, cl, gs, lk⟩).m (usedV ⟨kind, n, ao, m, cap, items, st, cl, gs, lk⟩).cap, .int .i64 (usedV ⟨kind, n, ao, m, cap, items, st, cl, gs, lk⟩).set, .int .i64 (usedV ⟨kind, n, ao, m, cap, items, st, cl, gs, lk⟩).clr, .bool (usedV ⟨kind, n, ao, m, cap, items, st, cl, gs, lk⟩).goes, .string (usedV ⟨kind, n, ao, m, cap, items, st, cl, gs, lk⟩).link]) ∧ Below w'.heap.size w' w2) := fun w' => used_any ⟨kind, n, ao, m, cap, items, st, cl, gs, lk⟩ w'
  have CS0 : Hid (∀ w', Pvt w' ⟨kind, n, ao, m, cap, items, st, cl, gs, lk⟩ → Pvt w' (usedV ⟨kind, n, ao, m, cap, items, st, cl, gs, lk⟩) → Calls Tryz.prog 162 #[.agg #[.int .i64 kind, .int .i64 n, .slice ao m cap, .int .i64 st, .int .i64 cl, .bool gs, .string lk], .agg #[.int .i64 (usedV ⟨kind, n, ao, m, cap, items, st, cl, gs, lk⟩).kind, .int .i64 (usedV ⟨kind, n, ao, m, cap, items, st, cl, gs, lk⟩).n, .slice (usedV ⟨kind, n, ao, m, cap, items, st, cl, gs, lk⟩).ao (usedV ⟨kind, n, ao, m, cap, items, st, cl, gs, lk⟩).m (usedV ⟨kind, n, ao, m, cap, items, st, cl, gs, lk⟩).cap, .int .i64 (usedV ⟨kind, n, ao, m, cap, items, st, cl, gs, lk⟩).set, .int .i64 (usedV ⟨kind, n, ao, m, cap, items, st, cl, gs, lk⟩).clr, .bool (usedV ⟨kind, n, ao, m, cap, items, st, cl, gs, lk⟩).goes, .string (usedV ⟨kind, n, ao, m, cap, items, st, cl, gs, lk⟩).link]] w' fun e w2 => e = .returned (.bool (Ac.same1 (PV.pt ⟨kind, n, ao, m, cap, items, st, cl, gs, lk⟩) (Ac.usedP (PV.pt ⟨kind, n, ao, m, cap, items, st, cl, gs, lk⟩)))) ∧ Below w'.heap.size w' w2) := fun w' h h' => by
    have := same1_any ⟨kind, n, ao, m, cap, items, st, cl, gs, lk⟩ (usedV ⟨kind, n, ao, m, cap, items, st, cl, gs, lk⟩) w' h h'
    rw [usedV_pt] at this
    exact this
  have HPv : Hid (∀ W w', Pvt W ⟨kind, n, ao, m, cap, items, st, cl, gs, lk⟩ → Below W.heap.size W w' → Pvt w' ⟨kind, n, ao, m, cap, items, st, cl, gs, lk⟩) := fun W w' h hb => h.below hb
  clear hP
  generalize Ac.same1 (PV.pt ⟨kind, n, ao, m, cap, items, st, cl, gs, lk⟩) (Ac.usedP (PV.pt ⟨kind, n, ao, m, cap, items, st, cl, gs, lk⟩)) = sm at *
  generalize usedV ⟨kind, n, ao, m, cap, items, st, cl, gs, lk⟩ = u at *
  have HR : Hid (r = if e0 = 0 then (if sm then 0 else 4) else e0) := hr
  clear hr
  have HK : Hid (kind = 1 ∨ kind = 2 ∨ kind = 3) := hk
  clear hk
  rcases HK.out with h | h | h
  · subst h
    go_enter Tryz.func225, Tryz.ntmps225
    go_wp2_with fail
    change Calls Tryz.prog _ _ (boxp ⟨1, n, ao, m, cap, items, st, cl, gs, lk⟩ w) _
    refine CC.out.mono ?_
    rintro e w1 ⟨rfl, hb⟩
    have H2 : Hid (Below w.heap.size w w1) := H1.out.trans (hb.mono H1.out.size)
    obtain ⟨d0, d1, d2, d3, d4, d5, d6⟩ := HSV.out.below hb
    simp only [Nat.zero_add] at d0 d1 d2 d3 d4 d5 d6
    have HP1 := HPv.out _ _ HP.out hb
    have CU : Hid (∀ w', Below w1.heap.size w1 w' → Calls Tryz.prog 267 #[.agg #[.int .i64 1, .int .i64 n, .slice ao m cap, .int .i64 st, .int .i64 cl, .bool gs, .string lk]] w' fun e w2 => e = .returned (.agg #[.int .i64 u.kind, .int .i64 u.n, .slice u.ao u.m u.cap, .int .i64 u.set, .int .i64 u.clr, .bool u.goes, .string u.link]) ∧ Below w1.heap.size w1 w2) := fun w' hw => (CU0.out w').mono (fun e w2 ⟨he, hb⟩ => ⟨he, hw.trans (hb.mono hw.size)⟩)
    have CS : Hid (∀ w', Below w1.heap.size w1 w' → Calls Tryz.prog 162 #[.agg #[.int .i64 1, .int .i64 n, .slice ao m cap, .int .i64 st, .int .i64 cl, .bool gs, .string lk], .agg #[.int .i64 u.kind, .int .i64 u.n, .slice u.ao u.m u.cap, .int .i64 u.set, .int .i64 u.clr, .bool u.goes, .string u.link]] w' fun e w2 => e = .returned (.bool sm) ∧ Below w1.heap.size w1 w2) := fun w' hw => (CS0.out w' (HPv.out _ _ HP1 hw) (HU0.out _ (HPv.out _ _ HP1 hw))).mono (fun e w2 ⟨he, hb⟩ => ⟨he, hw.trans (hb.mono hw.size)⟩)
    clear hb HP1
    by_cases h0 : e0 = 0
    · subst h0
      have hr : r = if sm then 0 else 4 := HR.out
      clear HR
      cases sm
      all_goals
        first | (obtain rfl : r = 0 := hr) | (obtain rfl : r = 4 := hr)
        go_wp2_with fail
        go_region_held3 (fun w' => w'.cell? ⟨w.heap.size, 0, none⟩ = some (.int .i64 1) ∧ w'.cell? ⟨w.heap.size, 1, none⟩ = some (.int .i64 n) ∧ w'.cell? ⟨w.heap.size, 2, none⟩ = some (.slice ao m cap) ∧ w'.cell? ⟨w.heap.size, 3, none⟩ = some (.int .i64 st) ∧ w'.cell? ⟨w.heap.size, 4, none⟩ = some (.int .i64 cl) ∧ w'.cell? ⟨w.heap.size, 5, none⟩ = some (.bool gs) ∧ w'.cell? ⟨w.heap.size, 6, none⟩ = some (.string lk) ∧ Below w1.heap.size w1 w') (first | exact ⟨d0, d1, d2, d3, d4, d5, d6, (Below.refl _ _).drew⟩ | exact ⟨cell_below d0 (by assumption), cell_below d1 (by assumption), cell_below d2 (by assumption), cell_below d3 (by assumption), cell_below d4 (by assumption), cell_below d5 (by assumption), cell_below d6 (by assumption), by assumption⟩) (first | (go_at_call 267; refine (CU.out _ ?_).mono ?_; exact (by assumption : _ ∧ _ ∧ _ ∧ _ ∧ _ ∧ _ ∧ _ ∧ Below w1.heap.size w1 _).2.2.2.2.2.2.2; rintro e w4 ⟨rfl, hb⟩) | (go_at_call 162; refine (CS.out _ ?_).mono ?_; exact (by assumption : _ ∧ _ ∧ _ ∧ _ ∧ _ ∧ _ ∧ _ ∧ Below w1.heap.size w1 _).2.2.2.2.2.2.2; rintro e w4 ⟨rfl, hb⟩))
        have H4 : Hid (Below w.heap.size w w4) := H2.out.trans (hb.mono H2.out.size)
        clear hb
        go_wp2
        go_ret
        exact ⟨rfl, H4.out⟩
    · obtain rfl : r = e0 := by rw [HR.out, if_neg h0]
      have h0' : (r == 0) = false := by simp [h0]
      clear HR
      go_wp2
      go_quiet (fail)
      go_wp2
      go_ret
      exact ⟨rfl, H2.out.trans ((drewN_blw _ _).mono H2.out.size)⟩
  · subst h
    go_enter Tryz.func225, Tryz.ntmps225
    go_wp2_with fail
    change Calls Tryz.prog _ _ (boxp ⟨2, n, ao, m, cap, items, st, cl, gs, lk⟩ w) _
    refine CC.out.mono ?_
    rintro e w1 ⟨rfl, hb⟩
    have H2 : Hid (Below w.heap.size w w1) := H1.out.trans (hb.mono H1.out.size)
    obtain ⟨d0, d1, d2, d3, d4, d5, d6⟩ := HSV.out.below hb
    simp only [Nat.zero_add] at d0 d1 d2 d3 d4 d5 d6
    have HP1 := HPv.out _ _ HP.out hb
    have CU : Hid (∀ w', Below w1.heap.size w1 w' → Calls Tryz.prog 267 #[.agg #[.int .i64 2, .int .i64 n, .slice ao m cap, .int .i64 st, .int .i64 cl, .bool gs, .string lk]] w' fun e w2 => e = .returned (.agg #[.int .i64 u.kind, .int .i64 u.n, .slice u.ao u.m u.cap, .int .i64 u.set, .int .i64 u.clr, .bool u.goes, .string u.link]) ∧ Below w1.heap.size w1 w2) := fun w' hw => (CU0.out w').mono (fun e w2 ⟨he, hb⟩ => ⟨he, hw.trans (hb.mono hw.size)⟩)
    have CS : Hid (∀ w', Below w1.heap.size w1 w' → Calls Tryz.prog 162 #[.agg #[.int .i64 2, .int .i64 n, .slice ao m cap, .int .i64 st, .int .i64 cl, .bool gs, .string lk], .agg #[.int .i64 u.kind, .int .i64 u.n, .slice u.ao u.m u.cap, .int .i64 u.set, .int .i64 u.clr, .bool u.goes, .string u.link]] w' fun e w2 => e = .returned (.bool sm) ∧ Below w1.heap.size w1 w2) := fun w' hw => (CS0.out w' (HPv.out _ _ HP1 hw) (HU0.out _ (HPv.out _ _ HP1 hw))).mono (fun e w2 ⟨he, hb⟩ => ⟨he, hw.trans (hb.mono hw.size)⟩)
    clear hb HP1
    by_cases h0 : e0 = 0
    · subst h0
      have hr : r = if sm then 0 else 4 := HR.out
      clear HR
      cases sm
      all_goals
        first | (obtain rfl : r = 0 := hr) | (obtain rfl : r = 4 := hr)
        go_wp2_with fail
        go_region_held3 (fun w' => w'.cell? ⟨w.heap.size, 0, none⟩ = some (.int .i64 2) ∧ w'.cell? ⟨w.heap.size, 1, none⟩ = some (.int .i64 n) ∧ w'.cell? ⟨w.heap.size, 2, none⟩ = some (.slice ao m cap) ∧ w'.cell? ⟨w.heap.size, 3, none⟩ = some (.int .i64 st) ∧ w'.cell? ⟨w.heap.size, 4, none⟩ = some (.int .i64 cl) ∧ w'.cell? ⟨w.heap.size, 5, none⟩ = some (.bool gs) ∧ w'.cell? ⟨w.heap.size, 6, none⟩ = some (.string lk) ∧ Below w1.heap.size w1 w') (first | exact ⟨d0, d1, d2, d3, d4, d5, d6, (Below.refl _ _).drew⟩ | exact ⟨cell_below d0 (by assumption), cell_below d1 (by assumption), cell_below d2 (by assumption), cell_below d3 (by assumption), cell_below d4 (by assumption), cell_below d5 (by assumption), cell_below d6 (by assumption), by assumption⟩) (first | (go_at_call 267; refine (CU.out _ ?_).mono ?_; exact (by assumption : _ ∧ _ ∧ _ ∧ _ ∧ _ ∧ _ ∧ _ ∧ Below w1.heap.size w1 _).2.2.2.2.2.2.2; rintro e w4 ⟨rfl, hb⟩) | (go_at_call 162; refine (CS.out _ ?_).mono ?_; exact (by assumption : _ ∧ _ ∧ _ ∧ _ ∧ _ ∧ _ ∧ _ ∧ Below w1.heap.size w1 _).2.2.2.2.2.2.2; rintro e w4 ⟨rfl, hb⟩))
        have H4 : Hid (Below w.heap.size w w4) := H2.out.trans (hb.mono H2.out.size)
        clear hb
        go_wp2
        go_ret
        exact ⟨rfl, H4.out⟩
    · obtain rfl : r = e0 := by rw [HR.out, if_neg h0]
      have h0' : (r == 0) = false := by simp [h0]
      clear HR
      go_wp2
      go_quiet (fail)
      go_wp2
      go_ret
      exact ⟨rfl, H2.out.trans ((drewN_blw _ _).mono H2.out.size)⟩
  · subst h
    go_enter Tryz.func225, Tryz.ntmps225
    go_wp2_with fail
    change Calls Tryz.prog _ _ (boxp ⟨3, n, ao, m, cap, items, st, cl, gs, lk⟩ w) _
    refine CC.out.mono ?_
    rintro e w1 ⟨rfl, hb⟩
    have H2 : Hid (Below w.heap.size w w1) := H1.out.trans (hb.mono H1.out.size)
    obtain ⟨d0, d1, d2, d3, d4, d5, d6⟩ := HSV.out.below hb
    simp only [Nat.zero_add] at d0 d1 d2 d3 d4 d5 d6
    have HP1 := HPv.out _ _ HP.out hb
    have CU : Hid (∀ w', Below w1.heap.size w1 w' → Calls Tryz.prog 267 #[.agg #[.int .i64 3, .int .i64 n, .slice ao m cap, .int .i64 st, .int .i64 cl, .bool gs, .string lk]] w' fun e w2 => e = .returned (.agg #[.int .i64 u.kind, .int .i64 u.n, .slice u.ao u.m u.cap, .int .i64 u.set, .int .i64 u.clr, .bool u.goes, .string u.link]) ∧ Below w1.heap.size w1 w2) := fun w' hw => (CU0.out w').mono (fun e w2 ⟨he, hb⟩ => ⟨he, hw.trans (hb.mono hw.size)⟩)
    have CS : Hid (∀ w', Below w1.heap.size w1 w' → Calls Tryz.prog 162 #[.agg #[.int .i64 3, .int .i64 n, .slice ao m cap, .int .i64 st, .int .i64 cl, .bool gs, .string lk], .agg #[.int .i64 u.kind, .int .i64 u.n, .slice u.ao u.m u.cap, .int .i64 u.set, .int .i64 u.clr, .bool u.goes, .string u.link]] w' fun e w2 => e = .returned (.bool sm) ∧ Below w1.heap.size w1 w2) := fun w' hw => (CS0.out w' (HPv.out _ _ HP1 hw) (HU0.out _ (HPv.out _ _ HP1 hw))).mono (fun e w2 ⟨he, hb⟩ => ⟨he, hw.trans (hb.mono hw.size)⟩)
    clear hb HP1
    by_cases h0 : e0 = 0
    · subst h0
      have hr : r = if sm then 0 else 4 := HR.out
      clear HR
      cases sm
      all_goals
        first | (obtain rfl : r = 0 := hr) | (obtain rfl : r = 4 := hr)
        go_wp2_with fail
        go_region_held3 (fun w' => w'.cell? ⟨w.heap.size, 0, none⟩ = some (.int .i64 3) ∧ w'.cell? ⟨w.heap.size, 1, none⟩ = some (.int .i64 n) ∧ w'.cell? ⟨w.heap.size, 2, none⟩ = some (.slice ao m cap) ∧ w'.cell? ⟨w.heap.size, 3, none⟩ = some (.int .i64 st) ∧ w'.cell? ⟨w.heap.size, 4, none⟩ = some (.int .i64 cl) ∧ w'.cell? ⟨w.heap.size, 5, none⟩ = some (.bool gs) ∧ w'.cell? ⟨w.heap.size, 6, none⟩ = some (.string lk) ∧ Below w1.heap.size w1 w') (first | exact ⟨d0, d1, d2, d3, d4, d5, d6, (Below.refl _ _).drew⟩ | exact ⟨cell_below d0 (by assumption), cell_below d1 (by assumption), cell_below d2 (by assumption), cell_below d3 (by assumption), cell_below d4 (by assumption), cell_below d5 (by assumption), cell_below d6 (by assumption), by assumption⟩) (first | (go_at_call 267; refine (CU.out _ ?_).mono ?_; exact (by assumption : _ ∧ _ ∧ _ ∧ _ ∧ _ ∧ _ ∧ _ ∧ Below w1.heap.size w1 _).2.2.2.2.2.2.2; rintro e w4 ⟨rfl, hb⟩) | (go_at_call 162; refine (CS.out _ ?_).mono ?_; exact (by assumption : _ ∧ _ ∧ _ ∧ _ ∧ _ ∧ _ ∧ _ ∧ Below w1.heap.size w1 _).2.2.2.2.2.2.2; rintro e w4 ⟨rfl, hb⟩))
        have H4 : Hid (Below w.heap.size w w4) := H2.out.trans (hb.mono H2.out.size)
        clear hb
        go_wp2
        go_ret
        exact ⟨rfl, H4.out⟩
    · obtain rfl : r = e0 := by rw [HR.out, if_neg h0]
      have h0' : (r == 0) = false := by simp [h0]
      clear HR
      go_wp2
      go_quiet (fail)
      go_wp2
      go_ret
      exact ⟨rfl, H2.out.trans ((drewN_blw _ _).mono H2.out.size)⟩
end Go.Proofs.YtbhcklkbckacpaaGreatDoor

/-
  Package op: Check, of whatever operation.
-/
namespace Go.Proofs.YtbhcklkbckacpaaGreatDoor
open Go.RowKit
namespace Ac
theorem says_nil {p q : Pt} (h : same1 p q = true) : p.n = q.n := by
  unfold same1 at h
  simp only [Bool.and_eq_true, beq_iff_eq] at h
  exact h.2.1
theorem err1_0 {p : Pt} (h : err1 p = 0) : err0 p = 0 ∧ same1 p (usedP p) = true := by
  unfold err1 at h
  by_cases h0 : err0 p = 0
  · rw [if_pos h0] at h
    refine ⟨h0, ?_⟩
    cases hs : same1 p (usedP p)
    · rw [hs] at h; cases h
    · rfl
  · rw [if_neg h0] at h
    exact absurd h h0
theorem errN_0 {n : Int} (h : errN n = 0) : 1 ≤ n ∧ n ≤ 80 := by
  unfold errN at h
  by_cases hh : n < 1 ∨ 80 < n
  · rw [if_pos hh] at h; cases h
  · omega
theorem errK_0 {p : Pt} (h : errK p = 0) : marksBad p.set p.clr = false ∧ linkBad p.goes p.link = false ∧ errN p.n = 0 := by
  unfold errK at h
  cases h1 : marksBad p.set p.clr
  · rw [h1] at h
    cases h2 : linkBad p.goes p.link
    · rw [h2] at h; exact ⟨rfl, rfl, h⟩
    · rw [h2] at h; cases h
  · rw [h1] at h; cases h
theorem err0_kind {p : Pt} (h : err0 p = 0) : p.kind = 1 ∧ errK p = 0 ∨ p.kind = 2 ∧ errPut p.items = 0 ∨ p.kind = 3 ∧ errN p.n = 0 := by
  unfold err0 at h
  by_cases h1 : p.kind = 1
  · rw [if_pos h1] at h; exact .inl ⟨h1, h⟩
  · rw [if_neg h1] at h
    by_cases h2 : p.kind = 2
    · rw [if_pos h2] at h; exact .inr (.inl ⟨h2, h⟩)
    · rw [if_neg h2] at h
      by_cases h3 : p.kind = 3
      · rw [if_pos h3] at h; exact .inr (.inr ⟨h3, h⟩)
      · rw [if_neg h3] at h; cases h
theorem err1_n {p : Pt} (h : err1 p = 0) : 0 ≤ p.n ∧ p.n ≤ 80 := by
  obtain ⟨h0, hs⟩ := err1_0 h
  rcases err0_kind h0 with ⟨_, hk⟩ | ⟨hk, _⟩ | ⟨_, hn⟩
  · have := errN_0 (errK_0 hk).2.2; omega
  · have hn := says_nil hs
    unfold usedP at hn
    rw [if_neg (by omega), if_pos hk] at hn
    simp only at hn
    omega
  · have := errN_0 hn; omega
theorem chks_step (z : Int) (o : List Pt) (k : Nat) (h : k < o.length) : chks z (o.drop k) = if err1 o[k] = 0 then (if 80 < z + o[k].n then 2 else chks (z + o[k].n) (o.drop (k + 1))) else err1 o[k] := by
  rw [List.drop_eq_getElem_cons h, chks]
theorem chk_many {o : List Pt} (h : o.length < 1 ∨ 40 < o.length) : chk o = 2 := by unfold chk; rw [if_pos h]
theorem chk_bad {o : List Pt} (h : ¬ (o.length < 1 ∨ 40 < o.length)) (h0 : ¬ chks 0 o = 0) : chk o = chks 0 o := by unfold chk; rw [if_neg h, if_neg h0]
theorem chk_last {o : List Pt} {j : Nat} (h : ¬ (o.length < 1 ∨ 40 < o.length)) (h0 : chks 0 o = 0) (hj : j < o.length) (hl : o.length = j + 1) : chk o = if o[j].kind = 1 then 0 else 4 := by
  unfold chk
  rw [if_neg h, if_pos h0, List.getLast?_eq_getElem?, show o.length - 1 = j by omega, List.getElem?_eq_getElem hj]
end Ac

set_option maxRecDepth 100000 in
set_option maxHeartbeats 1600000 in
theorem chP_any (v : PV) (w : World) (hP : Pvt w v) (hS : Sch w) : Calls Tryz.prog 225 #[.agg #[.int .i64 v.kind, .int .i64 v.n, .slice v.ao v.m v.cap, .int .i64 v.set, .int .i64 v.clr, .bool v.goes, .string v.link]] w fun e w' => e = .returned (.int .i64 (Ac.err1 v.pt)) ∧ Below w.heap.size w w' := by
  obtain ⟨kind, n, ao, m, cap, items, st, cl, gs, lk⟩ := v
  have hb := boxp_below ⟨kind, n, ao, m, cap, items, st, cl, gs, lk⟩ w
  by_cases h1 : kind = 1
  · subst h1
    exact chP_rest 1 n ao m cap items st cl gs lk w (Ac.errK (PV.pt ⟨1, n, ao, m, cap, items, st, cl, gs, lk⟩)) _ (.inl rfl) (chK_any ⟨1, n, ao, m, cap, items, st, cl, gs, lk⟩ _ hP.fit (hS.below hb)) hP rfl
  · by_cases h2 : kind = 2
    · subst h2
      exact chP_rest 2 n ao m cap items st cl gs lk w (Ac.errPut items) _ (.inr (.inl rfl)) (chPut_any ao m cap items _ (hP.doc.below hb) (hS.below hb)) hP rfl
    · by_cases h3 : kind = 3
      · subst h3
        exact chP_rest 3 n ao m cap items st cl gs lk w (Ac.errN n) _ (.inr (.inr rfl)) ((chN_any n _).mono (fun e w' ⟨he, hw⟩ => ⟨he, by rw [hw]; exact Below.refl _ _⟩)) hP rfl
      · have e4 : Ac.err1 (PV.pt ⟨kind, n, ao, m, cap, items, st, cl, gs, lk⟩) = 4 := by
          have : Ac.err0 (PV.pt ⟨kind, n, ao, m, cap, items, st, cl, gs, lk⟩) = 4 := by show (if kind = 1 then _ else if kind = 2 then _ else if kind = 3 then _ else (4 : Int)) = 4; rw [if_neg h1, if_neg h2, if_neg h3]
          unfold Ac.err1
          rw [this]
          rfl
        rw [e4]
        have H1 : Hid (Below w.heap.size w (boxp ⟨kind, n, ao, m, cap, items, st, cl, gs, lk⟩ w)) := hb
        have k1 : (kind == 1) = false := by simp [h1]
        have k2 : (kind == 2) = false := by simp [h2]
        have k3 : (kind == 3) = false := by simp [h3]
        clear e4 hb hP hS h1 h2 h3
        go_enter Tryz.func225, Tryz.ntmps225
        go_wp2
        go_quiet (fail)
        go_wp2
        go_ret
        exact ⟨rfl, H1.out.trans ((drewN_blw _ _).mono H1.out.size)⟩

set_option maxRecDepth 100000 in
set_option maxHeartbeats 3200000 in
theorem chk_any (ao : Option Addr) (n cap : Nat) (vs : List PV) (w : World) (hO : Ops w ao n cap vs) (hS : Sch w) :
    Calls Tryz.prog 160 #[.slice ao n cap] w fun e w' => e = .returned (.int .i64 (Ac.chk (vs.map PV.pt))) ∧ Below w.heap.size w w' := by
  have HO : Hid (Ops w ao n cap vs) := hO
  have hlen : (vs.map PV.pt).length = n := by rw [List.length_map]; exact hO.len
  have HN : Hid ((vs.map PV.pt).length = n) := hlen
  have hcap := hO.row.room
  have hbig := hO.row.big
  have CP : Hid (∀ v ∈ vs, ∀ w', Below w.heap.size w w' → Calls Tryz.prog 225 #[.agg #[.int .i64 v.kind, .int .i64 v.n, .slice v.ao v.m v.cap, .int .i64 v.set, .int .i64 v.clr, .bool v.goes, .string v.link]] w' fun e w'' => e = .returned (.int .i64 (Ac.err1 v.pt)) ∧ Below w'.heap.size w' w'') := fun v hv w' hw => chP_any v w' ((hO.pts v hv).below hw) (hS.below hw)
  clear hO hlen hS
  obtain ⟨r, hr⟩ : ∃ r, Ac.chk (vs.map PV.pt) = r := ⟨_, rfl⟩
  have HR : Hid (Ac.chk (vs.map PV.pt) = r) := hr
  rw [hr]
  clear hr
  by_cases h1 : n < 1
  · obtain rfl : r = 2 := HR.out.symm.trans (Ac.chk_many (by rw [HN.out]; exact .inl h1))
    obtain rfl : n = 0 := by omega
    clear HR CP
    go_enter Tryz.func160, Tryz.ntmps160
    go_wp2
    go_ret
    exact ⟨rfl, Below.refl _ _⟩
  · by_cases h2 : 40 < n
    · obtain rfl : r = 2 := HR.out.symm.trans (Ac.chk_many (by rw [HN.out]; exact .inr h2))
      clear HR CP
      go_enter Tryz.func160, Tryz.ntmps160
      go_wp2
      go_ret
      exact ⟨rfl, Below.refl _ _⟩
    · have HM : Hid (¬ ((vs.map PV.pt).length < 1 ∨ 40 < (vs.map PV.pt).length)) := by show ¬ _; rw [HN.out]; omega
      obtain ⟨b, off, rfl, hG⟩ := HO.out.get (by omega)
      have HG : Hid (∀ i (hi : i < vs.length), Seven w b (off + i * 7) vs[i]) := hG
      clear hG
      go_enter Tryz.func160, Tryz.ntmps160
      go_wp2
      go_loopw [3, 17] (fun s i wr => ∃ k : Nat, ∃ z : Int, k ≤ n ∧ i = .int .i64 k ∧ s = .int .i64 z ∧ 0 ≤ z ∧ z ≤ 80 ∧ Below w.heap.size w wr ∧ Ac.chks 0 (vs.map PV.pt) = Ac.chks z ((vs.map PV.pt).drop k)) (fun _ i _ => n - (intOf i).toNat)
      case atStart => exact ⟨0, 0, Nat.zero_le _, rfl, rfl, by decide, by decide, Below.refl _ _, rfl⟩
      case round =>
        obtain ⟨k, z, hk, rfl, rfl, hz0, hz1, hbr, hch⟩ := hrel
        have HE : Hid (Ac.chks 0 (vs.map PV.pt) = Ac.chks z ((vs.map PV.pt).drop k)) := hch
        have HBR : Hid (Below w.heap.size w wr) := hbr
        clear hch hbr
        by_cases hlt : k < n
        · have hkl : k < (vs.map PV.pt).length := by rw [HN.out]; exact hlt
          have hkv : k < vs.length := by rw [List.length_map] at hkl; exact hkl
          have HX : Hid (Ac.chks z ((vs.map PV.pt).drop k) = if Ac.err1 vs[k].pt = 0 then (if 80 < z + vs[k].n then 2 else Ac.chks (z + vs[k].n) ((vs.map PV.pt).drop (k + 1))) else Ac.err1 vs[k].pt) := by
            have := Ac.chks_step z _ k hkl
            rw [List.getElem_map] at this
            exact this
          obtain ⟨c0, c1, c2, c3, c4, c5, c6⟩ := (HG.out k hkv).below HBR.out
          have CP1 : Hid (∀ w', Below w.heap.size w w' → Calls Tryz.prog 225 #[.agg #[.int .i64 vs[k].kind, .int .i64 vs[k].n, .slice vs[k].ao vs[k].m vs[k].cap, .int .i64 vs[k].set, .int .i64 vs[k].clr, .bool vs[k].goes, .string vs[k].link]] w' fun e w'' => e = .returned (.int .i64 (Ac.err1 vs[k].pt)) ∧ Below w'.heap.size w' w'') := CP.out vs[k] (List.getElem_mem hkv)
          have HB1 : Hid (Below w.heap.size w (boxp vs[k] wr)) := HBR.out.trans ((boxp_below _ wr).mono HBR.out.size)
          have HSV : Hid (Seven (boxp vs[k] wr) wr.heap.size 0 vs[k]) := boxp_at _ wr
          clear hkl
          generalize vs[k] = v at *
          clear hkv
          go_wp2_with fail
          change Calls Tryz.prog 225 _ (boxp v wr) _
          refine (CP1.out _ HB1.out).mono ?_
          rintro e w1 ⟨rfl, hb⟩
          have H2 : Hid (Below w.heap.size w w1) := HB1.out.trans (hb.mono HB1.out.size)
          have d1 : w1.cell? ⟨wr.heap.size, 1, none⟩ = some (.int .i64 v.n) := (HSV.out.below hb).c1
          clear hb c0 c1 c2 c3 c4 c5 c6
          by_cases h0 : Ac.err1 v.pt = 0
          · have hvn : 0 ≤ v.n ∧ v.n ≤ 80 := Ac.err1_n h0
            have HX2 : Hid (Ac.chks z ((vs.map PV.pt).drop k) = if 80 < z + v.n then 2 else Ac.chks (z + v.n) ((vs.map PV.pt).drop (k + 1))) := by show _ = _; rw [HX.out, if_pos h0]
            rw [h0]
            clear h0 HX
            obtain ⟨vn0, vn1⟩ := hvn
            generalize v.n = q at *
            by_cases h80 : 80 < z + q
            · obtain rfl : r = 2 := by
                rw [← HR.out, Ac.chk_bad HM.out (by rw [HE.out, HX2.out, if_pos h80]; decide), HE.out, HX2.out, if_pos h80]
              go_wp2
              go_ret
              exact ⟨rfl, H2.out⟩
            · have HX3 : Hid (Ac.chks 0 (vs.map PV.pt) = Ac.chks (z + q) ((vs.map PV.pt).drop (k + 1))) := by show _ = _; rw [HE.out, HX2.out, if_neg h80]
              go_wp2
              go_roundw
              case rel => exact ⟨k + 1, z + q, by omega, by go_num, by go_num, by omega, by omega, H2.out, HX3.out⟩
              case measure => simp [intOf]; omega
          · have hrr : Ac.err1 v.pt = r := by
              rw [← HR.out, Ac.chk_bad HM.out (by rw [HE.out, HX.out, if_neg h0]; exact h0), HE.out, HX.out, if_neg h0]
            rw [hrr] at h0 ⊢
            clear HR HX hrr
            go_wp2
            go_ret
            exact ⟨rfl, H2.out⟩
        · have hkn : k = n := by omega
          have hc0 : Ac.chks 0 (vs.map PV.pt) = 0 := by rw [HE.out, List.drop_eq_nil_of_le (by rw [HN.out]; omega)]; rfl
          obtain ⟨j, rfl⟩ : ∃ j, n = j + 1 := ⟨n - 1, by omega⟩
          have hjl : j < (vs.map PV.pt).length := by rw [HN.out]; omega
          have hjv : j < vs.length := by rw [List.length_map] at hjl; exact hjl
          have hrl := HR.out.symm.trans (Ac.chk_last HM.out hc0 hjl HN.out)
          rw [List.getElem_map] at hrl
          have cj := ((HG.out j hjv).below HBR.out).c0
          change r = if vs[j].kind = 1 then 0 else 4 at hrl
          generalize vs[j].kind = kd at *
          subst hkn
          clear hjl hjv hc0 HR HE
          by_cases hk1 : kd = 1
          · obtain rfl : r = 0 := by rw [hrl, if_pos hk1]
            subst hk1
            clear hrl
            go_wp2
            go_ret
            exact ⟨rfl, HBR.out⟩
          · obtain rfl : r = 4 := by rw [hrl, if_neg hk1]
            have hk1' : (kd != 1) = true := by simp [hk1]
            clear hrl
            go_wp2
            go_ret
            exact ⟨rfl, HBR.out⟩
end Go.Proofs.YtbhcklkbckacpaaGreatDoor

/-
  Package op: Long and Same, of whatever operations; the reference's SameOp.
-/
namespace Go.Proofs.YtbhcklkbckacpaaGreatDoor
open Go.RowKit

set_option maxRecDepth 100000 in
set_option maxHeartbeats 3200000 in
theorem long_any (ao : Option Addr) (n cap : Nat) (vs : List PV) (w : World) (hO : Ops w ao n cap vs) :
    Calls Tryz.prog 222 #[.slice ao n cap] w fun e w' => e = .returned (.tuple #[.int .i64 (Ac.lf (vs.map PV.pt)), .int .i64 (Ac.lt (vs.map PV.pt))]) ∧ Below w.heap.size w w' := by
  have HO : Hid (Ops w ao n cap vs) := hO
  have HN : Hid (vs.length = n) := hO.len
  have hcap := hO.row.room
  have hbig := hO.row.big
  clear hO
  obtain ⟨A, hA⟩ : ∃ A, Ac.lf (vs.map PV.pt) = A := ⟨_, rfl⟩
  obtain ⟨C, hC⟩ : ∃ C, Ac.lt (vs.map PV.pt) = C := ⟨_, rfl⟩
  have HA : Hid (Ac.lf (vs.map PV.pt) = A) := hA
  have HC : Hid (Ac.lt (vs.map PV.pt) = C) := hC
  rw [hA, hC]
  clear hA hC
  go_enter Tryz.func222, Tryz.ntmps222
  go_wp2
  go_loopw [2, 3, 8] (fun f t i wr => ∃ k : Nat, k ≤ n ∧ i = .int .i64 k ∧ f = .int .i64 (((vs.map PV.pt).take k).foldl Ac.lfS 0) ∧ t = .int .i64 (((vs.map PV.pt).take k).foldl Ac.ltS 0) ∧ Below w.heap.size w wr) (fun _ _ i _ => n - (intOf i).toNat)
  case atStart => exact ⟨0, Nat.zero_le _, rfl, rfl, rfl, Below.refl _ _⟩
  case round =>
    obtain ⟨k, hk, rfl, rfl, rfl, hbr⟩ := hrel
    have HBR : Hid (Below w.heap.size w wr) := hbr
    clear hbr
    by_cases hlt : k < n
    · obtain ⟨b, off, rfl, hG⟩ := HO.out.get (by omega)
      have hkv : k < vs.length := by rw [HN.out]; exact hlt
      have htk : (vs.map PV.pt).take (k + 1) = (vs.map PV.pt).take k ++ [vs[k].pt] := by
        rw [List.take_succ_eq_append_getElem (by rw [List.length_map]; exact hkv), List.getElem_map]
      have HF : Hid (((vs.map PV.pt).take (k + 1)).foldl Ac.lfS 0 = Ac.lfS (((vs.map PV.pt).take k).foldl Ac.lfS 0) vs[k].pt) := by show _ = _; rw [htk, List.foldl_append]; rfl
      have HT : Hid (((vs.map PV.pt).take (k + 1)).foldl Ac.ltS 0 = Ac.ltS (((vs.map PV.pt).take k).foldl Ac.ltS 0) vs[k].pt) := by show _ = _; rw [htk, List.foldl_append]; rfl
      have HL : Hid (vs[k].items.length = vs[k].m) := (HO.out.pts _ (List.getElem_mem hkv)).doc.len
      obtain ⟨c0, c1, c2, c3, c4, c5, c6⟩ := (hG k hkv).below HBR.out
      clear hG htk
      generalize ((vs.map PV.pt).take k).foldl Ac.lfS 0 = f at *
      generalize ((vs.map PV.pt).take k).foldl Ac.ltS 0 = t at *
      generalize vs[k] = v at *
      obtain ⟨kind, q, vo, m, vcap, items, st, cl, gs, lk⟩ := v
      simp only at c0 c1 c2 c3 c4 c5 c6
      clear hkv
      have HB1 : Hid (Below w.heap.size w (boxp ⟨kind, q, vo, m, vcap, items, st, cl, gs, lk⟩ wr)) := HBR.out.trans ((boxp_below _ wr).mono HBR.out.size)
      by_cases h1 : kind = 1
      · subst h1
        go_wp2
        go_roundw
        case rel => exact ⟨k + 1, by omega, by go_num, by rw [HF.out]; rfl, by rw [HT.out]; rfl, HB1.out⟩
        case measure => simp [intOf]; omega
      · have k1 : (kind == 1) = false := by simp [h1]
        by_cases h2 : kind = 2
        · subst h2
          clear h1
          go_wp2
          go_roundw
          case rel => exact ⟨k + 1, by omega, by go_num, by rw [HF.out]; rfl, by have hl : items.length = m := HL.out; rw [HT.out]; show _ = Value.int .i64 (wrap64 (t + (items.length : Int))); rw [hl], HB1.out⟩
          case measure => simp [intOf]; omega
        · have k2 : (kind == 2) = false := by simp [h2]
          by_cases h3 : kind = 3
          · subst h3
            clear h1 h2
            go_wp2
            go_roundw
            case rel => exact ⟨k + 1, by omega, by go_num, by rw [HF.out]; rfl, by rw [HT.out]; rfl, HB1.out⟩
            case measure => simp [intOf]; omega
          · have k3 : (kind == 3) = false := by simp [h3]
            have e1 : Ac.lfS f (PV.pt ⟨kind, q, vo, m, vcap, items, st, cl, gs, lk⟩) = f := if_neg (fun h => h.elim h1 h3)
            have e2 : Ac.ltS t (PV.pt ⟨kind, q, vo, m, vcap, items, st, cl, gs, lk⟩) = t := (if_neg h1).trans (if_neg h2)
            rw [e1] at HF
            rw [e2] at HT
            clear h1 h2 h3 e1 e2
            go_wp2
            go_roundw
            case rel => exact ⟨k + 1, by omega, by go_num, by rw [HF.out], by rw [HT.out], HB1.out⟩
            case measure => simp [intOf]; omega
    · have hkn : k = n := by omega
      have e1 : ((vs.map PV.pt).take k).foldl Ac.lfS 0 = A := by rw [List.take_of_length_le (by rw [List.length_map, HN.out]; omega)]; exact HA.out
      have e2 : ((vs.map PV.pt).take k).foldl Ac.ltS 0 = C := by rw [List.take_of_length_le (by rw [List.length_map, HN.out]; omega)]; exact HC.out
      rw [e1, e2]
      clear e1 e2
      subst hkn
      go_wp2
      go_ret2
      exact ⟨rfl, HBR.out⟩

set_option maxRecDepth 100000 in
set_option maxHeartbeats 3200000 in
theorem LongOf_any (ao : Option Addr) (n cap : Nat) (vs : List PV) (w : World) (hO : Ops w ao n cap vs) :
    Calls Tryz.prog 157 #[.slice ao n cap] w fun e w' => e = .returned (.tuple #[.int .i64 (Ac.lf (vs.map PV.pt)), .int .i64 (Ac.lt (vs.map PV.pt))]) ∧ Below w.heap.size w w' := by
  have HO : Hid (Ops w ao n cap vs) := hO
  have HN : Hid (vs.length = n) := hO.len
  have hcap := hO.row.room
  have hbig := hO.row.big
  clear hO
  obtain ⟨A, hA⟩ : ∃ A, Ac.lf (vs.map PV.pt) = A := ⟨_, rfl⟩
  obtain ⟨C, hC⟩ : ∃ C, Ac.lt (vs.map PV.pt) = C := ⟨_, rfl⟩
  have HA : Hid (Ac.lf (vs.map PV.pt) = A) := hA
  have HC : Hid (Ac.lt (vs.map PV.pt) = C) := hC
  rw [hA, hC]
  clear hA hC
  go_enter Tryz.func157, Tryz.ntmps157
  go_wp2
  go_loopw [2, 3, 8] (fun f t i wr => ∃ k : Nat, k ≤ n ∧ i = .int .i64 k ∧ f = .int .i64 (((vs.map PV.pt).take k).foldl Ac.lfS 0) ∧ t = .int .i64 (((vs.map PV.pt).take k).foldl Ac.ltS 0) ∧ Below w.heap.size w wr) (fun _ _ i _ => n - (intOf i).toNat)
  case atStart => exact ⟨0, Nat.zero_le _, rfl, rfl, rfl, Below.refl _ _⟩
  case round =>
    obtain ⟨k, hk, rfl, rfl, rfl, hbr⟩ := hrel
    have HBR : Hid (Below w.heap.size w wr) := hbr
    clear hbr
    by_cases hlt : k < n
    · obtain ⟨b, off, rfl, hG⟩ := HO.out.get (by omega)
      have hkv : k < vs.length := by rw [HN.out]; exact hlt
      have htk : (vs.map PV.pt).take (k + 1) = (vs.map PV.pt).take k ++ [vs[k].pt] := by
        rw [List.take_succ_eq_append_getElem (by rw [List.length_map]; exact hkv), List.getElem_map]
      have HF : Hid (((vs.map PV.pt).take (k + 1)).foldl Ac.lfS 0 = Ac.lfS (((vs.map PV.pt).take k).foldl Ac.lfS 0) vs[k].pt) := by show _ = _; rw [htk, List.foldl_append]; rfl
      have HT : Hid (((vs.map PV.pt).take (k + 1)).foldl Ac.ltS 0 = Ac.ltS (((vs.map PV.pt).take k).foldl Ac.ltS 0) vs[k].pt) := by show _ = _; rw [htk, List.foldl_append]; rfl
      have HL : Hid (vs[k].items.length = vs[k].m) := (HO.out.pts _ (List.getElem_mem hkv)).doc.len
      obtain ⟨c0, c1, c2, c3, c4, c5, c6⟩ := (hG k hkv).below HBR.out
      clear hG htk
      generalize ((vs.map PV.pt).take k).foldl Ac.lfS 0 = f at *
      generalize ((vs.map PV.pt).take k).foldl Ac.ltS 0 = t at *
      generalize vs[k] = v at *
      obtain ⟨kind, q, vo, m, vcap, items, st, cl, gs, lk⟩ := v
      simp only at c0 c1 c2 c3 c4 c5 c6
      clear hkv
      have HB1 : Hid (Below w.heap.size w (boxp ⟨kind, q, vo, m, vcap, items, st, cl, gs, lk⟩ wr)) := HBR.out.trans ((boxp_below _ wr).mono HBR.out.size)
      by_cases h1 : kind = 1
      · subst h1
        go_wp2
        go_roundw
        case rel => exact ⟨k + 1, by omega, by go_num, by rw [HF.out]; rfl, by rw [HT.out]; rfl, HB1.out⟩
        case measure => simp [intOf]; omega
      · have k1 : (kind == 1) = false := by simp [h1]
        by_cases h2 : kind = 2
        · subst h2
          clear h1
          go_wp2
          go_roundw
          case rel => exact ⟨k + 1, by omega, by go_num, by rw [HF.out]; rfl, by have hl : items.length = m := HL.out; rw [HT.out]; show _ = Value.int .i64 (wrap64 (t + (items.length : Int))); rw [hl], HB1.out⟩
          case measure => simp [intOf]; omega
        · have k2 : (kind == 2) = false := by simp [h2]
          by_cases h3 : kind = 3
          · subst h3
            clear h1 h2
            go_wp2
            go_roundw
            case rel => exact ⟨k + 1, by omega, by go_num, by rw [HF.out]; rfl, by rw [HT.out]; rfl, HB1.out⟩
            case measure => simp [intOf]; omega
          · have k3 : (kind == 3) = false := by simp [h3]
            have e1 : Ac.lfS f (PV.pt ⟨kind, q, vo, m, vcap, items, st, cl, gs, lk⟩) = f := if_neg (fun h => h.elim h1 h3)
            have e2 : Ac.ltS t (PV.pt ⟨kind, q, vo, m, vcap, items, st, cl, gs, lk⟩) = t := (if_neg h1).trans (if_neg h2)
            rw [e1] at HF
            rw [e2] at HT
            clear h1 h2 h3 e1 e2
            go_wp2
            go_roundw
            case rel => exact ⟨k + 1, by omega, by go_num, by rw [HF.out], by rw [HT.out], HB1.out⟩
            case measure => simp [intOf]; omega
    · have hkn : k = n := by omega
      have e1 : ((vs.map PV.pt).take k).foldl Ac.lfS 0 = A := by rw [List.take_of_length_le (by rw [List.length_map, HN.out]; omega)]; exact HA.out
      have e2 : ((vs.map PV.pt).take k).foldl Ac.ltS 0 = C := by rw [List.take_of_length_le (by rw [List.length_map, HN.out]; omega)]; exact HC.out
      rw [e1, e2]
      clear e1 e2
      subst hkn
      go_wp2
      go_ret2
      exact ⟨rfl, HBR.out⟩
end Go.Proofs.YtbhcklkbckacpaaGreatDoor

/-
  The reference's SameOp, and op.Same, of whatever operations.
-/
namespace Go.Proofs.YtbhcklkbckacpaaGreatDoor
open Go.RowKit

set_option maxRecDepth 100000 in
set_option maxHeartbeats 3200000 in
theorem sameR_any (a b : PV) (w : World) (ha : Pvt w a) (hb : Pvt w b) : Calls Tryz.prog 163 #[.agg #[.int .i64 a.kind, .int .i64 a.n, .slice a.ao a.m a.cap, .int .i64 a.set, .int .i64 a.clr, .bool a.goes, .string a.link], .agg #[.int .i64 b.kind, .int .i64 b.n, .slice b.ao b.m b.cap, .int .i64 b.set, .int .i64 b.clr, .bool b.goes, .string b.link]] w fun e w' => e = .returned (.bool (Ac.same1 a.pt b.pt)) ∧ Below w.heap.size w w' := by
  have H1 : Hid (Below w.heap.size w (boxp b (boxp a w))) := boxp2_below a b w
  have CE : Hid (Calls Tryz.prog 164 #[.slice a.ao a.m a.cap, .slice b.ao b.m b.cap] (boxp b (boxp a w)) fun e w' => e = .returned (.bool (Dc.same a.items b.items)) ∧ ∃ m, w' = (boxp b (boxp a w)).drewN m) := equalI_any _ _ _ _ _ _ _ _ _ (ha.doc.below H1.out) (hb.doc.below H1.out)
  clear ha hb
  obtain ⟨r, hr⟩ : ∃ r, Ac.same1 a.pt b.pt = r := ⟨_, rfl⟩
  rw [hr]
  simp only [Ac.same1, Ac.says, PV.pt] at hr
  generalize Dc.same a.items b.items = sm at *
  cases h1 : (a.kind == b.kind)
  · obtain rfl := hr.symm.trans (show _ = false by simp [h1])
    clear hr
    go_enter Tryz.func163, Tryz.ntmps163
    go_wp2
    go_ret
    exact ⟨rfl, H1.out⟩
  · skip
    cases h2 : (a.n == b.n)
    · obtain rfl := hr.symm.trans (show _ = false by simp [h1, h2])
      clear hr
      go_enter Tryz.func163, Tryz.ntmps163
      go_wp2
      go_ret
      exact ⟨rfl, H1.out⟩
    · skip
      cases sm
      · obtain rfl := hr.symm.trans (show _ = false by simp [h1, h2])
        clear hr
        go_enter Tryz.func163, Tryz.ntmps163
        go_wp2_with fail
        change Calls Tryz.prog 164 _ (boxp b (boxp a w)) _
        refine CE.out.mono ?_
        rintro e w1 ⟨rfl, m, hm⟩
        have HB : Hid (Below (boxp b (boxp a w)).heap.size (boxp b (boxp a w)) w1) := by rw [hm]; exact drewN_blw _ m
        have H2 : Hid (Below w.heap.size w w1) := H1.out.trans (HB.out.mono H1.out.size)
        have SA := (boxp2_fst a b w).below HB.out
        have SB := (boxp2_snd a b w).below HB.out
        obtain ⟨a0, a1, a2, a3, a4, a5, a6⟩ := SA
        obtain ⟨b0, b1, b2, b3, b4, b5, b6⟩ := SB
        clear hm HB
        go_wp2
        go_ret
        exact ⟨rfl, H2.out⟩
      · skip
        cases h4 : (a.set == b.set)
        · obtain rfl := hr.symm.trans (show _ = false by simp [h1, h2, h4])
          clear hr
          go_enter Tryz.func163, Tryz.ntmps163
          go_wp2_with fail
          change Calls Tryz.prog 164 _ (boxp b (boxp a w)) _
          refine CE.out.mono ?_
          rintro e w1 ⟨rfl, m, hm⟩
          have HB : Hid (Below (boxp b (boxp a w)).heap.size (boxp b (boxp a w)) w1) := by rw [hm]; exact drewN_blw _ m
          have H2 : Hid (Below w.heap.size w w1) := H1.out.trans (HB.out.mono H1.out.size)
          have SA := (boxp2_fst a b w).below HB.out
          have SB := (boxp2_snd a b w).below HB.out
          obtain ⟨a0, a1, a2, a3, a4, a5, a6⟩ := SA
          obtain ⟨b0, b1, b2, b3, b4, b5, b6⟩ := SB
          clear hm HB
          go_wp2
          go_ret
          exact ⟨rfl, H2.out⟩
        · skip
          cases h5 : (a.clr == b.clr)
          · obtain rfl := hr.symm.trans (show _ = false by simp [h1, h2, h4, h5])
            clear hr
            go_enter Tryz.func163, Tryz.ntmps163
            go_wp2_with fail
            change Calls Tryz.prog 164 _ (boxp b (boxp a w)) _
            refine CE.out.mono ?_
            rintro e w1 ⟨rfl, m, hm⟩
            have HB : Hid (Below (boxp b (boxp a w)).heap.size (boxp b (boxp a w)) w1) := by rw [hm]; exact drewN_blw _ m
            have H2 : Hid (Below w.heap.size w w1) := H1.out.trans (HB.out.mono H1.out.size)
            have SA := (boxp2_fst a b w).below HB.out
            have SB := (boxp2_snd a b w).below HB.out
            obtain ⟨a0, a1, a2, a3, a4, a5, a6⟩ := SA
            obtain ⟨b0, b1, b2, b3, b4, b5, b6⟩ := SB
            clear hm HB
            go_wp2
            go_ret
            exact ⟨rfl, H2.out⟩
          · skip
            cases h6 : (a.goes == b.goes)
            · obtain rfl := hr.symm.trans (show _ = false by simp [h1, h2, h4, h5, h6])
              clear hr
              go_enter Tryz.func163, Tryz.ntmps163
              go_wp2_with fail
              change Calls Tryz.prog 164 _ (boxp b (boxp a w)) _
              refine CE.out.mono ?_
              rintro e w1 ⟨rfl, m, hm⟩
              have HB : Hid (Below (boxp b (boxp a w)).heap.size (boxp b (boxp a w)) w1) := by rw [hm]; exact drewN_blw _ m
              have H2 : Hid (Below w.heap.size w w1) := H1.out.trans (HB.out.mono H1.out.size)
              have SA := (boxp2_fst a b w).below HB.out
              have SB := (boxp2_snd a b w).below HB.out
              obtain ⟨a0, a1, a2, a3, a4, a5, a6⟩ := SA
              obtain ⟨b0, b1, b2, b3, b4, b5, b6⟩ := SB
              clear hm HB
              go_wp2
              go_ret
              exact ⟨rfl, H2.out⟩
            · skip
              cases h7 : (a.link.toList == b.link.toList)
              · obtain rfl := hr.symm.trans (show _ = false by simp [h1, h2, h4, h5, h6, h7])
                clear hr
                go_enter Tryz.func163, Tryz.ntmps163
                go_wp2_with fail
                change Calls Tryz.prog 164 _ (boxp b (boxp a w)) _
                refine CE.out.mono ?_
                rintro e w1 ⟨rfl, m, hm⟩
                have HB : Hid (Below (boxp b (boxp a w)).heap.size (boxp b (boxp a w)) w1) := by rw [hm]; exact drewN_blw _ m
                have H2 : Hid (Below w.heap.size w w1) := H1.out.trans (HB.out.mono H1.out.size)
                have SA := (boxp2_fst a b w).below HB.out
                have SB := (boxp2_snd a b w).below HB.out
                obtain ⟨a0, a1, a2, a3, a4, a5, a6⟩ := SA
                obtain ⟨b0, b1, b2, b3, b4, b5, b6⟩ := SB
                clear hm HB
                go_wp2
                go_ret
                exact ⟨rfl, H2.out⟩
              · obtain rfl := hr.symm.trans (show _ = true by simp [h1, h2, h4, h5, h6, h7])
                clear hr
                go_enter Tryz.func163, Tryz.ntmps163
                go_wp2_with fail
                change Calls Tryz.prog 164 _ (boxp b (boxp a w)) _
                refine CE.out.mono ?_
                rintro e w1 ⟨rfl, m, hm⟩
                have HB : Hid (Below (boxp b (boxp a w)).heap.size (boxp b (boxp a w)) w1) := by rw [hm]; exact drewN_blw _ m
                have H2 : Hid (Below w.heap.size w w1) := H1.out.trans (HB.out.mono H1.out.size)
                have SA := (boxp2_fst a b w).below HB.out
                have SB := (boxp2_snd a b w).below HB.out
                obtain ⟨a0, a1, a2, a3, a4, a5, a6⟩ := SA
                obtain ⟨b0, b1, b2, b3, b4, b5, b6⟩ := SB
                clear hm HB
                go_wp2
                go_ret
                exact ⟨rfl, H2.out⟩

set_option maxRecDepth 100000 in
set_option maxHeartbeats 3200000 in
theorem eqFunc_any (G : FuncId) (ao ao' : Option Addr) (n cap n' cap' : Nat) (vs us : List PV) (w : World) (hO : Ops w ao n cap vs) (hO' : Ops w ao' n' cap' us) (hG : G = 162 ∨ G = 163) :
    Calls Tryz.prog 161 #[.slice ao n cap, .slice ao' n' cap', .func (.func G) #[] #[]] w fun e w' => e = .returned (.bool (Ac.sameO (vs.map PV.pt) (us.map PV.pt))) ∧ Below w.heap.size w w' := by
  have HO : Hid (Ops w ao n cap vs) := hO
  have HO' : Hid (Ops w ao' n' cap' us) := hO'
  have HN : Hid (vs.length = n) := hO.len
  have HN' : Hid (us.length = n') := hO'.len
  have hcap := hO.row.room
  have hbig := hO.row.big
  have CG : Hid (∀ (a b : PV) (w : World), Pvt w a → Pvt w b → Calls Tryz.prog G #[.agg #[.int .i64 a.kind, .int .i64 a.n, .slice a.ao a.m a.cap, .int .i64 a.set, .int .i64 a.clr, .bool a.goes, .string a.link], .agg #[.int .i64 b.kind, .int .i64 b.n, .slice b.ao b.m b.cap, .int .i64 b.set, .int .i64 b.clr, .bool b.goes, .string b.link]] w fun e w' => e = .returned (.bool (Ac.same1 a.pt b.pt)) ∧ Below w.heap.size w w') := fun a b w ha hb => by
    rcases hG with rfl | rfl
    · exact same1_any a b w ha hb
    · exact sameR_any a b w ha hb
  have HGH : Hid (G = 162 ∨ G = 163) := hG
  clear hO hO' hG
  obtain ⟨r, hr⟩ : ∃ r, Ac.sameO (vs.map PV.pt) (us.map PV.pt) = r := ⟨_, rfl⟩
  have HR : Hid (Ac.sameO (vs.map PV.pt) (us.map PV.pt) = r) := hr
  rw [hr]
  clear hr
  by_cases hnn : n = n'
  · subst hnn
    go_enter Tryz.func161, Tryz.ntmps161
    go_wp2
    go_loopw [17] (fun i wr => ∃ k : Nat, k ≤ n ∧ i = .int .i64 k ∧ Below w.heap.size w wr ∧ Ac.sameO ((vs.map PV.pt).drop k) ((us.map PV.pt).drop k) = r) (fun i _ => n - (intOf i).toNat)
    case atStart => exact ⟨0, Nat.zero_le _, rfl, Below.refl _ _, HR.out⟩
    case round =>
      obtain ⟨k, hk, rfl, hbr, hsm⟩ := hrel
      have HM : Hid (Ac.sameO ((vs.map PV.pt).drop k) ((us.map PV.pt).drop k) = r) := hsm
      have HBR : Hid (Below w.heap.size w wr) := hbr
      clear hsm hbr
      by_cases hlt : k < n
      · obtain ⟨b, off, rfl, hGt⟩ := HO.out.get (by omega)
        obtain ⟨b', off', rfl, hGt'⟩ := HO'.out.get (by omega)
        have h1 : k < vs.length := by rw [HN.out]; exact hlt
        have h2 : k < us.length := by rw [HN'.out]; exact hlt
        have HX : Hid (Ac.sameO ((vs.map PV.pt).drop k) ((us.map PV.pt).drop k) = (Ac.same1 vs[k].pt us[k].pt && Ac.sameO ((vs.map PV.pt).drop (k + 1)) ((us.map PV.pt).drop (k + 1)))) := by
          have := Ac.sameO_step (vs.map PV.pt) (us.map PV.pt) k (by rw [List.length_map]; exact h1) (by rw [List.length_map]; exact h2)
          rw [List.getElem_map, List.getElem_map] at this
          exact this
        obtain ⟨a0, a1, a2, a3, a4, a5, a6⟩ := (hGt k h1).below HBR.out
        have Sb := hGt' k h2
        have HSb : Hid (Seven w b' (off' + k * 7) us[k]) := Sb
        obtain ⟨b0, b1, b2, b3, b4, b5, b6⟩ := Sb.below (HBR.out.trans ((boxp_below vs[k] wr).mono HBR.out.size))
        have HB1 : Hid (Below w.heap.size w (boxp us[k] (boxp vs[k] wr))) := HBR.out.trans ((boxp2_below _ _ wr).mono HBR.out.size)
        have HPa : Hid (Pvt (boxp us[k] (boxp vs[k] wr)) vs[k]) := (HO.out.pts _ (List.getElem_mem h1)).below HB1.out
        have HPb : Hid (Pvt (boxp us[k] (boxp vs[k] wr)) us[k]) := (HO'.out.pts _ (List.getElem_mem h2)).below HB1.out
        have S1 := boxp2_fst vs[k] us[k] wr
        have S2 := boxp_at us[k] (boxp vs[k] wr)
        have HS1 : Hid (Seven (boxp us[k] (boxp vs[k] wr)) wr.heap.size 0 vs[k]) := S1
        have HS2 : Hid (Seven (boxp us[k] (boxp vs[k] wr)) (boxp vs[k] wr).heap.size 0 us[k]) := S2
        clear hGt hGt' S1 S2 Sb
        generalize vs[k] = v at *
        generalize us[k] = u at *
        clear h1 h2
        go_upto_region 6 with fail
        change Code.wp Tryz.prog _ _ _ (boxp v wr)
        go_upto_region 7 with fail
        change Code.wp Tryz.prog _ _ _ (boxp u (boxp v wr))
        generalize boxp u (boxp v wr) = W at *
        clear a0 a1 a2 a3 a4 a5 a6 b0 b1 b2 b3 b4 b5 b6
        obtain ⟨a0, a1, a2, a3, a4, a5, a6⟩ := HS1.out
        obtain ⟨b0, b1, b2, b3, b4, b5, b6⟩ := HS2.out
        simp only [Nat.zero_add] at a0 a1 a2 a3 a4 a5 a6 b0 b1 b2 b3 b4 b5 b6
        rcases HGH.out with rfl | rfl
        all_goals
          go_wp2_with fail
          refine (CG.out v u _ HPa.out HPb.out).mono ?_
          rintro e w1 ⟨rfl, hb⟩
          have H2 : Hid (Below w.heap.size w w1) := HB1.out.trans (hb.mono HB1.out.size)
          clear hb a0 a1 a2 a3 a4 a5 a6 b0 b1 b2 b3 b4 b5 b6
          cases hal : Ac.same1 v.pt u.pt
          · obtain rfl : r = false := by rw [← HM.out, HX.out, hal]; rfl
            clear hal
            go_wp2
            go_ret
            exact ⟨rfl, H2.out⟩
          · have HM2 : Hid (Ac.sameO ((vs.map PV.pt).drop (k + 1)) ((us.map PV.pt).drop (k + 1)) = r) := by show _ = _; rw [← HM.out, HX.out, hal, Bool.true_and]
            clear hal
            go_wp2
            go_roundw
            case rel => exact ⟨k + 1, by omega, by go_num, H2.out, HM2.out⟩
            case measure => simp [intOf]; omega
      · obtain rfl : r = true := by
          rw [← HM.out, List.drop_eq_nil_of_le (by rw [List.length_map, HN.out]; omega), List.drop_eq_nil_of_le (by rw [List.length_map, HN'.out]; omega)]
          rfl
        go_wp2
        go_ret
        exact ⟨rfl, HBR.out⟩
  · obtain rfl : r = false := HR.out.symm.trans (Ac.sameO_len _ _ (by rw [List.length_map, List.length_map, HN.out, HN'.out]; exact hnn))
    go_enter Tryz.func161, Tryz.ntmps161
    go_wp2
    go_ret
    exact ⟨rfl, Below.refl _ _⟩

theorem sameO_any (ao ao' : Option Addr) (n cap n' cap' : Nat) (vs us : List PV) (w : World) (hO : Ops w ao n cap vs) (hO' : Ops w ao' n' cap' us) :
    Calls Tryz.prog 87 #[.slice ao n cap, .slice ao' n' cap'] w fun e w' => e = .returned (.bool (Ac.sameO (vs.map PV.pt) (us.map PV.pt))) ∧ Below w.heap.size w w' := by
  have HE := eqFunc_any 162 ao ao' n cap n' cap' vs us w hO hO' (.inl rfl)
  clear hO hO'
  generalize Ac.sameO (vs.map PV.pt) (us.map PV.pt) = r at *
  have H : Hid (Calls Tryz.prog 161 #[.slice ao n cap, .slice ao' n' cap', .func (.func 162) #[] #[]] w fun e w' => e = .returned (.bool r) ∧ Below w.heap.size w w') := HE
  clear HE
  go_enter Tryz.func87, Tryz.ntmps87
  go_wp2_with fail
  refine H.out.mono ?_
  rintro e w1 ⟨rfl, hb⟩
  go_wp2
  go_ret
  exact ⟨rfl, hb⟩

theorem SameOp_any (ao ao' : Option Addr) (n cap n' cap' : Nat) (vs us : List PV) (w : World) (hO : Ops w ao n cap vs) (hO' : Ops w ao' n' cap' us) :
    Calls Tryz.prog 88 #[.slice ao n cap, .slice ao' n' cap'] w fun e w' => e = .returned (.bool (Ac.sameO (vs.map PV.pt) (us.map PV.pt))) ∧ Below w.heap.size w w' := by
  have HE := eqFunc_any 163 ao ao' n cap n' cap' vs us w hO hO' (.inr rfl)
  clear hO hO'
  generalize Ac.sameO (vs.map PV.pt) (us.map PV.pt) = r at *
  have H : Hid (Calls Tryz.prog 161 #[.slice ao n cap, .slice ao' n' cap', .func (.func 163) #[] #[]] w fun e w' => e = .returned (.bool r) ∧ Below w.heap.size w w') := HE
  clear HE
  go_enter Tryz.func88, Tryz.ntmps88
  go_wp2_with fail
  refine H.out.mono ?_
  rintro e w1 ⟨rfl, hb⟩
  go_wp2
  go_ret
  exact ⟨rfl, hb⟩
end Go.Proofs.YtbhcklkbckacpaaGreatDoor
