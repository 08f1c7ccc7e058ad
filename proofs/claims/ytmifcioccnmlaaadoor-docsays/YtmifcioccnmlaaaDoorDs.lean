/-
  The law DocSays returns true at whatever documents and whatever item.
-/
import Derived.Test.YtmifcioccnmlaaaDoorDz
namespace Go.Proofs.YtmifcioccnmlaaaDoor
open Go.RowKit

theorem drewN_below (w : World) (q : Nat) : Below w.heap.size w (w.drewN q) := ⟨rfl, rfl, rfl, Nat.le_refl _, fun _ _ => rfl⟩
/-- What the eight calls of the law's first test answer, in whatever world behind w. -/
structure Eight (ao ao' : Option Addr) (n cap n' cap' : Nat) (x : It) (c e es : Int) (s : Bool) (w : World) : Prop where
  kept : ∀ w1, Below w.heap.size w w1 → Calls Tryd.prog 35 #[] w1 fun r w2 => r = .returned (.bool true) ∧ Below w.heap.size w w2
  check : ∀ w1, Below w.heap.size w w1 → Calls Tryd.prog 36 #[.slice ao n cap] w1 fun r w2 => r = .returned (.int .i64 c) ∧ Below w.heap.size w w2
  item : ∀ w1, Below w.heap.size w w1 → Calls Tryd.prog 37 #[.agg #[.int .u8 x.c.toNat, .int .i64 x.m, .string x.l]] w1 fun r w2 => r = .returned (.int .i64 e) ∧ Below w.heap.size w w2
  item' : ∀ w1, Below w.heap.size w w1 → Calls Tryd.prog 38 #[.agg #[.int .u8 x.c.toNat, .int .i64 x.m, .string x.l]] w1 fun r w2 => r = .returned (.int .i64 e) ∧ Below w.heap.size w w2
  items : ∀ w1, Below w.heap.size w w1 → Calls Tryd.prog 39 #[.slice ao n cap] w1 fun r w2 => r = .returned (.int .i64 es) ∧ Below w.heap.size w w2
  items' : ∀ w1, Below w.heap.size w w1 → Calls Tryd.prog 40 #[.slice ao n cap] w1 fun r w2 => r = .returned (.int .i64 es) ∧ Below w.heap.size w w2
  same : ∀ w1, Below w.heap.size w w1 → Calls Tryd.prog 41 #[.slice ao n cap, .slice ao' n' cap'] w1 fun r w2 => r = .returned (.bool s) ∧ Below w.heap.size w w2
  same' : ∀ w1, Below w.heap.size w w1 → Calls Tryd.prog 42 #[.slice ao n cap, .slice ao' n' cap'] w1 fun r w2 => r = .returned (.bool s) ∧ Below w.heap.size w w2
theorem onward {f : FuncId} {args : Array Value} {v : Value} {w w1 : World} (hb : Below w.heap.size w w1) (h : Calls Tryd.prog f args w1 fun r w2 => r = .returned v ∧ Below w1.heap.size w1 w2) : Calls Tryd.prog f args w1 fun r w2 => r = .returned v ∧ Below w.heap.size w w2 :=
  h.mono fun _ _ ⟨he, h2⟩ => ⟨he, hb.trans (h2.mono hb.size)⟩
theorem onward' {f : FuncId} {args : Array Value} {v : Value} {w w1 : World} (hb : Below w.heap.size w w1) (h : Calls Tryd.prog f args w1 fun r w2 => r = .returned v ∧ ∃ q, w2 = w1.drewN q) : Calls Tryd.prog f args w1 fun r w2 => r = .returned v ∧ Below w.heap.size w w2 :=
  h.mono fun _ _ ⟨he, q, h2⟩ => ⟨he, by rw [h2]; exact hb.trans ((drewN_below _ _).mono hb.size)⟩
theorem eight (ao ao' : Option Addr) (n cap n' cap' : Nat) (l l' : List It) (x : It) (w : World) (hD : Doc w ao n cap l) (hD' : Doc w ao' n' cap' l') (hS : Sch w) (hl : x.l.size ≤ 9223372036854775807) :
    Eight ao ao' n cap n' cap' x (Dc.check l) (Dc.err x) (Dc.errs l) (Dc.same l l') w where
  kept w1 hb := onward hb (kept_any w1 (hS.below hb))
  check w1 hb := onward hb (check_any ao n cap l w1 (hD.below hb) (hS.below hb))
  item w1 hb := onward hb (item_any x w1 (hS.below hb) hl)
  item' w1 hb := onward hb (CheckItem_any x w1 hl)
  items w1 hb := onward hb (items_any ao n cap l w1 (hD.below hb) (hS.below hb))
  items' w1 hb := onward hb (CheckItems_any ao n cap l w1 (hD.below hb))
  same w1 hb := onward' hb (same_any ao ao' n cap n' cap' l l' w1 (hD.below hb) (hD'.below hb))
  same' w1 hb := onward' hb (equal_any ao ao' n cap n' cap' l l' w1 (hD.below hb) (hD'.below hb))

set_option maxRecDepth 100000 in
set_option maxHeartbeats 3200000 in
theorem says_bad (ao ao' : Option Addr) (n cap n' cap' : Nat) (l l' : List It) (x : It) (w : World) (hD : Doc w ao n cap l) (hD' : Doc w ao' n' cap' l') (hS : Sch w) (hl : x.l.size ≤ 9223372036854775807) (hc : ¬ Dc.check l = 0) :
    Calls Tryd.prog 9 #[.slice ao n cap, .slice ao' n' cap', .agg #[.int .u8 x.c.toNat, .int .i64 x.m, .string x.l]] w fun e w' => e = .returned (.bool true) ∧ Below w.heap.size w w' := by
  have HS : Hid (Sch (boxed x w)) := hS.below (boxed_below x w)
  have HX : Hid (Boxed w.heap.size x (boxed x w)) := boxed_at x w
  have H0 : Hid (Below w.heap.size w (boxed x w)) := boxed_below x w
  have HD : Hid (Doc (boxed x w) ao n cap l) := hD.below (boxed_below x w)
  have HD' : Hid (Doc (boxed x w) ao' n' cap' l') := hD'.below (boxed_below x w)
  have CP : Hid (∀ w, Doc w ao n cap l → Sch w → Calls Tryd.prog 32 #[.slice ao n cap] w fun e w' => e = .returned (.tuple #[.string (B (Dc.plain l)), .int .i64 (Dc.check l)]) ∧ Below w.heap.size w w') := fun w h1 h2 => plain_any ao n cap l w h1 h2
  have CR : Hid (∀ w, Doc w ao n cap l → Sch w → Calls Tryd.prog 33 #[.slice ao n cap] w fun e w' => (∃ v, e = .returned (.tuple #[v, .int .i64 (Dc.check l)]) ∧ w'.ownsRow w.heap.size 3 1 v (Dc.runs l).length ((Dc.runs l).map ci)) ∧ Below w.heap.size w w') := fun w h1 h2 => runs_any ao n cap l w h1 h2
  have CD : Hid (∀ w, Doc w ao n cap l → Calls Tryd.prog 34 #[.slice ao n cap] w fun e w' => e = .returned (.int .i64 (Dc.check l)) ∧ Below w.heap.size w w') := fun w h1 => CheckDoc_any ao n cap l w h1
  have CALL : Hid (∀ w3, Doc w3 ao n cap l → Doc w3 ao' n' cap' l' → Sch w3 → Eight ao ao' n cap n' cap' x (Dc.check l) (Dc.err x) (Dc.errs l) (Dc.same l l') w3) := fun w3 h1 h2 h3 => eight ao ao' n cap n' cap' l l' x w3 h1 h2 h3 hl
  have hp0 : Dc.plain l = [] := by unfold Dc.plain; rw [if_neg hc]
  have hr0 : Dc.runs l = [] := by unfold Dc.runs; rw [if_neg hc]
  rw [hp0, show B [] = (⟨#[]⟩ : ByteArray) from rfl] at CP
  rw [hr0] at CR
  clear hD hD' hS hp0 hr0
  generalize Dc.check l = c at *
  generalize Dc.err x = er at *
  generalize Dc.errs l = es at *
  generalize Dc.same l l' = sm at *
  have hcb : (c == 0) = false := by simpa using hc
  go_enter Tryd.func9, Tryd.ntmps9
  go_wp2_with fail
  change Calls Tryd.prog 32 _ (boxed x w) _
  refine (CP.out _ HD.out HS.out).mono ?_
  rintro e w1 ⟨rfl, hb⟩
  have H1 : Hid (Below w.heap.size w w1) := H0.out.trans (hb.mono H0.out.size)
  have X1 : Hid (Boxed w.heap.size x w1) := HX.out.below hb
  have D1 : Hid (Doc w1 ao n cap l) := HD.out.below hb
  have E1 : Hid (Doc w1 ao' n' cap' l') := HD'.out.below hb
  have S1 : Hid (Sch w1) := HS.out.below hb
  clear hb
  go_wp2_with fail
  refine (CR.out _ D1.out S1.out).mono ?_
  rintro e w2 ⟨⟨v, rfl, ho⟩, hb⟩
  obtain ⟨va, vc, rfl⟩ : ∃ a c, v = .slice a 0 c := by
    rcases ho.2 with ⟨rfl, _⟩ | ⟨g, cap, cur, rfl, _⟩
    · exact ⟨_, _, rfl⟩
    · exact ⟨_, _, rfl⟩
  have H2 : Hid (Below w.heap.size w w2) := H1.out.trans (hb.mono H1.out.size)
  have X2 : Hid (Boxed w.heap.size x w2) := X1.out.below hb
  have D2 : Hid (Doc w2 ao n cap l) := D1.out.below hb
  have E2 : Hid (Doc w2 ao' n' cap' l') := E1.out.below hb
  have S2 : Hid (Sch w2) := S1.out.below hb
  clear hb ho
  go_wp2_with fail
  refine (CD.out _ D2.out).mono ?_
  rintro e w3 ⟨rfl, hb⟩
  have H3 : Hid (Below w.heap.size w w3) := H2.out.trans (hb.mono H2.out.size)
  have hx0 := (X2.out.below hb).c
  have hx1 := (X2.out.below hb).m
  have hx2 := (X2.out.below hb).l
  have E8 : Hid (Eight ao ao' n cap n' cap' x c er es sm w3) := CALL.out w3 (D2.out.below hb) (E2.out.below hb) (S2.out.below hb)
  clear hb CP CR CD CALL HS HX H0 HD HD' H1 X1 D1 E1 S1 H2 X2 D2 E2 S2
  go_wp2
  go_region_held3 (fun w' => w'.cell? ⟨w.heap.size, 0, none⟩ = some (.int .u8 x.c.toNat) ∧ w'.cell? ⟨w.heap.size, 1, none⟩ = some (.int .i64 x.m) ∧ w'.cell? ⟨w.heap.size, 2, none⟩ = some (.string x.l) ∧ Below w3.heap.size w3 w') (first | exact ⟨hx0, hx1, hx2, (Below.refl _ _).drew⟩ | exact ⟨cell_below hx0 (by assumption), cell_below hx1 (by assumption), cell_below hx2 (by assumption), by assumption⟩) (first | (go_at_call 35; refine (E8.out.kept _ ?_).mono ?_; exact (by assumption : _ ∧ _ ∧ _ ∧ Below w3.heap.size w3 _).2.2.2; rintro e w4 ⟨rfl, hb⟩) | (go_at_call 36; refine (E8.out.check _ ?_).mono ?_; exact (by assumption : _ ∧ _ ∧ _ ∧ Below w3.heap.size w3 _).2.2.2; rintro e w4 ⟨rfl, hb⟩) | (go_at_call 37; refine (E8.out.item _ ?_).mono ?_; exact (by assumption : _ ∧ _ ∧ _ ∧ Below w3.heap.size w3 _).2.2.2; rintro e w4 ⟨rfl, hb⟩) | (go_at_call 38; refine (E8.out.item' _ ?_).mono ?_; exact (by assumption : _ ∧ _ ∧ _ ∧ Below w3.heap.size w3 _).2.2.2; rintro e w4 ⟨rfl, hb⟩) | (go_at_call 39; refine (E8.out.items _ ?_).mono ?_; exact (by assumption : _ ∧ _ ∧ _ ∧ Below w3.heap.size w3 _).2.2.2; rintro e w4 ⟨rfl, hb⟩) | (go_at_call 40; refine (E8.out.items' _ ?_).mono ?_; exact (by assumption : _ ∧ _ ∧ _ ∧ Below w3.heap.size w3 _).2.2.2; rintro e w4 ⟨rfl, hb⟩) | (go_at_call 41; refine (E8.out.same _ ?_).mono ?_; exact (by assumption : _ ∧ _ ∧ _ ∧ Below w3.heap.size w3 _).2.2.2; rintro e w4 ⟨rfl, hb⟩) | (go_at_call 42; refine (E8.out.same' _ ?_).mono ?_; exact (by assumption : _ ∧ _ ∧ _ ∧ Below w3.heap.size w3 _).2.2.2; rintro e w4 ⟨rfl, hb⟩))
  have H4 : Hid (Below w.heap.size w w4) := H3.out.trans (hb.mono H3.out.size)
  clear hb
  go_wp2
  go_ret
  exact ⟨rfl, H4.out⟩

theorem mapc_at (l : List It) (k : Nat) (h : k < l.length) (w : World) : (Instr.index 9 (.string (B (l.map It.c))) (.int .i64 k)).run Tryd.prog w = .ok (.int .u8 l[k].c.toNat) w := by
  have hs : k < (B (l.map It.c)).size := by rw [B_size, List.length_map]; exact h
  have := run_index_at (B (l.map It.c)) k hs w
  rw [this]
  have e : (B (l.map It.c))[k]'hs = (l.map It.c)[k]'(by rw [List.length_map]; exact h) := rfl
  rw [e, List.getElem_map]

set_option maxRecDepth 100000 in
set_option maxHeartbeats 6400000 in
theorem says_ok (ao ao' : Option Addr) (n cap n' cap' : Nat) (l l' : List It) (x : It) (w : World) (hD : Doc w ao n cap l) (hD' : Doc w ao' n' cap' l') (hS : Sch w) (hl : x.l.size ≤ 9223372036854775807) (hc : Dc.check l = 0) :
    Calls Tryd.prog 9 #[.slice ao n cap, .slice ao' n' cap', .agg #[.int .u8 x.c.toNat, .int .i64 x.m, .string x.l]] w fun e w' => e = .returned (.bool true) ∧ Below w.heap.size w w' := by
  have HS : Hid (Sch (boxed x w)) := hS.below (boxed_below x w)
  have HX : Hid (Boxed w.heap.size x (boxed x w)) := boxed_at x w
  have H0 : Hid (Below w.heap.size w (boxed x w)) := boxed_below x w
  have HD : Hid (Doc (boxed x w) ao n cap l) := hD.below (boxed_below x w)
  have HD' : Hid (Doc (boxed x w) ao' n' cap' l') := hD'.below (boxed_below x w)
  have CP : Hid (∀ w, Doc w ao n cap l → Sch w → Calls Tryd.prog 32 #[.slice ao n cap] w fun e w' => e = .returned (.tuple #[.string (B (Dc.plain l)), .int .i64 (Dc.check l)]) ∧ Below w.heap.size w w') := fun w h1 h2 => plain_any ao n cap l w h1 h2
  have CR : Hid (∀ w, Doc w ao n cap l → Sch w → Calls Tryd.prog 33 #[.slice ao n cap] w fun e w' => (∃ v, e = .returned (.tuple #[v, .int .i64 (Dc.check l)]) ∧ w'.ownsRow w.heap.size 3 1 v (Dc.runs l).length ((Dc.runs l).map ci)) ∧ Below w.heap.size w w') := fun w h1 h2 => runs_any ao n cap l w h1 h2
  have CD : Hid (∀ w, Doc w ao n cap l → Calls Tryd.prog 34 #[.slice ao n cap] w fun e w' => e = .returned (.int .i64 (Dc.check l)) ∧ Below w.heap.size w w') := fun w h1 => CheckDoc_any ao n cap l w h1
  have CALL : Hid (∀ w3, Doc w3 ao n cap l → Doc w3 ao' n' cap' l' → Sch w3 → Eight ao ao' n cap n' cap' x (Dc.check l) (Dc.err x) (Dc.errs l) (Dc.same l l') w3) := fun w3 h1 h2 h3 => eight ao ao' n cap n' cap' l l' x w3 h1 h2 h3 hl
  have h80 : n ≤ 80 := by rw [← hD.len]; exact Dc.check_ok hc
  have CO : Hid (∀ w, Doc w ao n cap l → Calls Tryd.prog 44 #[.slice ao n cap] w fun e w' => (∃ v, e = .returned v ∧ w'.ownsRow w.heap.size 3 1 v (Dc.runsTo l n).length ((Dc.runsTo l n).map ci)) ∧ Below w.heap.size w w') := fun w h => RunsOf_any ao n cap l w h h80
  have hp0 : Dc.plain l = l.map It.c := by unfold Dc.plain; rw [if_pos hc]
  have hr0 : Dc.runs l = Dc.runsTo l n := by unfold Dc.runs; rw [if_pos hc, hD.len]
  have HZ : Hid ((B (l.map It.c)).size = n) := by show _ = _; rw [B_size, List.length_map, hD.len]
  have HI : Hid (∀ k (h : k < l.length) w, (Instr.index 9 (.string (B (l.map It.c))) (.int .i64 k)).run Tryd.prog w = .ok (.int .u8 l[k].c.toNat) w) := fun k h w => mapc_at l k h w
  have HP : Hid ((Dc.runsTo l n).length ≤ 80) := Nat.le_trans (Dc.runsTo_len l n) h80
  rw [hp0, hc] at CP
  rw [hr0, hc] at CR
  rw [hc] at CD CALL
  clear hD hD' hS hp0 hr0 hc
  generalize Dc.err x = er at *
  generalize Dc.errs l = es at *
  generalize Dc.same l l' = sm at *
  generalize B (l.map It.c) = S at *
  generalize Dc.runsTo l n = p at *
  go_enter Tryd.func9, Tryd.ntmps9
  go_wp2_with fail
  change Calls Tryd.prog 32 _ (boxed x w) _
  refine (CP.out _ HD.out HS.out).mono ?_
  rintro e w1 ⟨rfl, hb⟩
  have H1 : Hid (Below w.heap.size w w1) := H0.out.trans (hb.mono H0.out.size)
  have X1 : Hid (Boxed w.heap.size x w1) := HX.out.below hb
  have D1 : Hid (Doc w1 ao n cap l) := HD.out.below hb
  have E1 : Hid (Doc w1 ao' n' cap' l') := HD'.out.below hb
  have S1 : Hid (Sch w1) := HS.out.below hb
  clear hb
  go_wp2_with fail
  refine (CR.out _ D1.out S1.out).mono ?_
  rintro e w2 ⟨⟨v, rfl, ho⟩, hb⟩
  have H2 : Hid (Below w.heap.size w w2) := H1.out.trans (hb.mono H1.out.size)
  have O2 : Hid (w2.ownsRow w1.heap.size 3 1 v p.length (p.map ci)) := ho
  have X2 : Hid (Boxed w.heap.size x w2) := X1.out.below hb
  have D2 : Hid (Doc w2 ao n cap l) := D1.out.below hb
  have E2 : Hid (Doc w2 ao' n' cap' l') := E1.out.below hb
  have S2 : Hid (Sch w2) := S1.out.below hb
  clear hb ho
  go_wp2_with fail
  refine (CD.out _ D2.out).mono ?_
  rintro e w3 ⟨rfl, hb⟩
  have H3 : Hid (Below w.heap.size w w3) := H2.out.trans (hb.mono H2.out.size)
  have O3 : Hid (w3.ownsRow w1.heap.size 3 1 v p.length (p.map ci)) := own_below O2.out hb
  have D3 : Hid (Doc w3 ao n cap l) := D2.out.below hb
  have hx0 := (X2.out.below hb).c
  have hx1 := (X2.out.below hb).m
  have hx2 := (X2.out.below hb).l
  have E8 : Hid (Eight ao ao' n cap n' cap' x 0 er es sm w3) := CALL.out w3 (D2.out.below hb) (E2.out.below hb) (S2.out.below hb)
  clear hb CP CR CD CALL HS HX H0 HD HD' H1 X1 D1 E1 S1 H2 X2 D2 E2 S2 O2
  go_wp2
  go_region_held3 (fun w' => w'.cell? ⟨w.heap.size, 0, none⟩ = some (.int .u8 x.c.toNat) ∧ w'.cell? ⟨w.heap.size, 1, none⟩ = some (.int .i64 x.m) ∧ w'.cell? ⟨w.heap.size, 2, none⟩ = some (.string x.l) ∧ Below w3.heap.size w3 w') (first | exact ⟨hx0, hx1, hx2, (Below.refl _ _).drew⟩ | exact ⟨cell_below hx0 (by assumption), cell_below hx1 (by assumption), cell_below hx2 (by assumption), by assumption⟩) (first | (go_at_call 35; refine (E8.out.kept _ ?_).mono ?_; exact (by assumption : _ ∧ _ ∧ _ ∧ Below w3.heap.size w3 _).2.2.2; rintro e w4 ⟨rfl, hb⟩) | (go_at_call 36; refine (E8.out.check _ ?_).mono ?_; exact (by assumption : _ ∧ _ ∧ _ ∧ Below w3.heap.size w3 _).2.2.2; rintro e w4 ⟨rfl, hb⟩) | (go_at_call 37; refine (E8.out.item _ ?_).mono ?_; exact (by assumption : _ ∧ _ ∧ _ ∧ Below w3.heap.size w3 _).2.2.2; rintro e w4 ⟨rfl, hb⟩) | (go_at_call 38; refine (E8.out.item' _ ?_).mono ?_; exact (by assumption : _ ∧ _ ∧ _ ∧ Below w3.heap.size w3 _).2.2.2; rintro e w4 ⟨rfl, hb⟩) | (go_at_call 39; refine (E8.out.items _ ?_).mono ?_; exact (by assumption : _ ∧ _ ∧ _ ∧ Below w3.heap.size w3 _).2.2.2; rintro e w4 ⟨rfl, hb⟩) | (go_at_call 40; refine (E8.out.items' _ ?_).mono ?_; exact (by assumption : _ ∧ _ ∧ _ ∧ Below w3.heap.size w3 _).2.2.2; rintro e w4 ⟨rfl, hb⟩) | (go_at_call 41; refine (E8.out.same _ ?_).mono ?_; exact (by assumption : _ ∧ _ ∧ _ ∧ Below w3.heap.size w3 _).2.2.2; rintro e w4 ⟨rfl, hb⟩) | (go_at_call 42; refine (E8.out.same' _ ?_).mono ?_; exact (by assumption : _ ∧ _ ∧ _ ∧ Below w3.heap.size w3 _).2.2.2; rintro e w4 ⟨rfl, hb⟩))
  have H4 : Hid (Below w.heap.size w w4) := H3.out.trans (hb.mono H3.out.size)
  have O4 : Hid (w4.ownsRow w1.heap.size 3 1 v p.length (p.map ci)) := own_below O3.out hb
  have D4 : Hid (Doc w4 ao n cap l) := D3.out.below hb
  have hsz := HZ.out
  clear hb hx0 hx1 hx2 O3 D3 H3
  go_wp2_with fail
  refine (CO.out _ D4.out).mono ?_
  rintro e w5 ⟨⟨v', rfl, ho⟩, hb⟩
  have H5 : Hid (Below w.heap.size w w5) := H4.out.trans (hb.mono H4.out.size)
  have O5 : Hid (w5.ownsRow w1.heap.size 3 1 v p.length (p.map ci)) := own_below O4.out hb
  have O5' : Hid (w5.ownsRow w4.heap.size 3 1 v' p.length (p.map ci)) := ho
  have D5 : Hid (Doc w5 ao n cap l) := D4.out.below hb
  clear hb ho O4 D4 H4
  go_wp2_with fail
  refine (ints_same v v' _ _ p _ O5.out O5'.out HP.out).mono ?_
  rintro e w6 ⟨rfl, q, hw6⟩
  have hb6 : Below w5.heap.size w5 w6 := by rw [hw6]; exact drewN_below _ _
  have H6 : Hid (Below w.heap.size w w6) := H5.out.trans (hb6.mono H5.out.size)
  have D6 : Hid (Doc w6 ao n cap l) := D5.out.below hb6
  clear hb6 hw6 O5 O5' D5 H5
  go_wp2
  go_loopw [90] (fun i wr => ∃ k : Nat, k ≤ n ∧ i = .int .i64 k ∧ Below w6.heap.size w6 wr) (fun i _ => n - (intOf i).toNat)
  case atStart => exact ⟨0, Nat.zero_le _, rfl, Below.refl _ _⟩
  case round =>
    obtain ⟨k, hk, rfl, hbr⟩ := hrel
    have HB : Hid (Below w6.heap.size w6 wr) := hbr
    clear hbr
    by_cases hlt : k < n
    · obtain ⟨b, off, rfl, A0⟩ := D6.out.lies (by omega)
      have hkl : k < l.length := by rw [D6.out.len]; exact hlt
      obtain ⟨ha0, ha1, ha2⟩ := (A0.below HB.out).get (List.getElem?_eq_getElem hkl)
      have hix := HI.out k hkl
      clear A0
      generalize l[k] = y at *
      clear hkl
      go_wp2
      go_quiet (fail)
      go_wp2
      go_roundw
      case rel => exact ⟨k + 1, by omega, by go_num, HB.out.trans ((below1 wr nq y).mono HB.out.size)⟩
      case measure => simp [intOf]; omega
    · go_wp2
      go_ret
      exact ⟨rfl, H6.out.trans (HB.out.mono H6.out.size)⟩

theorem says_any (ao ao' : Option Addr) (n cap n' cap' : Nat) (l l' : List It) (x : It) (w : World) (hD : Doc w ao n cap l) (hD' : Doc w ao' n' cap' l') (hS : Sch w) (hl : x.l.size ≤ 9223372036854775807) :
    Calls Tryd.prog 9 #[.slice ao n cap, .slice ao' n' cap', .agg #[.int .u8 x.c.toNat, .int .i64 x.m, .string x.l]] w fun e w' => e = .returned (.bool true) ∧ Below w.heap.size w w' := by
  by_cases hc : Dc.check l = 0
  · exact says_ok ao ao' n cap n' cap' l l' x w hD hD' hS hl hc
  · exact says_bad ao ao' n cap n' cap' l l' x w hD hD' hS hl hc
end Go.Proofs.YtmifcioccnmlaaaDoor
