/-
  The laws' closed fact of one operation; Apply and Tidy, in one form each.
-/
import Derived.Test.YtgidmnoinbbajaaDoorOo
import Derived.Test.YtgidmnoinbbajaaDoorPd
namespace Go.Proofs.YtgidmnoinbbajaaDoor
open Go.RowKit

theorem apply_any (ao ao' : Option Addr) (n cap n' cap' : Nat) (l : List It) (vs : List PV) (w : World) (hD : Doc w ao n cap l) (hO : Ops w ao' n' cap' vs) (hS : Sch w) :
    Calls Tryd.prog 10 #[.slice ao n cap, .slice ao' n' cap'] w fun e w' => (∃ a c, e = .returned (.tuple #[.slice a (Ac.done l (vs.map PV.pt)).length c, .int .i64 (Ac.fitE l (vs.map PV.pt))]) ∧ Doc w' a (Ac.done l (vs.map PV.pt)).length c (Ac.done l (vs.map PV.pt))) ∧ Below w.heap.size w w' := by
  unfold Ac.done
  by_cases h : Ac.fitE l (vs.map PV.pt) = 0
  · rw [if_pos h, h]
    exact apply_ok ao ao' n cap n' cap' l vs w hD hO hS h
  · rw [if_neg h]
    refine (apply_bad ao ao' n cap n' cap' l vs w hD hO hS h).mono ?_
    rintro e w' ⟨he, hb⟩
    exact ⟨⟨none, 0, he, doc_none w'⟩, hb⟩
/-- What an operation is when it is made tidy; nothing where it is none. -/
def Ac.tid (o : List Ac.Pt) : List Ac.Pt := if Ac.chk o = 0 then (Ac.ts o).out else []
theorem ops_nil (w : World) : Ops w none 0 0 [] := ⟨Row.nil w 7, fun v hv => absurd hv (by simp)⟩
theorem tidy_any (ao : Option Addr) (n cap : Nat) (vs : List PV) (w : World) (hO : Ops w ao n cap vs) (hS : Sch w) :
    Calls Tryd.prog 11 #[.slice ao n cap] w fun e w' => (∃ a m c us, e = .returned (.tuple #[.slice a m c, .int .i64 (Ac.chk (vs.map PV.pt))]) ∧ Ops w' a m c us ∧ us.map PV.pt = Ac.tid (vs.map PV.pt)) ∧ Below w.heap.size w w' := by
  unfold Ac.tid
  by_cases h : Ac.chk (vs.map PV.pt) = 0
  · rw [if_pos h, h]
    refine (tidy_ok ao n cap vs w hO hS h).mono ?_
    rintro e w' ⟨⟨a, c, us, he, ho, hp⟩, hb⟩
    have hl := Ac.ts_last (Ac.chk_right.1 h)
    rw [hl.1, hl.2.1] at hp
    exact ⟨⟨a, _, c, us, he, ho, hp.trans (List.append_nil _)⟩, hb⟩
  · rw [if_neg h]
    refine (tidy_bad ao n cap vs w hO hS h).mono ?_
    rintro e w' ⟨he, hb⟩
    exact ⟨⟨none, 0, 0, [], he, ops_nil w', rfl⟩, hb⟩
theorem Ac.ts_all {o : List Ac.Pt} (h : ∀ p ∈ o, Ac.err1 p = 0) : (Ac.ts o).out ++ Ac.flushP (Ac.ts o).put (Ac.ts o).cut = Ac.tidy o := by
  have := Ac.tdy_fold o ⟨[], [], 0⟩ [] h
  rw [List.append_nil] at this
  unfold Ac.tidy
  rw [show Ac.tdy [] [] 0 (Ac.acts o) = _ from this]
  rfl
/-- Parts that are made tidy, unchecked. -/
theorem made_tidy (ao : Option Addr) (n cap : Nat) (vs : List PV) (w : World) (hO : Ops w ao n cap vs) (hok : ∀ v ∈ vs, Ac.err1 v.pt = 0) (hfew : vs.length ≤ 100) :
    Calls Tryd.prog 32 #[.slice ao n cap] w fun e w' => (∃ tv us, e = .returned tv ∧ Tide w' w.heap.size tv us ∧ us.map PV.pt = Ac.tidy (vs.map PV.pt)) ∧ Below w.heap.size w w' := by
  have hOKL : ∀ p ∈ vs.map PV.pt, Ac.err1 p = 0 := fun p hp => by
    obtain ⟨v, hv, rfl⟩ := List.mem_map.1 hp
    exact hok v hv
  have := tidied0_any ao n cap vs w hO hok hfew
  rw [Ac.ts_all hOKL] at this
  exact this
theorem eql_items (x y : It) (w : World) : (binOp .eql 38 (.agg #[.int .u8 x.c.toNat, .int .i64 x.m, .string x.l]) (.agg #[.int .u8 y.c.toNat, .int .i64 y.m, .string y.l])).run Tryd.prog w = .ok (.bool (Dc.alike x y)) w := by
  rw [run_eql_struct, run_equalIn_agg w 9999 38 _ _ under36 held36]
  have hu := Tryd.underlying38
  simp [go_sem, hu, Program.fieldsOf]
  unfold Dc.alike
  by_cases h1 : (x.c.toNat : Int) = (y.c.toNat : Int)
  · by_cases h2 : x.m = y.m
    · by_cases h3 : x.l.toList = y.l.toList
      · simp [h1, h2, h3]
      · simp [h1, h2, h3]
    · simp [h1, h2]
  · simp [h1]

/-- The operation of the closed fact. -/
def o1V (g : Nat) : List PV := [⟨1, 1, none, 0, 0, [], 2, 1, true, ⟨#[104, 116, 116, 112, 58, 120]⟩⟩, ⟨3, 1, none, 0, 0, [], 0, 0, false, ⟨#[]⟩⟩, ⟨2, 0, some ⟨g, 0, none⟩, 1, 1, [⟨122, 0, ⟨#[]⟩⟩], 0, 0, false, ⟨#[]⟩⟩, ⟨1, 3, none, 0, 0, [], 0, 0, false, ⟨#[]⟩⟩]
def o1P : List Ac.Pt := [⟨1, 1, [], 2, 1, true, ⟨#[104, 116, 116, 112, 58, 120]⟩⟩, ⟨3, 1, [], 0, 0, false, ⟨#[]⟩⟩, ⟨2, 0, [⟨122, 0, ⟨#[]⟩⟩], 0, 0, false, ⟨#[]⟩⟩, ⟨1, 3, [], 0, 0, false, ⟨#[]⟩⟩]
theorem o1_pt (g : Nat) : (o1V g).map PV.pt = o1P := rfl
theorem o1_fit : Ac.fitE smallDoc o1P = 0 := by decide +kernel
theorem o1_chk : Ac.chk o1P = 0 := by decide +kernel
theorem o1_long : Ac.lf o1P = 5 ∧ Ac.lt o1P = 5 := by decide +kernel
theorem o1_made : Ac.done smallDoc o1P = [⟨97, 2, ⟨#[104, 116, 116, 112, 58, 120]⟩⟩, ⟨122, 0, ⟨#[]⟩⟩, ⟨10, 1, ⟨#[]⟩⟩, ⟨60, 0, ⟨#[104, 116, 116, 112, 58, 38]⟩⟩, ⟨10, 2, ⟨#[]⟩⟩] := (its_same _ _).1 (by decide +kernel)
theorem o1_tid : (Ac.tid o1P).map (fun p => p.kind) = [1, 2, 3, 1] := by decide +kernel
/-- Where the closed fact's operation is laid. -/
def o1W (w : World) : World := (w.alloc (.cells #[.int .u8 122, .int .i64 0, .string ⟨#[]⟩] 38)).alloc (.cells #[.int .i64 1, .int .i64 1, .slice none 0 0, .int .i64 2, .int .i64 1, .bool true, .string ⟨#[104, 116, 116, 112, 58, 120]⟩, .int .i64 3, .int .i64 1, .slice none 0 0, .int .i64 0, .int .i64 0, .bool false, .string ⟨#[]⟩, .int .i64 2, .int .i64 0, .slice (some ⟨w.heap.size, 0, none⟩) 1 1, .int .i64 0, .int .i64 0, .bool false, .string ⟨#[]⟩, .int .i64 1, .int .i64 3, .slice none 0 0, .int .i64 0, .int .i64 0, .bool false, .string ⟨#[]⟩] 44)
theorem o1_below (w : World) : Below w.heap.size w (o1W w) := ((Below.refl _ _).alloc (Nat.le_refl _) _).alloc (by simp) _
theorem o1_ops (w : World) : Ops (o1W w) (some ⟨w.heap.size + 1, 0, none⟩) 4 4 (o1V w.heap.size) := by
  have h1 : Blk (w.alloc (.cells #[.int .u8 122, .int .i64 0, .string ⟨#[]⟩] 38)) w.heap.size (itCells [⟨122, 0, ⟨#[]⟩⟩]) 38 := Blk.new w _ _
  have hP : Blk (o1W w) (w.heap.size + 1) (pvCells (o1V w.heap.size)) 44 := Blk.newAt _ _ _ _ (World.size_alloc ..)
  have hI : Blk (o1W w) w.heap.size (itCells [⟨122, 0, ⟨#[]⟩⟩]) 38 := h1.alloc _
  have hA : At (o1W w) w.heap.size 0 [⟨122, 0, ⟨#[]⟩⟩] := at_block hI
  refine ⟨⟨rfl, Nat.le_refl _, by decide, fun _ => ⟨_, 0, rfl, fun j u hu => ?_⟩⟩, fun v hv => ?_⟩
  · rw [Nat.zero_add]
    exact (hP.cell j).trans hu
  · simp only [o1V, List.mem_cons, List.not_mem_nil, or_false] at hv
    rcases hv with rfl | rfl | rfl | rfl
    · exact ⟨doc_none _, by decide⟩
    · exact ⟨doc_none _, by decide⟩
    · exact ⟨⟨fun x hx => by rw [List.mem_singleton.1 hx]; decide, rfl, Nat.le_refl _, (by decide : 1 ≤ 9223372036854775807), fun _ => ⟨_, 0, rfl, hA⟩⟩, Nat.zero_le _⟩
    · exact ⟨doc_none _, by decide⟩

set_option maxRecDepth 100000 in
set_option maxHeartbeats 3200000 in
theorem opened_any (w : World) (hS : Sch w) : Calls Tryd.prog 16 #[] w fun e w' => e = .returned (.bool true) ∧ Below w.heap.size w w' := by
  have H1 : Hid (Below w.heap.size w (o1W w)) := o1_below w
  have HO1 : Hid (Ops (o1W w) (some ⟨w.heap.size + 1, 0, none⟩) 4 4 (o1V w.heap.size)) := o1_ops w
  have HS : Hid (∀ w', Below w.heap.size w w' → Sch w') := fun w' h => hS.below h
  clear hS
  go_enter Tryd.func16, Tryd.ntmps16
  go_upto_region 2 with fail
  change Code.wp Tryd.prog _ _ _ (o1W w)
  generalize o1W w = W1 at *
  go_wp2_with fail
  refine (smallD W1).mono ?_
  rintro e w2 ⟨rfl, hD, hb⟩
  have H2 : Hid (Below w.heap.size w w2) := H1.out.trans (hb.mono H1.out.size)
  have HO2 : Hid (Ops w2 (some ⟨w.heap.size + 1, 0, none⟩) 4 4 (o1V w.heap.size)) := HO1.out.below hb
  have CA : Hid (Calls Tryd.prog 10 #[.slice (some ⟨W1.heap.size, 0, none⟩) 5 5, .slice (some ⟨w.heap.size + 1, 0, none⟩) 4 4] w2 fun e w' => (∃ a c, e = .returned (.tuple #[.slice a 5 c, .int .i64 0]) ∧ Doc w' a 5 c [⟨97, 2, ⟨#[104, 116, 116, 112, 58, 120]⟩⟩, ⟨122, 0, ⟨#[]⟩⟩, ⟨10, 1, ⟨#[]⟩⟩, ⟨60, 0, ⟨#[104, 116, 116, 112, 58, 38]⟩⟩, ⟨10, 2, ⟨#[]⟩⟩]) ∧ Below w2.heap.size w2 w') := by
    have := apply_any (some ⟨W1.heap.size, 0, none⟩) (some ⟨w.heap.size + 1, 0, none⟩) 5 5 4 4 smallDoc (o1V w.heap.size) w2 hD HO2.out (HS.out _ H2.out)
    rw [o1_pt, o1_fit, o1_made] at this
    exact this
  clear hD hb
  go_wp2_with fail
  refine CA.out.mono ?_
  rintro e w3 ⟨⟨a, c, rfl, hD⟩, hb⟩
  obtain ⟨db, doff, rfl, hA⟩ := hD.lies (by decide)
  have hdr := hD.room
  have hdb := hD.big
  have HA3 : Hid (At w3 db doff [⟨97, 2, ⟨#[104, 116, 116, 112, 58, 120]⟩⟩, ⟨122, 0, ⟨#[]⟩⟩, ⟨10, 1, ⟨#[]⟩⟩, ⟨60, 0, ⟨#[104, 116, 116, 112, 58, 38]⟩⟩, ⟨10, 2, ⟨#[]⟩⟩]) := hA
  have H3 : Hid (Below w.heap.size w w3) := H2.out.trans (hb.mono H2.out.size)
  have HO3 : Hid (Ops w3 (some ⟨w.heap.size + 1, 0, none⟩) 4 4 (o1V w.heap.size)) := HO2.out.below hb
  have CT : Hid (Calls Tryd.prog 11 #[.slice (some ⟨w.heap.size + 1, 0, none⟩) 4 4] w3 fun e w' => (∃ a m c us, e = .returned (.tuple #[.slice a m c, .int .i64 0]) ∧ Ops w' a m c us ∧ us.map PV.pt = Ac.tid o1P) ∧ Below w3.heap.size w3 w') := by
    have := tidy_any (some ⟨w.heap.size + 1, 0, none⟩) 4 4 (o1V w.heap.size) w3 HO3.out (HS.out _ H3.out)
    rw [o1_pt, o1_chk] at this
    exact this
  clear hb hD hA CA
  go_wp2_with fail
  refine CT.out.mono ?_
  rintro e w4 ⟨⟨ta, tm, tc, us, rfl, hT, hu⟩, hb⟩
  have hkinds : us.map (fun v => v.kind) = [1, 2, 3, 1] := by
    have := congrArg (List.map fun p : Ac.Pt => p.kind) hu
    rw [o1_tid, List.map_map] at this
    exact this
  have hul : us.length = 4 := by have := congrArg List.length hkinds; rw [List.length_map] at this; exact this
  obtain rfl : tm = 4 := hT.len.symm.trans hul
  obtain ⟨tb, toff, rfl, hG⟩ := hT.get (by decide)
  have hk1 : us[1].kind = 2 := by
    have h1 : (us.map (fun v => v.kind))[1]? = some 2 := by rw [hkinds]; rfl
    rw [List.getElem?_map, List.getElem?_eq_getElem (by omega)] at h1
    exact Option.some.inj h1
  obtain ⟨u1, hu1⟩ : ∃ u1, us[1] = u1 := ⟨_, rfl⟩
  have HG4 : Hid (Seven w4 tb (toff + 1 * 7) u1) := by rw [← hu1]; exact hG 1 (by omega)
  have HK1 : Hid (u1.kind = 2) := by rw [← hu1]; exact hk1
  have htr := hT.row.room
  have htb := hT.row.big
  have H4 : Hid (Below w.heap.size w w4) := H3.out.trans (hb.mono H3.out.size)
  have HA4 : Hid (At w4 db doff [⟨97, 2, ⟨#[104, 116, 116, 112, 58, 120]⟩⟩, ⟨122, 0, ⟨#[]⟩⟩, ⟨10, 1, ⟨#[]⟩⟩, ⟨60, 0, ⟨#[104, 116, 116, 112, 58, 38]⟩⟩, ⟨10, 2, ⟨#[]⟩⟩]) := HA3.out.below hb
  have CL : Hid (Calls Tryd.prog 12 #[.slice (some ⟨w.heap.size + 1, 0, none⟩) 4 4] w4 fun e w' => e = .returned (.tuple #[.int .i64 5, .int .i64 5]) ∧ Below w4.heap.size w4 w') := by
    have := long_any (some ⟨w.heap.size + 1, 0, none⟩) 4 4 (o1V w.heap.size) w4 (HO3.out.below hb)
    rw [o1_pt, o1_long.1, o1_long.2] at this
    exact this
  clear hb hT hu hkinds hG hk1 CT hu1
  go_wp2_with fail
  refine CL.out.mono ?_
  rintro e w5 ⟨rfl, hb⟩
  have H5 : Hid (Below w.heap.size w w5) := H4.out.trans (hb.mono H4.out.size)
  obtain ⟨a0, a1, a2⟩ := (HA4.out.below hb).get (k := 0) rfl
  obtain ⟨b0, -, -⟩ := (HA4.out.below hb).get (k := 1) rfl
  have g0 : w5.cell? ⟨tb, toff + 7, none⟩ = some (.int .i64 2) := by have := (HG4.out.below hb).c0; rw [HK1.out] at this; exact this
  have hq := eql_items ⟨97, 2, ⟨#[104, 116, 116, 112, 58, 120]⟩⟩ ⟨97, 2, ⟨#[104, 116, 116, 112, 58, 120]⟩⟩
  rw [it_alike.2 rfl] at hq
  simp only [Nat.zero_mul, Nat.add_zero, Nat.one_mul] at a0 a1 a2 b0
  clear hb CL hul
  go_wp2
  go_ret
  exact ⟨rfl, H5.out⟩
end Go.Proofs.YtgidmnoinbbajaaDoor
