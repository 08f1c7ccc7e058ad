/-
  slices.Repeat of one act.
-/
import Derived.Test.YtbhcklkbckacpaaGreatDoorQa
import Derived.Laws.CopyOwn
import Derived.Laws.OwnMore
import Derived.Deep.RegionLaw
namespace Go.Proofs.YtbhcklkbckacpaaGreatDoor
open Go.RowKit

theorem run_copy_sz {P : Program} (w : World) (dT sT ty elem : TypeId) (sz g o dLen dCap : Nat) (a : Addr) (sLen sCap : Nat) (cur : Array Value) (t : TypeId) (cs : List Value)
    (hu : P.underlying dT = some (.slice elem)) (hs : (P.info? elem).map (·.size) = some sz)
    (hg : w.heap[g]? = some (.cells cur t (0, 0))) (hn : cs.length = Nat.min sLen dLen * sz)
    (hsrc : ∀ j v, cs[j]? = some v → w.cell? (a.add j) = some v) (hfit : o + cs.length ≤ cur.size) (h1 : ∀ v ∈ cs, v.oneCell' = true) :
    (Builtin.copy_ #[dT, sT] ty #[.slice (some ⟨g, o, none⟩) dLen dCap, .slice (some a) sLen sCap]).run P w =
      .ok (goInt (Nat.min sLen dLen)) (w.setRow g (cur.toList.take o ++ cs ++ cur.toList.drop (o + cs.length)).toArray) := by
  have hl := run_loadCells_list (P := P) w a cs hsrc
  have hst := run_storeCells_at P g o t cs 0 cur w hg (by simpa using hfit) h1
  cases hq : P.info? elem with
  | none => simp [hq] at hs
  | some i =>
    have hi : i.size = sz := by simpa [hq] using hs
    rw [hn] at hl
    simp [Builtin.copy_, run_underlying hu, Builtin.lenOf, Builtin.firstCells, sizeOf, typeInfo, hq, hi, hl, hst]
structure RepI (w wr : World) (c j : Nat) (K : AV) (cur : List Value) : Prop where
  blk : Blk wr w.heap.size cur 196
  sz : cur.length = c * 11
  pre : cur.take (j * 11) = avCells (List.replicate j K)
  blw : Below w.heap.size w wr
theorem RepI.drew {w wr : World} {c j : Nat} {K : AV} {cur : List Value} (h : RepI w wr c j K cur) : RepI w wr.drew c j K cur := ⟨h.blk, h.sz, h.pre, h.blw.drew⟩
theorem rep_take (K : AV) : ∀ {m j : Nat}, m ≤ j → (avCells (List.replicate j K)).take (m * 11) = avCells (List.replicate m K)
  | 0, j, _ => by simp [avCells]
  | m + 1, 0, h => by omega
  | m + 1, j + 1, h => by
    have e : ∀ n, avCells (List.replicate (n + 1) K) = avC K ++ avCells (List.replicate n K) := fun n => rfl
    rw [e, e, List.take_append, List.take_of_length_le (by show 11 ≤ _; omega), show (m + 1) * 11 - (avC K).length = m * 11 by show _ - 11 = _; omega, rep_take K (by omega)]
theorem RepI.next {w wr : World} {c j m : Nat} {K : AV} {cur : List Value} (h : RepI w wr c j K cur) (hm : j + m ≤ c) :
    RepI w (wr.setRow w.heap.size (cur.toArray.toList.take (j * 11) ++ avCells (List.replicate m K) ++ cur.toArray.toList.drop (j * 11 + (avCells (List.replicate m K)).length)).toArray) c (j + m) K (cur.take (j * 11) ++ avCells (List.replicate m K) ++ cur.drop (j * 11 + (avCells (List.replicate m K)).length)) := by
  have hl : (avCells (List.replicate m K)).length = m * 11 := by rw [avCells_len, List.length_replicate]
  have hs := h.sz
  refine ⟨?_, ?_, ?_, below_setRow h.blw (Nat.le_refl _) _⟩
  · exact setRow_heap wr w.heap.size _ _ 196 _ h.blk
  · rw [List.length_append, List.length_append, hl, List.length_take, List.length_drop]
    omega
  · rw [h.pre, ← avCells_app, List.replicate_append_replicate, List.take_append_of_le_length (by rw [avCells_len, List.length_replicate]; omega), List.take_of_length_le (by rw [avCells_len, List.length_replicate]; omega)]
theorem sliced_from (g c j : Nat) (h : j < c) : sliced (some ⟨g, 0, none⟩) j c c 11 = .slice (some ⟨g, j * 11, none⟩) (c - j) (c - j) := by
  unfold sliced
  rw [if_neg (by omega), Option.map_some, add_off, Nat.zero_add]
theorem sliced_to (g c j : Nat) : sliced (some ⟨g, 0, none⟩) 0 j c 11 = .slice (some ⟨g, 0, none⟩) j c := by
  unfold sliced
  rw [Option.map_some, add_off, Nat.zero_mul, Nat.add_zero, Nat.sub_zero, Nat.sub_zero]
  split <;> rfl
set_option maxRecDepth 100000 in
theorem sl_from (g c j : Nat) (h : j < c) (w : World) : (Instr.slice 193 (.slice (some ⟨g, 0, none⟩) c c) (some (.int .i64 j)) none none).run Tryz.prog w = .ok (.slice (some ⟨g, j * 11, none⟩) (c - j) (c - j)) w := by
  have e : Tryz.prog.elem 193 = 196 := by kernel_rfl
  have u : Tryz.prog.underlying 193 = some (.slice (Tryz.prog.elem 193)) := by kernel_rfl
  rw [run_slice_l (P := Tryz.prog) (w := w) 193 _ c c u .i64 (j : Int) (by omega) (by omega), e, Tryz.sizeOf196 w]
  show Result.ok (sliced (some ⟨g, 0, none⟩) ((j : Int)).toNat c c 11) w = _
  rw [Int.toNat_natCast, sliced_from g c j h]
set_option maxRecDepth 100000 in
theorem sl_to (g c j : Nat) (h : j ≤ c) (w : World) : (Instr.slice 193 (.slice (some ⟨g, 0, none⟩) c c) none (some (.int .i64 j)) none).run Tryz.prog w = .ok (.slice (some ⟨g, 0, none⟩) j c) w := by
  have e : Tryz.prog.elem 193 = 196 := by kernel_rfl
  have u : Tryz.prog.underlying 193 = some (.slice (Tryz.prog.elem 193)) := by kernel_rfl
  rw [run_slice_h (P := Tryz.prog) (w := w) 193 _ c c u .i64 (j : Int) (by omega) (by omega), e, Tryz.sizeOf196 w]
  show Result.ok (sliced (some ⟨g, 0, none⟩) 0 ((j : Int)).toNat c 11) w = _
  rw [Int.toNat_natCast, sliced_to g c j]

theorem wrap_jm {j m c : Nat} (h : j + m ≤ c) (hc : c ≤ 10000) : IntKind.i64.wrap ((j : Int) + (m : Int)) = ((j + m : Nat) : Int) := by
  rw [show (j : Int) + (m : Int) = ((j + m : Nat) : Int) by omega]
  exact IntWalk.i64_in _ ⟨by omega, by omega⟩
set_option maxRecDepth 100000 in
set_option maxHeartbeats 6400000 in
theorem repeat_any (b off cap c : Nat) (K : AV) (w : World) (hR : Row w (some ⟨b, off, none⟩) 1 cap 11 (avC K)) (hc : c ≤ 10000) :
    Calls Tryz.prog 167 #[.slice (some ⟨b, off, none⟩) 1 cap, .int .i64 c] w fun e w' => (∃ a, e = .returned (.slice a c c) ∧ Row w' a c c 11 (avCells (List.replicate c K)) ∧ Fresh w a c) ∧ Below w.heap.size w w' := by
  obtain ⟨i0, hi, hz0, hz1, hz2⟩ := info_parts Tryz.infA
  have hisz : (Tryz.prog.info? 196).map (·.size) = some 11 := by rw [hi]; exact congrArg some hz1
  have CM : Hid (∀ w', Calls Tryz.prog 115 #[.int .u64 1, .int .u64 c] w' fun e w'' => e = .returned (.tuple #[.int .u64 0, .int .u64 c]) ∧ w'' = w') := fun w' => by
    have := Tryz.bits_Mul 1 c (by decide) (by omega) w'
    rw [show (1 * c / 18446744073709551616 : Nat) = 0 by omega, show (1 * c % 18446744073709551616 : Nat) = c by omega] at this
    exact this
  obtain ⟨wm, hmk, hmo, hmg⟩ := run_make_full (P := Tryz.prog) w w.heap.size 193 196 i0 (.agg #[.int .i64 0, .int .u8 0, .int .i64 0, .string ⟨#[]⟩, .int .i64 0, .int .i64 0, .slice none 0 0, .int .i64 0, .int .i64 0, .bool false, .string ⟨#[]⟩]) 11 Tryz.underlying193 hi hz0 hz1 .i64 .i64 c (by rw [hz2]; omega) (by unfold maxLen; omega) (Nat.le_refl _)
  have hBm : Below w.heap.size w wm := ⟨hmg.os, hmg.tape, hmg.output, hmg.size, fun k hk => hmg.block k hk (by simp)⟩
  have hnn : ¬ (c : Int) < 0 := by omega
  have hcap := hR.room
  have hbig := hR.big
  have hcu : IntKind.u64.wrap (c : Int) = (c : Int) := IntWalk.u64_in _ ⟨by omega, by omega⟩
  have hci : IntKind.i64.wrap (c : Int) = (c : Int) := IntWalk.i64_in _ ⟨by omega, by omega⟩
  have HR : Hid (Row w (some ⟨b, off, none⟩) 1 cap 11 (avC K)) := hR
  have HBm : Hid (Below w.heap.size w wm) := hBm
  clear hR hBm hmg
  go_enter Tryz.func167, Tryz.ntmps167
  go_wp2_with fail
  refine (CM.out _).mono ?_
  rintro e w1 ⟨rfl, hw⟩
  obtain rfl := hw.symm
  clear CM
  have hblk : ∃ cur : List Value, Blk wm w.heap.size cur 196 ∧ cur.length = c * 11 := by
    rcases hmo.2 with ⟨h1, -⟩ | ⟨g, cap', cur, hv, hg, hh, h1, h2, h3, h4⟩
    · cases h1
    · simp only [Value.slice.injEq, Option.some.injEq, Addr.mk.injEq] at hv
      obtain ⟨⟨rfl, -⟩, -, rfl⟩ := hv
      exact ⟨cur.toList, by unfold Blk; rw [Array.toArray_toList]; exact hh, by rw [Array.length_toList]; exact h3⟩
  obtain ⟨cur, hbk, hcl⟩ := hblk
  have hI0 : RepI w wm c 0 K cur := ⟨hbk, hcl, by simp [avCells], HBm.out⟩
  obtain ⟨m0, hm0⟩ : ∃ m0, Nat.min 1 c = m0 := ⟨_, rfl⟩
  have hm0' : m0 ≤ 1 ∧ m0 ≤ c ∧ (m0 = 0 → c = 0) := by rw [← hm0]; exact ⟨Nat.min_le_left _ _, Nat.min_le_right _ _, fun h => by have : min 1 c = 0 := h; omega⟩
  have hI1 := hI0.next (m := m0) (by omega)
  have hrow := HR.out.below HBm.out
  have hcp := run_copy_sz (P := Tryz.prog) wm 193 193 3 196 11 w.heap.size 0 c c ⟨b, off, none⟩ 1 cap cur.toArray 196 (avCells (List.replicate m0 K)) Tryz.underlying193 hisz hbk (by rw [avCells_len, List.length_replicate, hm0]) (fun j v hj => by
    obtain ⟨b', o', e, hc'⟩ := hrow.lies (by decide)
    cases e
    rw [add_off]
    refine hc' j v ?_
    have h1 : m0 = 0 ∨ m0 = 1 := by omega
    rcases h1 with rfl | rfl
    · simp [avCells] at hj
    · simpa [avCells] using hj) (by rw [avCells_len, List.length_replicate, List.size_toArray]; omega) (avCells_oneCell _)
  rw [hm0] at hcp
  replace hcp : (Builtin.copy_ #[193, 193] 3 #[.slice (some ⟨w.heap.size, 0, none⟩) c c, .slice (some ⟨b, off, none⟩) 1 cap]).run Tryz.prog wm = .ok (.int .i64 m0) (wm.setRow w.heap.size (cur.toArray.toList.take 0 ++ avCells (List.replicate m0 K) ++ cur.toArray.toList.drop (0 + (avCells (List.replicate m0 K)).length)).toArray) := hcp
  rw [Nat.zero_mul] at hI1
  obtain ⟨W1, hW1⟩ : ∃ W1, wm.setRow w.heap.size (cur.toArray.toList.take 0 ++ avCells (List.replicate m0 K) ++ cur.toArray.toList.drop (0 + (avCells (List.replicate m0 K)).length)).toArray = W1 := ⟨_, rfl⟩
  rw [hW1] at hcp hI1
  clear hW1
  go_wp2
  rw [Nat.zero_add m0] at hI1
  obtain ⟨cu1, hI1⟩ : ∃ cu, RepI w W1 c m0 K cu := ⟨_, hI1⟩
  have HI1 : Hid (RepI w W1 c m0 K cu1) := hI1
  clear hI0 hI1 hcp hbk hcl hrow hmo hm0 hmk hcu hci
  obtain ⟨hq0, hq1, hq2⟩ := hm0'
  go_loopw [8] (fun i wr => ∃ (j : Nat) (cur : List Value), i = .int .i64 j ∧ j ≤ c ∧ (j = 0 → c = 0) ∧ RepI w wr c j K cur) (fun i _ => c - (intOf i).toNat)
  case atStart => exact ⟨m0, cu1, rfl, hq1, hq2, HI1.out⟩
  case round =>
    obtain ⟨j, cu, rfl, hj, hj0, hI⟩ := hrel
    have HI : Hid (RepI w wr c j K cu) := hI
    by_cases hlt : j < c
    · have hj1 : 1 ≤ j := by omega
      obtain ⟨m, hm⟩ : ∃ m, Nat.min j (c - j) = m := ⟨_, rfl⟩
      have hml : m ≤ j ∧ j + m ≤ c ∧ 1 ≤ m := by
        have h1 : m = min j (c - j) := hm.symm
        omega
      have hI2 := hI.drew.next (m := m) hml.2.1
      have s1 := sl_from w.heap.size c j hlt
      have s2 := sl_to w.heap.size c j (by omega)
      have hcp := run_copy_sz (P := Tryz.prog) wr.drew 193 193 3 196 11 w.heap.size (j * 11) (c - j) (c - j) ⟨w.heap.size, 0, none⟩ j c cu.toArray 196 (avCells (List.replicate m K)) Tryz.underlying193 hisz hI.blk (by rw [avCells_len, List.length_replicate, hm]) (fun i v hv => by
        rw [add_off, Nat.zero_add]
        refine (hI.blk.cell i).trans ?_
        have hil : i < m * 11 := by have := (List.getElem?_eq_some_iff.1 hv).1; rw [avCells_len, List.length_replicate] at this; exact this
        have h1 : (cu.take (j * 11))[i]? = some v := by
          rw [hI.pre]
          have h2 := rep_take K hml.1
          rw [← h2] at hv
          rw [List.getElem?_take_of_lt hil] at hv
          exact hv
        rw [List.getElem?_take_of_lt (by omega)] at h1
        exact h1) (by rw [avCells_len, List.length_replicate, List.size_toArray, hI.sz]; omega) (avCells_oneCell _)
      rw [hm] at hcp
      replace hcp : (Builtin.copy_ #[193, 193] 3 #[.slice (some ⟨w.heap.size, j * 11, none⟩) (c - j) (c - j), .slice (some ⟨w.heap.size, 0, none⟩) j c]).run Tryz.prog wr.drew = .ok (.int .i64 m) (wr.drew.setRow w.heap.size (cu.toArray.toList.take (j * 11) ++ avCells (List.replicate m K) ++ cu.toArray.toList.drop (j * 11 + (avCells (List.replicate m K)).length)).toArray) := hcp
      obtain ⟨W2, hW2⟩ : ∃ W2, wr.drew.setRow w.heap.size (cu.toArray.toList.take (j * 11) ++ avCells (List.replicate m K) ++ cu.toArray.toList.drop (j * 11 + (avCells (List.replicate m K)).length)).toArray = W2 := ⟨_, rfl⟩
      rw [hW2] at hcp hI2
      obtain ⟨cu2, hI2⟩ : ∃ cu2, RepI w W2 c (j + m) K cu2 := ⟨_, hI2⟩
      have HI2 : Hid (RepI w W2 c (j + m) K cu2) := hI2
      clear hW2 hI2
      have q0 : (0 : Int) ≤ (j : Int) := by omega
      have q1 : (j : Int) ≤ (c : Int) := by omega
      have q2 : (j : Int) < (c : Int) := by omega
      clear hI hm
      obtain ⟨jm, hjm⟩ : ∃ jm, j + m = jm := ⟨_, rfl⟩
      have hw1 : IntKind.i64.wrap ((j : Int) + (m : Int)) = (jm : Int) := by rw [← hjm]; exact wrap_jm hml.2.1 hc
      have HJM : Hid (j + m = jm ∧ m ≤ j ∧ j + m ≤ c ∧ 1 ≤ m) := ⟨hjm, hml⟩
      rw [hjm] at HI2
      clear hjm hml hj0 hj1
      go_upto_region 9 with fail
      go_region
      all_goals
        go_wp2
        go_roundw
        case rel => exact ⟨jm, cu2, rfl, by have := HJM.out; omega, fun h => by have := HJM.out; omega, HI2.out⟩
        case measure => have := HJM.out; simp [intOf]; omega
    · have hjc : j = c := by omega
      subst hjc
      have HRW : Hid (Row wr (some ⟨w.heap.size, 0, none⟩) j j 11 (avCells (List.replicate j K))) := by
        have hp := hI.pre
        rw [List.take_of_length_le (by rw [hI.sz]; omega)] at hp
        exact ⟨by rw [avCells_len, List.length_replicate], Nat.le_refl _, by omega, fun _ => ⟨_, 0, rfl, fun i u hu => by rw [Nat.zero_add]; rw [← hp] at hu; exact (hI.blk.cell i).trans hu⟩⟩
      clear hI
      go_wp2
      go_ret
      exact ⟨⟨_, rfl, HRW.out, fun a _ e => by cases e; exact Nat.le_refl _⟩, HI.out.blw⟩
end Go.Proofs.YtbhcklkbckacpaaGreatDoor
