/-
  token's functions: small letters, a text read, a value, an attribute, a tag, a token.
-/
import Derived.Test.YtbhcklkbckacpaaGreatDoorTr
import Derived.Laws.ResultCell
import Derived.Laws.Rows
namespace Go.Proofs.YtbhcklkbckacpaaGreatDoor
open Go.RowKit

set_option maxRecDepth 100000 in
set_option maxHeartbeats 1600000 in
theorem tsmall_any (l : List UInt8) (w : World) (hs : l.length ≤ 20000) :
    Calls Tryz.prog 193 #[.string (B l)] w fun e w' => e = .returned (.string (B (Lk.small l))) ∧ Below w.heap.size w w' := by
  obtain ⟨sm, hsm⟩ : ∃ sm, Lk.small l = sm := ⟨_, rfl⟩
  rw [hsm]
  have HM : Hid (Lk.small l = sm) := hsm
  clear hsm
  have z1 := B_size l
  have hcv := Lib.run_convert_string_bytes (P := Tryz.prog) w 9 22 5 (B l) Tryz.underlying9 Tryz.underlying22 Tryz.underlying5
  have HS : Hid (SBuf w.heap.size w (Lib.bytesWorld w 5 (B l)) (smP l 0)) := by rw [smP_zero]; exact SBuf.start w (B l)
  generalize Lib.bytesWorld w 5 (B l) = w0 at *
  rw [z1] at hcv
  generalize grownCap w l.length 0 5 = cap at *
  go_enter Tryz.func193, Tryz.ntmps193
  go_wp2
  go_loopw [10] (fun i wr => ∃ k : Nat, k ≤ l.length ∧ i = .int .i64 k ∧ SBuf w.heap.size w wr (smP l k)) (fun i _ => l.length - (intOf i).toNat)
  case atStart => exact ⟨0, Nat.zero_le _, rfl, HS.out⟩
  case round =>
    obtain ⟨k, hk, rfl, hob⟩ := hrel
    have HB : Hid (SBuf w.heap.size w wr (smP l k)) := hob
    clear hob hcv
    by_cases hkl : k < l.length
    · have hkp : k < (smP l k).length := by rw [smP_len]; exact hkl
      obtain ⟨c, hc⟩ : ∃ c : UInt8, l[k] = c := ⟨_, rfl⟩
      have hcell := HB.out.cell k hkp
      rw [smP_at _ _ hkl, hc] at hcell
      have hfz := HB.out.frozen k hkp
      have H2 : Hid (SBuf w.heap.size w (wr.setCell ⟨w.heap.size, k, none⟩ (.int .u8 (Lk.small1 c).toNat)) (smP l (k + 1))) := by
        rw [smP_succ _ _ hkl, hc]; exact HB.out.set k _
      have HC : Hid (Calls Tryz.prog 243 #[.int .u8 c.toNat] wr fun e w' => e = .returned (.int .u8 (Lk.small1 c).toNat) ∧ w' = wr) := smallByte_any c wr
      clear hc hkp
      go_wp2_with fail
      refine HC.out.mono ?_
      rintro e w1 ⟨rfl, rfl⟩
      go_wp2
      go_roundw
      case rel => exact ⟨k + 1, by omega, by go_num, H2.out⟩
      case measure => simp [intOf]; omega
    · have hsz : (smP l k) = Lk.small l := smP_all _ _ (by omega)
      have H3 : Hid (SBuf w.heap.size w wr (Lk.small l)) := by rw [← hsz]; exact HB.out
      have hcb := run_convert_bytes_back (P := Tryz.prog) wr 22 9 5 ⟨w.heap.size, 0, none⟩ cap (Lk.small l) Tryz.underlying22 Tryz.underlying5 Tryz.underlying9 (fun j hj => by
        rw [show (⟨w.heap.size, 0, none⟩ : Addr).add j = ⟨w.heap.size, j, none⟩ by cases j <;> simp [Addr.add]]
        exact H3.out.cell j hj)
      rw [Lk.small_len] at hcb
      change _ = Result.ok (Value.string (B (Lk.small l))) _ at hcb
      rw [HM.out] at hcb
      clear hsz
      go_wp2
      go_ret
      exact ⟨rfl, H3.out.below⟩

theorem tread_any (l : List UInt8) (w : World) (hp : Pairs w) (hs : l.length ≤ 20000) :
    Calls Tryz.prog 189 #[.string (B l)] w fun e w' => e = .returned (.string (B (Esc.rd l))) ∧ Below w.heap.size w w' := by
  have H1 : Hid (Calls Tryz.prog 241 #[.string (B l)] w fun e w' => e = .returned (.tuple #[.string (B (Esc.rd l)), .int .i64 0]) ∧ Below w.heap.size w w') := read_ok (B l) w hp (by rw [B_size]; omega)
  clear hp
  generalize Esc.rd l = r at *
  go_enter Tryz.func189, Tryz.ntmps189
  go_wp2_with fail
  refine H1.out.mono ?_
  rintro e w1 ⟨rfl, hb⟩
  have H2 : Hid (Below w.heap.size w w1) := hb
  clear hb
  go_wp2
  go_ret
  exact ⟨rfl, H2.out⟩

theorem ix0 (w : World) : (Instr.index 319 (.agg #[.string ⟨#[34]⟩, .string ⟨#[39]⟩]) (.int .i64 0)).run Tryz.prog w = .ok (.string ⟨#[34]⟩) w := by kernel_rfl
theorem ix1 (w : World) : (Instr.index 319 (.agg #[.string ⟨#[34]⟩, .string ⟨#[39]⟩]) (.int .i64 1)).run Tryz.prog w = .ok (.string ⟨#[39]⟩) w := by kernel_rfl
/-- A token of nothing. -/
def tk0 : Tk := ⟨0, [], [], []⟩
theorem szTk (k : Tk) : (Tryz.prog.info? 30).map (·.size) = some (tkC k).toArray.size := by
  have h : (Tryz.prog.info? 30).map (·.size) = some 4 := by kernel_rfl
  exact h
/-- A token that is handed back. -/
theorem ret_tok {fn : Func} {p : Tmp} {k : Tk} {w : World} {g : Nat} (h : fn.results = #[.cell p 30]) (tmps : Array Value) (hp : tmps.getD p undef = .pointer (some ⟨g, 0, none⟩)) (hB : Blk w g (tkC k) 30) : (results fn tmps).run Tryz.prog w = .ok (tkA k) w :=
  results_cell_row h tmps w g 30 (tkC k).toArray (0, 0) _ hp hB Tryz.underlying30 rfl (szTk k)
theorem ret_tok2 {fn : Func} {p u : Tmp} {k : Tk} {w : World} {g : Nat} (h : fn.results = #[.cell p 30, .tmp u]) (tmps : Array Value) (hp : tmps.getD p undef = .pointer (some ⟨g, 0, none⟩)) (hB : Blk w g (tkC k) 30) : (results fn tmps).run Tryz.prog w = .ok (.tuple #[tkA k, tmps.getD u undef]) w := by
  rw [results_cell_tmp h, hp]
  have := run_loadVar_row (P := Tryz.prog) w g 30 30 (tkC k).toArray (0, 0) _ hB Tryz.underlying30 rfl (szTk k)
  simp only [asAddr, Sem.run_pure, Result.andThen, this]
  rfl
/-- What a token's block holds behind a store of another one. -/
def putT (w : World) (g : Nat) (k : Tk) : World := (((w.setCell ⟨g, 0, none⟩ (.int .i64 k.kind)).setCell ⟨g, 1, none⟩ (.string (B k.name))).setCell ⟨g, 2, none⟩ (.string (B k.text))).setCell ⟨g, 3, none⟩ (.string (B k.href))
theorem putT_blk {w : World} {g : Nat} {j k : Tk} (h : Blk w g (tkC j) 30) : Blk (putT w g k) g (tkC k) 30 := (((h.set 0 (.int .i64 k.kind)).set 1 (.string (B k.name))).set 2 (.string (B k.text))).set 3 (.string (B k.href))
theorem putT_kept (w : World) (g : Nat) (k : Tk) (S : List Nat) (hg : g ∈ S) : Kept w (putT w g k) S :=
  ((((Kept.refl w S).setCell _ _ (.inl hg)).setCell _ _ (.inl hg)).setCell _ _ (.inl hg)).setCell _ _ (.inl hg)
theorem putT_below (w : World) (g : Nat) (k : Tk) : Below g w (putT w g k) := ((((Below.refl g w).setCell (Nat.le_refl _) _).setCell (Nat.le_refl _) _).setCell (Nat.le_refl _) _).setCell (Nat.le_refl _) _
theorem text_any (l : List UInt8) (w : World) (hp : Pairs w) (hs : l.length ≤ 20000) :
    Calls Tryz.prog 121 #[.string (B l)] w fun e w' => e = .returned (tkA (Tk.txt (Esc.rd l))) ∧ Below w.heap.size w w' := by
  have H1 : Hid (Calls Tryz.prog 189 #[.string (B l)] (w.alloc (.cells #[.int .i64 0, .string ⟨#[]⟩, .string ⟨#[]⟩, .string ⟨#[]⟩] 30)) fun e w' => e = .returned (.string (B (Esc.rd l))) ∧ Below (w.alloc (.cells #[.int .i64 0, .string ⟨#[]⟩, .string ⟨#[]⟩, .string ⟨#[]⟩] 30)).heap.size (w.alloc (.cells #[.int .i64 0, .string ⟨#[]⟩, .string ⟨#[]⟩, .string ⟨#[]⟩] 30)) w') := tread_any l _ (hp.alloc _) hs
  clear hp
  generalize Esc.rd l = r at *
  go_enter Tryz.func121, Tryz.ntmps121
  go_wp2_with fail
  refine H1.out.mono ?_
  rintro e w1 ⟨rfl, hb⟩
  have HB : Hid (Blk w1 w.heap.size (tkC tk0) 30) := (hb.block _ (by simp)).trans (Blk.new w (tkC tk0) 30)
  have z0 := HB.out.frozen 0
  have z1 := HB.out.frozen 1
  have z2 := HB.out.frozen 2
  have z3 := HB.out.frozen 3
  have c0 : w1.cell? ⟨w.heap.size, 0, none⟩ = some (.int .i64 0) := HB.out.cell 0
  have c1 : w1.cell? ⟨w.heap.size, 1, none⟩ = some (.string ⟨#[]⟩) := HB.out.cell 1
  have c2 : w1.cell? ⟨w.heap.size, 2, none⟩ = some (.string ⟨#[]⟩) := HB.out.cell 2
  have c3 : w1.cell? ⟨w.heap.size, 3, none⟩ = some (.string ⟨#[]⟩) := HB.out.cell 3
  have H2 : Hid (Below w.heap.size w w1) := ((Below.refl _ _).alloc (Nat.le_refl _) _).trans (hb.mono (by simp))
  clear hb
  go_wp2
  change bodyPost Tryz.prog _ _ Exit.ret _ (putT w1 w.heap.size (Tk.txt r))
  exact bodyPost_ret (ret_tok (k := Tk.txt r) rfl _ rfl (putT_blk HB.out)) rfl ⟨rfl, H2.out.trans (putT_below _ _ _)⟩

theorem tw_len (p : UInt8 → Bool) (l : List UInt8) : (l.takeWhile p).length ≤ l.length := (List.takeWhile_sublist p).length_le
theorem pre_one (q : UInt8) (l : List UInt8) : ([q] : List UInt8).isPrefixOf l = true ↔ ∃ r, l = q :: r := by
  cases l with
  | nil => simp
  | cons c t =>
    simp [List.isPrefixOf]
    exact eq_comm


theorem takeIf_any (b : Nat) (l p : List UInt8) (w : World) (hR : Rd w b l) :
    Calls Tryz.prog 195 #[.pointer (some ⟨b, 0, none⟩), .string (B p)] w fun e w' => e = .returned (.bool (p.isPrefixOf l)) ∧ Rd w' b (if p.isPrefixOf l then l.drop p.length else l) ∧ Kept w w' [b] := by
  cases hp : p.isPrefixOf l
  · refine (takeIf_no b l p w hR hp).mono ?_
    rintro e w' ⟨rfl, rfl⟩
    exact ⟨rfl, hR, Kept.refl _ _⟩
  · exact takeIf_yes b l p w hR hp
theorem dw_not (q : UInt8) : ∀ r : List UInt8, (if ([q] : List UInt8).isPrefixOf (r.dropWhile (Tk.not q)) then (r.dropWhile (Tk.not q)).drop 1 else r.dropWhile (Tk.not q)) = (r.dropWhile (Tk.not q)).drop 1
  | [] => rfl
  | c :: t => by
    cases h : Tk.not q c
    · have hc : c = q := by unfold Tk.not at h; simpa using h
      subst hc
      rw [List.dropWhile_cons, h]
      simp [List.isPrefixOf]
    · rw [List.dropWhile_cons, h]
      exact dw_not q t
theorem Rd.over {w w' : World} {a b : Nat} {l : List UInt8} (h : Rd w b l) (hk : Kept w w' [a]) (hne : b ≠ a) : Rd w' b l := hk.blk h (by simpa using hne)

/- generated -/
set_option maxRecDepth 100000 in
set_option maxHeartbeats 1600000 in
theorem val_dq (b : Nat) (r : List UInt8) (w : World) (hR : Rd w b (34 :: r)) (hl : r.length ≤ 19999) :
    Calls Tryz.prog 245 #[.pointer (some ⟨b, 0, none⟩)] w fun e w' => e = .returned (.string (B (r.takeWhile (Tk.not 34)))) ∧ Rd w' b ((r.dropWhile (Tk.not 34)).drop 1) ∧ Kept w w' [b] := by
  obtain ⟨w0, hw0⟩ : ∃ w0, w0 = w := ⟨w, rfl⟩
  have R0 : Hid (Rd w b (34 :: r)) := hR
  have K0 : Hid (Kept w w [b]) := Kept.refl _ _
  have hd := Tk.dw_len (Tk.not 34) r
  have HD : Hid ((if ([34] : List UInt8).isPrefixOf (r.dropWhile (Tk.not 34)) then (r.dropWhile (Tk.not 34)).drop 1 else r.dropWhile (Tk.not 34)) = (r.dropWhile (Tk.not 34)).drop 1) := dw_not 34 r
  clear hR hw0
  have i0 := ix0
  have i1 := ix1
  go_enter Tryz.func245, Tryz.ntmps245
  go_wp2
  refine wp_loop_rounds 3 ?_
  rw [rounds_succ]
  go_wp2_with fail
  refine (takeIf_yes b (34 :: r) [34] _ R0.out (by simp [List.isPrefixOf])).mono ?_
  rintro e w1 ⟨rfl, hR, hK⟩
  have R1 : Hid (Rd w1 b r) := hR
  have K1 : Hid (Kept w w1 [b]) := hK
  clear hR hK
  go_wp2_with fail
  refine (oneOf_any [34] _).mono ?_
  rintro e w2 ⟨rfl, hA, hb⟩
  have A2 : Hid (Blk w2 w1.heap.size [.string (B [34])] 9) := hA
  have R2 : Hid (Rd w2 b (r)) := R1.out.far hb
  have K2 : Hid (Kept w w2 [b]) := K1.out.far hb
  clear hA hb
  go_wp2_with fail
  refine (upTo_one _ b (Tk.not 34) [34] (r) w2 (fun c => Tk.in_one 34 c) R2.out A2.out (by omega)).mono ?_
  rintro e w3 ⟨rfl, hR, hK⟩
  have R3 : Hid (Rd w3 b ((r).dropWhile (Tk.not 34))) := hR
  have K3 : Hid (Kept w w3 [b]) := K2.out.trans hK
  clear hR hK
  go_wp2_with fail
  refine (takeIf_any b (r.dropWhile (Tk.not 34)) [34] w3 R3.out).mono ?_
  rintro e w4 ⟨rfl, hR, hK⟩
  rw [show ([34] : List UInt8).length = 1 from rfl, HD.out] at hR
  have R4 : Hid (Rd w4 b ((r.dropWhile (Tk.not 34)).drop 1)) := hR
  have K4 : Hid (Kept w w4 [b]) := K3.out.trans hK
  clear hR hK
  generalize ([34] : List UInt8).isPrefixOf (r.dropWhile (Tk.not 34)) = x
  go_wp2
  go_ret
  exact ⟨rfl, R4.out, K4.out⟩

set_option maxRecDepth 100000 in
set_option maxHeartbeats 1600000 in
theorem val_sq (b : Nat) (r : List UInt8) (w : World) (hR : Rd w b (39 :: r)) (hl : r.length ≤ 19999) :
    Calls Tryz.prog 245 #[.pointer (some ⟨b, 0, none⟩)] w fun e w' => e = .returned (.string (B (r.takeWhile (Tk.not 39)))) ∧ Rd w' b ((r.dropWhile (Tk.not 39)).drop 1) ∧ Kept w w' [b] := by
  obtain ⟨w0, hw0⟩ : ∃ w0, w0 = w := ⟨w, rfl⟩
  have R0 : Hid (Rd w b (39 :: r)) := hR
  have K0 : Hid (Kept w w [b]) := Kept.refl _ _
  have hd := Tk.dw_len (Tk.not 39) r
  have HD : Hid ((if ([39] : List UInt8).isPrefixOf (r.dropWhile (Tk.not 39)) then (r.dropWhile (Tk.not 39)).drop 1 else r.dropWhile (Tk.not 39)) = (r.dropWhile (Tk.not 39)).drop 1) := dw_not 39 r
  clear hR hw0
  have i0 := ix0
  have i1 := ix1
  go_enter Tryz.func245, Tryz.ntmps245
  go_wp2
  refine wp_loop_rounds 3 ?_
  rw [rounds_succ]
  go_wp2_with fail
  refine (takeIf_no b (39 :: r) [34] w R0.out rfl).mono ?_
  rintro e w0' ⟨rfl, hw⟩
  rw [hw]
  go_wp2
  rw [rounds_succ]
  go_wp2_with fail
  refine (takeIf_yes b (39 :: r) [39] _ R0.out (by simp [List.isPrefixOf])).mono ?_
  rintro e w1 ⟨rfl, hR, hK⟩
  have R1 : Hid (Rd w1 b r) := hR
  have K1 : Hid (Kept w w1 [b]) := hK
  clear hR hK
  go_wp2_with fail
  refine (oneOf_any [39] _).mono ?_
  rintro e w2 ⟨rfl, hA, hb⟩
  have A2 : Hid (Blk w2 w1.heap.size [.string (B [39])] 9) := hA
  have R2 : Hid (Rd w2 b (r)) := R1.out.far hb
  have K2 : Hid (Kept w w2 [b]) := K1.out.far hb
  clear hA hb
  go_wp2_with fail
  refine (upTo_one _ b (Tk.not 39) [39] (r) w2 (fun c => Tk.in_one 39 c) R2.out A2.out (by omega)).mono ?_
  rintro e w3 ⟨rfl, hR, hK⟩
  have R3 : Hid (Rd w3 b ((r).dropWhile (Tk.not 39))) := hR
  have K3 : Hid (Kept w w3 [b]) := K2.out.trans hK
  clear hR hK
  go_wp2_with fail
  refine (takeIf_any b (r.dropWhile (Tk.not 39)) [39] w3 R3.out).mono ?_
  rintro e w4 ⟨rfl, hR, hK⟩
  rw [show ([39] : List UInt8).length = 1 from rfl, HD.out] at hR
  have R4 : Hid (Rd w4 b ((r.dropWhile (Tk.not 39)).drop 1)) := hR
  have K4 : Hid (Kept w w4 [b]) := K3.out.trans hK
  clear hR hK
  generalize ([39] : List UInt8).isPrefixOf (r.dropWhile (Tk.not 39)) = x
  go_wp2
  go_ret
  exact ⟨rfl, R4.out, K4.out⟩

set_option maxRecDepth 100000 in
set_option maxHeartbeats 1600000 in
theorem val_plain (b : Nat) (l : List UInt8) (w : World) (hR : Rd w b l) (hl : l.length ≤ 20000) (h1 : ([34] : List UInt8).isPrefixOf l = false) (h2 : ([39] : List UInt8).isPrefixOf l = false) :
    Calls Tryz.prog 245 #[.pointer (some ⟨b, 0, none⟩)] w fun e w' => e = .returned (.string (B (l.takeWhile Tk.avl))) ∧ Rd w' b (l.dropWhile Tk.avl) ∧ Kept w w' [b] := by
  have R0 : Hid (Rd w b l) := hR
  have H1 : Hid (([34] : List UInt8).isPrefixOf l = false) := h1
  have H2 : Hid (([39] : List UInt8).isPrefixOf l = false) := h2
  clear hR h1 h2
  have i0 := ix0
  have i1 := ix1
  go_enter Tryz.func245, Tryz.ntmps245
  go_wp2
  refine wp_loop_rounds 3 ?_
  rw [rounds_succ]
  go_wp2_with fail
  refine (takeIf_no b l [34] _ R0.out H1.out).mono ?_
  rintro e w1 ⟨rfl, rfl⟩
  go_wp2
  rw [rounds_succ]
  go_wp2_with fail
  refine (takeIf_no b l [39] _ R0.out H2.out).mono ?_
  rintro e w0 ⟨rfl, rfl⟩
  have K0 : Hid (Kept w0 w0 [b]) := Kept.refl _ _
  go_wp2
  rw [rounds_succ]
  go_wp2_with fail
  refine (oneOf_any [32, 9, 10, 13, 12, 62] _).mono ?_
  rintro e w1 ⟨rfl, hA, hb⟩
  have A1 : Hid (Blk w1 w0.heap.size [.string (B [32, 9, 10, 13, 12, 62])] 9) := hA
  have R1 : Hid (Rd w1 b (l)) := R0.out.far hb
  have K1 : Hid (Kept w0 w1 [b]) := K0.out.far hb
  clear hA hb
  go_wp2_with fail
  refine (upTo_one _ b (Tk.avl) [32, 9, 10, 13, 12, 62] (l) w1 (fun c => Tk.in_avl c) R1.out A1.out hl).mono ?_
  rintro e w2 ⟨rfl, hR, hK⟩
  have R2 : Hid (Rd w2 b ((l).dropWhile (Tk.avl))) := hR
  have K2 : Hid (Kept w0 w2 [b]) := K1.out.trans hK
  clear hR hK
  go_wp2
  go_ret
  exact ⟨rfl, R2.out, K2.out⟩

theorem tval_any (b : Nat) (l : List UInt8) (w : World) (hR : Rd w b l) (hl : l.length ≤ 20000) :
    Calls Tryz.prog 245 #[.pointer (some ⟨b, 0, none⟩)] w fun e w' => e = .returned (.string (B (Tk.val l).1)) ∧ Rd w' b (Tk.val l).2 ∧ Kept w w' [b] := by
  cases l with
  | nil => exact val_plain b [] w hR hl rfl rfl
  | cons q r =>
    simp only [List.length_cons] at hl
    by_cases h1 : q = 34
    · subst h1
      exact val_dq b r w hR (by omega)
    · by_cases h2 : q = 39
      · subst h2
        exact val_sq b r w hR (by omega)
      · have e1 : (q == 34) = false := by simpa using h1
        have e2 : (q == 39) = false := by simpa using h2
        have hv : Tk.val (q :: r) = ((q :: r).takeWhile Tk.avl, (q :: r).dropWhile Tk.avl) := by
          rw [Tk.val, e1, e2]
          rfl
        rw [hv]
        refine val_plain b (q :: r) w hR (by simp only [List.length_cons]; omega) ?_ ?_
        · have : ((34 : UInt8) == q) = false := by simpa using (fun e => h1 e.symm)
          simp [List.isPrefixOf, this]
        · have : ((39 : UInt8) == q) = false := by simpa using (fun e => h2 e.symm)
          simp [List.isPrefixOf, this]
set_option maxRecDepth 100000 in
set_option maxHeartbeats 1600000 in
theorem attr_eq (b : Nat) (c : UInt8) (t r2 : List UInt8) (w : World) (hR : Rd w b (c :: t)) (hl : t.length ≤ 19999) (he : (t.dropWhile Tk.anm).dropWhile Tk.sp = 61 :: r2) :
    Calls Tryz.prog 196 #[.pointer (some ⟨b, 0, none⟩)] w fun e w' => e = .returned (.tuple #[.string (B (c :: t.takeWhile Tk.anm)), .string (B ((Tk.val (r2.dropWhile Tk.sp)).1))]) ∧ Rd w' b ((Tk.val (r2.dropWhile Tk.sp)).2) ∧ Kept w w' [b] := by
  have R0 : Hid (Rd w b (c :: t)) := hR
  have K0 : Hid (Kept w w [b]) := Kept.refl _ _
  have HE : Hid ((t.dropWhile Tk.anm).dropWhile Tk.sp = 61 :: r2) := he
  have d1 := Tk.dw_len Tk.anm t
  have d2 := Tk.dw_len Tk.sp (t.dropWhile Tk.anm)
  have d3 := tw_len Tk.anm t
  have hN : B [c] ++ B (t.takeWhile Tk.anm) = B (c :: t.takeWhile Tk.anm) := B_cat [c] _
  have z1 := B_size [c]
  have z2 := B_size (t.takeWhile Tk.anm)
  have d4 : r2.length ≤ 19999 := by have := congrArg List.length he; simp only [List.length_cons] at this; omega
  have d5 := Tk.dw_len Tk.sp r2
  clear hR he
  rw [← hN]
  clear hN
  simp only [List.length_cons, List.length_nil] at z1
  go_enter Tryz.func196, Tryz.ntmps196
  go_wp2_with fail
  refine (take_any b 1 (c :: t) w R0.out (by simp)).mono ?_
  rintro e w1 ⟨rfl, hR, hK⟩
  have R1 : Hid (Rd w1 b t) := hR
  have K1 : Hid (Kept w w1 [b]) := hK
  clear hR hK
  go_wp2_with fail
  refine (oneOf_any [32, 9, 10, 13, 12, 47, 62, 61] _).mono ?_
  rintro e w2 ⟨rfl, hA, hb⟩
  have A2 : Hid (Blk w2 w1.heap.size [.string (B [32, 9, 10, 13, 12, 47, 62, 61])] 9) := hA
  have R2 : Hid (Rd w2 b (t)) := R1.out.far hb
  have K2 : Hid (Kept w w2 [b]) := K1.out.far hb
  clear hA hb
  go_wp2_with fail
  refine (upTo_one _ b (Tk.anm) [32, 9, 10, 13, 12, 47, 62, 61] (t) w2 (fun c => Tk.in_anm c) R2.out A2.out (by omega)).mono ?_
  rintro e w3 ⟨rfl, hR, hK⟩
  have R3 : Hid (Rd w3 b ((t).dropWhile (Tk.anm))) := hR
  have K3 : Hid (Kept w w3 [b]) := K2.out.trans hK
  clear hR hK
  go_wp2_with fail
  refine (noneOf_any [32, 9, 10, 13, 12] _).mono ?_
  rintro e w4 ⟨rfl, hA, hb⟩
  have A4 : Hid (Blk w4 w3.heap.size [.string (B [32, 9, 10, 13, 12])] 9) := hA
  have R4 : Hid (Rd w4 b (t.dropWhile Tk.anm)) := R3.out.far hb
  have K4 : Hid (Kept w w4 [b]) := K3.out.far hb
  clear hA hb
  go_wp2_with fail
  refine (upTo_none _ b (Tk.sp) [32, 9, 10, 13, 12] (t.dropWhile Tk.anm) w4 (fun c => congrArg _ (Tk.in_sp c)) R4.out A4.out (by omega)).mono ?_
  rintro e w5 ⟨rfl, hR, hK⟩
  have R5 : Hid (Rd w5 b ((t.dropWhile Tk.anm).dropWhile (Tk.sp))) := hR
  have K5 : Hid (Kept w w5 [b]) := K4.out.trans hK
  clear hR hK
  have R5' : Hid (Rd w5 b (61 :: r2)) := by rw [← HE.out]; exact R5.out
  go_wp2_with fail
  refine (takeIf_yes b (61 :: r2) [61] w5 R5'.out (by simp [List.isPrefixOf])).mono ?_
  rintro e w6 ⟨rfl, hR, hK⟩
  have R6 : Hid (Rd w6 b r2) := hR
  have K6 : Hid (Kept w w6 [b]) := K5.out.trans hK
  clear hR hK
  go_wp2_with fail
  refine (noneOf_any [32, 9, 10, 13, 12] _).mono ?_
  rintro e w7 ⟨rfl, hA, hb⟩
  have A7 : Hid (Blk w7 w6.heap.size [.string (B [32, 9, 10, 13, 12])] 9) := hA
  have R7 : Hid (Rd w7 b (r2)) := R6.out.far hb
  have K7 : Hid (Kept w w7 [b]) := K6.out.far hb
  clear hA hb
  go_wp2_with fail
  refine (upTo_none _ b (Tk.sp) [32, 9, 10, 13, 12] (r2) w7 (fun c => congrArg _ (Tk.in_sp c)) R7.out A7.out (by omega)).mono ?_
  rintro e w8 ⟨rfl, hR, hK⟩
  have R8 : Hid (Rd w8 b ((r2).dropWhile (Tk.sp))) := hR
  have K8 : Hid (Kept w w8 [b]) := K7.out.trans hK
  clear hR hK
  go_wp2_with fail
  refine (tval_any b (r2.dropWhile Tk.sp) w8 R8.out (by omega)).mono ?_
  rintro e w9 ⟨rfl, hR, hK⟩
  have R9 : Hid (Rd w9 b ((Tk.val (r2.dropWhile Tk.sp)).2)) := hR
  have K9 : Hid (Kept w w9 [b]) := K8.out.trans hK
  clear hR hK
  go_wp2
  go_ret2
  exact ⟨rfl, R9.out, K9.out⟩
set_option maxRecDepth 100000 in
set_option maxHeartbeats 1600000 in
theorem attr_ne (b : Nat) (c : UInt8) (t : List UInt8) (w : World) (hR : Rd w b (c :: t)) (hl : t.length ≤ 19999) (he : ([61] : List UInt8).isPrefixOf ((t.dropWhile Tk.anm).dropWhile Tk.sp) = false) :
    Calls Tryz.prog 196 #[.pointer (some ⟨b, 0, none⟩)] w fun e w' => e = .returned (.tuple #[.string (B (c :: t.takeWhile Tk.anm)), .string (B ([]))]) ∧ Rd w' b ((t.dropWhile Tk.anm).dropWhile Tk.sp) ∧ Kept w w' [b] := by
  have R0 : Hid (Rd w b (c :: t)) := hR
  have K0 : Hid (Kept w w [b]) := Kept.refl _ _
  have HE : Hid (([61] : List UInt8).isPrefixOf ((t.dropWhile Tk.anm).dropWhile Tk.sp) = false) := he
  have d1 := Tk.dw_len Tk.anm t
  have d2 := Tk.dw_len Tk.sp (t.dropWhile Tk.anm)
  have d3 := tw_len Tk.anm t
  have hN : B [c] ++ B (t.takeWhile Tk.anm) = B (c :: t.takeWhile Tk.anm) := B_cat [c] _
  have z1 := B_size [c]
  have z2 := B_size (t.takeWhile Tk.anm)
  clear hR he
  rw [← hN]
  clear hN
  simp only [List.length_cons, List.length_nil] at z1
  go_enter Tryz.func196, Tryz.ntmps196
  go_wp2_with fail
  refine (take_any b 1 (c :: t) w R0.out (by simp)).mono ?_
  rintro e w1 ⟨rfl, hR, hK⟩
  have R1 : Hid (Rd w1 b t) := hR
  have K1 : Hid (Kept w w1 [b]) := hK
  clear hR hK
  go_wp2_with fail
  refine (oneOf_any [32, 9, 10, 13, 12, 47, 62, 61] _).mono ?_
  rintro e w2 ⟨rfl, hA, hb⟩
  have A2 : Hid (Blk w2 w1.heap.size [.string (B [32, 9, 10, 13, 12, 47, 62, 61])] 9) := hA
  have R2 : Hid (Rd w2 b (t)) := R1.out.far hb
  have K2 : Hid (Kept w w2 [b]) := K1.out.far hb
  clear hA hb
  go_wp2_with fail
  refine (upTo_one _ b (Tk.anm) [32, 9, 10, 13, 12, 47, 62, 61] (t) w2 (fun c => Tk.in_anm c) R2.out A2.out (by omega)).mono ?_
  rintro e w3 ⟨rfl, hR, hK⟩
  have R3 : Hid (Rd w3 b ((t).dropWhile (Tk.anm))) := hR
  have K3 : Hid (Kept w w3 [b]) := K2.out.trans hK
  clear hR hK
  go_wp2_with fail
  refine (noneOf_any [32, 9, 10, 13, 12] _).mono ?_
  rintro e w4 ⟨rfl, hA, hb⟩
  have A4 : Hid (Blk w4 w3.heap.size [.string (B [32, 9, 10, 13, 12])] 9) := hA
  have R4 : Hid (Rd w4 b (t.dropWhile Tk.anm)) := R3.out.far hb
  have K4 : Hid (Kept w w4 [b]) := K3.out.far hb
  clear hA hb
  go_wp2_with fail
  refine (upTo_none _ b (Tk.sp) [32, 9, 10, 13, 12] (t.dropWhile Tk.anm) w4 (fun c => congrArg _ (Tk.in_sp c)) R4.out A4.out (by omega)).mono ?_
  rintro e w5 ⟨rfl, hR, hK⟩
  have R5 : Hid (Rd w5 b ((t.dropWhile Tk.anm).dropWhile (Tk.sp))) := hR
  have K5 : Hid (Kept w w5 [b]) := K4.out.trans hK
  clear hR hK
  go_wp2_with fail
  refine (takeIf_no b _ [61] w5 R5.out HE.out).mono ?_
  rintro e w6 ⟨rfl, rfl⟩
  go_wp2
  go_ret2
  exact ⟨rfl, R5.out, K5.out⟩
theorem attr_any (b : Nat) (c : UInt8) (t : List UInt8) (w : World) (hR : Rd w b (c :: t)) (hl : t.length ≤ 19999) :
    Calls Tryz.prog 196 #[.pointer (some ⟨b, 0, none⟩)] w fun e w' => e = .returned (.tuple #[.string (B (c :: t.takeWhile Tk.anm)), .string (B (Tk.value (t.dropWhile Tk.anm)).1)]) ∧ Rd w' b (Tk.restA (t.dropWhile Tk.anm)) ∧ Kept w w' [b] := by
  by_cases h : ∃ r2, (t.dropWhile Tk.anm).dropWhile Tk.sp = 61 :: r2
  · obtain ⟨r2, h⟩ := h
    obtain ⟨e1, e2, _⟩ := Tk.restA_eq _ r2 h
    rw [e1, e2]
    exact attr_eq b c t r2 w hR hl h
  · obtain ⟨e1, e2, _⟩ := Tk.restA_ne (t.dropWhile Tk.anm) (fun r2 e => h ⟨r2, e⟩)
    rw [e1, e2]
    refine attr_ne b c t w hR hl ?_
    cases hp : ([61] : List UInt8).isPrefixOf ((t.dropWhile Tk.anm).dropWhile Tk.sp)
    · rfl
    · exact absurd ((pre_one 61 _).1 hp) h
end Go.Proofs.YtbhcklkbckacpaaGreatDoor
