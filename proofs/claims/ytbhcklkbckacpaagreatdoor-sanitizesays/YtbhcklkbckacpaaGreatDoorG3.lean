/-
  Texts of this proof, one behind the other.
-/
import Derived.Test.YtbhcklkbckacpaaGreatDoorG2
import Derived.Laws.ResultCell
import Derived.Laws.Rows
import Derived.Lib.SlBytesConst

/-
  token's functions: small letters, a text read, a value, an attribute, a tag, a token.
-/
namespace Go.Proofs.YtbhcklkbckacpaaGreatDoor
open Go.RowKit

set_option maxRecDepth 100000 in
set_option maxHeartbeats 1600000 in
theorem tsmall_any (l : List UInt8) (w : World) (hs : l.length ≤ 20000) :
    Calls Tryz.prog 193 #[.string (B l)] w fun e w' => e = .returned (.string (B (Lk.small l))) ∧ Below w.heap.size w w' := by
  obtain ⟨sm, hsm⟩ : ∃ sm, Lk.small l = sm := ⟨_, rfl⟩
  rw [hsm]
  have HM : Hid (Lk.small l = sm) := hsm
  clear hsm
  have z1 := B_size l
  have hcv := Lib.run_convert_string_bytes (P := Tryz.prog) w 9 22 5 (B l) Tryz.underlying9 Tryz.underlying22 Tryz.underlying5
  have HS : Hid (SBuf w.heap.size w (Lib.bytesWorld w 5 (B l)) (smP l 0)) := by rw [smP_zero]; exact SBuf.start w (B l)
  generalize Lib.bytesWorld w 5 (B l) = w0 at *
  rw [z1] at hcv
  generalize grownCap w l.length 0 5 = cap at *
  go_enter Tryz.func193, Tryz.ntmps193
  go_wp2
  go_loopw [10] (fun i wr => ∃ k : Nat, k ≤ l.length ∧ i = .int .i64 k ∧ SBuf w.heap.size w wr (smP l k)) (fun i _ => l.length - (intOf i).toNat)
  case atStart => exact ⟨0, Nat.zero_le _, rfl, HS.out⟩
  case round =>
    obtain ⟨k, hk, rfl, hob⟩ := hrel
    have HB : Hid (SBuf w.heap.size w wr (smP l k)) := hob
    clear hob hcv
    by_cases hkl : k < l.length
    · have hkp : k < (smP l k).length := by rw [smP_len]; exact hkl
      obtain ⟨c, hc⟩ : ∃ c : UInt8, l[k] = c := ⟨_, rfl⟩
      have hcell := HB.out.cell k hkp
      rw [smP_at _ _ hkl, hc] at hcell
      have hfz := HB.out.frozen k hkp
      have H2 : Hid (SBuf w.heap.size w (wr.setCell ⟨w.heap.size, k, none⟩ (.int .u8 (Lk.small1 c).toNat)) (smP l (k + 1))) := by
        rw [smP_succ _ _ hkl, hc]; exact HB.out.set k _
      have HC : Hid (Calls Tryz.prog 243 #[.int .u8 c.toNat] wr fun e w' => e = .returned (.int .u8 (Lk.small1 c).toNat) ∧ w' = wr) := smallByte_any c wr
      clear hc hkp
      go_wp2_with fail
      refine HC.out.mono ?_
      rintro e w1 ⟨rfl, rfl⟩
      go_wp2
      go_roundw
      case rel => exact ⟨k + 1, by omega, by go_num, H2.out⟩
      case measure => simp [intOf]; omega
    · have hsz : (smP l k) = Lk.small l := smP_all _ _ (by omega)
      have H3 : Hid (SBuf w.heap.size w wr (Lk.small l)) := by rw [← hsz]; exact HB.out
      have hcb := run_convert_bytes_back (P := Tryz.prog) wr 22 9 5 ⟨w.heap.size, 0, none⟩ cap (Lk.small l) Tryz.underlying22 Tryz.underlying5 Tryz.underlying9 (fun j hj => by
        rw [show (⟨w.heap.size, 0, none⟩ : Addr).add j = ⟨w.heap.size, j, none⟩ by cases j <;> simp [Addr.add]]
        exact H3.out.cell j hj)
      rw [Lk.small_len] at hcb
      change _ = Result.ok (Value.string (B (Lk.small l))) _ at hcb
      rw [HM.out] at hcb
      clear hsz
      go_wp2
      go_ret
      exact ⟨rfl, H3.out.below⟩

theorem tread_any (l : List UInt8) (w : World) (hp : Pairs w) (hs : l.length ≤ 20000) :
    Calls Tryz.prog 189 #[.string (B l)] w fun e w' => e = .returned (.string (B (Esc.rd l))) ∧ Below w.heap.size w w' := by
  have H1 : Hid (Calls Tryz.prog 241 #[.string (B l)] w fun e w' => e = .returned (.tuple #[.string (B (Esc.rd l)), .int .i64 0]) ∧ Below w.heap.size w w') := read_ok (B l) w hp (by rw [B_size]; omega)
  clear hp
  generalize Esc.rd l = r at *
  go_enter Tryz.func189, Tryz.ntmps189
  go_wp2_with fail
  refine H1.out.mono ?_
  rintro e w1 ⟨rfl, hb⟩
  have H2 : Hid (Below w.heap.size w w1) := hb
  clear hb
  go_wp2
  go_ret
  exact ⟨rfl, H2.out⟩

theorem ix0 (w : World) : (Instr.index 319 (.agg #[.string ⟨#[34]⟩, .string ⟨#[39]⟩]) (.int .i64 0)).run Tryz.prog w = .ok (.string ⟨#[34]⟩) w := by kernel_rfl
theorem ix1 (w : World) : (Instr.index 319 (.agg #[.string ⟨#[34]⟩, .string ⟨#[39]⟩]) (.int .i64 1)).run Tryz.prog w = .ok (.string ⟨#[39]⟩) w := by kernel_rfl
def tk0 : Tk := ⟨0, [], [], []⟩
theorem szTk (k : Tk) : (Tryz.prog.info? 30).map (·.size) = some (tkC k).toArray.size := by
  have h : (Tryz.prog.info? 30).map (·.size) = some 4 := by kernel_rfl
  exact h
theorem ret_tok {fn : Func} {p : Tmp} {k : Tk} {w : World} {g : Nat} (h : fn.results = #[.cell p 30]) (tmps : Array Value) (hp : tmps.getD p undef = .pointer (some ⟨g, 0, none⟩)) (hB : Blk w g (tkC k) 30) : (results fn tmps).run Tryz.prog w = .ok (tkA k) w :=
  results_cell_row h tmps w g 30 (tkC k).toArray (0, 0) _ hp hB Tryz.underlying30 rfl (szTk k)
theorem ret_tok2 {fn : Func} {p u : Tmp} {k : Tk} {w : World} {g : Nat} (h : fn.results = #[.cell p 30, .tmp u]) (tmps : Array Value) (hp : tmps.getD p undef = .pointer (some ⟨g, 0, none⟩)) (hB : Blk w g (tkC k) 30) : (results fn tmps).run Tryz.prog w = .ok (.tuple #[tkA k, tmps.getD u undef]) w := by
  rw [results_cell_tmp h, hp]
  have := run_loadVar_row (P := Tryz.prog) w g 30 30 (tkC k).toArray (0, 0) _ hB Tryz.underlying30 rfl (szTk k)
  simp only [asAddr, Sem.run_pure, Result.andThen, this]
  rfl
def putT (w : World) (g : Nat) (k : Tk) : World := (((w.setCell ⟨g, 0, none⟩ (.int .i64 k.kind)).setCell ⟨g, 1, none⟩ (.string (B k.name))).setCell ⟨g, 2, none⟩ (.string (B k.text))).setCell ⟨g, 3, none⟩ (.string (B k.href))
theorem putT_blk {w : World} {g : Nat} {j k : Tk} (h : Blk w g (tkC j) 30) : Blk (putT w g k) g (tkC k) 30 := (((h.set 0 (.int .i64 k.kind)).set 1 (.string (B k.name))).set 2 (.string (B k.text))).set 3 (.string (B k.href))
theorem putT_kept (w : World) (g : Nat) (k : Tk) (S : List Nat) (hg : g ∈ S) : Kept w (putT w g k) S :=
  ((((Kept.refl w S).setCell _ _ (.inl hg)).setCell _ _ (.inl hg)).setCell _ _ (.inl hg)).setCell _ _ (.inl hg)
theorem putT_below (w : World) (g : Nat) (k : Tk) : Below g w (putT w g k) := ((((Below.refl g w).setCell (Nat.le_refl _) _).setCell (Nat.le_refl _) _).setCell (Nat.le_refl _) _).setCell (Nat.le_refl _) _
theorem text_any (l : List UInt8) (w : World) (hp : Pairs w) (hs : l.length ≤ 20000) :
    Calls Tryz.prog 121 #[.string (B l)] w fun e w' => e = .returned (tkA (Tk.txt (Esc.rd l))) ∧ Below w.heap.size w w' := by
  have H1 : Hid (Calls Tryz.prog 189 #[.string (B l)] (w.alloc (.cells #[.int .i64 0, .string ⟨#[]⟩, .string ⟨#[]⟩, .string ⟨#[]⟩] 30)) fun e w' => e = .returned (.string (B (Esc.rd l))) ∧ Below (w.alloc (.cells #[.int .i64 0, .string ⟨#[]⟩, .string ⟨#[]⟩, .string ⟨#[]⟩] 30)).heap.size (w.alloc (.cells #[.int .i64 0, .string ⟨#[]⟩, .string ⟨#[]⟩, .string ⟨#[]⟩] 30)) w') := tread_any l _ (hp.alloc _) hs
  clear hp
  generalize Esc.rd l = r at *
  go_enter Tryz.func121, Tryz.ntmps121
  go_wp2_with fail
  refine H1.out.mono ?_
  rintro e w1 ⟨rfl, hb⟩
  have HB : Hid (Blk w1 w.heap.size (tkC tk0) 30) := (hb.block _ (by simp)).trans (Blk.new w (tkC tk0) 30)
  have z0 := HB.out.frozen 0
  have z1 := HB.out.frozen 1
  have z2 := HB.out.frozen 2
  have z3 := HB.out.frozen 3
  have c0 : w1.cell? ⟨w.heap.size, 0, none⟩ = some (.int .i64 0) := HB.out.cell 0
  have c1 : w1.cell? ⟨w.heap.size, 1, none⟩ = some (.string ⟨#[]⟩) := HB.out.cell 1
  have c2 : w1.cell? ⟨w.heap.size, 2, none⟩ = some (.string ⟨#[]⟩) := HB.out.cell 2
  have c3 : w1.cell? ⟨w.heap.size, 3, none⟩ = some (.string ⟨#[]⟩) := HB.out.cell 3
  have H2 : Hid (Below w.heap.size w w1) := ((Below.refl _ _).alloc (Nat.le_refl _) _).trans (hb.mono (by simp))
  clear hb
  go_wp2
  change bodyPost Tryz.prog _ _ Exit.ret _ (putT w1 w.heap.size (Tk.txt r))
  exact bodyPost_ret (ret_tok (k := Tk.txt r) rfl _ rfl (putT_blk HB.out)) rfl ⟨rfl, H2.out.trans (putT_below _ _ _)⟩

theorem tw_len (p : UInt8 → Bool) (l : List UInt8) : (l.takeWhile p).length ≤ l.length := (List.takeWhile_sublist p).length_le
theorem pre_one (q : UInt8) (l : List UInt8) : ([q] : List UInt8).isPrefixOf l = true ↔ ∃ r, l = q :: r := by
  cases l with
  | nil => simp
  | cons c t =>
    simp [List.isPrefixOf]
    exact eq_comm


theorem takeIf_any (b : Nat) (l p : List UInt8) (w : World) (hR : Rd w b l) :
    Calls Tryz.prog 195 #[.pointer (some ⟨b, 0, none⟩), .string (B p)] w fun e w' => e = .returned (.bool (p.isPrefixOf l)) ∧ Rd w' b (if p.isPrefixOf l then l.drop p.length else l) ∧ Kept w w' [b] := by
  cases hp : p.isPrefixOf l
  · refine (takeIf_no b l p w hR hp).mono ?_
    rintro e w' ⟨rfl, rfl⟩
    exact ⟨rfl, hR, Kept.refl _ _⟩
  · exact takeIf_yes b l p w hR hp
theorem dw_not (q : UInt8) : ∀ r : List UInt8, (if ([q] : List UInt8).isPrefixOf (r.dropWhile (Tk.not q)) then (r.dropWhile (Tk.not q)).drop 1 else r.dropWhile (Tk.not q)) = (r.dropWhile (Tk.not q)).drop 1
  | [] => rfl
  | c :: t => by
    cases h : Tk.not q c
    · have hc : c = q := by unfold Tk.not at h; simpa using h
      subst hc
      rw [List.dropWhile_cons, h]
      simp [List.isPrefixOf]
    · rw [List.dropWhile_cons, h]
      exact dw_not q t
theorem Rd.over {w w' : World} {a b : Nat} {l : List UInt8} (h : Rd w b l) (hk : Kept w w' [a]) (hne : b ≠ a) : Rd w' b l := hk.blk h (by simpa using hne)

/- generated -/
set_option maxRecDepth 100000 in
set_option maxHeartbeats 1600000 in
theorem val_dq (b : Nat) (r : List UInt8) (w : World) (hR : Rd w b (34 :: r)) (hl : r.length ≤ 19999) :
    Calls Tryz.prog 245 #[.pointer (some ⟨b, 0, none⟩)] w fun e w' => e = .returned (.string (B (r.takeWhile (Tk.not 34)))) ∧ Rd w' b ((r.dropWhile (Tk.not 34)).drop 1) ∧ Kept w w' [b] := by
  obtain ⟨w0, hw0⟩ : ∃ w0, w0 = w := ⟨w, rfl⟩
  have R0 : Hid (Rd w b (34 :: r)) := hR
  have K0 : Hid (Kept w w [b]) := Kept.refl _ _
  have hd := Tk.dw_len (Tk.not 34) r
  have HD : Hid ((if ([34] : List UInt8).isPrefixOf (r.dropWhile (Tk.not 34)) then (r.dropWhile (Tk.not 34)).drop 1 else r.dropWhile (Tk.not 34)) = (r.dropWhile (Tk.not 34)).drop 1) := dw_not 34 r
  clear hR hw0
  have i0 := ix0
  have i1 := ix1
  go_enter Tryz.func245, Tryz.ntmps245
  go_wp2
  refine wp_loop_rounds 3 ?_
  rw [rounds_succ]
  go_wp2_with fail
  refine (takeIf_yes b (34 :: r) [34] _ R0.out (by simp [List.isPrefixOf])).mono ?_
  rintro e w1 ⟨rfl, hR, hK⟩
  have R1 : Hid (Rd w1 b r) := hR
  have K1 : Hid (Kept w w1 [b]) := hK
  clear hR hK
  go_wp2_with fail
  refine (oneOf_any [34] _).mono ?_
  rintro e w2 ⟨rfl, hA, hb⟩
  have A2 : Hid (Blk w2 w1.heap.size [.string (B [34])] 9) := hA
  have R2 : Hid (Rd w2 b (r)) := R1.out.far hb
  have K2 : Hid (Kept w w2 [b]) := K1.out.far hb
  clear hA hb
  go_wp2_with fail
  refine (upTo_one _ b (Tk.not 34) [34] (r) w2 (fun c => Tk.in_one 34 c) R2.out A2.out (by omega)).mono ?_
  rintro e w3 ⟨rfl, hR, hK⟩
  have R3 : Hid (Rd w3 b ((r).dropWhile (Tk.not 34))) := hR
  have K3 : Hid (Kept w w3 [b]) := K2.out.trans hK
  clear hR hK
  go_wp2_with fail
  refine (takeIf_any b (r.dropWhile (Tk.not 34)) [34] w3 R3.out).mono ?_
  rintro e w4 ⟨rfl, hR, hK⟩
  rw [show ([34] : List UInt8).length = 1 from rfl, HD.out] at hR
  have R4 : Hid (Rd w4 b ((r.dropWhile (Tk.not 34)).drop 1)) := hR
  have K4 : Hid (Kept w w4 [b]) := K3.out.trans hK
  clear hR hK
  generalize ([34] : List UInt8).isPrefixOf (r.dropWhile (Tk.not 34)) = x
  go_wp2
  go_ret
  exact ⟨rfl, R4.out, K4.out⟩

set_option maxRecDepth 100000 in
set_option maxHeartbeats 1600000 in
theorem val_sq (b : Nat) (r : List UInt8) (w : World) (hR : Rd w b (39 :: r)) (hl : r.length ≤ 19999) :
    Calls Tryz.prog 245 #[.pointer (some ⟨b, 0, none⟩)] w fun e w' => e = .returned (.string (B (r.takeWhile (Tk.not 39)))) ∧ Rd w' b ((r.dropWhile (Tk.not 39)).drop 1) ∧ Kept w w' [b] := by
  obtain ⟨w0, hw0⟩ : ∃ w0, w0 = w := ⟨w, rfl⟩
  have R0 : Hid (Rd w b (39 :: r)) := hR
  have K0 : Hid (Kept w w [b]) := Kept.refl _ _
  have hd := Tk.dw_len (Tk.not 39) r
  have HD : Hid ((if ([39] : List UInt8).isPrefixOf (r.dropWhile (Tk.not 39)) then (r.dropWhile (Tk.not 39)).drop 1 else r.dropWhile (Tk.not 39)) = (r.dropWhile (Tk.not 39)).drop 1) := dw_not 39 r
  clear hR hw0
  have i0 := ix0
  have i1 := ix1
  go_enter Tryz.func245, Tryz.ntmps245
  go_wp2
  refine wp_loop_rounds 3 ?_
  rw [rounds_succ]
  go_wp2_with fail
  refine (takeIf_no b (39 :: r) [34] w R0.out rfl).mono ?_
  rintro e w0' ⟨rfl, hw⟩
  rw [hw]
  go_wp2
  rw [rounds_succ]
  go_wp2_with fail
  refine (takeIf_yes b (39 :: r) [39] _ R0.out (by simp [List.isPrefixOf])).mono ?_
  rintro e w1 ⟨rfl, hR, hK⟩
  have R1 : Hid (Rd w1 b r) := hR
  have K1 : Hid (Kept w w1 [b]) := hK
  clear hR hK
  go_wp2_with fail
  refine (oneOf_any [39] _).mono ?_
  rintro e w2 ⟨rfl, hA, hb⟩
  have A2 : Hid (Blk w2 w1.heap.size [.string (B [39])] 9) := hA
  have R2 : Hid (Rd w2 b (r)) := R1.out.far hb
  have K2 : Hid (Kept w w2 [b]) := K1.out.far hb
  clear hA hb
  go_wp2_with fail
  refine (upTo_one _ b (Tk.not 39) [39] (r) w2 (fun c => Tk.in_one 39 c) R2.out A2.out (by omega)).mono ?_
  rintro e w3 ⟨rfl, hR, hK⟩
  have R3 : Hid (Rd w3 b ((r).dropWhile (Tk.not 39))) := hR
  have K3 : Hid (Kept w w3 [b]) := K2.out.trans hK
  clear hR hK
  go_wp2_with fail
  refine (takeIf_any b (r.dropWhile (Tk.not 39)) [39] w3 R3.out).mono ?_
  rintro e w4 ⟨rfl, hR, hK⟩
  rw [show ([39] : List UInt8).length = 1 from rfl, HD.out] at hR
  have R4 : Hid (Rd w4 b ((r.dropWhile (Tk.not 39)).drop 1)) := hR
  have K4 : Hid (Kept w w4 [b]) := K3.out.trans hK
  clear hR hK
  generalize ([39] : List UInt8).isPrefixOf (r.dropWhile (Tk.not 39)) = x
  go_wp2
  go_ret
  exact ⟨rfl, R4.out, K4.out⟩

set_option maxRecDepth 100000 in
set_option maxHeartbeats 1600000 in
theorem val_plain (b : Nat) (l : List UInt8) (w : World) (hR : Rd w b l) (hl : l.length ≤ 20000) (h1 : ([34] : List UInt8).isPrefixOf l = false) (h2 : ([39] : List UInt8).isPrefixOf l = false) :
    Calls Tryz.prog 245 #[.pointer (some ⟨b, 0, none⟩)] w fun e w' => e = .returned (.string (B (l.takeWhile Tk.avl))) ∧ Rd w' b (l.dropWhile Tk.avl) ∧ Kept w w' [b] := by
  have R0 : Hid (Rd w b l) := hR
  have H1 : Hid (([34] : List UInt8).isPrefixOf l = false) := h1
  have H2 : Hid (([39] : List UInt8).isPrefixOf l = false) := h2
  clear hR h1 h2
  have i0 := ix0
  have i1 := ix1
  go_enter Tryz.func245, Tryz.ntmps245
  go_wp2
  refine wp_loop_rounds 3 ?_
  rw [rounds_succ]
  go_wp2_with fail
  refine (takeIf_no b l [34] _ R0.out H1.out).mono ?_
  rintro e w1 ⟨rfl, rfl⟩
  go_wp2
  rw [rounds_succ]
  go_wp2_with fail
  refine (takeIf_no b l [39] _ R0.out H2.out).mono ?_
  rintro e w0 ⟨rfl, rfl⟩
  have K0 : Hid (Kept w0 w0 [b]) := Kept.refl _ _
  go_wp2
  rw [rounds_succ]
  go_wp2_with fail
  refine (oneOf_any [32, 9, 10, 13, 12, 62] _).mono ?_
  rintro e w1 ⟨rfl, hA, hb⟩
  have A1 : Hid (Blk w1 w0.heap.size [.string (B [32, 9, 10, 13, 12, 62])] 9) := hA
  have R1 : Hid (Rd w1 b (l)) := R0.out.far hb
  have K1 : Hid (Kept w0 w1 [b]) := K0.out.far hb
  clear hA hb
  go_wp2_with fail
  refine (upTo_one _ b (Tk.avl) [32, 9, 10, 13, 12, 62] (l) w1 (fun c => Tk.in_avl c) R1.out A1.out hl).mono ?_
  rintro e w2 ⟨rfl, hR, hK⟩
  have R2 : Hid (Rd w2 b ((l).dropWhile (Tk.avl))) := hR
  have K2 : Hid (Kept w0 w2 [b]) := K1.out.trans hK
  clear hR hK
  go_wp2
  go_ret
  exact ⟨rfl, R2.out, K2.out⟩

theorem tval_any (b : Nat) (l : List UInt8) (w : World) (hR : Rd w b l) (hl : l.length ≤ 20000) :
    Calls Tryz.prog 245 #[.pointer (some ⟨b, 0, none⟩)] w fun e w' => e = .returned (.string (B (Tk.val l).1)) ∧ Rd w' b (Tk.val l).2 ∧ Kept w w' [b] := by
  cases l with
  | nil => exact val_plain b [] w hR hl rfl rfl
  | cons q r =>
    simp only [List.length_cons] at hl
    by_cases h1 : q = 34
    · subst h1
      exact val_dq b r w hR (by omega)
    · by_cases h2 : q = 39
      · subst h2
        exact val_sq b r w hR (by omega)
      · have e1 : (q == 34) = false := by simpa using h1
        have e2 : (q == 39) = false := by simpa using h2
        have hv : Tk.val (q :: r) = ((q :: r).takeWhile Tk.avl, (q :: r).dropWhile Tk.avl) := by
          rw [Tk.val, e1, e2]
          rfl
        rw [hv]
        refine val_plain b (q :: r) w hR (by simp only [List.length_cons]; omega) ?_ ?_
        · have : ((34 : UInt8) == q) = false := by simpa using (fun e => h1 e.symm)
          simp [List.isPrefixOf, this]
        · have : ((39 : UInt8) == q) = false := by simpa using (fun e => h2 e.symm)
          simp [List.isPrefixOf, this]
set_option maxRecDepth 100000 in
set_option maxHeartbeats 1600000 in
theorem attr_eq (b : Nat) (c : UInt8) (t r2 : List UInt8) (w : World) (hR : Rd w b (c :: t)) (hl : t.length ≤ 19999) (he : (t.dropWhile Tk.anm).dropWhile Tk.sp = 61 :: r2) :
    Calls Tryz.prog 196 #[.pointer (some ⟨b, 0, none⟩)] w fun e w' => e = .returned (.tuple #[.string (B (c :: t.takeWhile Tk.anm)), .string (B ((Tk.val (r2.dropWhile Tk.sp)).1))]) ∧ Rd w' b ((Tk.val (r2.dropWhile Tk.sp)).2) ∧ Kept w w' [b] := by
  have R0 : Hid (Rd w b (c :: t)) := hR
  have K0 : Hid (Kept w w [b]) := Kept.refl _ _
  have HE : Hid ((t.dropWhile Tk.anm).dropWhile Tk.sp = 61 :: r2) := he
  have d1 := Tk.dw_len Tk.anm t
  have d2 := Tk.dw_len Tk.sp (t.dropWhile Tk.anm)
  have d3 := tw_len Tk.anm t
  have hN : B [c] ++ B (t.takeWhile Tk.anm) = B (c :: t.takeWhile Tk.anm) := B_cat [c] _
  have z1 := B_size [c]
  have z2 := B_size (t.takeWhile Tk.anm)
  have d4 : r2.length ≤ 19999 := by have := congrArg List.length he; simp only [List.length_cons] at this; omega
  have d5 := Tk.dw_len Tk.sp r2
  clear hR he
  rw [← hN]
  clear hN
  simp only [List.length_cons, List.length_nil] at z1
  go_enter Tryz.func196, Tryz.ntmps196
  go_wp2_with fail
  refine (take_any b 1 (c :: t) w R0.out (by simp)).mono ?_
  rintro e w1 ⟨rfl, hR, hK⟩
  have R1 : Hid (Rd w1 b t) := hR
  have K1 : Hid (Kept w w1 [b]) := hK
  clear hR hK
  go_wp2_with fail
  refine (oneOf_any [32, 9, 10, 13, 12, 47, 62, 61] _).mono ?_
  rintro e w2 ⟨rfl, hA, hb⟩
  have A2 : Hid (Blk w2 w1.heap.size [.string (B [32, 9, 10, 13, 12, 47, 62, 61])] 9) := hA
  have R2 : Hid (Rd w2 b (t)) := R1.out.far hb
  have K2 : Hid (Kept w w2 [b]) := K1.out.far hb
  clear hA hb
  go_wp2_with fail
  refine (upTo_one _ b (Tk.anm) [32, 9, 10, 13, 12, 47, 62, 61] (t) w2 (fun c => Tk.in_anm c) R2.out A2.out (by omega)).mono ?_
  rintro e w3 ⟨rfl, hR, hK⟩
  have R3 : Hid (Rd w3 b ((t).dropWhile (Tk.anm))) := hR
  have K3 : Hid (Kept w w3 [b]) := K2.out.trans hK
  clear hR hK
  go_wp2_with fail
  refine (noneOf_any [32, 9, 10, 13, 12] _).mono ?_
  rintro e w4 ⟨rfl, hA, hb⟩
  have A4 : Hid (Blk w4 w3.heap.size [.string (B [32, 9, 10, 13, 12])] 9) := hA
  have R4 : Hid (Rd w4 b (t.dropWhile Tk.anm)) := R3.out.far hb
  have K4 : Hid (Kept w w4 [b]) := K3.out.far hb
  clear hA hb
  go_wp2_with fail
  refine (upTo_none _ b (Tk.sp) [32, 9, 10, 13, 12] (t.dropWhile Tk.anm) w4 (fun c => congrArg _ (Tk.in_sp c)) R4.out A4.out (by omega)).mono ?_
  rintro e w5 ⟨rfl, hR, hK⟩
  have R5 : Hid (Rd w5 b ((t.dropWhile Tk.anm).dropWhile (Tk.sp))) := hR
  have K5 : Hid (Kept w w5 [b]) := K4.out.trans hK
  clear hR hK
  have R5' : Hid (Rd w5 b (61 :: r2)) := by rw [← HE.out]; exact R5.out
  go_wp2_with fail
  refine (takeIf_yes b (61 :: r2) [61] w5 R5'.out (by simp [List.isPrefixOf])).mono ?_
  rintro e w6 ⟨rfl, hR, hK⟩
  have R6 : Hid (Rd w6 b r2) := hR
  have K6 : Hid (Kept w w6 [b]) := K5.out.trans hK
  clear hR hK
  go_wp2_with fail
  refine (noneOf_any [32, 9, 10, 13, 12] _).mono ?_
  rintro e w7 ⟨rfl, hA, hb⟩
  have A7 : Hid (Blk w7 w6.heap.size [.string (B [32, 9, 10, 13, 12])] 9) := hA
  have R7 : Hid (Rd w7 b (r2)) := R6.out.far hb
  have K7 : Hid (Kept w w7 [b]) := K6.out.far hb
  clear hA hb
  go_wp2_with fail
  refine (upTo_none _ b (Tk.sp) [32, 9, 10, 13, 12] (r2) w7 (fun c => congrArg _ (Tk.in_sp c)) R7.out A7.out (by omega)).mono ?_
  rintro e w8 ⟨rfl, hR, hK⟩
  have R8 : Hid (Rd w8 b ((r2).dropWhile (Tk.sp))) := hR
  have K8 : Hid (Kept w w8 [b]) := K7.out.trans hK
  clear hR hK
  go_wp2_with fail
  refine (tval_any b (r2.dropWhile Tk.sp) w8 R8.out (by omega)).mono ?_
  rintro e w9 ⟨rfl, hR, hK⟩
  have R9 : Hid (Rd w9 b ((Tk.val (r2.dropWhile Tk.sp)).2)) := hR
  have K9 : Hid (Kept w w9 [b]) := K8.out.trans hK
  clear hR hK
  go_wp2
  go_ret2
  exact ⟨rfl, R9.out, K9.out⟩
set_option maxRecDepth 100000 in
set_option maxHeartbeats 1600000 in
theorem attr_ne (b : Nat) (c : UInt8) (t : List UInt8) (w : World) (hR : Rd w b (c :: t)) (hl : t.length ≤ 19999) (he : ([61] : List UInt8).isPrefixOf ((t.dropWhile Tk.anm).dropWhile Tk.sp) = false) :
    Calls Tryz.prog 196 #[.pointer (some ⟨b, 0, none⟩)] w fun e w' => e = .returned (.tuple #[.string (B (c :: t.takeWhile Tk.anm)), .string (B ([]))]) ∧ Rd w' b ((t.dropWhile Tk.anm).dropWhile Tk.sp) ∧ Kept w w' [b] := by
  have R0 : Hid (Rd w b (c :: t)) := hR
  have K0 : Hid (Kept w w [b]) := Kept.refl _ _
  have HE : Hid (([61] : List UInt8).isPrefixOf ((t.dropWhile Tk.anm).dropWhile Tk.sp) = false) := he
  have d1 := Tk.dw_len Tk.anm t
  have d2 := Tk.dw_len Tk.sp (t.dropWhile Tk.anm)
  have d3 := tw_len Tk.anm t
  have hN : B [c] ++ B (t.takeWhile Tk.anm) = B (c :: t.takeWhile Tk.anm) := B_cat [c] _
  have z1 := B_size [c]
  have z2 := B_size (t.takeWhile Tk.anm)
  clear hR he
  rw [← hN]
  clear hN
  simp only [List.length_cons, List.length_nil] at z1
  go_enter Tryz.func196, Tryz.ntmps196
  go_wp2_with fail
  refine (take_any b 1 (c :: t) w R0.out (by simp)).mono ?_
  rintro e w1 ⟨rfl, hR, hK⟩
  have R1 : Hid (Rd w1 b t) := hR
  have K1 : Hid (Kept w w1 [b]) := hK
  clear hR hK
  go_wp2_with fail
  refine (oneOf_any [32, 9, 10, 13, 12, 47, 62, 61] _).mono ?_
  rintro e w2 ⟨rfl, hA, hb⟩
  have A2 : Hid (Blk w2 w1.heap.size [.string (B [32, 9, 10, 13, 12, 47, 62, 61])] 9) := hA
  have R2 : Hid (Rd w2 b (t)) := R1.out.far hb
  have K2 : Hid (Kept w w2 [b]) := K1.out.far hb
  clear hA hb
  go_wp2_with fail
  refine (upTo_one _ b (Tk.anm) [32, 9, 10, 13, 12, 47, 62, 61] (t) w2 (fun c => Tk.in_anm c) R2.out A2.out (by omega)).mono ?_
  rintro e w3 ⟨rfl, hR, hK⟩
  have R3 : Hid (Rd w3 b ((t).dropWhile (Tk.anm))) := hR
  have K3 : Hid (Kept w w3 [b]) := K2.out.trans hK
  clear hR hK
  go_wp2_with fail
  refine (noneOf_any [32, 9, 10, 13, 12] _).mono ?_
  rintro e w4 ⟨rfl, hA, hb⟩
  have A4 : Hid (Blk w4 w3.heap.size [.string (B [32, 9, 10, 13, 12])] 9) := hA
  have R4 : Hid (Rd w4 b (t.dropWhile Tk.anm)) := R3.out.far hb
  have K4 : Hid (Kept w w4 [b]) := K3.out.far hb
  clear hA hb
  go_wp2_with fail
  refine (upTo_none _ b (Tk.sp) [32, 9, 10, 13, 12] (t.dropWhile Tk.anm) w4 (fun c => congrArg _ (Tk.in_sp c)) R4.out A4.out (by omega)).mono ?_
  rintro e w5 ⟨rfl, hR, hK⟩
  have R5 : Hid (Rd w5 b ((t.dropWhile Tk.anm).dropWhile (Tk.sp))) := hR
  have K5 : Hid (Kept w w5 [b]) := K4.out.trans hK
  clear hR hK
  go_wp2_with fail
  refine (takeIf_no b _ [61] w5 R5.out HE.out).mono ?_
  rintro e w6 ⟨rfl, rfl⟩
  go_wp2
  go_ret2
  exact ⟨rfl, R5.out, K5.out⟩
theorem attr_any (b : Nat) (c : UInt8) (t : List UInt8) (w : World) (hR : Rd w b (c :: t)) (hl : t.length ≤ 19999) :
    Calls Tryz.prog 196 #[.pointer (some ⟨b, 0, none⟩)] w fun e w' => e = .returned (.tuple #[.string (B (c :: t.takeWhile Tk.anm)), .string (B (Tk.value (t.dropWhile Tk.anm)).1)]) ∧ Rd w' b (Tk.restA (t.dropWhile Tk.anm)) ∧ Kept w w' [b] := by
  by_cases h : ∃ r2, (t.dropWhile Tk.anm).dropWhile Tk.sp = 61 :: r2
  · obtain ⟨r2, h⟩ := h
    obtain ⟨e1, e2, _⟩ := Tk.restA_eq _ r2 h
    rw [e1, e2]
    exact attr_eq b c t r2 w hR hl h
  · obtain ⟨e1, e2, _⟩ := Tk.restA_ne (t.dropWhile Tk.anm) (fun r2 e => h ⟨r2, e⟩)
    rw [e1, e2]
    refine attr_ne b c t w hR hl ?_
    cases hp : ([61] : List UInt8).isPrefixOf ((t.dropWhile Tk.anm).dropWhile Tk.sp)
    · rfl
    · exact absurd ((pre_one 61 _).1 hp) h
end Go.Proofs.YtbhcklkbckacpaaGreatDoor

/-
  token's tag, token and Page: what they make of the rest of a page is what chapter 5 says.
-/
namespace Go.Proofs.YtbhcklkbckacpaaGreatDoor
open Go.RowKit

theorem Blk.under {w w' : World} {g : Nat} {cs : List Value} {t : TypeId} (h : Blk w g cs t) (hb : Below w.heap.size w w') : Blk w' g cs t := (hb.block g h.lt).trans h
theorem Blk.beside {w w' : World} {g b : Nat} {cs : List Value} {t : TypeId} (h : Blk w g cs t) (hk : Kept w w' [b]) (hne : g ≠ b) : Blk w' g cs t := hk.blk h (by simpa using hne)
def zT (w : World) : World := w.alloc (.cells (tkC tk0).toArray 30)
theorem zT_size (w : World) : (zT w).heap.size = w.heap.size + 1 := World.size_alloc ..
theorem zT_blk (w : World) : Blk (zT w) w.heap.size (tkC tk0) 30 := Blk.new w (tkC tk0) 30
theorem zT_below (w : World) : Below w.heap.size w (zT w) := (Below.refl _ _).alloc (Nat.le_refl _) _
theorem tag_none {s : Bool} {u : List UInt8} (h : Tk.attr (u.dropWhile Tk.nam) none = none) : Tk.tag s u = ([], []) := by unfold Tk.tag; rw [h]
theorem tag_some {s : Bool} {u r : List UInt8} {h : Option (List UInt8)} (e : Tk.attr (u.dropWhile Tk.nam) none = some (h, r)) : Tk.tag s u = ([⟨if s then 3 else 2, Lk.small (u.takeWhile Tk.nam), [], if s then [] else Esc.rd (h.getD [])⟩], r) := by unfold Tk.tag; rw [e]
def left (b : Nat) (w : World) : Nat := match w.cell? ⟨b, 0, none⟩ with
  | some (.string s) => s.size
  | _ => 0
theorem left_of {b : Nat} {w : World} {l : List UInt8} (h : Rd w b l) : left b w = l.length := by
  unfold left
  rw [h.cell]
  exact B_size l
theorem dw_head (p : UInt8 → Bool) : ∀ (l : List UInt8) (c : UInt8) (t : List UInt8), l.dropWhile p = c :: t → p c = false
  | [], _, _, h => by cases h
  | x :: r, c, t, h => by
    rw [List.dropWhile_cons] at h
    split at h
    · exact dw_head p r c t h
    · cases h
      rename_i h1
      exact Bool.eq_false_iff.2 h1
structure TagAt (w : World) (b rb tb : Nat) (kd : Int) (nm : List UInt8) (R : Option (Option (List UInt8) × List UInt8)) (m : Value) (wr : World) (l : List UInt8) (h : Option (List UInt8)) : Prop where
  rest : Rd wr b l
  tok : Blk wr tb (tkC ⟨kd, nm, [], if kd = 2 then Esc.rd (h.getD []) else []⟩) 30
  res : Blk wr rb (tkC tk0) 30
  may : m = .bool (kd == 2 && h.isNone)
  go : Tk.attr l h = R
  len : l.length ≤ 20000
  kept : Kept w wr [b]
  env : Env wr b

set_option maxRecDepth 100000 in
set_option maxHeartbeats 3200000 in
theorem tag_2 (b : Nat) (u : List UInt8) (w : World) (hR : Rd w b u) (hE : Env w b) (hl : u.length ≤ 20000) :
    Calls Tryz.prog 128 #[.pointer (some ⟨b, 0, none⟩), .int .i64 2] w fun e w' => ∃ k whole rest, e = .returned (.tuple #[tkA k, .bool whole]) ∧ Tk.tag false u = (if whole then [k] else [], rest) ∧ Rd w' b rest ∧ Kept w w' [b] := by
  obtain ⟨R, hRR⟩ : ∃ R, Tk.attr (u.dropWhile Tk.nam) none = R := ⟨_, rfl⟩
  have HR : Hid (Tk.attr (u.dropWhile Tk.nam) none = R) := hRR
  clear hRR
  have hbw : b < w.heap.size := hR.lt
  have R0 : Hid (Rd (zT w) b u) := hR.far (zT_below w)
  have K0 : Hid (Kept w (zT w) [b]) := Kept.of (zT_below w) _
  have E0 : Hid (Env (zT w) b) := hE.below (zT_below w)
  have S0 : Hid (Blk (zT w) w.heap.size (tkC tk0) 30) := zT_blk w
  have d1 := Tk.dw_len Tk.nam u
  have d2 := tw_len Tk.nam u
  clear hR hE
  go_enter Tryz.func128, Tryz.ntmps128
  go_wp2_with fail
  refine (oneOf_any [32, 9, 10, 13, 12, 47, 62] _).mono ?_
  rintro e w1 ⟨rfl, hA, hb⟩
  have A1 : Hid (Blk w1 (w.heap.size + 1) [.string (B [32, 9, 10, 13, 12, 47, 62])] 9) := by rw [← zT_size w]; exact hA
  have R1 : Hid (Rd w1 b (u)) := R0.out.far hb
  have K1 : Hid (Kept w w1 [b]) := K0.out.far hb
  have E1 : Hid (Env w1 b) := E0.out.below hb
  have S1 : Hid (Blk w1 w.heap.size (tkC tk0) 30) := S0.out.under hb
  clear hA hb
  go_wp2_with fail
  refine (upTo_one _ b (Tk.nam) [32, 9, 10, 13, 12, 47, 62] (u) w1 (fun c => Tk.in_nam c) R1.out A1.out hl).mono ?_
  rintro e w2 ⟨rfl, hR, hK⟩
  have R2 : Hid (Rd w2 b ((u).dropWhile (Tk.nam))) := hR
  have K2 : Hid (Kept w w2 [b]) := K1.out.trans hK
  have E2 : Hid (Env w2 b) := E1.out.kept hK (Nat.le_refl _)
  have S2 : Hid (Blk w2 w.heap.size (tkC tk0) 30) := S1.out.beside hK (by omega)
  clear hR hK
  go_wp2_with fail
  refine (tsmall_any (u.takeWhile Tk.nam) w2 (by omega)).mono ?_
  rintro e w3 ⟨rfl, hb⟩
  have R3 : Hid (Rd w3 b (u.dropWhile Tk.nam)) := R2.out.far hb
  have K3 : Hid (Kept w w3 [b]) := K2.out.far hb
  have E3 : Hid (Env w3 b) := E2.out.below hb
  have S3 : Hid (Blk w3 w.heap.size (tkC tk0) 30) := S2.out.under hb
  clear hb
  obtain ⟨nm, hnm⟩ : ∃ nm, Lk.small (u.takeWhile Tk.nam) = nm := ⟨_, rfl⟩
  have HN : Hid (Lk.small (u.takeWhile Tk.nam) = nm) := hnm
  rw [hnm]
  clear hnm
  have hbw3 : b < w3.heap.size := R3.out.lt
  have hbr3 : w.heap.size < w3.heap.size := S3.out.lt
  go_wp2
  go_loopw [7] (fun m wr => ∃ l h, TagAt w b w.heap.size w3.heap.size 2 nm R m wr l h) (fun _ wr => left b wr)
  case atStart =>
    have hb := (Below.refl w3.heap.size w3).alloc (Nat.le_refl _) (.cells #[.int .i64 2, .string (B nm), .string ⟨#[]⟩, .string ⟨#[]⟩] 30)
    exact ⟨_, none, R3.out.far hb, Blk.new w3 (tkC ⟨2, nm, [], []⟩) 30, S3.out.under hb, rfl, HR.out, by omega, K3.out.far hb, E3.out.below hb⟩
  case round =>
    obtain ⟨l, h, hT⟩ := hrel
    have R10 : Hid (Rd wr b l) := hT.rest
    have K10 : Hid (Kept w wr [b]) := hT.kept
    have E10 : Hid (Env wr b) := hT.env
    have S10 : Hid (Blk wr w.heap.size (tkC tk0) 30) := hT.res
    have T10 : Hid (Blk wr w3.heap.size (tkC ⟨2, nm, [], Esc.rd (h.getD [])⟩) 30) := hT.tok
    have hlen := hT.len
    have HG : Hid (Tk.attr l h = R) := hT.go
    have hm : u7 = .bool (h.isNone) := hT.may
    rw [hm]
    clear hT hm
    have hLeft : Hid (left b wr = l.length) := left_of R10.out
    obtain ⟨l1, hl1⟩ : ∃ l1, l.dropWhile Tk.sl = l1 := ⟨_, rfl⟩
    have HL : Hid (l.dropWhile Tk.sl = l1) := hl1
    have hG1 : Tk.attr l1 h = R := by rw [← hl1, Tk.attr_sl]; exact HG.out
    have hlen1 : l1.length ≤ l.length := by rw [← hl1]; exact Tk.dw_len _ _
    clear hl1
    cases l1 with
    | nil =>
      have hn : Tk.attr (u.dropWhile Tk.nam) none = none := HR.out.trans hG1.symm
      have HF : Hid (Tk.tag false u = ([], [])) := tag_none hn
      clear hn hG1
      go_wp2_with fail
      refine (noneOf_any [32, 9, 10, 13, 12, 47] _).mono ?_
      rintro e w11 ⟨rfl, hA, hb⟩
      have A11 : Hid (Blk w11 _ [.string (B [32, 9, 10, 13, 12, 47])] 9) := hA
      have R11 : Hid (Rd w11 b (l)) := R10.out.far hb
      have K11 : Hid (Kept w w11 [b]) := K10.out.far hb
      have E11 : Hid (Env w11 b) := E10.out.below hb
      have S11 : Hid (Blk w11 w.heap.size (tkC tk0) 30) := S10.out.under hb
      have T11 : Hid (Blk w11 w3.heap.size (tkC ⟨2, nm, [], Esc.rd (h.getD [])⟩) 30) := T10.out.under hb
      clear hA hb
      go_wp2_with fail
      refine (upTo_none _ b (Tk.sl) [32, 9, 10, 13, 12, 47] (l) w11 (fun c => congrArg _ (Tk.in_sl c)) R11.out A11.out hlen).mono ?_
      rintro e w12 ⟨rfl, hR, hK⟩
      have R12 : Hid (Rd w12 b ((l).dropWhile (Tk.sl))) := hR
      have K12 : Hid (Kept w w12 [b]) := K11.out.trans hK
      have E12 : Hid (Env w12 b) := E11.out.kept hK (Nat.le_refl _)
      have S12 : Hid (Blk w12 w.heap.size (tkC tk0) 30) := S11.out.beside hK (by omega)
      have T12 : Hid (Blk w12 w3.heap.size (tkC ⟨2, nm, [], Esc.rd (h.getD [])⟩) 30) := T11.out.beside hK (by omega)
      clear hR hK
      have R12' : Hid (Rd w12 b []) := by rw [← HL.out]; exact R12.out
      have r12 := R12'.out.cell
      have e0 : (B []).toList.isEmpty = true := by rw [toList_B]; rfl
      have s0 : w12.cell? ⟨w.heap.size, 0, none⟩ = some (.int .i64 0) := S12.out.cell 0
      have sf0 := S12.out.frozen 0
      have s1 : w12.cell? ⟨w.heap.size, 1, none⟩ = some (.string (B ([]))) := S12.out.cell 1
      have sf1 := S12.out.frozen 1
      have s2 : w12.cell? ⟨w.heap.size, 2, none⟩ = some (.string (B ([]))) := S12.out.cell 2
      have sf2 := S12.out.frozen 2
      have s3 : w12.cell? ⟨w.heap.size, 3, none⟩ = some (.string (B ([]))) := S12.out.cell 3
      have sf3 := S12.out.frozen 3
      go_wp2
      change bodyPost Tryz.prog _ _ Exit.ret _ (putT w12 w.heap.size tk0)
      exact bodyPost_ret (ret_tok2 (k := tk0) rfl _ rfl (putT_blk S12.out)) rfl ⟨tk0, false, [], rfl, HF.out, Rd.over R12'.out (putT_kept _ _ _ _ (List.mem_singleton.2 rfl)) (by omega), K12.out.trans_new (putT_kept _ _ _ _ (List.mem_singleton.2 rfl)) (fun x hx => by rw [List.mem_singleton.1 hx]; exact .inr (Nat.le_refl _))⟩
    | cons c t =>
      simp only [List.length_cons] at hlen1
      have e0 : (B (c :: t)).toList.isEmpty = false := by rw [toList_B]; rfl
      have d3 := Tk.dw_len Tk.anm t
      have d4 := tw_len Tk.anm t
      have d5 := Tk.restA_len (t.dropWhile Tk.anm)
      have d6 := Tk.value_len1 (t.dropWhile Tk.anm)
      by_cases h62 : c = 62
      · subst h62
        have hs : Tk.attr (u.dropWhile Tk.nam) none = some (h, t) := HR.out.trans hG1.symm
        have HF : Hid (Tk.tag false u = ([⟨2, Lk.small (u.takeWhile Tk.nam), [], Esc.rd (h.getD [])⟩], t)) := tag_some hs
        rw [HN.out] at HF
        clear hs hG1
        go_wp2_with fail
        refine (noneOf_any [32, 9, 10, 13, 12, 47] _).mono ?_
        rintro e w11 ⟨rfl, hA, hb⟩
        have A11 : Hid (Blk w11 _ [.string (B [32, 9, 10, 13, 12, 47])] 9) := hA
        have R11 : Hid (Rd w11 b (l)) := R10.out.far hb
        have K11 : Hid (Kept w w11 [b]) := K10.out.far hb
        have E11 : Hid (Env w11 b) := E10.out.below hb
        have S11 : Hid (Blk w11 w.heap.size (tkC tk0) 30) := S10.out.under hb
        have T11 : Hid (Blk w11 w3.heap.size (tkC ⟨2, nm, [], Esc.rd (h.getD [])⟩) 30) := T10.out.under hb
        clear hA hb
        go_wp2_with fail
        refine (upTo_none _ b (Tk.sl) [32, 9, 10, 13, 12, 47] (l) w11 (fun c => congrArg _ (Tk.in_sl c)) R11.out A11.out hlen).mono ?_
        rintro e w12 ⟨rfl, hR, hK⟩
        have R12 : Hid (Rd w12 b ((l).dropWhile (Tk.sl))) := hR
        have K12 : Hid (Kept w w12 [b]) := K11.out.trans hK
        have E12 : Hid (Env w12 b) := E11.out.kept hK (Nat.le_refl _)
        have S12 : Hid (Blk w12 w.heap.size (tkC tk0) 30) := S11.out.beside hK (by omega)
        have T12 : Hid (Blk w12 w3.heap.size (tkC ⟨2, nm, [], Esc.rd (h.getD [])⟩) 30) := T11.out.beside hK (by omega)
        clear hR hK
        have R12' : Hid (Rd w12 b (62 :: t)) := by rw [← HL.out]; exact R12.out
        have r12 := R12'.out.cell
        have hlt12 : w.heap.size < w12.heap.size := S12.out.lt
        have hnt : b ≠ w.heap.size := by omega
        go_wp2_with fail
        refine (takeIf_yes b (62 :: t) [62] w12 R12'.out (by simp [List.isPrefixOf])).mono ?_
        rintro e w13 ⟨rfl, hR, hK⟩
        have R13 : Hid (Rd w13 b (t)) := hR
        have K13 : Hid (Kept w w13 [b]) := K12.out.trans hK
        have E13 : Hid (Env w13 b) := E12.out.kept hK (Nat.le_refl _)
        have S13 : Hid (Blk w13 w.heap.size (tkC tk0) 30) := S12.out.beside hK (by omega)
        have T13 : Hid (Blk w13 w3.heap.size (tkC ⟨2, nm, [], Esc.rd (h.getD [])⟩) 30) := T12.out.beside hK (by omega)
        clear hR hK
        have s0 : w13.cell? ⟨w.heap.size, 0, none⟩ = some (.int .i64 0) := S13.out.cell 0
        have sf0 := S13.out.frozen 0
        have s1 : w13.cell? ⟨w.heap.size, 1, none⟩ = some (.string (B ([]))) := S13.out.cell 1
        have sf1 := S13.out.frozen 1
        have s2 : w13.cell? ⟨w.heap.size, 2, none⟩ = some (.string (B ([]))) := S13.out.cell 2
        have sf2 := S13.out.frozen 2
        have s3 : w13.cell? ⟨w.heap.size, 3, none⟩ = some (.string (B ([]))) := S13.out.cell 3
        have sf3 := S13.out.frozen 3
        have t0 : w13.cell? ⟨w3.heap.size, 0, none⟩ = some (.int .i64 2) := T13.out.cell 0
        have t1 : w13.cell? ⟨w3.heap.size, 1, none⟩ = some (.string (B (nm))) := T13.out.cell 1
        have t2 : w13.cell? ⟨w3.heap.size, 2, none⟩ = some (.string (B ([]))) := T13.out.cell 2
        have t3 : w13.cell? ⟨w3.heap.size, 3, none⟩ = some (.string (B (Esc.rd (h.getD [])))) := T13.out.cell 3
        go_wp2
        change bodyPost Tryz.prog _ _ Exit.ret _ (putT w13 w.heap.size ⟨2, nm, [], Esc.rd (h.getD [])⟩)
        exact bodyPost_ret (ret_tok2 (k := ⟨2, nm, [], Esc.rd (h.getD [])⟩) rfl _ rfl (putT_blk S13.out)) rfl ⟨⟨2, nm, [], Esc.rd (h.getD [])⟩, true, t, rfl, HF.out, Rd.over R13.out (putT_kept _ _ _ _ (List.mem_singleton.2 rfl)) (by omega), K13.out.trans_new (putT_kept _ _ _ _ (List.mem_singleton.2 rfl)) (fun x hx => by rw [List.mem_singleton.1 hx]; exact .inr (Nat.le_refl _))⟩
      · have hp : ([62] : List UInt8).isPrefixOf (c :: t) = false := by
          have : ((62 : UInt8) == c) = false := by simpa using (fun e => h62 e.symm)
          simp [List.isPrefixOf, this]
        have HP : Hid (([62] : List UInt8).isPrefixOf (c :: t) = false) := hp
        have hsl : Tk.sl c = false := dw_head Tk.sl l c t HL.out
        have HA : Hid (Tk.attr (Tk.restA (t.dropWhile Tk.anm)) (if Lk.small (c :: t.takeWhile Tk.anm) == Tk.hrefL && h.isNone then some (Tk.value (t.dropWhile Tk.anm)).1 else h) = R) := by
          rw [← Tk.attr_go c t h (by simpa using h62) hsl]
          exact hG1
        clear hp hsl hG1 h62
        cases h with
        | some x =>
          rw [show (if Lk.small (c :: t.takeWhile Tk.anm) == Tk.hrefL && (some x).isNone then some (Tk.value (t.dropWhile Tk.anm)).1 else some x) = some x by simp] at HA
          go_wp2_with fail
          refine (noneOf_any [32, 9, 10, 13, 12, 47] _).mono ?_
          rintro e w11 ⟨rfl, hA, hb⟩
          have A11 : Hid (Blk w11 _ [.string (B [32, 9, 10, 13, 12, 47])] 9) := hA
          have R11 : Hid (Rd w11 b (l)) := R10.out.far hb
          have K11 : Hid (Kept w w11 [b]) := K10.out.far hb
          have E11 : Hid (Env w11 b) := E10.out.below hb
          have S11 : Hid (Blk w11 w.heap.size (tkC tk0) 30) := S10.out.under hb
          have T11 : Hid (Blk w11 w3.heap.size (tkC ⟨2, nm, [], Esc.rd ((some x).getD [])⟩) 30) := T10.out.under hb
          clear hA hb
          go_wp2_with fail
          refine (upTo_none _ b (Tk.sl) [32, 9, 10, 13, 12, 47] (l) w11 (fun c => congrArg _ (Tk.in_sl c)) R11.out A11.out hlen).mono ?_
          rintro e w12 ⟨rfl, hR, hK⟩
          have R12 : Hid (Rd w12 b ((l).dropWhile (Tk.sl))) := hR
          have K12 : Hid (Kept w w12 [b]) := K11.out.trans hK
          have E12 : Hid (Env w12 b) := E11.out.kept hK (Nat.le_refl _)
          have S12 : Hid (Blk w12 w.heap.size (tkC tk0) 30) := S11.out.beside hK (by omega)
          have T12 : Hid (Blk w12 w3.heap.size (tkC ⟨2, nm, [], Esc.rd ((some x).getD [])⟩) 30) := T11.out.beside hK (by omega)
          clear hR hK
          have R12' : Hid (Rd w12 b (c :: t)) := by rw [← HL.out]; exact R12.out
          have r12 := R12'.out.cell
          go_wp2_with fail
          refine (takeIf_no b (c :: t) [62] w12 R12'.out HP.out).mono ?_
          rintro e w12' ⟨rfl, hw⟩
          rw [hw]
          clear hw
          go_wp2_with fail
          refine (attr_any b c t w12 R12'.out (by omega)).mono ?_
          rintro e w13 ⟨rfl, hR, hK⟩
          have R13 : Hid (Rd w13 b (Tk.restA (t.dropWhile Tk.anm))) := hR
          have K13 : Hid (Kept w w13 [b]) := K12.out.trans hK
          have E13 : Hid (Env w13 b) := E12.out.kept hK (Nat.le_refl _)
          have S13 : Hid (Blk w13 w.heap.size (tkC tk0) 30) := S12.out.beside hK (by omega)
          have T13 : Hid (Blk w13 w3.heap.size (tkC ⟨2, nm, [], Esc.rd ((some x).getD [])⟩) 30) := T12.out.beside hK (by omega)
          clear hR hK
          go_wp2
          go_roundw
          case rel => exact ⟨_, some x, R13.out, T13.out, S13.out, rfl, HA.out, by omega, K13.out, E13.out⟩
          case measure =>
            rw [left_of R13.out, hLeft.out]
            omega
        | none =>
          obtain ⟨sm, hsm⟩ : ∃ sm, Lk.small (c :: t.takeWhile Tk.anm) = sm := ⟨_, rfl⟩
          obtain ⟨v, hv⟩ : ∃ v, (Tk.value (t.dropWhile Tk.anm)).1 = v := ⟨_, rfl⟩
          have HS : Hid (Lk.small (c :: t.takeWhile Tk.anm) = sm) := hsm
          have HV : Hid ((Tk.value (t.dropWhile Tk.anm)).1 = v) := hv
          rw [hsm, hv] at HA
          rw [hv] at d6
          clear hsm hv
          have hq : ((B sm).toList == [104, 114, 101, 102]) = (sm == Tk.hrefL) := by
            rw [toList_B]
            rfl
          cases hb2 : (sm == Tk.hrefL)
          all_goals rw [hb2] at hq HA
          · clear hb2
            rw [show (if false && (none : Option (List UInt8)).isNone then some v else none) = none from rfl] at HA
            go_wp2_with fail
            refine (noneOf_any [32, 9, 10, 13, 12, 47] _).mono ?_
            rintro e w11 ⟨rfl, hA, hb⟩
            have A11 : Hid (Blk w11 _ [.string (B [32, 9, 10, 13, 12, 47])] 9) := hA
            have R11 : Hid (Rd w11 b (l)) := R10.out.far hb
            have K11 : Hid (Kept w w11 [b]) := K10.out.far hb
            have E11 : Hid (Env w11 b) := E10.out.below hb
            have S11 : Hid (Blk w11 w.heap.size (tkC tk0) 30) := S10.out.under hb
            have T11 : Hid (Blk w11 w3.heap.size (tkC ⟨2, nm, [], Esc.rd ((none : Option (List UInt8)).getD [])⟩) 30) := T10.out.under hb
            clear hA hb
            go_wp2_with fail
            refine (upTo_none _ b (Tk.sl) [32, 9, 10, 13, 12, 47] (l) w11 (fun c => congrArg _ (Tk.in_sl c)) R11.out A11.out hlen).mono ?_
            rintro e w12 ⟨rfl, hR, hK⟩
            have R12 : Hid (Rd w12 b ((l).dropWhile (Tk.sl))) := hR
            have K12 : Hid (Kept w w12 [b]) := K11.out.trans hK
            have E12 : Hid (Env w12 b) := E11.out.kept hK (Nat.le_refl _)
            have S12 : Hid (Blk w12 w.heap.size (tkC tk0) 30) := S11.out.beside hK (by omega)
            have T12 : Hid (Blk w12 w3.heap.size (tkC ⟨2, nm, [], Esc.rd ((none : Option (List UInt8)).getD [])⟩) 30) := T11.out.beside hK (by omega)
            clear hR hK
            have R12' : Hid (Rd w12 b (c :: t)) := by rw [← HL.out]; exact R12.out
            have r12 := R12'.out.cell
            go_wp2_with fail
            refine (takeIf_no b (c :: t) [62] w12 R12'.out HP.out).mono ?_
            rintro e w12' ⟨rfl, hw⟩
            rw [hw]
            clear hw
            go_wp2_with fail
            refine (attr_any b c t w12 R12'.out (by omega)).mono ?_
            rintro e w13 ⟨rfl, hR, hK⟩
            have R13 : Hid (Rd w13 b (Tk.restA (t.dropWhile Tk.anm))) := hR
            have K13 : Hid (Kept w w13 [b]) := K12.out.trans hK
            have E13 : Hid (Env w13 b) := E12.out.kept hK (Nat.le_refl _)
            have S13 : Hid (Blk w13 w.heap.size (tkC tk0) 30) := S12.out.beside hK (by omega)
            have T13 : Hid (Blk w13 w3.heap.size (tkC ⟨2, nm, [], Esc.rd ((none : Option (List UInt8)).getD [])⟩) 30) := T12.out.beside hK (by omega)
            clear hR hK
            rw [HV.out]
            go_wp2_with fail
            refine (tsmall_any (c :: t.takeWhile Tk.anm) w13 (by simp only [List.length_cons]; omega)).mono ?_
            rintro e w14 ⟨rfl, hb⟩
            have R14 : Hid (Rd w14 b (Tk.restA (t.dropWhile Tk.anm))) := R13.out.far hb
            have K14 : Hid (Kept w w14 [b]) := K13.out.far hb
            have E14 : Hid (Env w14 b) := E13.out.below hb
            have S14 : Hid (Blk w14 w.heap.size (tkC tk0) 30) := S13.out.under hb
            have T14 : Hid (Blk w14 w3.heap.size (tkC ⟨2, nm, [], Esc.rd ((none : Option (List UInt8)).getD [])⟩) 30) := T13.out.under hb
            clear hb
            rw [HS.out]
            go_wp2
            go_roundw
            case rel => exact ⟨_, none, R14.out, T14.out, S14.out, rfl, HA.out, by omega, K14.out, E14.out⟩
            case measure =>
              rw [left_of R14.out, hLeft.out]
              omega
          · clear hb2
            rw [show (if true && (none : Option (List UInt8)).isNone then some v else none) = some v from rfl] at HA
            go_wp2_with fail
            refine (noneOf_any [32, 9, 10, 13, 12, 47] _).mono ?_
            rintro e w11 ⟨rfl, hA, hb⟩
            have A11 : Hid (Blk w11 _ [.string (B [32, 9, 10, 13, 12, 47])] 9) := hA
            have R11 : Hid (Rd w11 b (l)) := R10.out.far hb
            have K11 : Hid (Kept w w11 [b]) := K10.out.far hb
            have E11 : Hid (Env w11 b) := E10.out.below hb
            have S11 : Hid (Blk w11 w.heap.size (tkC tk0) 30) := S10.out.under hb
            have T11 : Hid (Blk w11 w3.heap.size (tkC ⟨2, nm, [], Esc.rd ((none : Option (List UInt8)).getD [])⟩) 30) := T10.out.under hb
            clear hA hb
            go_wp2_with fail
            refine (upTo_none _ b (Tk.sl) [32, 9, 10, 13, 12, 47] (l) w11 (fun c => congrArg _ (Tk.in_sl c)) R11.out A11.out hlen).mono ?_
            rintro e w12 ⟨rfl, hR, hK⟩
            have R12 : Hid (Rd w12 b ((l).dropWhile (Tk.sl))) := hR
            have K12 : Hid (Kept w w12 [b]) := K11.out.trans hK
            have E12 : Hid (Env w12 b) := E11.out.kept hK (Nat.le_refl _)
            have S12 : Hid (Blk w12 w.heap.size (tkC tk0) 30) := S11.out.beside hK (by omega)
            have T12 : Hid (Blk w12 w3.heap.size (tkC ⟨2, nm, [], Esc.rd ((none : Option (List UInt8)).getD [])⟩) 30) := T11.out.beside hK (by omega)
            clear hR hK
            have R12' : Hid (Rd w12 b (c :: t)) := by rw [← HL.out]; exact R12.out
            have r12 := R12'.out.cell
            go_wp2_with fail
            refine (takeIf_no b (c :: t) [62] w12 R12'.out HP.out).mono ?_
            rintro e w12' ⟨rfl, hw⟩
            rw [hw]
            clear hw
            go_wp2_with fail
            refine (attr_any b c t w12 R12'.out (by omega)).mono ?_
            rintro e w13 ⟨rfl, hR, hK⟩
            have R13 : Hid (Rd w13 b (Tk.restA (t.dropWhile Tk.anm))) := hR
            have K13 : Hid (Kept w w13 [b]) := K12.out.trans hK
            have E13 : Hid (Env w13 b) := E12.out.kept hK (Nat.le_refl _)
            have S13 : Hid (Blk w13 w.heap.size (tkC tk0) 30) := S12.out.beside hK (by omega)
            have T13 : Hid (Blk w13 w3.heap.size (tkC ⟨2, nm, [], Esc.rd ((none : Option (List UInt8)).getD [])⟩) 30) := T12.out.beside hK (by omega)
            clear hR hK
            rw [HV.out]
            go_wp2_with fail
            refine (tsmall_any (c :: t.takeWhile Tk.anm) w13 (by simp only [List.length_cons]; omega)).mono ?_
            rintro e w14 ⟨rfl, hb⟩
            have R14 : Hid (Rd w14 b (Tk.restA (t.dropWhile Tk.anm))) := R13.out.far hb
            have K14 : Hid (Kept w w14 [b]) := K13.out.far hb
            have E14 : Hid (Env w14 b) := E13.out.below hb
            have S14 : Hid (Blk w14 w.heap.size (tkC tk0) 30) := S13.out.under hb
            have T14 : Hid (Blk w14 w3.heap.size (tkC ⟨2, nm, [], Esc.rd ((none : Option (List UInt8)).getD [])⟩) 30) := T13.out.under hb
            clear hb
            rw [HS.out]
            go_wp2_with fail
            refine (tread_any v w14 E14.out.pairs (by omega)).mono ?_
            rintro e w15 ⟨rfl, hb⟩
            have R15 : Hid (Rd w15 b (Tk.restA (t.dropWhile Tk.anm))) := R14.out.far hb
            have K15 : Hid (Kept w w15 [b]) := K14.out.far hb
            have E15 : Hid (Env w15 b) := E14.out.below hb
            have S15 : Hid (Blk w15 w.heap.size (tkC tk0) 30) := S14.out.under hb
            have T15 : Hid (Blk w15 w3.heap.size (tkC ⟨2, nm, [], Esc.rd ((none : Option (List UInt8)).getD [])⟩) 30) := T14.out.under hb
            clear hb
            have t3 : w15.cell? ⟨w3.heap.size, 3, none⟩ = some (.string ⟨#[]⟩) := T15.out.cell 3
            have tf3 := T15.out.frozen 3
            have hk : Kept w15 (w15.setCell ⟨w3.heap.size, 3, none⟩ (.string (B (Esc.rd v)))) [w3.heap.size] := (Kept.refl _ _).setCell _ _ (.inl (List.mem_singleton.2 rfl))
            have R16 : Hid (Rd (w15.setCell ⟨w3.heap.size, 3, none⟩ (.string (B (Esc.rd v)))) b (Tk.restA (t.dropWhile Tk.anm))) := R15.out.over hk (by omega)
            have S16 : Hid (Blk (w15.setCell ⟨w3.heap.size, 3, none⟩ (.string (B (Esc.rd v)))) w.heap.size (tkC tk0) 30) := S15.out.beside hk (by omega)
            have T16 : Hid (Blk (w15.setCell ⟨w3.heap.size, 3, none⟩ (.string (B (Esc.rd v)))) w3.heap.size (tkC ⟨2, nm, [], Esc.rd v⟩) 30) := T15.out.set 3 _
            have K16 : Hid (Kept w (w15.setCell ⟨w3.heap.size, 3, none⟩ (.string (B (Esc.rd v)))) [b]) := K15.out.trans_new hk (fun x hx => by rw [List.mem_singleton.1 hx]; exact .inr (by omega))
            have E16 : Hid (Env (w15.setCell ⟨w3.heap.size, 3, none⟩ (.string (B (Esc.rd v)))) b) := E15.out.kept hk (by omega)
            clear hk
            go_wp2
            go_roundw
            case rel => exact ⟨_, some v, R16.out, T16.out, S16.out, rfl, HA.out, by omega, K16.out, E16.out⟩
            case measure =>
              rw [left_of R16.out, hLeft.out]
              omega

set_option maxRecDepth 100000 in
set_option maxHeartbeats 3200000 in
theorem tag_3 (b : Nat) (u : List UInt8) (w : World) (hR : Rd w b u) (hE : Env w b) (hl : u.length ≤ 20000) :
    Calls Tryz.prog 128 #[.pointer (some ⟨b, 0, none⟩), .int .i64 3] w fun e w' => ∃ k whole rest, e = .returned (.tuple #[tkA k, .bool whole]) ∧ Tk.tag true u = (if whole then [k] else [], rest) ∧ Rd w' b rest ∧ Kept w w' [b] := by
  obtain ⟨R, hRR⟩ : ∃ R, Tk.attr (u.dropWhile Tk.nam) none = R := ⟨_, rfl⟩
  have HR : Hid (Tk.attr (u.dropWhile Tk.nam) none = R) := hRR
  clear hRR
  have hbw : b < w.heap.size := hR.lt
  have R0 : Hid (Rd (zT w) b u) := hR.far (zT_below w)
  have K0 : Hid (Kept w (zT w) [b]) := Kept.of (zT_below w) _
  have E0 : Hid (Env (zT w) b) := hE.below (zT_below w)
  have S0 : Hid (Blk (zT w) w.heap.size (tkC tk0) 30) := zT_blk w
  have d1 := Tk.dw_len Tk.nam u
  have d2 := tw_len Tk.nam u
  clear hR hE
  go_enter Tryz.func128, Tryz.ntmps128
  go_wp2_with fail
  refine (oneOf_any [32, 9, 10, 13, 12, 47, 62] _).mono ?_
  rintro e w1 ⟨rfl, hA, hb⟩
  have A1 : Hid (Blk w1 (w.heap.size + 1) [.string (B [32, 9, 10, 13, 12, 47, 62])] 9) := by rw [← zT_size w]; exact hA
  have R1 : Hid (Rd w1 b (u)) := R0.out.far hb
  have K1 : Hid (Kept w w1 [b]) := K0.out.far hb
  have E1 : Hid (Env w1 b) := E0.out.below hb
  have S1 : Hid (Blk w1 w.heap.size (tkC tk0) 30) := S0.out.under hb
  clear hA hb
  go_wp2_with fail
  refine (upTo_one _ b (Tk.nam) [32, 9, 10, 13, 12, 47, 62] (u) w1 (fun c => Tk.in_nam c) R1.out A1.out hl).mono ?_
  rintro e w2 ⟨rfl, hR, hK⟩
  have R2 : Hid (Rd w2 b ((u).dropWhile (Tk.nam))) := hR
  have K2 : Hid (Kept w w2 [b]) := K1.out.trans hK
  have E2 : Hid (Env w2 b) := E1.out.kept hK (Nat.le_refl _)
  have S2 : Hid (Blk w2 w.heap.size (tkC tk0) 30) := S1.out.beside hK (by omega)
  clear hR hK
  go_wp2_with fail
  refine (tsmall_any (u.takeWhile Tk.nam) w2 (by omega)).mono ?_
  rintro e w3 ⟨rfl, hb⟩
  have R3 : Hid (Rd w3 b (u.dropWhile Tk.nam)) := R2.out.far hb
  have K3 : Hid (Kept w w3 [b]) := K2.out.far hb
  have E3 : Hid (Env w3 b) := E2.out.below hb
  have S3 : Hid (Blk w3 w.heap.size (tkC tk0) 30) := S2.out.under hb
  clear hb
  obtain ⟨nm, hnm⟩ : ∃ nm, Lk.small (u.takeWhile Tk.nam) = nm := ⟨_, rfl⟩
  have HN : Hid (Lk.small (u.takeWhile Tk.nam) = nm) := hnm
  rw [hnm]
  clear hnm
  have hbw3 : b < w3.heap.size := R3.out.lt
  have hbr3 : w.heap.size < w3.heap.size := S3.out.lt
  go_wp2
  go_loopw [7] (fun m wr => ∃ l h, TagAt w b w.heap.size w3.heap.size 3 nm R m wr l h) (fun _ wr => left b wr)
  case atStart =>
    have hb := (Below.refl w3.heap.size w3).alloc (Nat.le_refl _) (.cells #[.int .i64 3, .string (B nm), .string ⟨#[]⟩, .string ⟨#[]⟩] 30)
    exact ⟨_, none, R3.out.far hb, Blk.new w3 (tkC ⟨3, nm, [], []⟩) 30, S3.out.under hb, rfl, HR.out, by omega, K3.out.far hb, E3.out.below hb⟩
  case round =>
    obtain ⟨l, h, hT⟩ := hrel
    have R10 : Hid (Rd wr b l) := hT.rest
    have K10 : Hid (Kept w wr [b]) := hT.kept
    have E10 : Hid (Env wr b) := hT.env
    have S10 : Hid (Blk wr w.heap.size (tkC tk0) 30) := hT.res
    have T10 : Hid (Blk wr w3.heap.size (tkC ⟨3, nm, [], []⟩) 30) := hT.tok
    have hlen := hT.len
    have HG : Hid (Tk.attr l h = R) := hT.go
    have hm : u7 = .bool (false) := hT.may
    rw [hm]
    clear hT hm
    have hLeft : Hid (left b wr = l.length) := left_of R10.out
    obtain ⟨l1, hl1⟩ : ∃ l1, l.dropWhile Tk.sl = l1 := ⟨_, rfl⟩
    have HL : Hid (l.dropWhile Tk.sl = l1) := hl1
    have hG1 : Tk.attr l1 h = R := by rw [← hl1, Tk.attr_sl]; exact HG.out
    have hlen1 : l1.length ≤ l.length := by rw [← hl1]; exact Tk.dw_len _ _
    clear hl1
    cases l1 with
    | nil =>
      have hn : Tk.attr (u.dropWhile Tk.nam) none = none := HR.out.trans hG1.symm
      have HF : Hid (Tk.tag true u = ([], [])) := tag_none hn
      clear hn hG1
      go_wp2_with fail
      refine (noneOf_any [32, 9, 10, 13, 12, 47] _).mono ?_
      rintro e w11 ⟨rfl, hA, hb⟩
      have A11 : Hid (Blk w11 _ [.string (B [32, 9, 10, 13, 12, 47])] 9) := hA
      have R11 : Hid (Rd w11 b (l)) := R10.out.far hb
      have K11 : Hid (Kept w w11 [b]) := K10.out.far hb
      have E11 : Hid (Env w11 b) := E10.out.below hb
      have S11 : Hid (Blk w11 w.heap.size (tkC tk0) 30) := S10.out.under hb
      have T11 : Hid (Blk w11 w3.heap.size (tkC ⟨3, nm, [], []⟩) 30) := T10.out.under hb
      clear hA hb
      go_wp2_with fail
      refine (upTo_none _ b (Tk.sl) [32, 9, 10, 13, 12, 47] (l) w11 (fun c => congrArg _ (Tk.in_sl c)) R11.out A11.out hlen).mono ?_
      rintro e w12 ⟨rfl, hR, hK⟩
      have R12 : Hid (Rd w12 b ((l).dropWhile (Tk.sl))) := hR
      have K12 : Hid (Kept w w12 [b]) := K11.out.trans hK
      have E12 : Hid (Env w12 b) := E11.out.kept hK (Nat.le_refl _)
      have S12 : Hid (Blk w12 w.heap.size (tkC tk0) 30) := S11.out.beside hK (by omega)
      have T12 : Hid (Blk w12 w3.heap.size (tkC ⟨3, nm, [], []⟩) 30) := T11.out.beside hK (by omega)
      clear hR hK
      have R12' : Hid (Rd w12 b []) := by rw [← HL.out]; exact R12.out
      have r12 := R12'.out.cell
      have e0 : (B []).toList.isEmpty = true := by rw [toList_B]; rfl
      have s0 : w12.cell? ⟨w.heap.size, 0, none⟩ = some (.int .i64 0) := S12.out.cell 0
      have sf0 := S12.out.frozen 0
      have s1 : w12.cell? ⟨w.heap.size, 1, none⟩ = some (.string (B ([]))) := S12.out.cell 1
      have sf1 := S12.out.frozen 1
      have s2 : w12.cell? ⟨w.heap.size, 2, none⟩ = some (.string (B ([]))) := S12.out.cell 2
      have sf2 := S12.out.frozen 2
      have s3 : w12.cell? ⟨w.heap.size, 3, none⟩ = some (.string (B ([]))) := S12.out.cell 3
      have sf3 := S12.out.frozen 3
      go_wp2
      change bodyPost Tryz.prog _ _ Exit.ret _ (putT w12 w.heap.size tk0)
      exact bodyPost_ret (ret_tok2 (k := tk0) rfl _ rfl (putT_blk S12.out)) rfl ⟨tk0, false, [], rfl, HF.out, Rd.over R12'.out (putT_kept _ _ _ _ (List.mem_singleton.2 rfl)) (by omega), K12.out.trans_new (putT_kept _ _ _ _ (List.mem_singleton.2 rfl)) (fun x hx => by rw [List.mem_singleton.1 hx]; exact .inr (Nat.le_refl _))⟩
    | cons c t =>
      simp only [List.length_cons] at hlen1
      have e0 : (B (c :: t)).toList.isEmpty = false := by rw [toList_B]; rfl
      have d3 := Tk.dw_len Tk.anm t
      have d4 := tw_len Tk.anm t
      have d5 := Tk.restA_len (t.dropWhile Tk.anm)
      have d6 := Tk.value_len1 (t.dropWhile Tk.anm)
      by_cases h62 : c = 62
      · subst h62
        have hs : Tk.attr (u.dropWhile Tk.nam) none = some (h, t) := HR.out.trans hG1.symm
        have HF : Hid (Tk.tag true u = ([⟨3, Lk.small (u.takeWhile Tk.nam), [], []⟩], t)) := tag_some hs
        rw [HN.out] at HF
        clear hs hG1
        go_wp2_with fail
        refine (noneOf_any [32, 9, 10, 13, 12, 47] _).mono ?_
        rintro e w11 ⟨rfl, hA, hb⟩
        have A11 : Hid (Blk w11 _ [.string (B [32, 9, 10, 13, 12, 47])] 9) := hA
        have R11 : Hid (Rd w11 b (l)) := R10.out.far hb
        have K11 : Hid (Kept w w11 [b]) := K10.out.far hb
        have E11 : Hid (Env w11 b) := E10.out.below hb
        have S11 : Hid (Blk w11 w.heap.size (tkC tk0) 30) := S10.out.under hb
        have T11 : Hid (Blk w11 w3.heap.size (tkC ⟨3, nm, [], []⟩) 30) := T10.out.under hb
        clear hA hb
        go_wp2_with fail
        refine (upTo_none _ b (Tk.sl) [32, 9, 10, 13, 12, 47] (l) w11 (fun c => congrArg _ (Tk.in_sl c)) R11.out A11.out hlen).mono ?_
        rintro e w12 ⟨rfl, hR, hK⟩
        have R12 : Hid (Rd w12 b ((l).dropWhile (Tk.sl))) := hR
        have K12 : Hid (Kept w w12 [b]) := K11.out.trans hK
        have E12 : Hid (Env w12 b) := E11.out.kept hK (Nat.le_refl _)
        have S12 : Hid (Blk w12 w.heap.size (tkC tk0) 30) := S11.out.beside hK (by omega)
        have T12 : Hid (Blk w12 w3.heap.size (tkC ⟨3, nm, [], []⟩) 30) := T11.out.beside hK (by omega)
        clear hR hK
        have R12' : Hid (Rd w12 b (62 :: t)) := by rw [← HL.out]; exact R12.out
        have r12 := R12'.out.cell
        have hlt12 : w.heap.size < w12.heap.size := S12.out.lt
        have hnt : b ≠ w.heap.size := by omega
        go_wp2_with fail
        refine (takeIf_yes b (62 :: t) [62] w12 R12'.out (by simp [List.isPrefixOf])).mono ?_
        rintro e w13 ⟨rfl, hR, hK⟩
        have R13 : Hid (Rd w13 b (t)) := hR
        have K13 : Hid (Kept w w13 [b]) := K12.out.trans hK
        have E13 : Hid (Env w13 b) := E12.out.kept hK (Nat.le_refl _)
        have S13 : Hid (Blk w13 w.heap.size (tkC tk0) 30) := S12.out.beside hK (by omega)
        have T13 : Hid (Blk w13 w3.heap.size (tkC ⟨3, nm, [], []⟩) 30) := T12.out.beside hK (by omega)
        clear hR hK
        have s0 : w13.cell? ⟨w.heap.size, 0, none⟩ = some (.int .i64 0) := S13.out.cell 0
        have sf0 := S13.out.frozen 0
        have s1 : w13.cell? ⟨w.heap.size, 1, none⟩ = some (.string (B ([]))) := S13.out.cell 1
        have sf1 := S13.out.frozen 1
        have s2 : w13.cell? ⟨w.heap.size, 2, none⟩ = some (.string (B ([]))) := S13.out.cell 2
        have sf2 := S13.out.frozen 2
        have s3 : w13.cell? ⟨w.heap.size, 3, none⟩ = some (.string (B ([]))) := S13.out.cell 3
        have sf3 := S13.out.frozen 3
        have t0 : w13.cell? ⟨w3.heap.size, 0, none⟩ = some (.int .i64 3) := T13.out.cell 0
        have t1 : w13.cell? ⟨w3.heap.size, 1, none⟩ = some (.string (B (nm))) := T13.out.cell 1
        have t2 : w13.cell? ⟨w3.heap.size, 2, none⟩ = some (.string (B ([]))) := T13.out.cell 2
        have t3 : w13.cell? ⟨w3.heap.size, 3, none⟩ = some (.string (B ([]))) := T13.out.cell 3
        go_wp2
        change bodyPost Tryz.prog _ _ Exit.ret _ (putT w13 w.heap.size ⟨3, nm, [], []⟩)
        exact bodyPost_ret (ret_tok2 (k := ⟨3, nm, [], []⟩) rfl _ rfl (putT_blk S13.out)) rfl ⟨⟨3, nm, [], []⟩, true, t, rfl, HF.out, Rd.over R13.out (putT_kept _ _ _ _ (List.mem_singleton.2 rfl)) (by omega), K13.out.trans_new (putT_kept _ _ _ _ (List.mem_singleton.2 rfl)) (fun x hx => by rw [List.mem_singleton.1 hx]; exact .inr (Nat.le_refl _))⟩
      · have hp : ([62] : List UInt8).isPrefixOf (c :: t) = false := by
          have : ((62 : UInt8) == c) = false := by simpa using (fun e => h62 e.symm)
          simp [List.isPrefixOf, this]
        have HP : Hid (([62] : List UInt8).isPrefixOf (c :: t) = false) := hp
        have hsl : Tk.sl c = false := dw_head Tk.sl l c t HL.out
        have HA : Hid (Tk.attr (Tk.restA (t.dropWhile Tk.anm)) (if Lk.small (c :: t.takeWhile Tk.anm) == Tk.hrefL && h.isNone then some (Tk.value (t.dropWhile Tk.anm)).1 else h) = R) := by
          rw [← Tk.attr_go c t h (by simpa using h62) hsl]
          exact hG1
        clear hp hsl hG1 h62
        go_wp2_with fail
        refine (noneOf_any [32, 9, 10, 13, 12, 47] _).mono ?_
        rintro e w11 ⟨rfl, hA, hb⟩
        have A11 : Hid (Blk w11 _ [.string (B [32, 9, 10, 13, 12, 47])] 9) := hA
        have R11 : Hid (Rd w11 b (l)) := R10.out.far hb
        have K11 : Hid (Kept w w11 [b]) := K10.out.far hb
        have E11 : Hid (Env w11 b) := E10.out.below hb
        have S11 : Hid (Blk w11 w.heap.size (tkC tk0) 30) := S10.out.under hb
        have T11 : Hid (Blk w11 w3.heap.size (tkC ⟨3, nm, [], []⟩) 30) := T10.out.under hb
        clear hA hb
        go_wp2_with fail
        refine (upTo_none _ b (Tk.sl) [32, 9, 10, 13, 12, 47] (l) w11 (fun c => congrArg _ (Tk.in_sl c)) R11.out A11.out hlen).mono ?_
        rintro e w12 ⟨rfl, hR, hK⟩
        have R12 : Hid (Rd w12 b ((l).dropWhile (Tk.sl))) := hR
        have K12 : Hid (Kept w w12 [b]) := K11.out.trans hK
        have E12 : Hid (Env w12 b) := E11.out.kept hK (Nat.le_refl _)
        have S12 : Hid (Blk w12 w.heap.size (tkC tk0) 30) := S11.out.beside hK (by omega)
        have T12 : Hid (Blk w12 w3.heap.size (tkC ⟨3, nm, [], []⟩) 30) := T11.out.beside hK (by omega)
        clear hR hK
        have R12' : Hid (Rd w12 b (c :: t)) := by rw [← HL.out]; exact R12.out
        have r12 := R12'.out.cell
        go_wp2_with fail
        refine (takeIf_no b (c :: t) [62] w12 R12'.out HP.out).mono ?_
        rintro e w12' ⟨rfl, hw⟩
        rw [hw]
        clear hw
        go_wp2_with fail
        refine (attr_any b c t w12 R12'.out (by omega)).mono ?_
        rintro e w13 ⟨rfl, hR, hK⟩
        have R13 : Hid (Rd w13 b (Tk.restA (t.dropWhile Tk.anm))) := hR
        have K13 : Hid (Kept w w13 [b]) := K12.out.trans hK
        have E13 : Hid (Env w13 b) := E12.out.kept hK (Nat.le_refl _)
        have S13 : Hid (Blk w13 w.heap.size (tkC tk0) 30) := S12.out.beside hK (by omega)
        have T13 : Hid (Blk w13 w3.heap.size (tkC ⟨3, nm, [], []⟩) 30) := T12.out.beside hK (by omega)
        clear hR hK
        go_wp2
        go_roundw
        case rel => exact ⟨_, _, R13.out, T13.out, S13.out, rfl, HA.out, by omega, K13.out, E13.out⟩
        case measure =>
          rw [left_of R13.out, hLeft.out]
          omega

end Go.Proofs.YtbhcklkbckacpaaGreatDoor

/-
  token.token and token.Page: what a page is taken apart into is what chapter 5 says.
-/
namespace Go.Proofs.YtbhcklkbckacpaaGreatDoor
open Go.RowKit

set_option maxRecDepth 100000 in
set_option maxHeartbeats 800000 in
theorem token_text (b : Nat) (c : UInt8) (t : List UInt8) (w : World) (hR : Rd w b (c :: t)) (hE : Env w b) (hl : t.length ≤ 19999) (h60 : ((c.toNat : Int) != 60) = true) :
    Calls Tryz.prog 52 #[.pointer (some ⟨b, 0, none⟩)] w fun e w' => e = .returned (.tuple #[tkA (Tk.txt (Esc.rd ((c :: t).takeWhile (Tk.not 60)))), .bool true]) ∧ Rd w' b ((c :: t).dropWhile (Tk.not 60)) ∧ Kept w w' [b] := by
  have hbw : b < w.heap.size := hR.lt
  have r0 := hR.cell
  have R0 : Hid (Rd (zT w) b (c :: t)) := hR.far (zT_below w)
  have K0 : Hid (Kept w (zT w) [b]) := Kept.of (zT_below w) _
  have E0 : Hid (Env (zT w) b) := hE.below (zT_below w)
  have S0 : Hid (Blk (zT w) w.heap.size (tkC tk0) 30) := zT_blk w
  have z1 := B_size (c :: t)
  have hix := run_index_at (B (c :: t)) 0 (by rw [z1]; simp)
  have hget : (B (c :: t))[0]'(by rw [z1]; simp) = c := by simp [B, ByteArray.getElem_eq_getElem_data]
  rw [hget] at hix
  have h60b : ((((B (c :: t))[0]'(by rw [z1]; simp)).toNat : Int) != 60) = true := by rw [hget]; exact h60
  simp only [List.length_cons] at z1
  clear hR hE hget
  have d1 := tw_len (Tk.not 60) (c :: t)
  simp only [List.length_cons] at d1
  obtain ⟨x, hx⟩ : ∃ x, Esc.rd ((c :: t).takeWhile (Tk.not 60)) = x := ⟨_, rfl⟩
  have HX : Hid (Esc.rd ((c :: t).takeWhile (Tk.not 60)) = x) := hx
  rw [hx]
  clear hx
  go_enter Tryz.func52, Tryz.ntmps52
  go_wp2_with fail
  refine (oneOf_any [60] _).mono ?_
  rintro e w1 ⟨rfl, hA, hb⟩
  have A1 : Hid (Blk w1 (w.heap.size + 1) [.string (B [60])] 9) := by rw [← zT_size w]; exact hA
  have R1 : Hid (Rd w1 b (c :: t)) := R0.out.far hb
  have K1 : Hid (Kept w w1 [b]) := K0.out.far hb
  have E1 : Hid (Env w1 b) := E0.out.below hb
  have S1 : Hid (Blk w1 w.heap.size (tkC tk0) 30) := S0.out.under hb
  clear hA hb
  go_wp2_with fail
  refine (upTo_one _ b (Tk.not 60) [60] (c :: t) w1 (fun c => Tk.in_one 60 c) R1.out A1.out (by simp only [List.length_cons]; omega)).mono ?_
  rintro e w2 ⟨rfl, hR, hK⟩
  have R2 : Hid (Rd w2 b ((c :: t).dropWhile (Tk.not 60))) := hR
  have K2 : Hid (Kept w w2 [b]) := K1.out.trans hK
  have E2 : Hid (Env w2 b) := E1.out.kept hK (Nat.le_refl _)
  have S2 : Hid (Blk w2 w.heap.size (tkC tk0) 30) := S1.out.beside hK (by omega)
  clear hR hK
  go_wp2_with fail
  refine (text_any ((c :: t).takeWhile (Tk.not 60)) w2 E2.out.pairs (by omega)).mono ?_
  rintro e w3 ⟨rfl, hb⟩
  have R3 : Hid (Rd w3 b ((c :: t).dropWhile (Tk.not 60))) := R2.out.far hb
  have K3 : Hid (Kept w w3 [b]) := K2.out.far hb
  have E3 : Hid (Env w3 b) := E2.out.below hb
  have S3 : Hid (Blk w3 w.heap.size (tkC tk0) 30) := S2.out.under hb
  clear hb
  rw [HX.out]
  unfold tkA Tk.txt
  simp only
  have s0 : w3.cell? ⟨w.heap.size, 0, none⟩ = some (.int .i64 0) := S3.out.cell 0
  have sf0 := S3.out.frozen 0
  have s1 : w3.cell? ⟨w.heap.size, 1, none⟩ = some (.string (B ([]))) := S3.out.cell 1
  have sf1 := S3.out.frozen 1
  have s2 : w3.cell? ⟨w.heap.size, 2, none⟩ = some (.string (B ([]))) := S3.out.cell 2
  have sf2 := S3.out.frozen 2
  have s3 : w3.cell? ⟨w.heap.size, 3, none⟩ = some (.string (B ([]))) := S3.out.cell 3
  have sf3 := S3.out.frozen 3
  have hlt : b ≠ w.heap.size := by omega
  go_wp2
  change bodyPost Tryz.prog _ _ Exit.ret _ (putT w3 w.heap.size (Tk.txt x))
  exact bodyPost_ret (ret_tok2 (k := (Tk.txt x)) rfl _ rfl (putT_blk S3.out)) rfl ⟨rfl, Rd.over R3.out (putT_kept _ _ _ _ (List.mem_singleton.2 rfl)) hlt, K3.out.trans_new (putT_kept _ _ _ _ (List.mem_singleton.2 rfl)) (fun x hx => by rw [List.mem_singleton.1 hx]; exact .inr (Nat.le_refl _))⟩

set_option maxRecDepth 100000 in
set_option maxHeartbeats 800000 in
theorem token_comment (b : Nat) (t : List UInt8) (w : World) (hR : Rd w b (60 :: t)) (hE : Env w b) (hl : t.length ≤ 19999) (h1 : ([60, 33, 45, 45] : List UInt8).isPrefixOf (60 :: t) = true) :
    Calls Tryz.prog 52 #[.pointer (some ⟨b, 0, none⟩)] w fun e w' => e = .returned (.tuple #[tkA Tk.oth, .bool true]) ∧ Rd w' b ((Tk.after [45, 45, 62] (t.drop 3)).getD []) ∧ Kept w w' [b] := by
  have hbw : b < w.heap.size := hR.lt
  have r0 := hR.cell
  have R0 : Hid (Rd (zT w) b (60 :: t)) := hR.far (zT_below w)
  have K0 : Hid (Kept w (zT w) [b]) := Kept.of (zT_below w) _
  have E0 : Hid (Env (zT w) b) := hE.below (zT_below w)
  have S0 : Hid (Blk (zT w) w.heap.size (tkC tk0) 30) := zT_blk w
  have z1 := B_size (60 :: t)
  have hix := run_index_at (B (60 :: t)) 0 (by rw [z1]; simp)
  have hget : (B (60 :: t))[0]'(by rw [z1]; simp) = 60 := by simp [B, ByteArray.getElem_eq_getElem_data]
  rw [hget] at hix
  have h60b : ((((B (60 :: t))[0]'(by rw [z1]; simp)).toNat : Int) != 60) = false := by rw [hget]; rfl
  simp only [List.length_cons] at z1
  clear hR hE hget
  have hle : 3 ≤ t.length := by have := (List.isPrefixOf_iff_prefix.1 h1).length_le; simp at this; omega
  have d1 : (t.drop 3).length ≤ 20000 := by simp; omega
  have H1 : Hid (([60, 33, 45, 45] : List UInt8).isPrefixOf (60 :: t) = true) := h1
  clear h1
  have h60 : (((60 : UInt8).toNat : Int) != 60) = false := rfl
  go_enter Tryz.func52, Tryz.ntmps52
  go_wp2_with fail
  refine (begins_any b (60 :: t) [60, 33, 45, 45] _ R0.out).mono ?_
  rintro e wx ⟨rfl, hw⟩
  rw [hw, H1.out]
  clear hw wx
  go_wp2_with fail
  refine (take_any b 4 (60 :: t) _ R0.out (by simp; omega)).mono ?_
  rintro e w1 ⟨rfl, hR, hK⟩
  have R1 : Hid (Rd w1 b (t.drop 3)) := hR
  have K1 : Hid (Kept w w1 [b]) := K0.out.trans hK
  have E1 : Hid (Env w1 b) := E0.out.kept hK (Nat.le_refl _)
  have S1 : Hid (Blk w1 w.heap.size (tkC tk0) 30) := S0.out.beside hK (by omega)
  clear hR hK
  go_wp2_with fail
  refine (through_any b (t.drop 3) [45, 45, 62] w1 R1.out E1.out d1 (by simp)).mono ?_
  rintro e w2 ⟨rfl, hR, hK⟩
  have R2 : Hid (Rd w2 b ((Tk.after [45, 45, 62] (t.drop 3)).getD [])) := hR
  have K2 : Hid (Kept w w2 [b]) := K1.out.trans hK
  have E2 : Hid (Env w2 b) := E1.out.kept hK (Nat.le_refl _)
  have S2 : Hid (Blk w2 w.heap.size (tkC tk0) 30) := S1.out.beside hK (by omega)
  clear hR hK
  have s0 : w2.cell? ⟨w.heap.size, 0, none⟩ = some (.int .i64 0) := S2.out.cell 0
  have sf0 := S2.out.frozen 0
  have s1 : w2.cell? ⟨w.heap.size, 1, none⟩ = some (.string (B ([]))) := S2.out.cell 1
  have sf1 := S2.out.frozen 1
  have s2 : w2.cell? ⟨w.heap.size, 2, none⟩ = some (.string (B ([]))) := S2.out.cell 2
  have sf2 := S2.out.frozen 2
  have s3 : w2.cell? ⟨w.heap.size, 3, none⟩ = some (.string (B ([]))) := S2.out.cell 3
  have sf3 := S2.out.frozen 3
  have hlt : b ≠ w.heap.size := by omega
  go_wp2
  change bodyPost Tryz.prog _ _ Exit.ret _ (putT w2 w.heap.size Tk.oth)
  exact bodyPost_ret (ret_tok2 (k := Tk.oth) rfl _ rfl (putT_blk S2.out)) rfl ⟨rfl, Rd.over R2.out (putT_kept _ _ _ _ (List.mem_singleton.2 rfl)) hlt, K2.out.trans_new (putT_kept _ _ _ _ (List.mem_singleton.2 rfl)) (fun x hx => by rw [List.mem_singleton.1 hx]; exact .inr (Nat.le_refl _))⟩

set_option maxRecDepth 100000 in
set_option maxHeartbeats 800000 in
theorem token_bang (b : Nat) (t : List UInt8) (w : World) (hR : Rd w b (60 :: t)) (hE : Env w b) (hl : t.length ≤ 19999) (h1 : ([60, 33, 45, 45] : List UInt8).isPrefixOf (60 :: t) = false) (h2 : ([60, 33] : List UInt8).isPrefixOf (60 :: t) = true) :
    Calls Tryz.prog 52 #[.pointer (some ⟨b, 0, none⟩)] w fun e w' => e = .returned (.tuple #[tkA Tk.oth, .bool true]) ∧ Rd w' b ((Tk.after [62] (60 :: t)).getD []) ∧ Kept w w' [b] := by
  have hbw : b < w.heap.size := hR.lt
  have r0 := hR.cell
  have R0 : Hid (Rd (zT w) b (60 :: t)) := hR.far (zT_below w)
  have K0 : Hid (Kept w (zT w) [b]) := Kept.of (zT_below w) _
  have E0 : Hid (Env (zT w) b) := hE.below (zT_below w)
  have S0 : Hid (Blk (zT w) w.heap.size (tkC tk0) 30) := zT_blk w
  have z1 := B_size (60 :: t)
  have hix := run_index_at (B (60 :: t)) 0 (by rw [z1]; simp)
  have hget : (B (60 :: t))[0]'(by rw [z1]; simp) = 60 := by simp [B, ByteArray.getElem_eq_getElem_data]
  rw [hget] at hix
  have h60b : ((((B (60 :: t))[0]'(by rw [z1]; simp)).toNat : Int) != 60) = false := by rw [hget]; rfl
  simp only [List.length_cons] at z1
  clear hR hE hget
  have H1 : Hid (([60, 33, 45, 45] : List UInt8).isPrefixOf (60 :: t) = false) := h1
  have H2 : Hid (([60, 33] : List UInt8).isPrefixOf (60 :: t) = true) := h2
  clear h1 h2
  have h60 : (((60 : UInt8).toNat : Int) != 60) = false := rfl
  go_enter Tryz.func52, Tryz.ntmps52
  go_wp2_with fail
  refine (begins_any b (60 :: t) [60, 33, 45, 45] _ R0.out).mono ?_
  rintro e wx ⟨rfl, hw⟩
  rw [hw, H1.out]
  clear hw wx
  go_wp2_with fail
  refine (begins_any b (60 :: t) [60, 33] _ R0.out).mono ?_
  rintro e wx ⟨rfl, hw⟩
  rw [hw, H2.out]
  clear hw wx
  go_wp2_with fail
  refine (through_any b (60 :: t) [62] _ R0.out E0.out (by simp only [List.length_cons]; omega) (by simp)).mono ?_
  rintro e w1 ⟨rfl, hR, hK⟩
  have R1 : Hid (Rd w1 b ((Tk.after [62] (60 :: t)).getD [])) := hR
  have K1 : Hid (Kept w w1 [b]) := K0.out.trans hK
  have E1 : Hid (Env w1 b) := E0.out.kept hK (Nat.le_refl _)
  have S1 : Hid (Blk w1 w.heap.size (tkC tk0) 30) := S0.out.beside hK (by omega)
  clear hR hK
  have s0 : w1.cell? ⟨w.heap.size, 0, none⟩ = some (.int .i64 0) := S1.out.cell 0
  have sf0 := S1.out.frozen 0
  have s1 : w1.cell? ⟨w.heap.size, 1, none⟩ = some (.string (B ([]))) := S1.out.cell 1
  have sf1 := S1.out.frozen 1
  have s2 : w1.cell? ⟨w.heap.size, 2, none⟩ = some (.string (B ([]))) := S1.out.cell 2
  have sf2 := S1.out.frozen 2
  have s3 : w1.cell? ⟨w.heap.size, 3, none⟩ = some (.string (B ([]))) := S1.out.cell 3
  have sf3 := S1.out.frozen 3
  have hlt : b ≠ w.heap.size := by omega
  go_wp2
  change bodyPost Tryz.prog _ _ Exit.ret _ (putT w1 w.heap.size Tk.oth)
  exact bodyPost_ret (ret_tok2 (k := Tk.oth) rfl _ rfl (putT_blk S1.out)) rfl ⟨rfl, Rd.over R1.out (putT_kept _ _ _ _ (List.mem_singleton.2 rfl)) hlt, K1.out.trans_new (putT_kept _ _ _ _ (List.mem_singleton.2 rfl)) (fun x hx => by rw [List.mem_singleton.1 hx]; exact .inr (Nat.le_refl _))⟩

set_option maxRecDepth 100000 in
set_option maxHeartbeats 800000 in
theorem token_quest (b : Nat) (t : List UInt8) (w : World) (hR : Rd w b (60 :: t)) (hE : Env w b) (hl : t.length ≤ 19999) (h1 : ([60, 33, 45, 45] : List UInt8).isPrefixOf (60 :: t) = false) (h2 : ([60, 33] : List UInt8).isPrefixOf (60 :: t) = false) (h3 : ([60, 63] : List UInt8).isPrefixOf (60 :: t) = true) :
    Calls Tryz.prog 52 #[.pointer (some ⟨b, 0, none⟩)] w fun e w' => e = .returned (.tuple #[tkA Tk.oth, .bool true]) ∧ Rd w' b ((Tk.after [62] (60 :: t)).getD []) ∧ Kept w w' [b] := by
  have hbw : b < w.heap.size := hR.lt
  have r0 := hR.cell
  have R0 : Hid (Rd (zT w) b (60 :: t)) := hR.far (zT_below w)
  have K0 : Hid (Kept w (zT w) [b]) := Kept.of (zT_below w) _
  have E0 : Hid (Env (zT w) b) := hE.below (zT_below w)
  have S0 : Hid (Blk (zT w) w.heap.size (tkC tk0) 30) := zT_blk w
  have z1 := B_size (60 :: t)
  have hix := run_index_at (B (60 :: t)) 0 (by rw [z1]; simp)
  have hget : (B (60 :: t))[0]'(by rw [z1]; simp) = 60 := by simp [B, ByteArray.getElem_eq_getElem_data]
  rw [hget] at hix
  have h60b : ((((B (60 :: t))[0]'(by rw [z1]; simp)).toNat : Int) != 60) = false := by rw [hget]; rfl
  simp only [List.length_cons] at z1
  clear hR hE hget
  have H1 : Hid (([60, 33, 45, 45] : List UInt8).isPrefixOf (60 :: t) = false) := h1
  have H2 : Hid (([60, 33] : List UInt8).isPrefixOf (60 :: t) = false) := h2
  have H3 : Hid (([60, 63] : List UInt8).isPrefixOf (60 :: t) = true) := h3
  clear h1 h2 h3
  have h60 : (((60 : UInt8).toNat : Int) != 60) = false := rfl
  go_enter Tryz.func52, Tryz.ntmps52
  go_wp2_with fail
  refine (begins_any b (60 :: t) [60, 33, 45, 45] _ R0.out).mono ?_
  rintro e wx ⟨rfl, hw⟩
  rw [hw, H1.out]
  clear hw wx
  go_wp2_with fail
  refine (begins_any b (60 :: t) [60, 33] _ R0.out).mono ?_
  rintro e wx ⟨rfl, hw⟩
  rw [hw, H2.out]
  clear hw wx
  go_wp2_with fail
  refine (begins_any b (60 :: t) [60, 63] _ R0.out).mono ?_
  rintro e wx ⟨rfl, hw⟩
  rw [hw, H3.out]
  clear hw wx
  go_wp2_with fail
  refine (through_any b (60 :: t) [62] _ R0.out E0.out (by simp only [List.length_cons]; omega) (by simp)).mono ?_
  rintro e w1 ⟨rfl, hR, hK⟩
  have R1 : Hid (Rd w1 b ((Tk.after [62] (60 :: t)).getD [])) := hR
  have K1 : Hid (Kept w w1 [b]) := K0.out.trans hK
  have E1 : Hid (Env w1 b) := E0.out.kept hK (Nat.le_refl _)
  have S1 : Hid (Blk w1 w.heap.size (tkC tk0) 30) := S0.out.beside hK (by omega)
  clear hR hK
  have s0 : w1.cell? ⟨w.heap.size, 0, none⟩ = some (.int .i64 0) := S1.out.cell 0
  have sf0 := S1.out.frozen 0
  have s1 : w1.cell? ⟨w.heap.size, 1, none⟩ = some (.string (B ([]))) := S1.out.cell 1
  have sf1 := S1.out.frozen 1
  have s2 : w1.cell? ⟨w.heap.size, 2, none⟩ = some (.string (B ([]))) := S1.out.cell 2
  have sf2 := S1.out.frozen 2
  have s3 : w1.cell? ⟨w.heap.size, 3, none⟩ = some (.string (B ([]))) := S1.out.cell 3
  have sf3 := S1.out.frozen 3
  have hlt : b ≠ w.heap.size := by omega
  go_wp2
  change bodyPost Tryz.prog _ _ Exit.ret _ (putT w1 w.heap.size Tk.oth)
  exact bodyPost_ret (ret_tok2 (k := Tk.oth) rfl _ rfl (putT_blk S1.out)) rfl ⟨rfl, Rd.over R1.out (putT_kept _ _ _ _ (List.mem_singleton.2 rfl)) hlt, K1.out.trans_new (putT_kept _ _ _ _ (List.mem_singleton.2 rfl)) (fun x hx => by rw [List.mem_singleton.1 hx]; exact .inr (Nat.le_refl _))⟩

set_option maxRecDepth 100000 in
set_option maxHeartbeats 800000 in
theorem token_open (b : Nat) (t : List UInt8) (w : World) (hR : Rd w b (60 :: t)) (hE : Env w b) (hl : t.length ≤ 19999) (h1 : ([60, 33, 45, 45] : List UInt8).isPrefixOf (60 :: t) = false) (h2 : ([60, 33] : List UInt8).isPrefixOf (60 :: t) = false) (h3 : ([60, 63] : List UInt8).isPrefixOf (60 :: t) = false) (h4 : lbh [60] (60 :: t) = true) :
    Calls Tryz.prog 52 #[.pointer (some ⟨b, 0, none⟩)] w fun e w' => ∃ k whole rest, e = .returned (.tuple #[tkA k, .bool whole]) ∧ Tk.tag false t = (if whole then [k] else [], rest) ∧ Rd w' b rest ∧ Kept w w' [b] := by
  have hbw : b < w.heap.size := hR.lt
  have r0 := hR.cell
  have R0 : Hid (Rd (zT w) b (60 :: t)) := hR.far (zT_below w)
  have K0 : Hid (Kept w (zT w) [b]) := Kept.of (zT_below w) _
  have E0 : Hid (Env (zT w) b) := hE.below (zT_below w)
  have S0 : Hid (Blk (zT w) w.heap.size (tkC tk0) 30) := zT_blk w
  have z1 := B_size (60 :: t)
  have hix := run_index_at (B (60 :: t)) 0 (by rw [z1]; simp)
  have hget : (B (60 :: t))[0]'(by rw [z1]; simp) = 60 := by simp [B, ByteArray.getElem_eq_getElem_data]
  rw [hget] at hix
  have h60b : ((((B (60 :: t))[0]'(by rw [z1]; simp)).toNat : Int) != 60) = false := by rw [hget]; rfl
  simp only [List.length_cons] at z1
  clear hR hE hget
  have H1 : Hid (([60, 33, 45, 45] : List UInt8).isPrefixOf (60 :: t) = false) := h1
  have H2 : Hid (([60, 33] : List UInt8).isPrefixOf (60 :: t) = false) := h2
  have H3 : Hid (([60, 63] : List UInt8).isPrefixOf (60 :: t) = false) := h3
  have H4 : Hid (lbh [60] (60 :: t) = true) := h4
  clear h1 h2 h3 h4
  have h60 : (((60 : UInt8).toNat : Int) != 60) = false := rfl
  go_enter Tryz.func52, Tryz.ntmps52
  go_wp2_with fail
  refine (begins_any b (60 :: t) [60, 33, 45, 45] _ R0.out).mono ?_
  rintro e wx ⟨rfl, hw⟩
  rw [hw, H1.out]
  clear hw wx
  go_wp2_with fail
  refine (begins_any b (60 :: t) [60, 33] _ R0.out).mono ?_
  rintro e wx ⟨rfl, hw⟩
  rw [hw, H2.out]
  clear hw wx
  go_wp2_with fail
  refine (begins_any b (60 :: t) [60, 63] _ R0.out).mono ?_
  rintro e wx ⟨rfl, hw⟩
  rw [hw, H3.out]
  clear hw wx
  go_wp2_with fail
  refine (lbh_any b (60 :: t) [60] _ R0.out).mono ?_
  rintro e wx ⟨rfl, hw⟩
  rw [hw, H4.out]
  clear hw wx
  go_wp2_with fail
  refine (take_any b 1 (60 :: t) _ R0.out (by simp)).mono ?_
  rintro e w1 ⟨rfl, hR, hK⟩
  have R1 : Hid (Rd w1 b (t)) := hR
  have K1 : Hid (Kept w w1 [b]) := K0.out.trans hK
  have E1 : Hid (Env w1 b) := E0.out.kept hK (Nat.le_refl _)
  have S1 : Hid (Blk w1 w.heap.size (tkC tk0) 30) := S0.out.beside hK (by omega)
  clear hR hK
  go_wp2_with fail
  refine (tag_2 b (t) w1 R1.out E1.out (by simp at *; omega)).mono ?_
  rintro e w2 ⟨k, whole, rest, rfl, ht, hR, hK⟩
  obtain ⟨kk, kn, kt, kh⟩ := k
  have HT : Hid (Tk.tag false (t) = (if whole then [⟨kk, kn, kt, kh⟩] else [], rest)) := ht
  have R2 : Hid (Rd w2 b (rest)) := hR
  have K2 : Hid (Kept w w2 [b]) := K1.out.trans hK
  have E2 : Hid (Env w2 b) := E1.out.kept hK (Nat.le_refl _)
  have S2 : Hid (Blk w2 w.heap.size (tkC tk0) 30) := S1.out.beside hK (by omega)
  clear hR hK ht
  unfold tkA
  simp only
  have s0 : w2.cell? ⟨w.heap.size, 0, none⟩ = some (.int .i64 0) := S2.out.cell 0
  have sf0 := S2.out.frozen 0
  have s1 : w2.cell? ⟨w.heap.size, 1, none⟩ = some (.string (B ([]))) := S2.out.cell 1
  have sf1 := S2.out.frozen 1
  have s2 : w2.cell? ⟨w.heap.size, 2, none⟩ = some (.string (B ([]))) := S2.out.cell 2
  have sf2 := S2.out.frozen 2
  have s3 : w2.cell? ⟨w.heap.size, 3, none⟩ = some (.string (B ([]))) := S2.out.cell 3
  have sf3 := S2.out.frozen 3
  have hlt : b ≠ w.heap.size := by omega
  go_wp2
  change bodyPost Tryz.prog _ _ Exit.ret _ (putT w2 w.heap.size ⟨kk, kn, kt, kh⟩)
  exact bodyPost_ret (ret_tok2 (k := ⟨kk, kn, kt, kh⟩) rfl _ rfl (putT_blk S2.out)) rfl ⟨⟨kk, kn, kt, kh⟩, whole, rest, rfl, HT.out, Rd.over R2.out (putT_kept _ _ _ _ (List.mem_singleton.2 rfl)) hlt, K2.out.trans_new (putT_kept _ _ _ _ (List.mem_singleton.2 rfl)) (fun x hx => by rw [List.mem_singleton.1 hx]; exact .inr (Nat.le_refl _))⟩

set_option maxRecDepth 100000 in
set_option maxHeartbeats 800000 in
theorem token_shut (b : Nat) (t : List UInt8) (w : World) (hR : Rd w b (60 :: t)) (hE : Env w b) (hl : t.length ≤ 19999) (h1 : ([60, 33, 45, 45] : List UInt8).isPrefixOf (60 :: t) = false) (h2 : ([60, 33] : List UInt8).isPrefixOf (60 :: t) = false) (h3 : ([60, 63] : List UInt8).isPrefixOf (60 :: t) = false) (h4 : lbh [60] (60 :: t) = false) (h5 : lbh [60, 47] (60 :: t) = true) :
    Calls Tryz.prog 52 #[.pointer (some ⟨b, 0, none⟩)] w fun e w' => ∃ k whole rest, e = .returned (.tuple #[tkA k, .bool whole]) ∧ Tk.tag true (t.drop 1) = (if whole then [k] else [], rest) ∧ Rd w' b rest ∧ Kept w w' [b] := by
  have hbw : b < w.heap.size := hR.lt
  have r0 := hR.cell
  have R0 : Hid (Rd (zT w) b (60 :: t)) := hR.far (zT_below w)
  have K0 : Hid (Kept w (zT w) [b]) := Kept.of (zT_below w) _
  have E0 : Hid (Env (zT w) b) := hE.below (zT_below w)
  have S0 : Hid (Blk (zT w) w.heap.size (tkC tk0) 30) := zT_blk w
  have z1 := B_size (60 :: t)
  have hix := run_index_at (B (60 :: t)) 0 (by rw [z1]; simp)
  have hget : (B (60 :: t))[0]'(by rw [z1]; simp) = 60 := by simp [B, ByteArray.getElem_eq_getElem_data]
  rw [hget] at hix
  have h60b : ((((B (60 :: t))[0]'(by rw [z1]; simp)).toNat : Int) != 60) = false := by rw [hget]; rfl
  simp only [List.length_cons] at z1
  clear hR hE hget
  have hle : 1 ≤ t.length := by
    have h6 : ([60, 47] : List UInt8).isPrefixOf (60 :: t) = true := by unfold lbh at h5; exact (Bool.and_eq_true _ _ ▸ h5).1
    have := (List.isPrefixOf_iff_prefix.1 h6).length_le
    simp at this
    omega
  have H1 : Hid (([60, 33, 45, 45] : List UInt8).isPrefixOf (60 :: t) = false) := h1
  have H2 : Hid (([60, 33] : List UInt8).isPrefixOf (60 :: t) = false) := h2
  have H3 : Hid (([60, 63] : List UInt8).isPrefixOf (60 :: t) = false) := h3
  have H4 : Hid (lbh [60] (60 :: t) = false) := h4
  have H5 : Hid (lbh [60, 47] (60 :: t) = true) := h5
  clear h1 h2 h3 h4 h5
  have h60 : (((60 : UInt8).toNat : Int) != 60) = false := rfl
  go_enter Tryz.func52, Tryz.ntmps52
  go_wp2_with fail
  refine (begins_any b (60 :: t) [60, 33, 45, 45] _ R0.out).mono ?_
  rintro e wx ⟨rfl, hw⟩
  rw [hw, H1.out]
  clear hw wx
  go_wp2_with fail
  refine (begins_any b (60 :: t) [60, 33] _ R0.out).mono ?_
  rintro e wx ⟨rfl, hw⟩
  rw [hw, H2.out]
  clear hw wx
  go_wp2_with fail
  refine (begins_any b (60 :: t) [60, 63] _ R0.out).mono ?_
  rintro e wx ⟨rfl, hw⟩
  rw [hw, H3.out]
  clear hw wx
  go_wp2_with fail
  refine (lbh_any b (60 :: t) [60] _ R0.out).mono ?_
  rintro e wx ⟨rfl, hw⟩
  rw [hw, H4.out]
  clear hw wx
  go_wp2_with fail
  refine (lbh_any b (60 :: t) [60, 47] _ R0.out).mono ?_
  rintro e wx ⟨rfl, hw⟩
  rw [hw, H5.out]
  clear hw wx
  go_wp2_with fail
  refine (take_any b 2 (60 :: t) _ R0.out (by simp; omega)).mono ?_
  rintro e w1 ⟨rfl, hR, hK⟩
  have R1 : Hid (Rd w1 b (t.drop 1)) := hR
  have K1 : Hid (Kept w w1 [b]) := K0.out.trans hK
  have E1 : Hid (Env w1 b) := E0.out.kept hK (Nat.le_refl _)
  have S1 : Hid (Blk w1 w.heap.size (tkC tk0) 30) := S0.out.beside hK (by omega)
  clear hR hK
  go_wp2_with fail
  refine (tag_3 b (t.drop 1) w1 R1.out E1.out (by simp at *; omega)).mono ?_
  rintro e w2 ⟨k, whole, rest, rfl, ht, hR, hK⟩
  obtain ⟨kk, kn, kt, kh⟩ := k
  have HT : Hid (Tk.tag true (t.drop 1) = (if whole then [⟨kk, kn, kt, kh⟩] else [], rest)) := ht
  have R2 : Hid (Rd w2 b (rest)) := hR
  have K2 : Hid (Kept w w2 [b]) := K1.out.trans hK
  have E2 : Hid (Env w2 b) := E1.out.kept hK (Nat.le_refl _)
  have S2 : Hid (Blk w2 w.heap.size (tkC tk0) 30) := S1.out.beside hK (by omega)
  clear hR hK ht
  unfold tkA
  simp only
  have s0 : w2.cell? ⟨w.heap.size, 0, none⟩ = some (.int .i64 0) := S2.out.cell 0
  have sf0 := S2.out.frozen 0
  have s1 : w2.cell? ⟨w.heap.size, 1, none⟩ = some (.string (B ([]))) := S2.out.cell 1
  have sf1 := S2.out.frozen 1
  have s2 : w2.cell? ⟨w.heap.size, 2, none⟩ = some (.string (B ([]))) := S2.out.cell 2
  have sf2 := S2.out.frozen 2
  have s3 : w2.cell? ⟨w.heap.size, 3, none⟩ = some (.string (B ([]))) := S2.out.cell 3
  have sf3 := S2.out.frozen 3
  have hlt : b ≠ w.heap.size := by omega
  go_wp2
  change bodyPost Tryz.prog _ _ Exit.ret _ (putT w2 w.heap.size ⟨kk, kn, kt, kh⟩)
  exact bodyPost_ret (ret_tok2 (k := ⟨kk, kn, kt, kh⟩) rfl _ rfl (putT_blk S2.out)) rfl ⟨⟨kk, kn, kt, kh⟩, whole, rest, rfl, HT.out, Rd.over R2.out (putT_kept _ _ _ _ (List.mem_singleton.2 rfl)) hlt, K2.out.trans_new (putT_kept _ _ _ _ (List.mem_singleton.2 rfl)) (fun x hx => by rw [List.mem_singleton.1 hx]; exact .inr (Nat.le_refl _))⟩

set_option maxRecDepth 100000 in
set_option maxHeartbeats 800000 in
theorem token_angle (b : Nat) (t : List UInt8) (w : World) (hR : Rd w b (60 :: t)) (hE : Env w b) (h1 : ([60, 33, 45, 45] : List UInt8).isPrefixOf (60 :: t) = false) (h2 : ([60, 33] : List UInt8).isPrefixOf (60 :: t) = false) (h3 : ([60, 63] : List UInt8).isPrefixOf (60 :: t) = false) (h4 : lbh [60] (60 :: t) = false) (h5 : lbh [60, 47] (60 :: t) = false) :
    Calls Tryz.prog 52 #[.pointer (some ⟨b, 0, none⟩)] w fun e w' => e = .returned (.tuple #[tkA (Tk.txt [60]), .bool true]) ∧ Rd w' b t ∧ Kept w w' [b] := by
  have hbw : b < w.heap.size := hR.lt
  have r0 := hR.cell
  have R0 : Hid (Rd (zT w) b (60 :: t)) := hR.far (zT_below w)
  have K0 : Hid (Kept w (zT w) [b]) := Kept.of (zT_below w) _
  have E0 : Hid (Env (zT w) b) := hE.below (zT_below w)
  have S0 : Hid (Blk (zT w) w.heap.size (tkC tk0) 30) := zT_blk w
  have z1 := B_size (60 :: t)
  have hix := run_index_at (B (60 :: t)) 0 (by rw [z1]; simp)
  have hget : (B (60 :: t))[0]'(by rw [z1]; simp) = 60 := by simp [B, ByteArray.getElem_eq_getElem_data]
  rw [hget] at hix
  have h60b : ((((B (60 :: t))[0]'(by rw [z1]; simp)).toNat : Int) != 60) = false := by rw [hget]; rfl
  simp only [List.length_cons] at z1
  clear hR hE hget
  have H1 : Hid (([60, 33, 45, 45] : List UInt8).isPrefixOf (60 :: t) = false) := h1
  have H2 : Hid (([60, 33] : List UInt8).isPrefixOf (60 :: t) = false) := h2
  have H3 : Hid (([60, 63] : List UInt8).isPrefixOf (60 :: t) = false) := h3
  have H4 : Hid (lbh [60] (60 :: t) = false) := h4
  have H5 : Hid (lbh [60, 47] (60 :: t) = false) := h5
  clear h1 h2 h3 h4 h5
  have h60 : (((60 : UInt8).toNat : Int) != 60) = false := rfl
  go_enter Tryz.func52, Tryz.ntmps52
  go_wp2_with fail
  refine (begins_any b (60 :: t) [60, 33, 45, 45] _ R0.out).mono ?_
  rintro e wx ⟨rfl, hw⟩
  rw [hw, H1.out]
  clear hw wx
  go_wp2_with fail
  refine (begins_any b (60 :: t) [60, 33] _ R0.out).mono ?_
  rintro e wx ⟨rfl, hw⟩
  rw [hw, H2.out]
  clear hw wx
  go_wp2_with fail
  refine (begins_any b (60 :: t) [60, 63] _ R0.out).mono ?_
  rintro e wx ⟨rfl, hw⟩
  rw [hw, H3.out]
  clear hw wx
  go_wp2_with fail
  refine (lbh_any b (60 :: t) [60] _ R0.out).mono ?_
  rintro e wx ⟨rfl, hw⟩
  rw [hw, H4.out]
  clear hw wx
  go_wp2_with fail
  refine (lbh_any b (60 :: t) [60, 47] _ R0.out).mono ?_
  rintro e wx ⟨rfl, hw⟩
  rw [hw, H5.out]
  clear hw wx
  go_wp2_with fail
  refine (take_any b 1 (60 :: t) _ R0.out (by simp)).mono ?_
  rintro e w1 ⟨rfl, hR, hK⟩
  have R1 : Hid (Rd w1 b (t)) := hR
  have K1 : Hid (Kept w w1 [b]) := K0.out.trans hK
  have E1 : Hid (Env w1 b) := E0.out.kept hK (Nat.le_refl _)
  have S1 : Hid (Blk w1 w.heap.size (tkC tk0) 30) := S0.out.beside hK (by omega)
  clear hR hK
  go_wp2_with fail
  refine (text_any [60] w1 E1.out.pairs (by simp)).mono ?_
  rintro e w2 ⟨rfl, hb⟩
  have R2 : Hid (Rd w2 b (t)) := R1.out.far hb
  have K2 : Hid (Kept w w2 [b]) := K1.out.far hb
  have E2 : Hid (Env w2 b) := E1.out.below hb
  have S2 : Hid (Blk w2 w.heap.size (tkC tk0) 30) := S1.out.under hb
  clear hb
  rw [show Esc.rd [60] = [60] by decide]
  unfold tkA Tk.txt
  simp only
  have s0 : w2.cell? ⟨w.heap.size, 0, none⟩ = some (.int .i64 0) := S2.out.cell 0
  have sf0 := S2.out.frozen 0
  have s1 : w2.cell? ⟨w.heap.size, 1, none⟩ = some (.string (B ([]))) := S2.out.cell 1
  have sf1 := S2.out.frozen 1
  have s2 : w2.cell? ⟨w.heap.size, 2, none⟩ = some (.string (B ([]))) := S2.out.cell 2
  have sf2 := S2.out.frozen 2
  have s3 : w2.cell? ⟨w.heap.size, 3, none⟩ = some (.string (B ([]))) := S2.out.cell 3
  have sf3 := S2.out.frozen 3
  have hlt : b ≠ w.heap.size := by omega
  go_wp2
  change bodyPost Tryz.prog _ _ Exit.ret _ (putT w2 w.heap.size (Tk.txt [60]))
  exact bodyPost_ret (ret_tok2 (k := (Tk.txt [60])) rfl _ rfl (putT_blk S2.out)) rfl ⟨rfl, Rd.over R2.out (putT_kept _ _ _ _ (List.mem_singleton.2 rfl)) hlt, K2.out.trans_new (putT_kept _ _ _ _ (List.mem_singleton.2 rfl)) (fun x hx => by rw [List.mem_singleton.1 hx]; exact .inr (Nat.le_refl _))⟩

end Go.Proofs.YtbhcklkbckacpaaGreatDoor

/-
  token.Page: a page is taken apart into what chapter 5 says.
-/
namespace Go.Proofs.YtbhcklkbckacpaaGreatDoor
open Go.RowKit

theorem first_text (c : UInt8) (t : List UInt8) (h : c ≠ 60) : Tk.first c t = ([Tk.txt (Esc.rd ((c :: t).takeWhile (Tk.not 60)))], (c :: t).dropWhile (Tk.not 60)) := by
  have h1 : (c == 60) = false := by simpa using h
  have h2 : Tk.not 60 c = true := by unfold Tk.not; simpa using h
  unfold Tk.first
  rw [h1, if_neg Bool.false_ne_true, List.takeWhile_cons, List.dropWhile_cons, h2, if_pos rfl, if_pos rfl]
theorem after_60 (t : List UInt8) : Tk.after [62] (60 :: t) = Tk.after [62] t := by
  rw [Tk.after]
  simp [List.isPrefixOf]
theorem pre4 (t : List UInt8) : ([60, 33, 45, 45] : List UInt8).isPrefixOf (60 :: t) = ([33, 45, 45] : List UInt8).isPrefixOf t := by simp [List.isPrefixOf]
theorem pre2 (x d : UInt8) (u : List UInt8) : ([60, x] : List UInt8).isPrefixOf (60 :: d :: u) = (x == d) := by simp [List.isPrefixOf]
theorem lbh1 (d : UInt8) (u : List UInt8) : lbh [60] (60 :: d :: u) = Tk.letter d := by simp [lbh, List.isPrefixOf]
theorem lbh2 (e : UInt8) (v : List UInt8) : lbh [60, 47] (60 :: 47 :: e :: v) = Tk.letter e := by simp [lbh, List.isPrefixOf]
theorem lbh2_no (d : UInt8) (u : List UInt8) (h : d ≠ 47) : lbh [60, 47] (60 :: d :: u) = false := by
  unfold lbh
  rw [pre2]
  have : ((47 : UInt8) == d) = false := by simpa using (fun e => h e.symm)
  rw [this]
  rfl

theorem token_any (b : Nat) (c : UInt8) (t : List UInt8) (w : World) (hR : Rd w b (c :: t)) (hE : Env w b) (hl : t.length ≤ 19999) :
    Calls Tryz.prog 52 #[.pointer (some ⟨b, 0, none⟩)] w fun e w' => ∃ k whole rest, e = .returned (.tuple #[tkA k, .bool whole]) ∧ Tk.first c t = (if whole then [k] else [], rest) ∧ Rd w' b rest ∧ Kept w w' [b] := by
  by_cases h60 : c = 60
  · subst h60
    have hf : Tk.first 60 t = Tk.angle t := rfl
    rw [hf]
    by_cases h1 : ([33, 45, 45] : List UInt8).isPrefixOf t = true
    · have ha : Tk.angle t = ([Tk.oth], (Tk.after [45, 45, 62] (t.drop 3)).getD []) := by unfold Tk.angle; rw [if_pos h1]
      refine (token_comment b t w hR hE hl ((pre4 t).trans h1)).mono ?_
      rintro e w' ⟨rfl, h2, h3⟩
      exact ⟨_, true, _, rfl, ha, h2, h3⟩
    · have h1' : ([60, 33, 45, 45] : List UInt8).isPrefixOf (60 :: t) = false := (pre4 t).trans (Bool.eq_false_iff.2 h1)
      cases t with
      | nil =>
        refine (token_angle b [] w hR hE h1' rfl rfl rfl rfl).mono ?_
        rintro e w' ⟨rfl, h2, h3⟩
        exact ⟨_, true, _, rfl, rfl, h2, h3⟩
      | cons d u =>
        rw [Tk.angle_cons, if_neg h1]
        by_cases h33 : d = 33
        · subst h33
          refine (token_bang b (33 :: u) w hR hE hl h1' (by rw [pre2]; rfl)).mono ?_
          rintro e w' ⟨rfl, h2, h3⟩
          rw [after_60] at h2
          exact ⟨_, true, _, rfl, rfl, h2, h3⟩
        · have e33 : ((33 : UInt8) == d) = false := by simpa using (fun e => h33 e.symm)
          have f33 : (d == 33) = false := by simpa using h33
          by_cases h63 : d = 63
          · subst h63
            refine (token_quest b (63 :: u) w hR hE hl h1' ((pre2 33 63 u).trans rfl) ((pre2 63 63 u).trans rfl)).mono ?_
            rintro e w' ⟨rfl, h2, h3⟩
            rw [after_60] at h2
            exact ⟨_, true, _, rfl, rfl, h2, h3⟩
          · have e63 : ((63 : UInt8) == d) = false := by simpa using (fun e => h63 e.symm)
            have f63 : (d == 63) = false := by simpa using h63
            have g1 : ([60, 33] : List UInt8).isPrefixOf (60 :: d :: u) = false := (pre2 33 d u).trans e33
            have g2 : ([60, 63] : List UInt8).isPrefixOf (60 :: d :: u) = false := (pre2 63 d u).trans e63
            rw [f33, f63, Bool.or_self, if_neg Bool.false_ne_true]
            by_cases h47 : d = 47
            · subst h47
              have g3 : lbh [60] (60 :: 47 :: u) = false := (lbh1 47 u).trans rfl
              rw [if_pos (by rfl)]
              cases u with
              | nil =>
                refine (token_angle b [47] w hR hE h1' g1 g2 g3 rfl).mono ?_
                rintro e w' ⟨rfl, h2, h3⟩
                exact ⟨_, true, _, rfl, rfl, h2, h3⟩
              | cons x v =>
                rw [Tk.shutAt]
                cases hx : Tk.letter x
                · rw [if_neg Bool.false_ne_true]
                  refine (token_angle b (47 :: x :: v) w hR hE h1' g1 g2 g3 ((lbh2 x v).trans hx)).mono ?_
                  rintro e w' ⟨rfl, h2, h3⟩
                  exact ⟨_, true, _, rfl, rfl, h2, h3⟩
                · rw [if_pos rfl]
                  exact token_shut b (47 :: x :: v) w hR hE hl h1' g1 g2 g3 ((lbh2 x v).trans hx)
            · have e47 : (d == 47) = false := by simpa using h47
              rw [e47, if_neg Bool.false_ne_true]
              cases hx : Tk.letter d
              · rw [if_neg Bool.false_ne_true]
                refine (token_angle b (d :: u) w hR hE h1' g1 g2 ((lbh1 d u).trans hx) (lbh2_no d u h47)).mono ?_
                rintro e w' ⟨rfl, h2, h3⟩
                exact ⟨_, true, _, rfl, rfl, h2, h3⟩
              · rw [if_pos rfl]
                exact token_open b (d :: u) w hR hE hl h1' g1 g2 ((lbh1 d u).trans hx)
  · have hne : ((c.toNat : Int) != 60) = true := by
      rw [bne_iff_ne]
      intro e
      exact h60 (UInt8.toNat_inj.1 (by show c.toNat = 60; omega))
    refine (token_text b c t w hR hE hl hne).mono ?_
    rintro e w' ⟨rfl, h2, h3⟩
    exact ⟨_, true, _, rfl, first_text c t h60, h2, h3⟩

theorem Tryz.infoTk : (Tryz.prog.info? 30).map (fun i => (i.zero, i.size, i.bytes)) = some (some (tkA tk0), 4, 56) := by kernel_rfl

set_option maxRecDepth 100000 in
set_option maxHeartbeats 800000 in
theorem tpage_many (ao : Option Addr) (n cap : Nat) (w : World) (hn : 20000 < n) :
    Calls Tryz.prog 9 #[.slice ao n cap] w fun e w' => e = .returned (.tuple #[.slice none 0 0, .int .i64 2]) ∧ w' = w := by
  go_enter Tryz.func9, Tryz.ntmps9
  go_wp2
  go_ret2
  exact ⟨rfl, rfl⟩

structure PageAt (w : World) (b n : Nat) (l : List UInt8) (v : Value) (wr : World) (pre : List Tk) (r : List UInt8) : Prop where
  rest : Rd wr b r
  go : pre ++ Tk.toks r = Tk.toks l
  own : wr.ownsRow (b + 1) 30 4 v pre.length (tkCells pre)
  below : Below b w wr
  env : Env wr b
  len : pre.length + r.length ≤ n

set_option maxRecDepth 100000 in
set_option maxHeartbeats 800000 in
theorem tpage_ok (ao : Option Addr) (n cap : Nat) (l : List UInt8) (w : World) (hB : Byt w ao n cap l) (hE : Env w w.heap.size) (hn : n ≤ 20000) :
    Calls Tryz.prog 9 #[.slice ao n cap] w fun e w' => (∃ ao' cap', e = .returned (.tuple #[.slice ao' (Tk.toks l).length cap', .int .i64 0]) ∧ Tks w' ao' (Tk.toks l).length cap' (Tk.toks l)) ∧ Below w.heap.size w w' := by
  have hcv := conv_byt hB
  have hll := hB.bytes
  have hcap := hB.room
  have hbig := hB.big
  obtain ⟨i0, hi, hz0, hz1, hz2⟩ := info_parts Tryz.infoTk
  have hbw : Below w.heap.size w (w.alloc (.cells #[.string (B l)] 86)) := (Below.refl _ _).alloc (Nat.le_refl _) _
  have P0 : Hid (PageAt w w.heap.size n l (.slice none 0 0) (w.alloc (.cells #[.string (B l)] 86)) [] l) :=
    ⟨Blk.new w [.string (B l)] 86, rfl, World.ownsRow_nil _ _ _ _, hbw, hE.below hbw, by simp; omega⟩
  clear hB hE hbw
  obtain ⟨T, hT⟩ : ∃ T, Tk.toks l = T := ⟨_, rfl⟩
  have HT : Hid (Tk.toks l = T) := hT
  rw [hT]
  clear hT
  go_enter Tryz.func9, Tryz.ntmps9
  go_wp2
  go_loopw [5] (fun v wr => ∃ pre r, PageAt w w.heap.size n l v wr pre r) (fun _ wr => left w.heap.size wr)
  case atStart => exact ⟨_, _, P0.out⟩
  case round =>
    obtain ⟨pre, r, hP⟩ := hrel
    have HP : Hid (PageAt w w.heap.size n l u5 wr pre r) := hP
    have r0 := hP.rest.cell
    have hlen := hP.len
    have hLeft : Hid (left w.heap.size wr = r.length) := left_of hP.rest
    clear hP hcv
    cases r with
    | nil =>
      have e0 : (B []).toList.isEmpty = true := by rw [toList_B]; rfl
      have hpre : pre = T := by have := HP.out.go; rw [Tk.toks_nil, List.append_nil] at this; exact this.trans HT.out
      obtain ⟨ao', cap', hv, hrow⟩ := own_row HP.out.own
      subst hpre
      rw [hv]
      have HR : Hid (Row wr ao' pre.length cap' 4 (tkCells pre)) := hrow
      have HB : Hid (Below w.heap.size w wr) := HP.out.below
      clear hrow HP hv
      go_wp2
      go_ret2
      exact ⟨⟨ao', cap', rfl, HR.out⟩, HB.out⟩
    | cons c t =>
      have e0 : (B (c :: t)).toList.isEmpty = false := by rw [toList_B]; rfl
      simp only [List.length_cons] at hlen
      have hsz : w.heap.size < wr.heap.size := HP.out.rest.lt
      go_wp2_with fail
      refine (token_any w.heap.size c t wr HP.out.rest HP.out.env (by omega)).mono ?_
      rintro e w2 ⟨k, whole, rest, rfl, hf, hR, hK⟩
      have hrl : rest.length ≤ t.length := by have := Tk.first_len c t; rw [hf] at this; exact this
      have hgo : (pre ++ if whole then [k] else []) ++ Tk.toks rest = Tk.toks l := by
        rw [← HP.out.go, Tk.toks_cons, hf, List.append_assoc]
      have HGo : Hid ((pre ++ if whole then [k] else []) ++ Tk.toks rest = Tk.toks l) := hgo
      have HR : Hid (Rd w2 w.heap.size rest) := hR
      have HO : Hid (w2.ownsRow (w.heap.size + 1) 30 4 u5 pre.length (tkCells pre)) := own_kept HP.out.own hK (Nat.lt_succ_self _)
      have HB : Hid (Below w.heap.size w w2) := HP.out.below.trans (hK.below (by omega) (fun x hx => by rw [List.mem_singleton.1 hx]; exact Nat.le_refl _))
      have HE : Hid (Env w2 w.heap.size) := HP.out.env.kept hK (Nat.le_refl _)
      have hsz2 : w.heap.size < w2.heap.size := hR.lt
      clear hf hgo hR hK HP
      obtain ⟨kk, kn, kt, kh⟩ := k
      unfold tkA
      simp only
      cases whole
      · have hb1 : Below w2.heap.size w2 (w2.alloc (.cells #[.int .i64 kk, .string (B kn), .string (B kt), .string (B kh)] 30)) := (Below.refl _ _).alloc (Nat.le_refl _) _
        have R2 : Hid (Rd (w2.alloc (.cells #[.int .i64 kk, .string (B kn), .string (B kt), .string (B kh)] 30)) w.heap.size rest) := HR.out.far hb1
        have P2 : Hid (PageAt w w.heap.size n l u5 (w2.alloc (.cells #[.int .i64 kk, .string (B kn), .string (B kt), .string (B kh)] 30)) pre rest) :=
          ⟨R2.out, by have := HGo.out; simpa using this, own_under HO.out hb1, HB.out.trans (hb1.mono (by omega)), HE.out.below hb1, by omega⟩
        clear hb1
        go_wp2
        go_roundw
        case rel => exact ⟨_, _, P2.out⟩
        case measure =>
          rw [left_of R2.out, hLeft.out]
          simp only [List.length_cons]
          omega
      · go_wp2_with (at_builtin; refine wpList_append_lies _ rfl (.tmp 22) (.tmp 24) 23 rfl (w.heap.size + 1) 30 i0 (tkA tk0) 4 56 Tryz.underlying23 hi hz0 hz1 hz2 rfl (by decide) u5 pre.length (tkCells pre) rfl ?c1 ⟨w2.heap.size + 1, 0, none⟩ 1 1 (tkC ⟨kk, kn, kt, kh⟩) rfl rfl ?c2 ?c3 (by decide) ?c4 ?c5 ?c6 _ rfl ?c7)
        case c1 => exact (HO.out.alloc _).alloc _
        case c2 => exact fun _ _ h => h
        case c3 => rw [← tkCells_one]; exact tkCells_oneCell _
        case c4 => unfold maxLen; omega
        case c5 => omega
        case c6 => omega
        case c7 =>
          intro g cap2 w3 hown hgrow _ _
          have hb1 : Below w2.heap.size w2 ((w2.alloc (.cells #[.int .i64 kk, .string (B kn), .string (B kt), .string (B kh)] 30)).alloc (.cells #[.int .i64 kk, .string (B kn), .string (B kt), .string (B kh)] 30)) := ((Below.refl _ _).alloc (Nat.le_refl _) _).alloc (by simp) _
          have hb2 : Below (w.heap.size + 1) w2 w3 := (hb1.mono (by omega)).grown hgrow (by simp; omega) (fun k hk => ownBlk_ge HO.out k hk)
          have R3 : Hid (Rd w3 w.heap.size rest) := (hb2.block _ (Nat.lt_succ_self _)).trans HR.out
          have E3 : Hid (Env w3 w.heap.size) := ⟨HE.out.pairs.below hb2 (Nat.lt_succ_of_lt HE.out.low.1), by obtain ⟨m, hm⟩ := HE.out.mx; exact ⟨m, (World.cell?_of_block (w := w2) (hb2.block _ (Nat.lt_succ_of_lt HE.out.low.2))).trans hm⟩, HE.out.low, Nat.le_trans HE.out.size hb2.size⟩
          have P3 : Hid (PageAt w w.heap.size n l (.slice (some ⟨g, 0, none⟩) (pre.length + 1) cap2) w3 (pre ++ [⟨kk, kn, kt, kh⟩]) rest) :=
            ⟨R3.out, HGo.out, by rw [List.length_append, tkCells_app, tkCells_one]; exact hown, HB.out.trans (hb2.mono (Nat.le_succ _)), E3.out, by simp; omega⟩
          clear hb1 hb2 hown hgrow
          go_wp2
          go_roundw
          case rel => exact ⟨_, _, P3.out⟩
          case measure =>
            rw [left_of R3.out, hLeft.out]
            simp only [List.length_cons]
            omega
end Go.Proofs.YtbhcklkbckacpaaGreatDoor

/-
  The laws' closed fact of a page: torn.
-/
namespace Go.Proofs.YtbhcklkbckacpaaGreatDoor
open Go.RowKit

def tornL : List UInt8 := [60, 97, 32, 104, 114, 101, 102, 61, 39, 120, 39, 62, 38, 108, 116, 59, 60, 33, 45, 45, 121]
def tornT : List Tk := [⟨2, [97], [], [120]⟩, ⟨1, [], [60], []⟩, ⟨4, [], [], []⟩]
theorem torn_toks : Tk.toks tornL = tornT := by rfl
theorem row_new (w : World) (sz n : Nat) (cs : List Value) (t : TypeId) (fr : Nat × Nat) (hl : cs.length = n * sz) (hn : n ≤ 9223372036854775807) : Row (w.alloc (.cells cs.toArray t fr)) (some ⟨w.heap.size, 0, none⟩) n n sz cs := by
  refine ⟨hl, Nat.le_refl _, hn, fun _ => ⟨_, _, rfl, fun j u hu => ?_⟩⟩
  rw [Nat.zero_add]
  have h := heap_alloc_new w (.cells cs.toArray t fr)
  unfold World.cell?
  rw [h]
  simpa using hu
end Go.Proofs.YtbhcklkbckacpaaGreatDoor
