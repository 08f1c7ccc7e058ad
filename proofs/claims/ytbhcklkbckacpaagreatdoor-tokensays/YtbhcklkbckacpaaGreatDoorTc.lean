/-
  token's tag, token and Page: what they make of the rest of a page is what chapter 5 says.
-/
import Derived.Test.YtbhcklkbckacpaaGreatDoorTb
namespace Go.Proofs.YtbhcklkbckacpaaGreatDoor
open Go.RowKit

theorem Blk.under {w w' : World} {g : Nat} {cs : List Value} {t : TypeId} (h : Blk w g cs t) (hb : Below w.heap.size w w') : Blk w' g cs t := (hb.block g h.lt).trans h
theorem Blk.beside {w w' : World} {g b : Nat} {cs : List Value} {t : TypeId} (h : Blk w g cs t) (hk : Kept w w' [b]) (hne : g ≠ b) : Blk w' g cs t := hk.blk h (by simpa using hne)
/-- A new token's block. -/
def zT (w : World) : World := w.alloc (.cells (tkC tk0).toArray 30)
theorem zT_size (w : World) : (zT w).heap.size = w.heap.size + 1 := World.size_alloc ..
theorem zT_blk (w : World) : Blk (zT w) w.heap.size (tkC tk0) 30 := Blk.new w (tkC tk0) 30
theorem zT_below (w : World) : Below w.heap.size w (zT w) := (Below.refl _ _).alloc (Nat.le_refl _) _
theorem tag_none {s : Bool} {u : List UInt8} (h : Tk.attr (u.dropWhile Tk.nam) none = none) : Tk.tag s u = ([], []) := by unfold Tk.tag; rw [h]
theorem tag_some {s : Bool} {u r : List UInt8} {h : Option (List UInt8)} (e : Tk.attr (u.dropWhile Tk.nam) none = some (h, r)) : Tk.tag s u = ([⟨if s then 3 else 2, Lk.small (u.takeWhile Tk.nam), [], if s then [] else Esc.rd (h.getD [])⟩], r) := by unfold Tk.tag; rw [e]
/-- How much is left. -/
def left (b : Nat) (w : World) : Nat := match w.cell? ⟨b, 0, none⟩ with
  | some (.string s) => s.size
  | _ => 0
theorem left_of {b : Nat} {w : World} {l : List UInt8} (h : Rd w b l) : left b w = l.length := by
  unfold left
  rw [h.cell]
  exact B_size l
theorem dw_head (p : UInt8 → Bool) : ∀ (l : List UInt8) (c : UInt8) (t : List UInt8), l.dropWhile p = c :: t → p c = false
  | [], _, _, h => by cases h
  | x :: r, c, t, h => by
    rw [List.dropWhile_cons] at h
    split at h
    · exact dw_head p r c t h
    · cases h
      rename_i h1
      exact Bool.eq_false_iff.2 h1
/-- A tag at work: what is left, its block, the block of the answer. -/
structure TagAt (w : World) (b rb tb : Nat) (kd : Int) (nm : List UInt8) (R : Option (Option (List UInt8) × List UInt8)) (m : Value) (wr : World) (l : List UInt8) (h : Option (List UInt8)) : Prop where
  rest : Rd wr b l
  tok : Blk wr tb (tkC ⟨kd, nm, [], if kd = 2 then Esc.rd (h.getD []) else []⟩) 30
  res : Blk wr rb (tkC tk0) 30
  may : m = .bool (kd == 2 && h.isNone)
  go : Tk.attr l h = R
  len : l.length ≤ 20000
  kept : Kept w wr [b]
  env : Env wr b

set_option maxRecDepth 100000 in
set_option maxHeartbeats 3200000 in
theorem tag_2 (b : Nat) (u : List UInt8) (w : World) (hR : Rd w b u) (hE : Env w b) (hl : u.length ≤ 20000) :
    Calls Tryz.prog 128 #[.pointer (some ⟨b, 0, none⟩), .int .i64 2] w fun e w' => ∃ k whole rest, e = .returned (.tuple #[tkA k, .bool whole]) ∧ Tk.tag false u = (if whole then [k] else [], rest) ∧ Rd w' b rest ∧ Kept w w' [b] := by
  obtain ⟨R, hRR⟩ : ∃ R, Tk.attr (u.dropWhile Tk.nam) none = R := ⟨_, rfl⟩
  have HR : Hid (Tk.attr (u.dropWhile Tk.nam) none = R) := hRR
  clear hRR
  have hbw : b < w.heap.size := hR.lt
  have R0 : Hid (Rd (zT w) b u) := hR.far (zT_below w)
  have K0 : Hid (Kept w (zT w) [b]) := Kept.of (zT_below w) _
  have E0 : Hid (Env (zT w) b) := hE.below (zT_below w)
  have S0 : Hid (Blk (zT w) w.heap.size (tkC tk0) 30) := zT_blk w
  have d1 := Tk.dw_len Tk.nam u
  have d2 := tw_len Tk.nam u
  clear hR hE
  go_enter Tryz.func128, Tryz.ntmps128
  go_wp2_with fail
  refine (oneOf_any [32, 9, 10, 13, 12, 47, 62] _).mono ?_
  rintro e w1 ⟨rfl, hA, hb⟩
  have A1 : Hid (Blk w1 (w.heap.size + 1) [.string (B [32, 9, 10, 13, 12, 47, 62])] 9) := by rw [← zT_size w]; exact hA
  have R1 : Hid (Rd w1 b (u)) := R0.out.far hb
  have K1 : Hid (Kept w w1 [b]) := K0.out.far hb
  have E1 : Hid (Env w1 b) := E0.out.below hb
  have S1 : Hid (Blk w1 w.heap.size (tkC tk0) 30) := S0.out.under hb
  clear hA hb
  go_wp2_with fail
  refine (upTo_one _ b (Tk.nam) [32, 9, 10, 13, 12, 47, 62] (u) w1 (fun c => Tk.in_nam c) R1.out A1.out hl).mono ?_
  rintro e w2 ⟨rfl, hR, hK⟩
  have R2 : Hid (Rd w2 b ((u).dropWhile (Tk.nam))) := hR
  have K2 : Hid (Kept w w2 [b]) := K1.out.trans hK
  have E2 : Hid (Env w2 b) := E1.out.kept hK (Nat.le_refl _)
  have S2 : Hid (Blk w2 w.heap.size (tkC tk0) 30) := S1.out.beside hK (by omega)
  clear hR hK
  go_wp2_with fail
  refine (tsmall_any (u.takeWhile Tk.nam) w2 (by omega)).mono ?_
  rintro e w3 ⟨rfl, hb⟩
  have R3 : Hid (Rd w3 b (u.dropWhile Tk.nam)) := R2.out.far hb
  have K3 : Hid (Kept w w3 [b]) := K2.out.far hb
  have E3 : Hid (Env w3 b) := E2.out.below hb
  have S3 : Hid (Blk w3 w.heap.size (tkC tk0) 30) := S2.out.under hb
  clear hb
  obtain ⟨nm, hnm⟩ : ∃ nm, Lk.small (u.takeWhile Tk.nam) = nm := ⟨_, rfl⟩
  have HN : Hid (Lk.small (u.takeWhile Tk.nam) = nm) := hnm
  rw [hnm]
  clear hnm
  have hbw3 : b < w3.heap.size := R3.out.lt
  have hbr3 : w.heap.size < w3.heap.size := S3.out.lt
  go_wp2
  go_loopw [7] (fun m wr => ∃ l h, TagAt w b w.heap.size w3.heap.size 2 nm R m wr l h) (fun _ wr => left b wr)
  case atStart =>
    have hb := (Below.refl w3.heap.size w3).alloc (Nat.le_refl _) (.cells #[.int .i64 2, .string (B nm), .string ⟨#[]⟩, .string ⟨#[]⟩] 30)
    exact ⟨_, none, R3.out.far hb, Blk.new w3 (tkC ⟨2, nm, [], []⟩) 30, S3.out.under hb, rfl, HR.out, by omega, K3.out.far hb, E3.out.below hb⟩
  case round =>
    obtain ⟨l, h, hT⟩ := hrel
    have R10 : Hid (Rd wr b l) := hT.rest
    have K10 : Hid (Kept w wr [b]) := hT.kept
    have E10 : Hid (Env wr b) := hT.env
    have S10 : Hid (Blk wr w.heap.size (tkC tk0) 30) := hT.res
    have T10 : Hid (Blk wr w3.heap.size (tkC ⟨2, nm, [], Esc.rd (h.getD [])⟩) 30) := hT.tok
    have hlen := hT.len
    have HG : Hid (Tk.attr l h = R) := hT.go
    have hm : u7 = .bool (h.isNone) := hT.may
    rw [hm]
    clear hT hm
    have hLeft : Hid (left b wr = l.length) := left_of R10.out
    obtain ⟨l1, hl1⟩ : ∃ l1, l.dropWhile Tk.sl = l1 := ⟨_, rfl⟩
    have HL : Hid (l.dropWhile Tk.sl = l1) := hl1
    have hG1 : Tk.attr l1 h = R := by rw [← hl1, Tk.attr_sl]; exact HG.out
    have hlen1 : l1.length ≤ l.length := by rw [← hl1]; exact Tk.dw_len _ _
    clear hl1
    cases l1 with
    | nil =>
      have hn : Tk.attr (u.dropWhile Tk.nam) none = none := HR.out.trans hG1.symm
      have HF : Hid (Tk.tag false u = ([], [])) := tag_none hn
      clear hn hG1
      go_wp2_with fail
      refine (noneOf_any [32, 9, 10, 13, 12, 47] _).mono ?_
      rintro e w11 ⟨rfl, hA, hb⟩
      have A11 : Hid (Blk w11 _ [.string (B [32, 9, 10, 13, 12, 47])] 9) := hA
      have R11 : Hid (Rd w11 b (l)) := R10.out.far hb
      have K11 : Hid (Kept w w11 [b]) := K10.out.far hb
      have E11 : Hid (Env w11 b) := E10.out.below hb
      have S11 : Hid (Blk w11 w.heap.size (tkC tk0) 30) := S10.out.under hb
      have T11 : Hid (Blk w11 w3.heap.size (tkC ⟨2, nm, [], Esc.rd (h.getD [])⟩) 30) := T10.out.under hb
      clear hA hb
      go_wp2_with fail
      refine (upTo_none _ b (Tk.sl) [32, 9, 10, 13, 12, 47] (l) w11 (fun c => congrArg _ (Tk.in_sl c)) R11.out A11.out hlen).mono ?_
      rintro e w12 ⟨rfl, hR, hK⟩
      have R12 : Hid (Rd w12 b ((l).dropWhile (Tk.sl))) := hR
      have K12 : Hid (Kept w w12 [b]) := K11.out.trans hK
      have E12 : Hid (Env w12 b) := E11.out.kept hK (Nat.le_refl _)
      have S12 : Hid (Blk w12 w.heap.size (tkC tk0) 30) := S11.out.beside hK (by omega)
      have T12 : Hid (Blk w12 w3.heap.size (tkC ⟨2, nm, [], Esc.rd (h.getD [])⟩) 30) := T11.out.beside hK (by omega)
      clear hR hK
      have R12' : Hid (Rd w12 b []) := by rw [← HL.out]; exact R12.out
      have r12 := R12'.out.cell
      have e0 : (B []).toList.isEmpty = true := by rw [toList_B]; rfl
      have s0 : w12.cell? ⟨w.heap.size, 0, none⟩ = some (.int .i64 0) := S12.out.cell 0
      have sf0 := S12.out.frozen 0
      have s1 : w12.cell? ⟨w.heap.size, 1, none⟩ = some (.string (B ([]))) := S12.out.cell 1
      have sf1 := S12.out.frozen 1
      have s2 : w12.cell? ⟨w.heap.size, 2, none⟩ = some (.string (B ([]))) := S12.out.cell 2
      have sf2 := S12.out.frozen 2
      have s3 : w12.cell? ⟨w.heap.size, 3, none⟩ = some (.string (B ([]))) := S12.out.cell 3
      have sf3 := S12.out.frozen 3
      go_wp2
      change bodyPost Tryz.prog _ _ Exit.ret _ (putT w12 w.heap.size tk0)
      exact bodyPost_ret (ret_tok2 (k := tk0) rfl _ rfl (putT_blk S12.out)) rfl ⟨tk0, false, [], rfl, HF.out, Rd.over R12'.out (putT_kept _ _ _ _ (List.mem_singleton.2 rfl)) (by omega), K12.out.trans_new (putT_kept _ _ _ _ (List.mem_singleton.2 rfl)) (fun x hx => by rw [List.mem_singleton.1 hx]; exact .inr (Nat.le_refl _))⟩
    | cons c t =>
      simp only [List.length_cons] at hlen1
      have e0 : (B (c :: t)).toList.isEmpty = false := by rw [toList_B]; rfl
      have d3 := Tk.dw_len Tk.anm t
      have d4 := tw_len Tk.anm t
      have d5 := Tk.restA_len (t.dropWhile Tk.anm)
      have d6 := Tk.value_len1 (t.dropWhile Tk.anm)
      by_cases h62 : c = 62
      · subst h62
        have hs : Tk.attr (u.dropWhile Tk.nam) none = some (h, t) := HR.out.trans hG1.symm
        have HF : Hid (Tk.tag false u = ([⟨2, Lk.small (u.takeWhile Tk.nam), [], Esc.rd (h.getD [])⟩], t)) := tag_some hs
        rw [HN.out] at HF
        clear hs hG1
        go_wp2_with fail
        refine (noneOf_any [32, 9, 10, 13, 12, 47] _).mono ?_
        rintro e w11 ⟨rfl, hA, hb⟩
        have A11 : Hid (Blk w11 _ [.string (B [32, 9, 10, 13, 12, 47])] 9) := hA
        have R11 : Hid (Rd w11 b (l)) := R10.out.far hb
        have K11 : Hid (Kept w w11 [b]) := K10.out.far hb
        have E11 : Hid (Env w11 b) := E10.out.below hb
        have S11 : Hid (Blk w11 w.heap.size (tkC tk0) 30) := S10.out.under hb
        have T11 : Hid (Blk w11 w3.heap.size (tkC ⟨2, nm, [], Esc.rd (h.getD [])⟩) 30) := T10.out.under hb
        clear hA hb
        go_wp2_with fail
        refine (upTo_none _ b (Tk.sl) [32, 9, 10, 13, 12, 47] (l) w11 (fun c => congrArg _ (Tk.in_sl c)) R11.out A11.out hlen).mono ?_
        rintro e w12 ⟨rfl, hR, hK⟩
        have R12 : Hid (Rd w12 b ((l).dropWhile (Tk.sl))) := hR
        have K12 : Hid (Kept w w12 [b]) := K11.out.trans hK
        have E12 : Hid (Env w12 b) := E11.out.kept hK (Nat.le_refl _)
        have S12 : Hid (Blk w12 w.heap.size (tkC tk0) 30) := S11.out.beside hK (by omega)
        have T12 : Hid (Blk w12 w3.heap.size (tkC ⟨2, nm, [], Esc.rd (h.getD [])⟩) 30) := T11.out.beside hK (by omega)
        clear hR hK
        have R12' : Hid (Rd w12 b (62 :: t)) := by rw [← HL.out]; exact R12.out
        have r12 := R12'.out.cell
        have hlt12 : w.heap.size < w12.heap.size := S12.out.lt
        have hnt : b ≠ w.heap.size := by omega
        go_wp2_with fail
        refine (takeIf_yes b (62 :: t) [62] w12 R12'.out (by simp [List.isPrefixOf])).mono ?_
        rintro e w13 ⟨rfl, hR, hK⟩
        have R13 : Hid (Rd w13 b (t)) := hR
        have K13 : Hid (Kept w w13 [b]) := K12.out.trans hK
        have E13 : Hid (Env w13 b) := E12.out.kept hK (Nat.le_refl _)
        have S13 : Hid (Blk w13 w.heap.size (tkC tk0) 30) := S12.out.beside hK (by omega)
        have T13 : Hid (Blk w13 w3.heap.size (tkC ⟨2, nm, [], Esc.rd (h.getD [])⟩) 30) := T12.out.beside hK (by omega)
        clear hR hK
        have s0 : w13.cell? ⟨w.heap.size, 0, none⟩ = some (.int .i64 0) := S13.out.cell 0
        have sf0 := S13.out.frozen 0
        have s1 : w13.cell? ⟨w.heap.size, 1, none⟩ = some (.string (B ([]))) := S13.out.cell 1
        have sf1 := S13.out.frozen 1
        have s2 : w13.cell? ⟨w.heap.size, 2, none⟩ = some (.string (B ([]))) := S13.out.cell 2
        have sf2 := S13.out.frozen 2
        have s3 : w13.cell? ⟨w.heap.size, 3, none⟩ = some (.string (B ([]))) := S13.out.cell 3
        have sf3 := S13.out.frozen 3
        have t0 : w13.cell? ⟨w3.heap.size, 0, none⟩ = some (.int .i64 2) := T13.out.cell 0
        have t1 : w13.cell? ⟨w3.heap.size, 1, none⟩ = some (.string (B (nm))) := T13.out.cell 1
        have t2 : w13.cell? ⟨w3.heap.size, 2, none⟩ = some (.string (B ([]))) := T13.out.cell 2
        have t3 : w13.cell? ⟨w3.heap.size, 3, none⟩ = some (.string (B (Esc.rd (h.getD [])))) := T13.out.cell 3
        go_wp2
        change bodyPost Tryz.prog _ _ Exit.ret _ (putT w13 w.heap.size ⟨2, nm, [], Esc.rd (h.getD [])⟩)
        exact bodyPost_ret (ret_tok2 (k := ⟨2, nm, [], Esc.rd (h.getD [])⟩) rfl _ rfl (putT_blk S13.out)) rfl ⟨⟨2, nm, [], Esc.rd (h.getD [])⟩, true, t, rfl, HF.out, Rd.over R13.out (putT_kept _ _ _ _ (List.mem_singleton.2 rfl)) (by omega), K13.out.trans_new (putT_kept _ _ _ _ (List.mem_singleton.2 rfl)) (fun x hx => by rw [List.mem_singleton.1 hx]; exact .inr (Nat.le_refl _))⟩
      · have hp : ([62] : List UInt8).isPrefixOf (c :: t) = false := by
          have : ((62 : UInt8) == c) = false := by simpa using (fun e => h62 e.symm)
          simp [List.isPrefixOf, this]
        have HP : Hid (([62] : List UInt8).isPrefixOf (c :: t) = false) := hp
        have hsl : Tk.sl c = false := dw_head Tk.sl l c t HL.out
        have HA : Hid (Tk.attr (Tk.restA (t.dropWhile Tk.anm)) (if Lk.small (c :: t.takeWhile Tk.anm) == Tk.hrefL && h.isNone then some (Tk.value (t.dropWhile Tk.anm)).1 else h) = R) := by
          rw [← Tk.attr_go c t h (by simpa using h62) hsl]
          exact hG1
        clear hp hsl hG1 h62
        cases h with
        | some x =>
          rw [show (if Lk.small (c :: t.takeWhile Tk.anm) == Tk.hrefL && (some x).isNone then some (Tk.value (t.dropWhile Tk.anm)).1 else some x) = some x by simp] at HA
          go_wp2_with fail
          refine (noneOf_any [32, 9, 10, 13, 12, 47] _).mono ?_
          rintro e w11 ⟨rfl, hA, hb⟩
          have A11 : Hid (Blk w11 _ [.string (B [32, 9, 10, 13, 12, 47])] 9) := hA
          have R11 : Hid (Rd w11 b (l)) := R10.out.far hb
          have K11 : Hid (Kept w w11 [b]) := K10.out.far hb
          have E11 : Hid (Env w11 b) := E10.out.below hb
          have S11 : Hid (Blk w11 w.heap.size (tkC tk0) 30) := S10.out.under hb
          have T11 : Hid (Blk w11 w3.heap.size (tkC ⟨2, nm, [], Esc.rd ((some x).getD [])⟩) 30) := T10.out.under hb
          clear hA hb
          go_wp2_with fail
          refine (upTo_none _ b (Tk.sl) [32, 9, 10, 13, 12, 47] (l) w11 (fun c => congrArg _ (Tk.in_sl c)) R11.out A11.out hlen).mono ?_
          rintro e w12 ⟨rfl, hR, hK⟩
          have R12 : Hid (Rd w12 b ((l).dropWhile (Tk.sl))) := hR
          have K12 : Hid (Kept w w12 [b]) := K11.out.trans hK
          have E12 : Hid (Env w12 b) := E11.out.kept hK (Nat.le_refl _)
          have S12 : Hid (Blk w12 w.heap.size (tkC tk0) 30) := S11.out.beside hK (by omega)
          have T12 : Hid (Blk w12 w3.heap.size (tkC ⟨2, nm, [], Esc.rd ((some x).getD [])⟩) 30) := T11.out.beside hK (by omega)
          clear hR hK
          have R12' : Hid (Rd w12 b (c :: t)) := by rw [← HL.out]; exact R12.out
          have r12 := R12'.out.cell
          go_wp2_with fail
          refine (takeIf_no b (c :: t) [62] w12 R12'.out HP.out).mono ?_
          rintro e w12' ⟨rfl, hw⟩
          rw [hw]
          clear hw
          go_wp2_with fail
          refine (attr_any b c t w12 R12'.out (by omega)).mono ?_
          rintro e w13 ⟨rfl, hR, hK⟩
          have R13 : Hid (Rd w13 b (Tk.restA (t.dropWhile Tk.anm))) := hR
          have K13 : Hid (Kept w w13 [b]) := K12.out.trans hK
          have E13 : Hid (Env w13 b) := E12.out.kept hK (Nat.le_refl _)
          have S13 : Hid (Blk w13 w.heap.size (tkC tk0) 30) := S12.out.beside hK (by omega)
          have T13 : Hid (Blk w13 w3.heap.size (tkC ⟨2, nm, [], Esc.rd ((some x).getD [])⟩) 30) := T12.out.beside hK (by omega)
          clear hR hK
          go_wp2
          go_roundw
          case rel => exact ⟨_, some x, R13.out, T13.out, S13.out, rfl, HA.out, by omega, K13.out, E13.out⟩
          case measure =>
            rw [left_of R13.out, hLeft.out]
            omega
        | none =>
          obtain ⟨sm, hsm⟩ : ∃ sm, Lk.small (c :: t.takeWhile Tk.anm) = sm := ⟨_, rfl⟩
          obtain ⟨v, hv⟩ : ∃ v, (Tk.value (t.dropWhile Tk.anm)).1 = v := ⟨_, rfl⟩
          have HS : Hid (Lk.small (c :: t.takeWhile Tk.anm) = sm) := hsm
          have HV : Hid ((Tk.value (t.dropWhile Tk.anm)).1 = v) := hv
          rw [hsm, hv] at HA
          rw [hv] at d6
          clear hsm hv
          have hq : ((B sm).toList == [104, 114, 101, 102]) = (sm == Tk.hrefL) := by
            rw [toList_B]
            rfl
          cases hb2 : (sm == Tk.hrefL)
          all_goals rw [hb2] at hq HA
          · clear hb2
            rw [show (if false && (none : Option (List UInt8)).isNone then some v else none) = none from rfl] at HA
            go_wp2_with fail
            refine (noneOf_any [32, 9, 10, 13, 12, 47] _).mono ?_
            rintro e w11 ⟨rfl, hA, hb⟩
            have A11 : Hid (Blk w11 _ [.string (B [32, 9, 10, 13, 12, 47])] 9) := hA
            have R11 : Hid (Rd w11 b (l)) := R10.out.far hb
            have K11 : Hid (Kept w w11 [b]) := K10.out.far hb
            have E11 : Hid (Env w11 b) := E10.out.below hb
            have S11 : Hid (Blk w11 w.heap.size (tkC tk0) 30) := S10.out.under hb
            have T11 : Hid (Blk w11 w3.heap.size (tkC ⟨2, nm, [], Esc.rd ((none : Option (List UInt8)).getD [])⟩) 30) := T10.out.under hb
            clear hA hb
            go_wp2_with fail
            refine (upTo_none _ b (Tk.sl) [32, 9, 10, 13, 12, 47] (l) w11 (fun c => congrArg _ (Tk.in_sl c)) R11.out A11.out hlen).mono ?_
            rintro e w12 ⟨rfl, hR, hK⟩
            have R12 : Hid (Rd w12 b ((l).dropWhile (Tk.sl))) := hR
            have K12 : Hid (Kept w w12 [b]) := K11.out.trans hK
            have E12 : Hid (Env w12 b) := E11.out.kept hK (Nat.le_refl _)
            have S12 : Hid (Blk w12 w.heap.size (tkC tk0) 30) := S11.out.beside hK (by omega)
            have T12 : Hid (Blk w12 w3.heap.size (tkC ⟨2, nm, [], Esc.rd ((none : Option (List UInt8)).getD [])⟩) 30) := T11.out.beside hK (by omega)
            clear hR hK
            have R12' : Hid (Rd w12 b (c :: t)) := by rw [← HL.out]; exact R12.out
            have r12 := R12'.out.cell
            go_wp2_with fail
            refine (takeIf_no b (c :: t) [62] w12 R12'.out HP.out).mono ?_
            rintro e w12' ⟨rfl, hw⟩
            rw [hw]
            clear hw
            go_wp2_with fail
            refine (attr_any b c t w12 R12'.out (by omega)).mono ?_
            rintro e w13 ⟨rfl, hR, hK⟩
            have R13 : Hid (Rd w13 b (Tk.restA (t.dropWhile Tk.anm))) := hR
            have K13 : Hid (Kept w w13 [b]) := K12.out.trans hK
            have E13 : Hid (Env w13 b) := E12.out.kept hK (Nat.le_refl _)
            have S13 : Hid (Blk w13 w.heap.size (tkC tk0) 30) := S12.out.beside hK (by omega)
            have T13 : Hid (Blk w13 w3.heap.size (tkC ⟨2, nm, [], Esc.rd ((none : Option (List UInt8)).getD [])⟩) 30) := T12.out.beside hK (by omega)
            clear hR hK
            rw [HV.out]
            go_wp2_with fail
            refine (tsmall_any (c :: t.takeWhile Tk.anm) w13 (by simp only [List.length_cons]; omega)).mono ?_
            rintro e w14 ⟨rfl, hb⟩
            have R14 : Hid (Rd w14 b (Tk.restA (t.dropWhile Tk.anm))) := R13.out.far hb
            have K14 : Hid (Kept w w14 [b]) := K13.out.far hb
            have E14 : Hid (Env w14 b) := E13.out.below hb
            have S14 : Hid (Blk w14 w.heap.size (tkC tk0) 30) := S13.out.under hb
            have T14 : Hid (Blk w14 w3.heap.size (tkC ⟨2, nm, [], Esc.rd ((none : Option (List UInt8)).getD [])⟩) 30) := T13.out.under hb
            clear hb
            rw [HS.out]
            go_wp2
            go_roundw
            case rel => exact ⟨_, none, R14.out, T14.out, S14.out, rfl, HA.out, by omega, K14.out, E14.out⟩
            case measure =>
              rw [left_of R14.out, hLeft.out]
              omega
          · clear hb2
            rw [show (if true && (none : Option (List UInt8)).isNone then some v else none) = some v from rfl] at HA
            go_wp2_with fail
            refine (noneOf_any [32, 9, 10, 13, 12, 47] _).mono ?_
            rintro e w11 ⟨rfl, hA, hb⟩
            have A11 : Hid (Blk w11 _ [.string (B [32, 9, 10, 13, 12, 47])] 9) := hA
            have R11 : Hid (Rd w11 b (l)) := R10.out.far hb
            have K11 : Hid (Kept w w11 [b]) := K10.out.far hb
            have E11 : Hid (Env w11 b) := E10.out.below hb
            have S11 : Hid (Blk w11 w.heap.size (tkC tk0) 30) := S10.out.under hb
            have T11 : Hid (Blk w11 w3.heap.size (tkC ⟨2, nm, [], Esc.rd ((none : Option (List UInt8)).getD [])⟩) 30) := T10.out.under hb
            clear hA hb
            go_wp2_with fail
            refine (upTo_none _ b (Tk.sl) [32, 9, 10, 13, 12, 47] (l) w11 (fun c => congrArg _ (Tk.in_sl c)) R11.out A11.out hlen).mono ?_
            rintro e w12 ⟨rfl, hR, hK⟩
            have R12 : Hid (Rd w12 b ((l).dropWhile (Tk.sl))) := hR
            have K12 : Hid (Kept w w12 [b]) := K11.out.trans hK
            have E12 : Hid (Env w12 b) := E11.out.kept hK (Nat.le_refl _)
            have S12 : Hid (Blk w12 w.heap.size (tkC tk0) 30) := S11.out.beside hK (by omega)
            have T12 : Hid (Blk w12 w3.heap.size (tkC ⟨2, nm, [], Esc.rd ((none : Option (List UInt8)).getD [])⟩) 30) := T11.out.beside hK (by omega)
            clear hR hK
            have R12' : Hid (Rd w12 b (c :: t)) := by rw [← HL.out]; exact R12.out
            have r12 := R12'.out.cell
            go_wp2_with fail
            refine (takeIf_no b (c :: t) [62] w12 R12'.out HP.out).mono ?_
            rintro e w12' ⟨rfl, hw⟩
            rw [hw]
            clear hw
            go_wp2_with fail
            refine (attr_any b c t w12 R12'.out (by omega)).mono ?_
            rintro e w13 ⟨rfl, hR, hK⟩
            have R13 : Hid (Rd w13 b (Tk.restA (t.dropWhile Tk.anm))) := hR
            have K13 : Hid (Kept w w13 [b]) := K12.out.trans hK
            have E13 : Hid (Env w13 b) := E12.out.kept hK (Nat.le_refl _)
            have S13 : Hid (Blk w13 w.heap.size (tkC tk0) 30) := S12.out.beside hK (by omega)
            have T13 : Hid (Blk w13 w3.heap.size (tkC ⟨2, nm, [], Esc.rd ((none : Option (List UInt8)).getD [])⟩) 30) := T12.out.beside hK (by omega)
            clear hR hK
            rw [HV.out]
            go_wp2_with fail
            refine (tsmall_any (c :: t.takeWhile Tk.anm) w13 (by simp only [List.length_cons]; omega)).mono ?_
            rintro e w14 ⟨rfl, hb⟩
            have R14 : Hid (Rd w14 b (Tk.restA (t.dropWhile Tk.anm))) := R13.out.far hb
            have K14 : Hid (Kept w w14 [b]) := K13.out.far hb
            have E14 : Hid (Env w14 b) := E13.out.below hb
            have S14 : Hid (Blk w14 w.heap.size (tkC tk0) 30) := S13.out.under hb
            have T14 : Hid (Blk w14 w3.heap.size (tkC ⟨2, nm, [], Esc.rd ((none : Option (List UInt8)).getD [])⟩) 30) := T13.out.under hb
            clear hb
            rw [HS.out]
            go_wp2_with fail
            refine (tread_any v w14 E14.out.pairs (by omega)).mono ?_
            rintro e w15 ⟨rfl, hb⟩
            have R15 : Hid (Rd w15 b (Tk.restA (t.dropWhile Tk.anm))) := R14.out.far hb
            have K15 : Hid (Kept w w15 [b]) := K14.out.far hb
            have E15 : Hid (Env w15 b) := E14.out.below hb
            have S15 : Hid (Blk w15 w.heap.size (tkC tk0) 30) := S14.out.under hb
            have T15 : Hid (Blk w15 w3.heap.size (tkC ⟨2, nm, [], Esc.rd ((none : Option (List UInt8)).getD [])⟩) 30) := T14.out.under hb
            clear hb
            have t3 : w15.cell? ⟨w3.heap.size, 3, none⟩ = some (.string ⟨#[]⟩) := T15.out.cell 3
            have tf3 := T15.out.frozen 3
            have hk : Kept w15 (w15.setCell ⟨w3.heap.size, 3, none⟩ (.string (B (Esc.rd v)))) [w3.heap.size] := (Kept.refl _ _).setCell _ _ (.inl (List.mem_singleton.2 rfl))
            have R16 : Hid (Rd (w15.setCell ⟨w3.heap.size, 3, none⟩ (.string (B (Esc.rd v)))) b (Tk.restA (t.dropWhile Tk.anm))) := R15.out.over hk (by omega)
            have S16 : Hid (Blk (w15.setCell ⟨w3.heap.size, 3, none⟩ (.string (B (Esc.rd v)))) w.heap.size (tkC tk0) 30) := S15.out.beside hk (by omega)
            have T16 : Hid (Blk (w15.setCell ⟨w3.heap.size, 3, none⟩ (.string (B (Esc.rd v)))) w3.heap.size (tkC ⟨2, nm, [], Esc.rd v⟩) 30) := T15.out.set 3 _
            have K16 : Hid (Kept w (w15.setCell ⟨w3.heap.size, 3, none⟩ (.string (B (Esc.rd v)))) [b]) := K15.out.trans_new hk (fun x hx => by rw [List.mem_singleton.1 hx]; exact .inr (by omega))
            have E16 : Hid (Env (w15.setCell ⟨w3.heap.size, 3, none⟩ (.string (B (Esc.rd v)))) b) := E15.out.kept hk (by omega)
            clear hk
            go_wp2
            go_roundw
            case rel => exact ⟨_, some v, R16.out, T16.out, S16.out, rfl, HA.out, by omega, K16.out, E16.out⟩
            case measure =>
              rw [left_of R16.out, hLeft.out]
              omega

set_option maxRecDepth 100000 in
set_option maxHeartbeats 3200000 in
theorem tag_3 (b : Nat) (u : List UInt8) (w : World) (hR : Rd w b u) (hE : Env w b) (hl : u.length ≤ 20000) :
    Calls Tryz.prog 128 #[.pointer (some ⟨b, 0, none⟩), .int .i64 3] w fun e w' => ∃ k whole rest, e = .returned (.tuple #[tkA k, .bool whole]) ∧ Tk.tag true u = (if whole then [k] else [], rest) ∧ Rd w' b rest ∧ Kept w w' [b] := by
  obtain ⟨R, hRR⟩ : ∃ R, Tk.attr (u.dropWhile Tk.nam) none = R := ⟨_, rfl⟩
  have HR : Hid (Tk.attr (u.dropWhile Tk.nam) none = R) := hRR
  clear hRR
  have hbw : b < w.heap.size := hR.lt
  have R0 : Hid (Rd (zT w) b u) := hR.far (zT_below w)
  have K0 : Hid (Kept w (zT w) [b]) := Kept.of (zT_below w) _
  have E0 : Hid (Env (zT w) b) := hE.below (zT_below w)
  have S0 : Hid (Blk (zT w) w.heap.size (tkC tk0) 30) := zT_blk w
  have d1 := Tk.dw_len Tk.nam u
  have d2 := tw_len Tk.nam u
  clear hR hE
  go_enter Tryz.func128, Tryz.ntmps128
  go_wp2_with fail
  refine (oneOf_any [32, 9, 10, 13, 12, 47, 62] _).mono ?_
  rintro e w1 ⟨rfl, hA, hb⟩
  have A1 : Hid (Blk w1 (w.heap.size + 1) [.string (B [32, 9, 10, 13, 12, 47, 62])] 9) := by rw [← zT_size w]; exact hA
  have R1 : Hid (Rd w1 b (u)) := R0.out.far hb
  have K1 : Hid (Kept w w1 [b]) := K0.out.far hb
  have E1 : Hid (Env w1 b) := E0.out.below hb
  have S1 : Hid (Blk w1 w.heap.size (tkC tk0) 30) := S0.out.under hb
  clear hA hb
  go_wp2_with fail
  refine (upTo_one _ b (Tk.nam) [32, 9, 10, 13, 12, 47, 62] (u) w1 (fun c => Tk.in_nam c) R1.out A1.out hl).mono ?_
  rintro e w2 ⟨rfl, hR, hK⟩
  have R2 : Hid (Rd w2 b ((u).dropWhile (Tk.nam))) := hR
  have K2 : Hid (Kept w w2 [b]) := K1.out.trans hK
  have E2 : Hid (Env w2 b) := E1.out.kept hK (Nat.le_refl _)
  have S2 : Hid (Blk w2 w.heap.size (tkC tk0) 30) := S1.out.beside hK (by omega)
  clear hR hK
  go_wp2_with fail
  refine (tsmall_any (u.takeWhile Tk.nam) w2 (by omega)).mono ?_
  rintro e w3 ⟨rfl, hb⟩
  have R3 : Hid (Rd w3 b (u.dropWhile Tk.nam)) := R2.out.far hb
  have K3 : Hid (Kept w w3 [b]) := K2.out.far hb
  have E3 : Hid (Env w3 b) := E2.out.below hb
  have S3 : Hid (Blk w3 w.heap.size (tkC tk0) 30) := S2.out.under hb
  clear hb
  obtain ⟨nm, hnm⟩ : ∃ nm, Lk.small (u.takeWhile Tk.nam) = nm := ⟨_, rfl⟩
  have HN : Hid (Lk.small (u.takeWhile Tk.nam) = nm) := hnm
  rw [hnm]
  clear hnm
  have hbw3 : b < w3.heap.size := R3.out.lt
  have hbr3 : w.heap.size < w3.heap.size := S3.out.lt
  go_wp2
  go_loopw [7] (fun m wr => ∃ l h, TagAt w b w.heap.size w3.heap.size 3 nm R m wr l h) (fun _ wr => left b wr)
  case atStart =>
    have hb := (Below.refl w3.heap.size w3).alloc (Nat.le_refl _) (.cells #[.int .i64 3, .string (B nm), .string ⟨#[]⟩, .string ⟨#[]⟩] 30)
    exact ⟨_, none, R3.out.far hb, Blk.new w3 (tkC ⟨3, nm, [], []⟩) 30, S3.out.under hb, rfl, HR.out, by omega, K3.out.far hb, E3.out.below hb⟩
  case round =>
    obtain ⟨l, h, hT⟩ := hrel
    have R10 : Hid (Rd wr b l) := hT.rest
    have K10 : Hid (Kept w wr [b]) := hT.kept
    have E10 : Hid (Env wr b) := hT.env
    have S10 : Hid (Blk wr w.heap.size (tkC tk0) 30) := hT.res
    have T10 : Hid (Blk wr w3.heap.size (tkC ⟨3, nm, [], []⟩) 30) := hT.tok
    have hlen := hT.len
    have HG : Hid (Tk.attr l h = R) := hT.go
    have hm : u7 = .bool (false) := hT.may
    rw [hm]
    clear hT hm
    have hLeft : Hid (left b wr = l.length) := left_of R10.out
    obtain ⟨l1, hl1⟩ : ∃ l1, l.dropWhile Tk.sl = l1 := ⟨_, rfl⟩
    have HL : Hid (l.dropWhile Tk.sl = l1) := hl1
    have hG1 : Tk.attr l1 h = R := by rw [← hl1, Tk.attr_sl]; exact HG.out
    have hlen1 : l1.length ≤ l.length := by rw [← hl1]; exact Tk.dw_len _ _
    clear hl1
    cases l1 with
    | nil =>
      have hn : Tk.attr (u.dropWhile Tk.nam) none = none := HR.out.trans hG1.symm
      have HF : Hid (Tk.tag true u = ([], [])) := tag_none hn
      clear hn hG1
      go_wp2_with fail
      refine (noneOf_any [32, 9, 10, 13, 12, 47] _).mono ?_
      rintro e w11 ⟨rfl, hA, hb⟩
      have A11 : Hid (Blk w11 _ [.string (B [32, 9, 10, 13, 12, 47])] 9) := hA
      have R11 : Hid (Rd w11 b (l)) := R10.out.far hb
      have K11 : Hid (Kept w w11 [b]) := K10.out.far hb
      have E11 : Hid (Env w11 b) := E10.out.below hb
      have S11 : Hid (Blk w11 w.heap.size (tkC tk0) 30) := S10.out.under hb
      have T11 : Hid (Blk w11 w3.heap.size (tkC ⟨3, nm, [], []⟩) 30) := T10.out.under hb
      clear hA hb
      go_wp2_with fail
      refine (upTo_none _ b (Tk.sl) [32, 9, 10, 13, 12, 47] (l) w11 (fun c => congrArg _ (Tk.in_sl c)) R11.out A11.out hlen).mono ?_
      rintro e w12 ⟨rfl, hR, hK⟩
      have R12 : Hid (Rd w12 b ((l).dropWhile (Tk.sl))) := hR
      have K12 : Hid (Kept w w12 [b]) := K11.out.trans hK
      have E12 : Hid (Env w12 b) := E11.out.kept hK (Nat.le_refl _)
      have S12 : Hid (Blk w12 w.heap.size (tkC tk0) 30) := S11.out.beside hK (by omega)
      have T12 : Hid (Blk w12 w3.heap.size (tkC ⟨3, nm, [], []⟩) 30) := T11.out.beside hK (by omega)
      clear hR hK
      have R12' : Hid (Rd w12 b []) := by rw [← HL.out]; exact R12.out
      have r12 := R12'.out.cell
      have e0 : (B []).toList.isEmpty = true := by rw [toList_B]; rfl
      have s0 : w12.cell? ⟨w.heap.size, 0, none⟩ = some (.int .i64 0) := S12.out.cell 0
      have sf0 := S12.out.frozen 0
      have s1 : w12.cell? ⟨w.heap.size, 1, none⟩ = some (.string (B ([]))) := S12.out.cell 1
      have sf1 := S12.out.frozen 1
      have s2 : w12.cell? ⟨w.heap.size, 2, none⟩ = some (.string (B ([]))) := S12.out.cell 2
      have sf2 := S12.out.frozen 2
      have s3 : w12.cell? ⟨w.heap.size, 3, none⟩ = some (.string (B ([]))) := S12.out.cell 3
      have sf3 := S12.out.frozen 3
      go_wp2
      change bodyPost Tryz.prog _ _ Exit.ret _ (putT w12 w.heap.size tk0)
      exact bodyPost_ret (ret_tok2 (k := tk0) rfl _ rfl (putT_blk S12.out)) rfl ⟨tk0, false, [], rfl, HF.out, Rd.over R12'.out (putT_kept _ _ _ _ (List.mem_singleton.2 rfl)) (by omega), K12.out.trans_new (putT_kept _ _ _ _ (List.mem_singleton.2 rfl)) (fun x hx => by rw [List.mem_singleton.1 hx]; exact .inr (Nat.le_refl _))⟩
    | cons c t =>
      simp only [List.length_cons] at hlen1
      have e0 : (B (c :: t)).toList.isEmpty = false := by rw [toList_B]; rfl
      have d3 := Tk.dw_len Tk.anm t
      have d4 := tw_len Tk.anm t
      have d5 := Tk.restA_len (t.dropWhile Tk.anm)
      have d6 := Tk.value_len1 (t.dropWhile Tk.anm)
      by_cases h62 : c = 62
      · subst h62
        have hs : Tk.attr (u.dropWhile Tk.nam) none = some (h, t) := HR.out.trans hG1.symm
        have HF : Hid (Tk.tag true u = ([⟨3, Lk.small (u.takeWhile Tk.nam), [], []⟩], t)) := tag_some hs
        rw [HN.out] at HF
        clear hs hG1
        go_wp2_with fail
        refine (noneOf_any [32, 9, 10, 13, 12, 47] _).mono ?_
        rintro e w11 ⟨rfl, hA, hb⟩
        have A11 : Hid (Blk w11 _ [.string (B [32, 9, 10, 13, 12, 47])] 9) := hA
        have R11 : Hid (Rd w11 b (l)) := R10.out.far hb
        have K11 : Hid (Kept w w11 [b]) := K10.out.far hb
        have E11 : Hid (Env w11 b) := E10.out.below hb
        have S11 : Hid (Blk w11 w.heap.size (tkC tk0) 30) := S10.out.under hb
        have T11 : Hid (Blk w11 w3.heap.size (tkC ⟨3, nm, [], []⟩) 30) := T10.out.under hb
        clear hA hb
        go_wp2_with fail
        refine (upTo_none _ b (Tk.sl) [32, 9, 10, 13, 12, 47] (l) w11 (fun c => congrArg _ (Tk.in_sl c)) R11.out A11.out hlen).mono ?_
        rintro e w12 ⟨rfl, hR, hK⟩
        have R12 : Hid (Rd w12 b ((l).dropWhile (Tk.sl))) := hR
        have K12 : Hid (Kept w w12 [b]) := K11.out.trans hK
        have E12 : Hid (Env w12 b) := E11.out.kept hK (Nat.le_refl _)
        have S12 : Hid (Blk w12 w.heap.size (tkC tk0) 30) := S11.out.beside hK (by omega)
        have T12 : Hid (Blk w12 w3.heap.size (tkC ⟨3, nm, [], []⟩) 30) := T11.out.beside hK (by omega)
        clear hR hK
        have R12' : Hid (Rd w12 b (62 :: t)) := by rw [← HL.out]; exact R12.out
        have r12 := R12'.out.cell
        have hlt12 : w.heap.size < w12.heap.size := S12.out.lt
        have hnt : b ≠ w.heap.size := by omega
        go_wp2_with fail
        refine (takeIf_yes b (62 :: t) [62] w12 R12'.out (by simp [List.isPrefixOf])).mono ?_
        rintro e w13 ⟨rfl, hR, hK⟩
        have R13 : Hid (Rd w13 b (t)) := hR
        have K13 : Hid (Kept w w13 [b]) := K12.out.trans hK
        have E13 : Hid (Env w13 b) := E12.out.kept hK (Nat.le_refl _)
        have S13 : Hid (Blk w13 w.heap.size (tkC tk0) 30) := S12.out.beside hK (by omega)
        have T13 : Hid (Blk w13 w3.heap.size (tkC ⟨3, nm, [], []⟩) 30) := T12.out.beside hK (by omega)
        clear hR hK
        have s0 : w13.cell? ⟨w.heap.size, 0, none⟩ = some (.int .i64 0) := S13.out.cell 0
        have sf0 := S13.out.frozen 0
        have s1 : w13.cell? ⟨w.heap.size, 1, none⟩ = some (.string (B ([]))) := S13.out.cell 1
        have sf1 := S13.out.frozen 1
        have s2 : w13.cell? ⟨w.heap.size, 2, none⟩ = some (.string (B ([]))) := S13.out.cell 2
        have sf2 := S13.out.frozen 2
        have s3 : w13.cell? ⟨w.heap.size, 3, none⟩ = some (.string (B ([]))) := S13.out.cell 3
        have sf3 := S13.out.frozen 3
        have t0 : w13.cell? ⟨w3.heap.size, 0, none⟩ = some (.int .i64 3) := T13.out.cell 0
        have t1 : w13.cell? ⟨w3.heap.size, 1, none⟩ = some (.string (B (nm))) := T13.out.cell 1
        have t2 : w13.cell? ⟨w3.heap.size, 2, none⟩ = some (.string (B ([]))) := T13.out.cell 2
        have t3 : w13.cell? ⟨w3.heap.size, 3, none⟩ = some (.string (B ([]))) := T13.out.cell 3
        go_wp2
        change bodyPost Tryz.prog _ _ Exit.ret _ (putT w13 w.heap.size ⟨3, nm, [], []⟩)
        exact bodyPost_ret (ret_tok2 (k := ⟨3, nm, [], []⟩) rfl _ rfl (putT_blk S13.out)) rfl ⟨⟨3, nm, [], []⟩, true, t, rfl, HF.out, Rd.over R13.out (putT_kept _ _ _ _ (List.mem_singleton.2 rfl)) (by omega), K13.out.trans_new (putT_kept _ _ _ _ (List.mem_singleton.2 rfl)) (fun x hx => by rw [List.mem_singleton.1 hx]; exact .inr (Nat.le_refl _))⟩
      · have hp : ([62] : List UInt8).isPrefixOf (c :: t) = false := by
          have : ((62 : UInt8) == c) = false := by simpa using (fun e => h62 e.symm)
          simp [List.isPrefixOf, this]
        have HP : Hid (([62] : List UInt8).isPrefixOf (c :: t) = false) := hp
        have hsl : Tk.sl c = false := dw_head Tk.sl l c t HL.out
        have HA : Hid (Tk.attr (Tk.restA (t.dropWhile Tk.anm)) (if Lk.small (c :: t.takeWhile Tk.anm) == Tk.hrefL && h.isNone then some (Tk.value (t.dropWhile Tk.anm)).1 else h) = R) := by
          rw [← Tk.attr_go c t h (by simpa using h62) hsl]
          exact hG1
        clear hp hsl hG1 h62
        go_wp2_with fail
        refine (noneOf_any [32, 9, 10, 13, 12, 47] _).mono ?_
        rintro e w11 ⟨rfl, hA, hb⟩
        have A11 : Hid (Blk w11 _ [.string (B [32, 9, 10, 13, 12, 47])] 9) := hA
        have R11 : Hid (Rd w11 b (l)) := R10.out.far hb
        have K11 : Hid (Kept w w11 [b]) := K10.out.far hb
        have E11 : Hid (Env w11 b) := E10.out.below hb
        have S11 : Hid (Blk w11 w.heap.size (tkC tk0) 30) := S10.out.under hb
        have T11 : Hid (Blk w11 w3.heap.size (tkC ⟨3, nm, [], []⟩) 30) := T10.out.under hb
        clear hA hb
        go_wp2_with fail
        refine (upTo_none _ b (Tk.sl) [32, 9, 10, 13, 12, 47] (l) w11 (fun c => congrArg _ (Tk.in_sl c)) R11.out A11.out hlen).mono ?_
        rintro e w12 ⟨rfl, hR, hK⟩
        have R12 : Hid (Rd w12 b ((l).dropWhile (Tk.sl))) := hR
        have K12 : Hid (Kept w w12 [b]) := K11.out.trans hK
        have E12 : Hid (Env w12 b) := E11.out.kept hK (Nat.le_refl _)
        have S12 : Hid (Blk w12 w.heap.size (tkC tk0) 30) := S11.out.beside hK (by omega)
        have T12 : Hid (Blk w12 w3.heap.size (tkC ⟨3, nm, [], []⟩) 30) := T11.out.beside hK (by omega)
        clear hR hK
        have R12' : Hid (Rd w12 b (c :: t)) := by rw [← HL.out]; exact R12.out
        have r12 := R12'.out.cell
        go_wp2_with fail
        refine (takeIf_no b (c :: t) [62] w12 R12'.out HP.out).mono ?_
        rintro e w12' ⟨rfl, hw⟩
        rw [hw]
        clear hw
        go_wp2_with fail
        refine (attr_any b c t w12 R12'.out (by omega)).mono ?_
        rintro e w13 ⟨rfl, hR, hK⟩
        have R13 : Hid (Rd w13 b (Tk.restA (t.dropWhile Tk.anm))) := hR
        have K13 : Hid (Kept w w13 [b]) := K12.out.trans hK
        have E13 : Hid (Env w13 b) := E12.out.kept hK (Nat.le_refl _)
        have S13 : Hid (Blk w13 w.heap.size (tkC tk0) 30) := S12.out.beside hK (by omega)
        have T13 : Hid (Blk w13 w3.heap.size (tkC ⟨3, nm, [], []⟩) 30) := T12.out.beside hK (by omega)
        clear hR hK
        go_wp2
        go_roundw
        case rel => exact ⟨_, _, R13.out, T13.out, S13.out, rfl, HA.out, by omega, K13.out, E13.out⟩
        case measure =>
          rw [left_of R13.out, hLeft.out]
          omega

end Go.Proofs.YtbhcklkbckacpaaGreatDoor
