/-
  Slices in memory: rows of cells, of bytes, of tokens; slices.Equal at two lists of tokens.
-/
import Derived.Test.YtbhcklkbckacpaaGreatDoorTa
import Derived.Test.YtbhcklkbckacpaaGreatDoorRw
import Derived.Deep.AppendLies
import Derived.Laws.AppendOwnNone
import Derived.Lib.AppendZeros
import Derived.Laws.StructEq
namespace Go.Proofs.YtbhcklkbckacpaaGreatDoor
open Go.RowKit

/-- A token's cells. -/
def tkC (k : Tk) : List Value := [.int .i64 k.kind, .string (B k.name), .string (B k.text), .string (B k.href)]
def tkA (k : Tk) : Value := .agg #[.int .i64 k.kind, .string (B k.name), .string (B k.text), .string (B k.href)]
def tkCells (l : List Tk) : List Value := l.flatMap tkC
theorem tkCells_nil : tkCells [] = [] := rfl
theorem tkCells_cons (k : Tk) (l : List Tk) : tkCells (k :: l) = .int .i64 k.kind :: .string (B k.name) :: .string (B k.text) :: .string (B k.href) :: tkCells l := rfl
theorem tkCells_app (l l' : List Tk) : tkCells (l ++ l') = tkCells l ++ tkCells l' := List.flatMap_append
theorem tkCells_one (k : Tk) : tkCells [k] = tkC k := by simp [tkCells]
theorem tkCells_len : ∀ l : List Tk, (tkCells l).length = l.length * 4
  | [] => rfl
  | k :: l => by rw [tkCells_cons]; simp only [List.length_cons]; rw [tkCells_len l]; omega
theorem tkCells_at : ∀ (l : List Tk) (i : Nat) (h : i < l.length), (tkCells l)[i * 4]? = some (.int .i64 l[i].kind) ∧ (tkCells l)[i * 4 + 1]? = some (.string (B l[i].name)) ∧ (tkCells l)[i * 4 + 2]? = some (.string (B l[i].text)) ∧ (tkCells l)[i * 4 + 3]? = some (.string (B l[i].href))
  | [], _, h => by simp at h
  | k :: l, 0, _ => ⟨rfl, rfl, rfl, rfl⟩
  | k :: l, i + 1, h => by
    have := tkCells_at l i (by simpa using h)
    rw [tkCells_cons, show (i + 1) * 4 = i * 4 + 1 + 1 + 1 + 1 by omega]
    exact this
theorem tkCells_oneCell (l : List Tk) : ∀ u ∈ tkCells l, u.oneCell' = true := by
  intro u hu
  obtain ⟨k, _, h⟩ := List.mem_flatMap.1 hu
  simp only [tkC, List.mem_cons, List.not_mem_nil, or_false] at h
  rcases h with rfl | rfl | rfl | rfl <;> rfl
abbrev Tks (w : World) (ao : Option Addr) (n cap : Nat) (l : List Tk) : Prop := Row w ao n cap 4 (tkCells l)
theorem Row.toks {w : World} {ao : Option Addr} {n cap : Nat} {l : List Tk} (h : Tks w ao n cap l) : l.length = n := by
  have := h.len
  rw [tkCells_len] at this
  omega
theorem Row.tok {w : World} {ao : Option Addr} {n cap : Nat} {l : List Tk} (h : Tks w ao n cap l) (hn : n ≠ 0) : ∃ b off, ao = some ⟨b, off, none⟩ ∧ ∀ i (hi : i < l.length),
    w.cell? ⟨b, off + i * 4, none⟩ = some (.int .i64 l[i].kind) ∧ w.cell? ⟨b, off + i * 4 + 1, none⟩ = some (.string (B l[i].name)) ∧ w.cell? ⟨b, off + i * 4 + 2, none⟩ = some (.string (B l[i].text)) ∧ w.cell? ⟨b, off + i * 4 + 3, none⟩ = some (.string (B l[i].href)) := by
  obtain ⟨b, off, he, hc⟩ := h.lies hn
  refine ⟨b, off, he, fun i hi => ?_⟩
  obtain ⟨h0, h1, h2, h3⟩ := tkCells_at l i hi
  exact ⟨hc _ _ h0, by rw [Nat.add_assoc]; exact hc _ _ h1, by rw [Nat.add_assoc]; exact hc _ _ h2, by rw [Nat.add_assoc]; exact hc _ _ h3⟩
abbrev Byt (w : World) (ao : Option Addr) (n cap : Nat) (l : List UInt8) : Prop := Row w ao n cap 1 (l.map b8)
theorem Row.bytes {w : World} {ao : Option Addr} {n cap : Nat} {l : List UInt8} (h : Byt w ao n cap l) : l.length = n := by
  have := h.len
  rw [List.length_map] at this
  omega
theorem Row.byte {w : World} {ao : Option Addr} {n cap : Nat} {l : List UInt8} (h : Byt w ao n cap l) (hn : n ≠ 0) : ∃ b off, ao = some ⟨b, off, none⟩ ∧ ∀ i (hi : i < l.length), w.cell? ⟨b, off + i, none⟩ = some (.int .u8 l[i].toNat) := by
  obtain ⟨b, off, he, hc⟩ := h.lies hn
  exact ⟨b, off, he, fun i hi => hc i _ (by simp [b8, List.getElem?_eq_getElem hi])⟩

theorem conv_byt {w : World} {ao : Option Addr} {n cap : Nat} {l : List UInt8} (h : Byt w ao n cap l) : (convert 22 9 (.slice ao n cap)).run Tryz.prog w = .ok (.string (B l)) w := by
  have hl := h.bytes
  cases ao with
  | none =>
    have hn : n = 0 := Nat.eq_zero_of_not_pos fun hn => by
      obtain ⟨b, off, he, _⟩ := h.lies (by omega)
      cases he
    subst hn
    obtain rfl : l = [] := List.length_eq_zero_iff.1 hl
    exact run_convert_bytes_nil w 22 5 Tryz.underlying22 Tryz.underlying5 0 cap 9 Tryz.underlying9
  | some a =>
    rw [← hl]
    refine run_convert_bytes_back w 22 9 5 a cap l Tryz.underlying22 Tryz.underlying5 Tryz.underlying9 (fun j hj => ?_)
    obtain ⟨b, off, he, hc⟩ := h.byte (by omega)
    cases he
    have e : (⟨b, off, none⟩ : Addr).add j = ⟨b, off + j, none⟩ := by unfold Addr.add; split <;> simp_all
    rw [e]
    exact hc j hj
/-- Where a part of a slice begins. -/
def subA (b off cap i : Nat) : Option Addr := if cap = i then some ⟨b, off, none⟩ else some ⟨b, off + i, none⟩
/-- A part of a slice of bytes. -/
theorem Row.part {w : World} {b off n cap : Nat} {l : List UInt8} (h : Byt w (some ⟨b, off, none⟩) n cap l) (i k : Nat) (hi : i ≤ k) (hk : k ≤ n) : Byt w (subA b off cap i) (k - i) (cap - i) ((l.drop i).take (k - i)) := by
  have hl := h.bytes
  have hr := h.room
  have hb := h.big
  refine ⟨?_, by omega, by omega, fun hn => ⟨b, off + i, ?_, fun j u hu => ?_⟩⟩
  · simp
    omega
  · unfold subA
    rw [if_neg (by omega)]
  · obtain ⟨b', off', he, hc⟩ := h.lies (by omega)
    cases he
    have hj : j < k - i := by
      have := (List.getElem?_eq_some_iff.1 hu).1
      simp at this
      omega
    rw [Nat.add_assoc]
    refine hc (i + j) u ?_
    rw [← hu]
    simp [hj, List.getElem?_drop]
theorem sized1 (w : World) : (sizeOf (Tryz.prog.elem 22)).run Tryz.prog w = .ok 1 w := by
  have h : Tryz.prog.elem 22 = 5 := by kernel_rfl
  rw [h]
  exact Tryz.sizeOf5 w
theorem under_bytes : Tryz.prog.underlying 22 = some (.slice (Tryz.prog.elem 22)) := by kernel_rfl
theorem sliced_sub (b off cap i h : Nat) : sliced (some ⟨b, off, none⟩) i h cap 1 = .slice (subA b off cap i) (h - i) (cap - i) := by
  unfold sliced subA
  have e : (⟨b, off, none⟩ : Addr).add (i * 1) = ⟨b, off + i, none⟩ := by unfold Addr.add; split <;> simp_all
  split
  · rfl
  · simp only [Option.map_some, e]
theorem slice_lh (b off n cap i k : Nat) (hi : i ≤ k) (hk : k ≤ n) (hc : n ≤ cap) (w : World) : (Instr.slice 22 (.slice (some ⟨b, off, none⟩) n cap) (some (.int .i64 i)) (some (.int .i64 k)) none).run Tryz.prog w = .ok (.slice (subA b off cap i) (k - i) (cap - i)) w := by
  rw [run_slice_lh (P := Tryz.prog) (w := w) 22 _ n cap under_bytes .i64 .i64 (i : Int) (k : Int) (by omega) (by omega) (by omega), sized1]
  simp only [Result.andThen, Int.toNat_natCast, sliced_sub]
theorem slice_l (b off n cap i : Nat) (hi : i ≤ n) (w : World) : (Instr.slice 22 (.slice (some ⟨b, off, none⟩) n cap) (some (.int .i64 i)) none none).run Tryz.prog w = .ok (.slice (subA b off cap i) (n - i) (cap - i)) w := by
  rw [run_slice_l (P := Tryz.prog) (w := w) 22 _ n cap under_bytes .i64 (i : Int) (by omega) (by omega), sized1]
  simp only [Result.andThen, Int.toNat_natCast, sliced_sub]

namespace Tk
def alike (x y : Tk) : Bool := (x.kind == y.kind) && ((x.name == y.name) && ((x.text == y.text) && (x.href == y.href)))
def same : List Tk → List Tk → Bool
  | [], [] => true
  | x :: s, y :: t => alike x y && same s t
  | _, _ => false
theorem alike_eq {x y : Tk} (h : alike x y = true) : x = y := by
  unfold alike at h
  simp only [Bool.and_eq_true, beq_iff_eq] at h
  obtain ⟨a, b, c, d⟩ := h
  cases x; cases y
  simp at a b c d
  rw [a, b, c, d]
theorem alike_self (x : Tk) : alike x x = true := by unfold alike; simp
theorem same_self : ∀ l : List Tk, same l l = true
  | [] => rfl
  | x :: t => by rw [same, alike_self, same_self t]; rfl
theorem same_eq : ∀ {l l' : List Tk}, same l l' = true → l = l'
  | [], [], _ => rfl
  | [], _ :: _, h => by cases h
  | _ :: _, [], h => by cases h
  | x :: s, y :: t, h => by
    rw [same, Bool.and_eq_true] at h
    rw [alike_eq h.1, same_eq h.2]
theorem same_len : ∀ (s t : List Tk), ¬ s.length = t.length → same s t = false
  | [], [], h => absurd rfl h
  | [], _ :: _, _ => rfl
  | _ :: _, [], _ => rfl
  | x :: s, y :: t, h => by
    rw [same, same_len s t (by simpa using h), Bool.and_false]
theorem same_step (s t : List Tk) (k : Nat) (h : k < s.length) (h' : k < t.length) : same (s.drop k) (t.drop k) = (alike s[k] t[k] && same (s.drop (k + 1)) (t.drop (k + 1))) := by
  rw [List.drop_eq_getElem_cons h, List.drop_eq_getElem_cons h', same]
end Tk
theorem guardTk : Tryz.prog.eqGuardType Tryz.prog.depth 30 = false := by kernel_rfl
theorem heldTk : Tryz.prog.stoodInHeld 30 = false := by kernel_rfl
theorem underTk : Tryz.prog.underlying 30 = some (.struct (Tryz.prog.fieldsOf 30)) := by kernel_rfl
theorem toList_B (l : List UInt8) : (B l).toList = l := by
  have h := Lib.extract_toList (B l) 0 (B l).size
  have e : (B l).extract 0 (B l).size = B l := by
    apply ext_list
    rw [Lib.extract_data, B_size]
    simp [B_data]
  rw [e] at h
  rw [h, B_size]
  simp [B_data]
theorem neq_toks (x y : Tk) (w : World) : (binOp .neq 30 (.agg #[.int .i64 x.kind, .string (B x.name), .string (B x.text), .string (B x.href)]) (.agg #[.int .i64 y.kind, .string (B y.name), .string (B y.text), .string (B y.href)])).run Tryz.prog w = .ok (.bool (!Tk.alike x y)) w := by
  rw [run_neq_struct, run_equalIn_agg w 9999 30 _ _ underTk heldTk]
  have hu := Tryz.underlying30
  simp [go_sem, hu, Program.fieldsOf, toList_B]
  unfold Tk.alike
  by_cases h1 : x.kind = y.kind
  · by_cases h2 : x.name = y.name
    · by_cases h3 : x.text = y.text
      · by_cases h4 : x.href = y.href
        · simp [h1, h2, h3, h4]
        · simp [h1, h2, h3, h4]
      · simp [h1, h2, h3]
    · simp [h1, h2]
  · simp [h1]

set_option maxRecDepth 100000 in
set_option maxHeartbeats 1600000 in
theorem equalTk_any (ao ao' : Option Addr) (n cap n' cap' : Nat) (l l' : List Tk) (w : World) (hD : Tks w ao n cap l) (hD' : Tks w ao' n' cap' l') :
    Calls Tryz.prog 11 #[.slice ao n cap, .slice ao' n' cap'] w fun e w' => e = .returned (.bool (Tk.same l l')) ∧ ∃ m, w' = w.drewN m := by
  have HD : Hid (Tks w ao n cap l) := hD
  have HD' : Hid (Tks w ao' n' cap' l') := hD'
  have hcap := hD.room
  have hbig := hD.big
  clear hD hD'
  obtain ⟨r, hr⟩ : ∃ r, Tk.same l l' = r := ⟨_, rfl⟩
  have HR : Hid (Tk.same l l' = r) := hr
  rw [hr]
  clear hr
  by_cases hnn : n = n'
  · subst hnn
    have hg := guardTk
    go_enter Tryz.func11, Tryz.ntmps11
    go_wp2
    go_loopw [13] (fun i wr => ∃ k : Nat, k ≤ n ∧ i = .int .i64 k ∧ (∃ m, wr = w.drewN m) ∧ Tk.same (l.drop k) (l'.drop k) = r) (fun i _ => n - (intOf i).toNat)
    case atStart => exact ⟨0, Nat.zero_le _, rfl, ⟨0, rfl⟩, HR.out⟩
    case round =>
      obtain ⟨k, hk, rfl, ⟨m, rfl⟩, hsm⟩ := hrel
      have HM : Hid (Tk.same (l.drop k) (l'.drop k) = r) := hsm
      clear hsm
      by_cases hlt : k < n
      · obtain ⟨b, off, rfl, A0⟩ := HD.out.tok (by omega)
        obtain ⟨b', off', rfl, A0'⟩ := HD'.out.tok (by omega)
        have h1 : k < l.length := by rw [HD.out.toks]; exact hlt
        have h2 : k < l'.length := by rw [HD'.out.toks]; exact hlt
        obtain ⟨ha0, ha1, ha2, ha3⟩ := A0 k h1
        obtain ⟨hx0, hx1, hx2, hx3⟩ := A0' k h2
        have HX : Hid (Tk.same (l.drop k) (l'.drop k) = (Tk.alike l[k] l'[k] && Tk.same (l.drop (k + 1)) (l'.drop (k + 1)))) := Tk.same_step l l' k h1 h2
        clear A0 A0'
        generalize l[k] = x at *
        generalize l'[k] = y at *
        clear h1 h2
        have hq := neq_toks x y
        cases hal : Tk.alike x y
        · have hrr : r = false := by rw [← HM.out, HX.out, hal]; rfl
          subst hrr
          rw [hal] at hq
          clear hal
          go_wp2
          go_quiet (fail)
          go_wp2
          go_ret
          exact ⟨rfl, _, (World.drewN_drewN _ _ _)⟩
        · have HM2 : Hid (Tk.same (l.drop (k + 1)) (l'.drop (k + 1)) = r) := by show _ = _; rw [← HM.out, HX.out, hal, Bool.true_and]
          rw [hal] at hq
          clear hal
          go_wp2
          go_quiet (fail)
          go_wp2
          go_roundw
          case rel => exact ⟨k + 1, by omega, by go_num, ⟨_, rfl⟩, HM2.out⟩
          case measure => simp [intOf]; omega
      · have hrr : r = true := by
          rw [← HM.out, List.drop_eq_nil_of_le (by rw [HD.out.toks]; omega), List.drop_eq_nil_of_le (by rw [HD'.out.toks]; omega)]
          rfl
        subst hrr
        go_wp2
        go_ret
        exact ⟨rfl, m, rfl⟩
  · have hrr : r = false := HR.out.symm.trans (Tk.same_len _ _ (by rw [HD.out.toks, HD'.out.toks]; exact hnn))
    subst hrr
    go_enter Tryz.func11, Tryz.ntmps11
    go_wp2
    go_ret
    exact ⟨rfl, 0, rfl⟩
end Go.Proofs.YtbhcklkbckacpaaGreatDoor
