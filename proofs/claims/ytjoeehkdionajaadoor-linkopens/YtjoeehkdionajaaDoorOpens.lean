/-
  The law LinkOpens returns true at whatever two texts.
-/
import Derived.Test.YtjoeehkdionajaaDoorSafe
namespace Go.Proofs.YtjoeehkdionajaaDoor
open Go.RowKit
namespace Lk

theorem lead_colon {x : List UInt8} (h : lead x = true) : may (x ++ [58]) = true := by
  rcases lead_one h with rfl | rfl | rfl <;> decide +kernel
theorem scheme_head {l : List UInt8} (h : scheme l ≠ []) : scheme l = small (head l) ∧ l.contains 58 = true := by
  unfold scheme at h ⊢
  cases hc : (l.contains 58 && !(Lib.containsAny (head l) path))
  · rw [hc] at h; exact absurd rfl h
  · rw [Bool.and_eq_true] at hc
    exact ⟨rfl, hc.1⟩
theorem lead_ne {x : List UInt8} (h : lead x = true) : x ≠ [] := by
  rcases lead_one h with rfl | rfl | rfl <;> decide
theorem fold_small1 (c : UInt8) : Lib.foldEq (small1 c) c = true := by
  unfold Lib.foldEq
  apply decide_eq_true
  by_cases h : 65 ≤ c.toNat ∧ c.toNat ≤ 90
  · exact .inr (.inr ⟨h.1, h.2, small_toNat c h.1 h.2⟩)
  · exact .inl (by rw [small_not c h])
theorem fold_small : ∀ l : List UInt8, Lib.equalFold (small l) l = true
  | [] => rfl
  | c :: t => by
    show Lib.equalFold (small1 c :: small t) (c :: t) = true
    rw [Lib.equalFold_yes _ _ _ _ (fold_small1 c)]
    exact fold_small t
theorem small1_ascii {c : UInt8} (h : c.toNat < 128) : (small1 c).toNat < 128 := by
  by_cases hc : 65 ≤ c.toNat ∧ c.toNat ≤ 90
  · rw [small_toNat c hc.1 hc.2]; omega
  · rw [small_not c hc]; exact h
theorem mem_head {l : List UInt8} {x : UInt8} (h : x ∈ head l) : x ∈ l := (List.takeWhile_sublist _).mem h
end Lk

theorem fold_any (l : List UInt8) (w : World) (hl : l.length ≤ 100) (ha : ∀ x ∈ l, x.toNat < 128) :
    Calls Tryd.prog 25 #[.string (B (Lk.small l)), .string (B l)] w fun e w' => e = .returned (.bool true) ∧ w' = w := by
  have := Tryd.strings_EqualFold (B (Lk.small l)) (B l) w (by rw [B_size, Lk.small_len]; omega)
    (fun j b h => by
      rw [B_data, Lk.small, List.getElem?_map] at h
      cases hj : l[j]? with
      | none => rw [hj] at h; cases h
      | some c => rw [hj] at h; cases h; exact Lk.small1_ascii (ha c (List.mem_of_getElem? hj)))
    (fun j b h => ha b (List.mem_of_getElem? h))
  rw [B_data, B_data, Lk.fold_small] at this
  exact this

theorem split_any (t : ByteArray) (w : World) (hX : Mx w) (ht : t.size ≤ 24) (h1 : t.data.toList.contains 58 = true) :
    Calls Tryd.prog 26 #[.string t, .string ⟨#[58]⟩, .int .i64 2] w fun e w' => e = .returned (.slice (some ⟨w.heap.size, 0, none⟩) 2 2) ∧ w'.cell? ⟨w.heap.size, 0, none⟩ = some (.string (B (Lk.head t.data.toList))) ∧ Below w.heap.size w w' := by
  obtain ⟨m, hm⟩ := hX
  have hix : Lib.indexB t ⟨#[58]⟩ = Lib.indexByte t.data.toList 58 := Lib.index_one _ _
  rcases Lk.idx_cases t.data.toList with hno | ⟨k, hk⟩
  · rw [Lk.no_head _ hno] at h1; cases h1
  · obtain ⟨hkl, hhd, _⟩ := Lk.head_at _ k hk
    rw [len_list] at hkl
    have hsp : ∃ u, Lib.splitB ⟨#[58]⟩ 0 1 t = [B (Lk.head t.data.toList), u] := by
      refine ⟨t.extract (k + (ByteArray.mk #[58]).size) t.size, ?_⟩
      rw [Lib.splitB, hix, hk]
      have hne : ((k : Int) == -1) = false := by rw [beq_eq_false_iff_ne]; omega
      rw [hne]
      simp only [Bool.false_eq_true, if_false, Int.toNat_natCast, Nat.add_zero]
      rw [Lib.splitB, extract_B, List.drop_zero, Nat.sub_zero, hhd]
    obtain ⟨u, hu⟩ := hsp
    have hmin : min 2 (t.size + 1) = 2 := by omega
    have c := Tryd.strings_SplitN t ⟨#[58]⟩ 2 m w (by omega) hm (by decide) (by decide) (by decide)
    rw [hmin, show 2 - 1 = 1 from rfl, hu] at c
    refine c.mono fun e w' ⟨he, hw⟩ => ⟨he, ?_, ?_⟩
    · rw [hw, World.cell?_alloc_at _ _ _ _ rfl]
      rfl
    · rw [hw]
      exact (Below.refl _ _).alloc (Nat.le_refl _) _

set_option maxRecDepth 100000 in
set_option maxHeartbeats 3200000 in
theorem opens_any (a r : ByteArray) (w : World) (hS : Sch w) (hX : Mx w) (ha : a.size ≤ 140737488351232) (hr : r.size ≤ 140737488351232) :
    Calls Tryd.prog 8 #[.string a, .string r] w fun e w' => e = .returned (.bool true) ∧ Below w.heap.size w w' := by
  have HS : Hid (Sch w) := hS
  have HX : Hid (Mx w) := hX
  clear hS hX
  have CL : Hid (∀ w, Sch w → Calls Tryd.prog 17 #[] w fun e w' => e = .returned (.bool true) ∧ Below w.heap.size w w') := led_any
  have hz1 : (ByteArray.mk #[58]).size = 1 := rfl
  have hzs : (a ++ ⟨#[58]⟩ ++ r).size = a.size + 1 + r.size := by rw [ByteArray.size_append, ByteArray.size_append]; rfl
  have hza : (a ++ ⟨#[58]⟩).size = a.size + 1 := by rw [ByteArray.size_append]; rfl
  have C1 := fun w h => may_any (a ++ ⟨#[58]⟩ ++ r) w (by omega) h
  cases hm : Lk.may (a ++ ⟨#[58]⟩ ++ r).data.toList
  · rw [hm] at C1
    have C2 : Hid (∀ w, Sch w → Calls Tryd.prog 18 #[.string (a ++ ⟨#[58]⟩ ++ r)] w fun e w' => e = .returned (.bool false) ∧ Below w.heap.size w w') := C1
    clear C1 hm
    go_enter Tryd.func8, Tryd.ntmps8
    go_wp2_with fail
    refine (C2.out _ HS.out).mono ?_
    rintro e w1 ⟨rfl, hb1⟩
    have H1 : Hid (Below w.heap.size w w1) := hb1
    have S1 : Hid (Sch w1) := HS.out.below hb1
    clear hb1
    go_wp2_with fail
    refine (CL.out _ S1.out).mono ?_
    rintro e w2 ⟨rfl, hb2⟩
    have H2 : Hid (Below w.heap.size w w2) := H1.out.trans (hb2.mono H1.out.size)
    have S2 : Hid (Sch w2) := S1.out.below hb2
    clear hb2
    go_wp2_with fail
    refine (CL.out _ S2.out).mono ?_
    rintro e w3 ⟨rfl, hb3⟩
    have H3 : Hid (Below w.heap.size w w3) := H2.out.trans (hb3.mono H2.out.size)
    clear hb3
    go_wp2
    go_ret
    exact ⟨rfl, H3.out⟩
  · rw [hm] at C1
    have C2 : Hid (∀ w, Sch w → Calls Tryd.prog 18 #[.string (a ++ ⟨#[58]⟩ ++ r)] w fun e w' => e = .returned (.bool true) ∧ Below w.heap.size w w') := C1
    obtain ⟨hl1, hl24, hst, hld⟩ := Lk.may_parts hm
    have hll := len_list (a ++ ⟨#[58]⟩ ++ r)
    have C3 : Hid (∀ w, Calls Tryd.prog 20 #[.string (a ++ ⟨#[58]⟩ ++ r)] w fun e w' => e = .returned (.string (B (Lk.scheme (a ++ ⟨#[58]⟩ ++ r).data.toList))) ∧ Below w.heap.size w w') := fun w => scheme_any _ w (by omega)
    obtain ⟨hsh, hcon⟩ := Lk.scheme_head (Lk.lead_ne hld)
    have C7 : Hid (∀ w, Mx w → Calls Tryd.prog 26 #[.string (a ++ ⟨#[58]⟩ ++ r), .string ⟨#[58]⟩, .int .i64 2] w fun e w' => e = .returned (.slice (some ⟨w.heap.size, 0, none⟩) 2 2) ∧ w'.cell? ⟨w.heap.size, 0, none⟩ = some (.string (B (Lk.head (a ++ ⟨#[58]⟩ ++ r).data.toList))) ∧ Below w.heap.size w w') := fun w h => split_any _ w h (by omega) hcon
    have hhl := Lk.head_len (a ++ ⟨#[58]⟩ ++ r).data.toList
    have C8 : Hid (∀ w, Calls Tryd.prog 25 #[.string (B (Lk.scheme (a ++ ⟨#[58]⟩ ++ r).data.toList)), .string (B (Lk.head (a ++ ⟨#[58]⟩ ++ r).data.toList))] w fun e w' => e = .returned (.bool true) ∧ w' = w) := fun w => by
      rw [hsh]
      exact fold_any _ w (by omega) (fun x hx => by have := (Lk.stand_vis (hst x (Lk.mem_head hx))).2.1; omega)
    have hlc := Lk.lead_colon hld
    have hxl := Lk.scheme_len (a ++ ⟨#[58]⟩ ++ r).data.toList
    clear hm C1 hst hcon hsh
    generalize Lk.scheme (a ++ ⟨#[58]⟩ ++ r).data.toList = x at *
    generalize B (Lk.head (a ++ ⟨#[58]⟩ ++ r).data.toList) = hd at *
    have hxB : B x ++ ⟨#[58]⟩ = B (x ++ [58]) := by
      apply ext_list
      rw [ByteArray.data_append, Array.toList_append]
      rfl
    have C4 : Hid (∀ w, Sch w → Calls Tryd.prog 18 #[.string (B x ++ ⟨#[58]⟩)] w fun e w' => e = .returned (.bool true) ∧ Below w.heap.size w w') := fun w h => by
      rw [hxB]
      have := may_any (B (x ++ [58])) w (by rw [B_size, List.length_append]; simp; omega) h
      rw [B_data, hlc] at this
      exact this
    have C6 : Hid (∀ b w, Three b w → Calls Tryd.prog 24 #[.slice (some ⟨b, 0, none⟩) 3 3, .string (B x)] w fun e w' => e = .returned (.bool true) ∧ w' = w) := fun b w h => by
      have := lead3 b x w h
      rw [hld] at this
      exact this
    have hBx := B_size x
    clear hxB hlc hld hhl hll
    generalize B x = bx at *
    go_enter Tryd.func8, Tryd.ntmps8
    go_wp2_with fail
    refine (C2.out _ HS.out).mono ?_
    rintro e w1 ⟨rfl, hb1⟩
    have H1 : Hid (Below w.heap.size w w1) := hb1
    have S1 : Hid (Sch w1) := HS.out.below hb1
    have X1 : Hid (Mx w1) := HX.out.below HS.out hb1
    clear hb1
    go_wp2_with fail
    refine (CL.out _ S1.out).mono ?_
    rintro e w2 ⟨rfl, hb2⟩
    have H2 : Hid (Below w.heap.size w w2) := H1.out.trans (hb2.mono H1.out.size)
    have S2 : Hid (Sch w2) := S1.out.below hb2
    have X2 : Hid (Mx w2) := X1.out.below S1.out hb2
    clear hb2
    go_wp2_with fail
    refine (C3.out _).mono ?_
    rintro e w3 ⟨rfl, hb3⟩
    have H3 : Hid (Below w.heap.size w w3) := H2.out.trans (hb3.mono H2.out.size)
    have S3 : Hid (Sch w3) := S2.out.below hb3
    have X3 : Hid (Mx w3) := X2.out.below S2.out hb3
    clear hb3
    go_wp2_with fail
    refine (C4.out _ S3.out).mono ?_
    rintro e w4 ⟨rfl, hb4⟩
    have H4 : Hid (Below w.heap.size w w4) := H3.out.trans (hb4.mono H3.out.size)
    have S4 : Hid (Sch w4) := S3.out.below hb4
    have X4 : Hid (Mx w4) := X3.out.below S3.out hb4
    clear hb4
    go_wp2_with fail
    have T5 : Hid (Three w4.heap.size (w4.alloc (.cells scells 9))) := Three.new w4
    have B5 : Hid (Below w4.heap.size w4 (w4.alloc (.cells scells 9))) := (Below.refl _ _).alloc (Nat.le_refl _) _
    change Calls Tryd.prog 24 #[.slice (some ⟨w4.heap.size, 0, none⟩) 3 3, .string bx] (w4.alloc (.cells scells 9)) _
    generalize w4.alloc (.cells scells 9) = w5 at *
    have H5 : Hid (Below w.heap.size w w5) := H4.out.trans (B5.out.mono H4.out.size)
    have X5 : Hid (Mx w5) := X4.out.below S4.out B5.out
    refine (C6.out _ _ T5.out).mono ?_
    rintro e w6 ⟨rfl, hw⟩
    rw [hw]
    go_wp2_with fail
    refine (C7.out _ X5.out).mono ?_
    rintro e w7 ⟨rfl, hc7, hb7⟩
    have H7 : Hid (Below w.heap.size w w7) := H5.out.trans (hb7.mono H5.out.size)
    clear hb7
    go_wp2_with fail
    refine (C8.out _).mono ?_
    rintro e w8 ⟨rfl, hw⟩
    rw [hw]
    go_wp2
    go_ret
    exact ⟨rfl, H7.out⟩
end Go.Proofs.YtjoeehkdionajaaDoor
