/-
  export.run: a run of characters with the same marks and link, as it stands in a block.
-/
import Derived.Test.YtbhcklkbckacpaaGreatDoorG11
namespace Go.Proofs.YtbhcklkbckacpaaGreatDoor
open Go.RowKit

def mcells : Array Value := #[.int .i64 2, .string ⟨#[105]⟩, .int .i64 1, .string ⟨#[98]⟩]
def Marks (w : World) : Prop := ∃ t fr, w.heap[3]? = some (.cells mcells t fr)
theorem Marks.below {w w' : World} (h : Marks w) (hb : Below w.heap.size w w') : Marks w' := by
  obtain ⟨t, fr, hg⟩ := h
  exact ⟨t, fr, (hb.block 3 (Array.getElem?_eq_some_iff.1 hg).1).trans hg⟩
theorem Pairs.under {w w' : World} (h : Pairs w) (hb : Below w.heap.size w w') : Pairs w' := h.below hb h.pos
theorem mdx0 (w : World) : (Instr.index 260 (.agg mcells) (.int .i64 0)).run Tryz.prog w = .ok (.agg #[.int .i64 2, .string ⟨#[105]⟩]) w := by kernel_rfl
theorem mdx1 (w : World) : (Instr.index 260 (.agg mcells) (.int .i64 1)).run Tryz.prog w = .ok (.agg #[.int .i64 1, .string ⟨#[98]⟩]) w := by kernel_rfl
theorem sz124 : (Tryz.prog.info? 260).map (·.size) = some mcells.size := by kernel_rfl

theorem tagL_len (n t : List UInt8) : (tagL n t).length = 2 * n.length + t.length + 5 := by simp [tagL]; omega
theorem bytes_wrap (n : Pg.Nm) (s : List Pg.Tok) : Pg.bytes (Pg.wrap true n s) = tagL (Pg.name n) (Pg.bytes s) := by
  simp [Pg.wrap, Pg.bytes_cons, Pg.bytes_append, Pg.bytes_nil, Pg.enc, tagL]
theorem bytes_tags0 (s : List Pg.Tok) : Pg.bytes (Pg.tags 0 s) = Pg.bytes s := rfl
theorem bytes_tags1 (s : List Pg.Tok) : Pg.bytes (Pg.tags 1 s) = tagL [98] (Pg.bytes s) := bytes_wrap .b s
theorem bytes_tags2 (s : List Pg.Tok) : Pg.bytes (Pg.tags 2 s) = tagL [105] (Pg.bytes s) := bytes_wrap .i s
theorem bytes_tags3 (s : List Pg.Tok) : Pg.bytes (Pg.tags 3 s) = tagL [98] (tagL [105] (Pg.bytes s)) := by
  show Pg.bytes (Pg.wrap true .b (Pg.wrap true .i s)) = _
  rw [bytes_wrap, bytes_wrap]
  rfl
theorem linked_no (l : ByteArray) (s : List Pg.Tok) (h : l.toList.isEmpty = true) : Pg.bytes (Pg.linked l s) = Pg.bytes s := by unfold Pg.linked; rw [if_pos h]
theorem linked_yes (l : ByteArray) (s : List Pg.Tok) (h : l.toList.isEmpty = false) : B (Pg.bytes (Pg.linked l s)) = ⟨#[60, 97, 32, 104, 114, 101, 102, 61, 34]⟩ ++ B (Esc.wr l.data.toList) ++ ⟨#[34, 62]⟩ ++ B (Pg.bytes s) ++ ⟨#[60, 47, 97, 62]⟩ := by
  unfold Pg.linked
  rw [if_neg (by rw [h]; decide), Pg.bytes_cons, Pg.bytes_append]
  show B ((Pg.apre ++ (Esc.wr l.data.toList ++ [34, 62])) ++ (Pg.bytes s ++ [60, 47, 97, 62])) = _
  simp only [← B_app]
  have e1 : B Pg.apre = ⟨#[60, 97, 32, 104, 114, 101, 102, 61, 34]⟩ := rfl
  have e2 : B [34, 62] = ⟨#[34, 62]⟩ := rfl
  have e3 : B [60, 47, 97, 62] = ⟨#[60, 47, 97, 62]⟩ := rfl
  rw [e1, e2, e3]
  simp only [ByteArray.append_assoc]
structure Runs1 (b off n cap : Nat) (l : List It) (x : It) (w : World) : Prop where
  at_ : At w b off l
  doc : Doc w (some ⟨b, off, none⟩) n cap l
  first : l[0]? = some x
  few : n ≤ 80
  short : x.l.size ≤ 24
  pairs : Pairs w
  marks : Marks w
theorem two_below (w : World) (o p : Obj) (q r : Nat) : Below w.heap.size w ((((w.alloc o).drewN q).alloc p).drewN r) := by
  have h1 : Below w.heap.size w ((w.alloc o).drewN q) := Below.trans ((Below.refl _ _).alloc (Nat.le_refl _) _) ⟨rfl, rfl, rfl, Nat.le_refl _, fun _ _ => rfl⟩
  exact Below.trans (h1.alloc h1.size _) ⟨rfl, rfl, rfl, Nat.le_refl _, fun _ _ => rfl⟩

set_option maxRecDepth 100000 in
set_option maxHeartbeats 3200000 in
theorem run_0 (b off n cap : Nat) (l : List It) (x : It) (w : World) (h : Runs1 b off n cap l x w) (hm : x.m = 0) (he : x.l.toList.isEmpty = true) :
    Calls Tryz.prog 140 #[.slice (some ⟨b, off, none⟩) n cap] w fun e w' => e = .returned (.string (B (Pg.bytes (Pg.seg x (l.map It.c))))) ∧ Below w.heap.size w w' := by
  obtain ⟨hA, hD, hx, h80, hl, hP, hM⟩ := h
  have hn0 : 0 < n := by rw [← hD.len]; exact (List.getElem?_eq_some_iff.1 hx).1
  have hcap := hD.room
  have hbig := hD.big
  have HA : Hid (At w b off l) := hA
  have HX : Hid (l[0]? = some x) := hx
  have hlen : (Esc.wr (l.map It.c)).length ≤ 480 := by
    have h1 := (Esc.wr_len (l.map It.c)).2
    have h2 := hD.len
    rw [List.length_map] at h1
    omega
  have hlz : (B (Esc.wr x.l.data.toList)).size ≤ 144 := by
    have h1 := (Esc.wr_len x.l.data.toList).2
    rw [len_list] at h1
    rw [B_size]
    omega
  have CC : Hid (Calls Tryz.prog 214 #[.slice (some ⟨b, off, none⟩) n cap] w fun e w' => e = .returned (.string (B (l.map It.c))) ∧ Below w.heap.size w w') := chars_any _ n cap l w hD h80
  have CW : Hid (∀ w, Pairs w → Calls Tryz.prog 213 #[.string (B (l.map It.c))] w fun e w' => e = .returned (.string (B (Esc.wr (l.map It.c)))) ∧ Below w.heap.size w w') := fun w hp => written_any _ w hp (by have := hD.len; rw [List.length_map]; omega)
  have CL : Hid (∀ w, Pairs w → Calls Tryz.prog 213 #[.string x.l] w fun e w' => e = .returned (.string (B (Esc.wr x.l.data.toList))) ∧ Below w.heap.size w w') := fun w hp => written_any x.l.data.toList w hp (by rw [len_list]; omega)
  have HP : Hid (Pairs w) := hP
  have HM : Hid (Marks w) := hM
  clear hD hA hx hP hM
  have hres : Pg.bytes (Pg.tags x.m ((l.map It.c).map Pg.Tok.ch)) = Esc.wr (l.map It.c) := by rw [hm, bytes_tags0, Pg.bytes_chars]
  have hseg : B (Pg.bytes (Pg.seg x (l.map It.c))) = B (Pg.bytes (Pg.tags x.m ((l.map It.c).map Pg.Tok.ch))) := congrArg B (linked_no x.l (Pg.tags x.m ((l.map It.c).map Pg.Tok.ch)) he)
  rw [hres] at hseg
  clear hres
  rw [hseg]
  clear hseg
  generalize Esc.wr (l.map It.c) = T at *
  have i0 := mdx0
  have i1 := mdx1
  go_enter Tryz.func140, Tryz.ntmps140
  go_wp2_with fail
  refine CC.out.mono ?_
  rintro e w1 ⟨rfl, hb⟩
  have H1 : Hid (Below w.heap.size w w1) := hb
  have P1 : Hid (Pairs w1) := HP.out.under hb
  clear hb
  go_wp2_with fail
  refine (CW.out _ P1.out).mono ?_
  rintro e w2 ⟨rfl, hb⟩
  have H2 : Hid (Below w.heap.size w w2) := H1.out.trans (hb.mono H1.out.size)
  have P2 : Hid (Pairs w2) := P1.out.under hb
  clear hb
  obtain ⟨t, fr, hg⟩ := HM.out.below H2.out
  have Hg : Hid (w2.heap[3]? = some (.cells mcells t fr)) := hg
  clear hg
  have A2 := HA.out.below H2.out
  have ha1 : w2.cell? ⟨b, off + 1, none⟩ = some (.int .i64 x.m) := by have := (A2.get HX.out).2.1; rw [Nat.zero_mul, Nat.add_zero] at this; exact this
  have ha2 : w2.cell? ⟨b, off + 2, none⟩ = some (.string x.l) := by have := (A2.get HX.out).2.2; rw [Nat.zero_mul, Nat.add_zero] at this; exact this
  have hb2 : b < w2.heap.size := cell_lt ha1
  rw [hm] at ha1
  clear A2
  go_wp2_with (refine wpList_load_row rfl 260 _ rfl 3 rfl t _ fr _ Hg.out Tryz.underlying260 rfl sz124 ?_)
  refine wp_loop_rounds 3 ?_
  rw [rounds_succ]
  go_wp2
  go_quiet (fail)
  go_wp2
  rw [rounds_succ]
  go_wp2
  go_quiet (fail)
  go_wp2
  rw [rounds_succ]
  go_wp2
  go_ret
  exact ⟨rfl, H2.out.trans ((two_below w2 _ _ _ _).mono H2.out.size)⟩

set_option maxRecDepth 100000 in
set_option maxHeartbeats 3200000 in
theorem run_0l (b off n cap : Nat) (l : List It) (x : It) (w : World) (h : Runs1 b off n cap l x w) (hm : x.m = 0) (he : x.l.toList.isEmpty = false) :
    Calls Tryz.prog 140 #[.slice (some ⟨b, off, none⟩) n cap] w fun e w' => e = .returned (.string (B (Pg.bytes (Pg.seg x (l.map It.c))))) ∧ Below w.heap.size w w' := by
  obtain ⟨hA, hD, hx, h80, hl, hP, hM⟩ := h
  have hn0 : 0 < n := by rw [← hD.len]; exact (List.getElem?_eq_some_iff.1 hx).1
  have hcap := hD.room
  have hbig := hD.big
  have HA : Hid (At w b off l) := hA
  have HX : Hid (l[0]? = some x) := hx
  have hlen : (Esc.wr (l.map It.c)).length ≤ 480 := by
    have h1 := (Esc.wr_len (l.map It.c)).2
    have h2 := hD.len
    rw [List.length_map] at h1
    omega
  have hlz : (B (Esc.wr x.l.data.toList)).size ≤ 144 := by
    have h1 := (Esc.wr_len x.l.data.toList).2
    rw [len_list] at h1
    rw [B_size]
    omega
  have CC : Hid (Calls Tryz.prog 214 #[.slice (some ⟨b, off, none⟩) n cap] w fun e w' => e = .returned (.string (B (l.map It.c))) ∧ Below w.heap.size w w') := chars_any _ n cap l w hD h80
  have CW : Hid (∀ w, Pairs w → Calls Tryz.prog 213 #[.string (B (l.map It.c))] w fun e w' => e = .returned (.string (B (Esc.wr (l.map It.c)))) ∧ Below w.heap.size w w') := fun w hp => written_any _ w hp (by have := hD.len; rw [List.length_map]; omega)
  have CL : Hid (∀ w, Pairs w → Calls Tryz.prog 213 #[.string x.l] w fun e w' => e = .returned (.string (B (Esc.wr x.l.data.toList))) ∧ Below w.heap.size w w') := fun w hp => written_any x.l.data.toList w hp (by rw [len_list]; omega)
  have HP : Hid (Pairs w) := hP
  have HM : Hid (Marks w) := hM
  clear hD hA hx hP hM
  have hres : Pg.bytes (Pg.tags x.m ((l.map It.c).map Pg.Tok.ch)) = Esc.wr (l.map It.c) := by rw [hm, bytes_tags0, Pg.bytes_chars]
  have hseg : B (Pg.bytes (Pg.seg x (l.map It.c))) = _ := linked_yes x.l (Pg.tags x.m ((l.map It.c).map Pg.Tok.ch)) he
  rw [hres] at hseg
  clear hres
  rw [hseg]
  clear hseg
  generalize Esc.wr (l.map It.c) = T at *
  generalize B (Esc.wr x.l.data.toList) = L at *
  have i0 := mdx0
  have i1 := mdx1
  go_enter Tryz.func140, Tryz.ntmps140
  go_wp2_with fail
  refine CC.out.mono ?_
  rintro e w1 ⟨rfl, hb⟩
  have H1 : Hid (Below w.heap.size w w1) := hb
  have P1 : Hid (Pairs w1) := HP.out.under hb
  clear hb
  go_wp2_with fail
  refine (CW.out _ P1.out).mono ?_
  rintro e w2 ⟨rfl, hb⟩
  have H2 : Hid (Below w.heap.size w w2) := H1.out.trans (hb.mono H1.out.size)
  have P2 : Hid (Pairs w2) := P1.out.under hb
  clear hb
  obtain ⟨t, fr, hg⟩ := HM.out.below H2.out
  have Hg : Hid (w2.heap[3]? = some (.cells mcells t fr)) := hg
  clear hg
  have A2 := HA.out.below H2.out
  have ha1 : w2.cell? ⟨b, off + 1, none⟩ = some (.int .i64 x.m) := by have := (A2.get HX.out).2.1; rw [Nat.zero_mul, Nat.add_zero] at this; exact this
  have ha2 : w2.cell? ⟨b, off + 2, none⟩ = some (.string x.l) := by have := (A2.get HX.out).2.2; rw [Nat.zero_mul, Nat.add_zero] at this; exact this
  have hb2 : b < w2.heap.size := cell_lt ha1
  rw [hm] at ha1
  clear A2
  go_wp2_with (refine wpList_load_row rfl 260 _ rfl 3 rfl t _ fr _ Hg.out Tryz.underlying260 rfl sz124 ?_)
  refine wp_loop_rounds 3 ?_
  rw [rounds_succ]
  go_wp2
  go_quiet (fail)
  go_wp2
  rw [rounds_succ]
  go_wp2
  go_quiet (fail)
  go_wp2
  rw [rounds_succ]
  go_wp2_with fail
  refine (CL.out _ (P2.out.under (two_below w2 _ _ _ _))).mono ?_
  rintro e w5 ⟨rfl, hb⟩
  have H5 : Hid (Below w.heap.size w w5) := by
    refine Below.trans (H2.out.trans ((two_below w2 _ _ _ _).mono H2.out.size)) (hb.mono ?_)
    exact (H2.out.trans ((two_below w2 _ _ _ _).mono H2.out.size)).size
  clear hb
  have hz := B_size T
  go_wp2
  go_ret
  exact ⟨rfl, H5.out⟩

set_option maxRecDepth 100000 in
set_option maxHeartbeats 3200000 in
theorem run_1 (b off n cap : Nat) (l : List It) (x : It) (w : World) (h : Runs1 b off n cap l x w) (hm : x.m = 1) (he : x.l.toList.isEmpty = true) :
    Calls Tryz.prog 140 #[.slice (some ⟨b, off, none⟩) n cap] w fun e w' => e = .returned (.string (B (Pg.bytes (Pg.seg x (l.map It.c))))) ∧ Below w.heap.size w w' := by
  obtain ⟨hA, hD, hx, h80, hl, hP, hM⟩ := h
  have hn0 : 0 < n := by rw [← hD.len]; exact (List.getElem?_eq_some_iff.1 hx).1
  have hcap := hD.room
  have hbig := hD.big
  have HA : Hid (At w b off l) := hA
  have HX : Hid (l[0]? = some x) := hx
  have hlen : (Esc.wr (l.map It.c)).length ≤ 480 := by
    have h1 := (Esc.wr_len (l.map It.c)).2
    have h2 := hD.len
    rw [List.length_map] at h1
    omega
  have hlz : (B (Esc.wr x.l.data.toList)).size ≤ 144 := by
    have h1 := (Esc.wr_len x.l.data.toList).2
    rw [len_list] at h1
    rw [B_size]
    omega
  have CC : Hid (Calls Tryz.prog 214 #[.slice (some ⟨b, off, none⟩) n cap] w fun e w' => e = .returned (.string (B (l.map It.c))) ∧ Below w.heap.size w w') := chars_any _ n cap l w hD h80
  have CW : Hid (∀ w, Pairs w → Calls Tryz.prog 213 #[.string (B (l.map It.c))] w fun e w' => e = .returned (.string (B (Esc.wr (l.map It.c)))) ∧ Below w.heap.size w w') := fun w hp => written_any _ w hp (by have := hD.len; rw [List.length_map]; omega)
  have CL : Hid (∀ w, Pairs w → Calls Tryz.prog 213 #[.string x.l] w fun e w' => e = .returned (.string (B (Esc.wr x.l.data.toList))) ∧ Below w.heap.size w w') := fun w hp => written_any x.l.data.toList w hp (by rw [len_list]; omega)
  have HP : Hid (Pairs w) := hP
  have HM : Hid (Marks w) := hM
  clear hD hA hx hP hM
  have hres : Pg.bytes (Pg.tags x.m ((l.map It.c).map Pg.Tok.ch)) = tagL [98] (Esc.wr (l.map It.c)) := by rw [hm, bytes_tags1, Pg.bytes_chars]
  have hseg : B (Pg.bytes (Pg.seg x (l.map It.c))) = B (Pg.bytes (Pg.tags x.m ((l.map It.c).map Pg.Tok.ch))) := congrArg B (linked_no x.l (Pg.tags x.m ((l.map It.c).map Pg.Tok.ch)) he)
  rw [hres] at hseg
  clear hres
  rw [hseg]
  clear hseg
  generalize Esc.wr (l.map It.c) = T at *
  have q2 : (tagL [98] T).length ≤ 500 := by rw [tagL_len]; simp; omega
  have C2 : Hid (∀ w, Calls Tryz.prog 212 #[.string ⟨#[98]⟩, .string (B T)] w fun e w' => e = .returned (.string (B (tagL [98] T))) ∧ w' = w) := fun w => tagged_any [98] T w (by decide) (by omega)
  generalize tagL [98] T = T2 at *
  have i0 := mdx0
  have i1 := mdx1
  go_enter Tryz.func140, Tryz.ntmps140
  go_wp2_with fail
  refine CC.out.mono ?_
  rintro e w1 ⟨rfl, hb⟩
  have H1 : Hid (Below w.heap.size w w1) := hb
  have P1 : Hid (Pairs w1) := HP.out.under hb
  clear hb
  go_wp2_with fail
  refine (CW.out _ P1.out).mono ?_
  rintro e w2 ⟨rfl, hb⟩
  have H2 : Hid (Below w.heap.size w w2) := H1.out.trans (hb.mono H1.out.size)
  have P2 : Hid (Pairs w2) := P1.out.under hb
  clear hb
  obtain ⟨t, fr, hg⟩ := HM.out.below H2.out
  have Hg : Hid (w2.heap[3]? = some (.cells mcells t fr)) := hg
  clear hg
  have A2 := HA.out.below H2.out
  have ha1 : w2.cell? ⟨b, off + 1, none⟩ = some (.int .i64 x.m) := by have := (A2.get HX.out).2.1; rw [Nat.zero_mul, Nat.add_zero] at this; exact this
  have ha2 : w2.cell? ⟨b, off + 2, none⟩ = some (.string x.l) := by have := (A2.get HX.out).2.2; rw [Nat.zero_mul, Nat.add_zero] at this; exact this
  have hb2 : b < w2.heap.size := cell_lt ha1
  rw [hm] at ha1
  clear A2
  go_wp2_with (refine wpList_load_row rfl 260 _ rfl 3 rfl t _ fr _ Hg.out Tryz.underlying260 rfl sz124 ?_)
  refine wp_loop_rounds 3 ?_
  rw [rounds_succ]
  go_wp2
  go_quiet (fail)
  go_wp2
  rw [rounds_succ]
  go_wp2
  go_quiet (fail)
  go_wp2_with fail
  refine (C2.out _).mono ?_
  rintro e w4 ⟨rfl, rfl⟩
  go_wp2
  rw [rounds_succ]
  go_wp2
  go_ret
  exact ⟨rfl, H2.out.trans ((two_below w2 _ _ _ _).mono H2.out.size)⟩

set_option maxRecDepth 100000 in
set_option maxHeartbeats 3200000 in
theorem run_1l (b off n cap : Nat) (l : List It) (x : It) (w : World) (h : Runs1 b off n cap l x w) (hm : x.m = 1) (he : x.l.toList.isEmpty = false) :
    Calls Tryz.prog 140 #[.slice (some ⟨b, off, none⟩) n cap] w fun e w' => e = .returned (.string (B (Pg.bytes (Pg.seg x (l.map It.c))))) ∧ Below w.heap.size w w' := by
  obtain ⟨hA, hD, hx, h80, hl, hP, hM⟩ := h
  have hn0 : 0 < n := by rw [← hD.len]; exact (List.getElem?_eq_some_iff.1 hx).1
  have hcap := hD.room
  have hbig := hD.big
  have HA : Hid (At w b off l) := hA
  have HX : Hid (l[0]? = some x) := hx
  have hlen : (Esc.wr (l.map It.c)).length ≤ 480 := by
    have h1 := (Esc.wr_len (l.map It.c)).2
    have h2 := hD.len
    rw [List.length_map] at h1
    omega
  have hlz : (B (Esc.wr x.l.data.toList)).size ≤ 144 := by
    have h1 := (Esc.wr_len x.l.data.toList).2
    rw [len_list] at h1
    rw [B_size]
    omega
  have CC : Hid (Calls Tryz.prog 214 #[.slice (some ⟨b, off, none⟩) n cap] w fun e w' => e = .returned (.string (B (l.map It.c))) ∧ Below w.heap.size w w') := chars_any _ n cap l w hD h80
  have CW : Hid (∀ w, Pairs w → Calls Tryz.prog 213 #[.string (B (l.map It.c))] w fun e w' => e = .returned (.string (B (Esc.wr (l.map It.c)))) ∧ Below w.heap.size w w') := fun w hp => written_any _ w hp (by have := hD.len; rw [List.length_map]; omega)
  have CL : Hid (∀ w, Pairs w → Calls Tryz.prog 213 #[.string x.l] w fun e w' => e = .returned (.string (B (Esc.wr x.l.data.toList))) ∧ Below w.heap.size w w') := fun w hp => written_any x.l.data.toList w hp (by rw [len_list]; omega)
  have HP : Hid (Pairs w) := hP
  have HM : Hid (Marks w) := hM
  clear hD hA hx hP hM
  have hres : Pg.bytes (Pg.tags x.m ((l.map It.c).map Pg.Tok.ch)) = tagL [98] (Esc.wr (l.map It.c)) := by rw [hm, bytes_tags1, Pg.bytes_chars]
  have hseg : B (Pg.bytes (Pg.seg x (l.map It.c))) = _ := linked_yes x.l (Pg.tags x.m ((l.map It.c).map Pg.Tok.ch)) he
  rw [hres] at hseg
  clear hres
  rw [hseg]
  clear hseg
  generalize Esc.wr (l.map It.c) = T at *
  generalize B (Esc.wr x.l.data.toList) = L at *
  have q2 : (tagL [98] T).length ≤ 500 := by rw [tagL_len]; simp; omega
  have C2 : Hid (∀ w, Calls Tryz.prog 212 #[.string ⟨#[98]⟩, .string (B T)] w fun e w' => e = .returned (.string (B (tagL [98] T))) ∧ w' = w) := fun w => tagged_any [98] T w (by decide) (by omega)
  generalize tagL [98] T = T2 at *
  have i0 := mdx0
  have i1 := mdx1
  go_enter Tryz.func140, Tryz.ntmps140
  go_wp2_with fail
  refine CC.out.mono ?_
  rintro e w1 ⟨rfl, hb⟩
  have H1 : Hid (Below w.heap.size w w1) := hb
  have P1 : Hid (Pairs w1) := HP.out.under hb
  clear hb
  go_wp2_with fail
  refine (CW.out _ P1.out).mono ?_
  rintro e w2 ⟨rfl, hb⟩
  have H2 : Hid (Below w.heap.size w w2) := H1.out.trans (hb.mono H1.out.size)
  have P2 : Hid (Pairs w2) := P1.out.under hb
  clear hb
  obtain ⟨t, fr, hg⟩ := HM.out.below H2.out
  have Hg : Hid (w2.heap[3]? = some (.cells mcells t fr)) := hg
  clear hg
  have A2 := HA.out.below H2.out
  have ha1 : w2.cell? ⟨b, off + 1, none⟩ = some (.int .i64 x.m) := by have := (A2.get HX.out).2.1; rw [Nat.zero_mul, Nat.add_zero] at this; exact this
  have ha2 : w2.cell? ⟨b, off + 2, none⟩ = some (.string x.l) := by have := (A2.get HX.out).2.2; rw [Nat.zero_mul, Nat.add_zero] at this; exact this
  have hb2 : b < w2.heap.size := cell_lt ha1
  rw [hm] at ha1
  clear A2
  go_wp2_with (refine wpList_load_row rfl 260 _ rfl 3 rfl t _ fr _ Hg.out Tryz.underlying260 rfl sz124 ?_)
  refine wp_loop_rounds 3 ?_
  rw [rounds_succ]
  go_wp2
  go_quiet (fail)
  go_wp2
  rw [rounds_succ]
  go_wp2
  go_quiet (fail)
  go_wp2_with fail
  refine (C2.out _).mono ?_
  rintro e w4 ⟨rfl, rfl⟩
  go_wp2
  rw [rounds_succ]
  go_wp2_with fail
  refine (CL.out _ (P2.out.under (two_below w2 _ _ _ _))).mono ?_
  rintro e w5 ⟨rfl, hb⟩
  have H5 : Hid (Below w.heap.size w w5) := by
    refine Below.trans (H2.out.trans ((two_below w2 _ _ _ _).mono H2.out.size)) (hb.mono ?_)
    exact (H2.out.trans ((two_below w2 _ _ _ _).mono H2.out.size)).size
  clear hb
  have hz := B_size T2
  go_wp2
  go_ret
  exact ⟨rfl, H5.out⟩

set_option maxRecDepth 100000 in
set_option maxHeartbeats 3200000 in
theorem run_2 (b off n cap : Nat) (l : List It) (x : It) (w : World) (h : Runs1 b off n cap l x w) (hm : x.m = 2) (he : x.l.toList.isEmpty = true) :
    Calls Tryz.prog 140 #[.slice (some ⟨b, off, none⟩) n cap] w fun e w' => e = .returned (.string (B (Pg.bytes (Pg.seg x (l.map It.c))))) ∧ Below w.heap.size w w' := by
  obtain ⟨hA, hD, hx, h80, hl, hP, hM⟩ := h
  have hn0 : 0 < n := by rw [← hD.len]; exact (List.getElem?_eq_some_iff.1 hx).1
  have hcap := hD.room
  have hbig := hD.big
  have HA : Hid (At w b off l) := hA
  have HX : Hid (l[0]? = some x) := hx
  have hlen : (Esc.wr (l.map It.c)).length ≤ 480 := by
    have h1 := (Esc.wr_len (l.map It.c)).2
    have h2 := hD.len
    rw [List.length_map] at h1
    omega
  have hlz : (B (Esc.wr x.l.data.toList)).size ≤ 144 := by
    have h1 := (Esc.wr_len x.l.data.toList).2
    rw [len_list] at h1
    rw [B_size]
    omega
  have CC : Hid (Calls Tryz.prog 214 #[.slice (some ⟨b, off, none⟩) n cap] w fun e w' => e = .returned (.string (B (l.map It.c))) ∧ Below w.heap.size w w') := chars_any _ n cap l w hD h80
  have CW : Hid (∀ w, Pairs w → Calls Tryz.prog 213 #[.string (B (l.map It.c))] w fun e w' => e = .returned (.string (B (Esc.wr (l.map It.c)))) ∧ Below w.heap.size w w') := fun w hp => written_any _ w hp (by have := hD.len; rw [List.length_map]; omega)
  have CL : Hid (∀ w, Pairs w → Calls Tryz.prog 213 #[.string x.l] w fun e w' => e = .returned (.string (B (Esc.wr x.l.data.toList))) ∧ Below w.heap.size w w') := fun w hp => written_any x.l.data.toList w hp (by rw [len_list]; omega)
  have HP : Hid (Pairs w) := hP
  have HM : Hid (Marks w) := hM
  clear hD hA hx hP hM
  have hres : Pg.bytes (Pg.tags x.m ((l.map It.c).map Pg.Tok.ch)) = tagL [105] (Esc.wr (l.map It.c)) := by rw [hm, bytes_tags2, Pg.bytes_chars]
  have hseg : B (Pg.bytes (Pg.seg x (l.map It.c))) = B (Pg.bytes (Pg.tags x.m ((l.map It.c).map Pg.Tok.ch))) := congrArg B (linked_no x.l (Pg.tags x.m ((l.map It.c).map Pg.Tok.ch)) he)
  rw [hres] at hseg
  clear hres
  rw [hseg]
  clear hseg
  generalize Esc.wr (l.map It.c) = T at *
  have q1 : (tagL [105] T).length ≤ 490 := by rw [tagL_len]; simp; omega
  have C1 : Hid (∀ w, Calls Tryz.prog 212 #[.string ⟨#[105]⟩, .string (B T)] w fun e w' => e = .returned (.string (B (tagL [105] T))) ∧ w' = w) := fun w => tagged_any [105] T w (by decide) (by omega)
  generalize tagL [105] T = T1 at *
  have i0 := mdx0
  have i1 := mdx1
  go_enter Tryz.func140, Tryz.ntmps140
  go_wp2_with fail
  refine CC.out.mono ?_
  rintro e w1 ⟨rfl, hb⟩
  have H1 : Hid (Below w.heap.size w w1) := hb
  have P1 : Hid (Pairs w1) := HP.out.under hb
  clear hb
  go_wp2_with fail
  refine (CW.out _ P1.out).mono ?_
  rintro e w2 ⟨rfl, hb⟩
  have H2 : Hid (Below w.heap.size w w2) := H1.out.trans (hb.mono H1.out.size)
  have P2 : Hid (Pairs w2) := P1.out.under hb
  clear hb
  obtain ⟨t, fr, hg⟩ := HM.out.below H2.out
  have Hg : Hid (w2.heap[3]? = some (.cells mcells t fr)) := hg
  clear hg
  have A2 := HA.out.below H2.out
  have ha1 : w2.cell? ⟨b, off + 1, none⟩ = some (.int .i64 x.m) := by have := (A2.get HX.out).2.1; rw [Nat.zero_mul, Nat.add_zero] at this; exact this
  have ha2 : w2.cell? ⟨b, off + 2, none⟩ = some (.string x.l) := by have := (A2.get HX.out).2.2; rw [Nat.zero_mul, Nat.add_zero] at this; exact this
  have hb2 : b < w2.heap.size := cell_lt ha1
  rw [hm] at ha1
  clear A2
  go_wp2_with (refine wpList_load_row rfl 260 _ rfl 3 rfl t _ fr _ Hg.out Tryz.underlying260 rfl sz124 ?_)
  refine wp_loop_rounds 3 ?_
  rw [rounds_succ]
  go_wp2
  go_quiet (fail)
  go_wp2_with fail
  refine (C1.out _).mono ?_
  rintro e w3 ⟨rfl, rfl⟩
  go_wp2
  rw [rounds_succ]
  go_wp2
  go_quiet (fail)
  go_wp2
  rw [rounds_succ]
  go_wp2
  go_ret
  exact ⟨rfl, H2.out.trans ((two_below w2 _ _ _ _).mono H2.out.size)⟩

set_option maxRecDepth 100000 in
set_option maxHeartbeats 3200000 in
theorem run_2l (b off n cap : Nat) (l : List It) (x : It) (w : World) (h : Runs1 b off n cap l x w) (hm : x.m = 2) (he : x.l.toList.isEmpty = false) :
    Calls Tryz.prog 140 #[.slice (some ⟨b, off, none⟩) n cap] w fun e w' => e = .returned (.string (B (Pg.bytes (Pg.seg x (l.map It.c))))) ∧ Below w.heap.size w w' := by
  obtain ⟨hA, hD, hx, h80, hl, hP, hM⟩ := h
  have hn0 : 0 < n := by rw [← hD.len]; exact (List.getElem?_eq_some_iff.1 hx).1
  have hcap := hD.room
  have hbig := hD.big
  have HA : Hid (At w b off l) := hA
  have HX : Hid (l[0]? = some x) := hx
  have hlen : (Esc.wr (l.map It.c)).length ≤ 480 := by
    have h1 := (Esc.wr_len (l.map It.c)).2
    have h2 := hD.len
    rw [List.length_map] at h1
    omega
  have hlz : (B (Esc.wr x.l.data.toList)).size ≤ 144 := by
    have h1 := (Esc.wr_len x.l.data.toList).2
    rw [len_list] at h1
    rw [B_size]
    omega
  have CC : Hid (Calls Tryz.prog 214 #[.slice (some ⟨b, off, none⟩) n cap] w fun e w' => e = .returned (.string (B (l.map It.c))) ∧ Below w.heap.size w w') := chars_any _ n cap l w hD h80
  have CW : Hid (∀ w, Pairs w → Calls Tryz.prog 213 #[.string (B (l.map It.c))] w fun e w' => e = .returned (.string (B (Esc.wr (l.map It.c)))) ∧ Below w.heap.size w w') := fun w hp => written_any _ w hp (by have := hD.len; rw [List.length_map]; omega)
  have CL : Hid (∀ w, Pairs w → Calls Tryz.prog 213 #[.string x.l] w fun e w' => e = .returned (.string (B (Esc.wr x.l.data.toList))) ∧ Below w.heap.size w w') := fun w hp => written_any x.l.data.toList w hp (by rw [len_list]; omega)
  have HP : Hid (Pairs w) := hP
  have HM : Hid (Marks w) := hM
  clear hD hA hx hP hM
  have hres : Pg.bytes (Pg.tags x.m ((l.map It.c).map Pg.Tok.ch)) = tagL [105] (Esc.wr (l.map It.c)) := by rw [hm, bytes_tags2, Pg.bytes_chars]
  have hseg : B (Pg.bytes (Pg.seg x (l.map It.c))) = _ := linked_yes x.l (Pg.tags x.m ((l.map It.c).map Pg.Tok.ch)) he
  rw [hres] at hseg
  clear hres
  rw [hseg]
  clear hseg
  generalize Esc.wr (l.map It.c) = T at *
  generalize B (Esc.wr x.l.data.toList) = L at *
  have q1 : (tagL [105] T).length ≤ 490 := by rw [tagL_len]; simp; omega
  have C1 : Hid (∀ w, Calls Tryz.prog 212 #[.string ⟨#[105]⟩, .string (B T)] w fun e w' => e = .returned (.string (B (tagL [105] T))) ∧ w' = w) := fun w => tagged_any [105] T w (by decide) (by omega)
  generalize tagL [105] T = T1 at *
  have i0 := mdx0
  have i1 := mdx1
  go_enter Tryz.func140, Tryz.ntmps140
  go_wp2_with fail
  refine CC.out.mono ?_
  rintro e w1 ⟨rfl, hb⟩
  have H1 : Hid (Below w.heap.size w w1) := hb
  have P1 : Hid (Pairs w1) := HP.out.under hb
  clear hb
  go_wp2_with fail
  refine (CW.out _ P1.out).mono ?_
  rintro e w2 ⟨rfl, hb⟩
  have H2 : Hid (Below w.heap.size w w2) := H1.out.trans (hb.mono H1.out.size)
  have P2 : Hid (Pairs w2) := P1.out.under hb
  clear hb
  obtain ⟨t, fr, hg⟩ := HM.out.below H2.out
  have Hg : Hid (w2.heap[3]? = some (.cells mcells t fr)) := hg
  clear hg
  have A2 := HA.out.below H2.out
  have ha1 : w2.cell? ⟨b, off + 1, none⟩ = some (.int .i64 x.m) := by have := (A2.get HX.out).2.1; rw [Nat.zero_mul, Nat.add_zero] at this; exact this
  have ha2 : w2.cell? ⟨b, off + 2, none⟩ = some (.string x.l) := by have := (A2.get HX.out).2.2; rw [Nat.zero_mul, Nat.add_zero] at this; exact this
  have hb2 : b < w2.heap.size := cell_lt ha1
  rw [hm] at ha1
  clear A2
  go_wp2_with (refine wpList_load_row rfl 260 _ rfl 3 rfl t _ fr _ Hg.out Tryz.underlying260 rfl sz124 ?_)
  refine wp_loop_rounds 3 ?_
  rw [rounds_succ]
  go_wp2
  go_quiet (fail)
  go_wp2_with fail
  refine (C1.out _).mono ?_
  rintro e w3 ⟨rfl, rfl⟩
  go_wp2
  rw [rounds_succ]
  go_wp2
  go_quiet (fail)
  go_wp2
  rw [rounds_succ]
  go_wp2_with fail
  refine (CL.out _ (P2.out.under (two_below w2 _ _ _ _))).mono ?_
  rintro e w5 ⟨rfl, hb⟩
  have H5 : Hid (Below w.heap.size w w5) := by
    refine Below.trans (H2.out.trans ((two_below w2 _ _ _ _).mono H2.out.size)) (hb.mono ?_)
    exact (H2.out.trans ((two_below w2 _ _ _ _).mono H2.out.size)).size
  clear hb
  have hz := B_size T1
  go_wp2
  go_ret
  exact ⟨rfl, H5.out⟩

set_option maxRecDepth 100000 in
set_option maxHeartbeats 3200000 in
theorem run_3 (b off n cap : Nat) (l : List It) (x : It) (w : World) (h : Runs1 b off n cap l x w) (hm : x.m = 3) (he : x.l.toList.isEmpty = true) :
    Calls Tryz.prog 140 #[.slice (some ⟨b, off, none⟩) n cap] w fun e w' => e = .returned (.string (B (Pg.bytes (Pg.seg x (l.map It.c))))) ∧ Below w.heap.size w w' := by
  obtain ⟨hA, hD, hx, h80, hl, hP, hM⟩ := h
  have hn0 : 0 < n := by rw [← hD.len]; exact (List.getElem?_eq_some_iff.1 hx).1
  have hcap := hD.room
  have hbig := hD.big
  have HA : Hid (At w b off l) := hA
  have HX : Hid (l[0]? = some x) := hx
  have hlen : (Esc.wr (l.map It.c)).length ≤ 480 := by
    have h1 := (Esc.wr_len (l.map It.c)).2
    have h2 := hD.len
    rw [List.length_map] at h1
    omega
  have hlz : (B (Esc.wr x.l.data.toList)).size ≤ 144 := by
    have h1 := (Esc.wr_len x.l.data.toList).2
    rw [len_list] at h1
    rw [B_size]
    omega
  have CC : Hid (Calls Tryz.prog 214 #[.slice (some ⟨b, off, none⟩) n cap] w fun e w' => e = .returned (.string (B (l.map It.c))) ∧ Below w.heap.size w w') := chars_any _ n cap l w hD h80
  have CW : Hid (∀ w, Pairs w → Calls Tryz.prog 213 #[.string (B (l.map It.c))] w fun e w' => e = .returned (.string (B (Esc.wr (l.map It.c)))) ∧ Below w.heap.size w w') := fun w hp => written_any _ w hp (by have := hD.len; rw [List.length_map]; omega)
  have CL : Hid (∀ w, Pairs w → Calls Tryz.prog 213 #[.string x.l] w fun e w' => e = .returned (.string (B (Esc.wr x.l.data.toList))) ∧ Below w.heap.size w w') := fun w hp => written_any x.l.data.toList w hp (by rw [len_list]; omega)
  have HP : Hid (Pairs w) := hP
  have HM : Hid (Marks w) := hM
  clear hD hA hx hP hM
  have hres : Pg.bytes (Pg.tags x.m ((l.map It.c).map Pg.Tok.ch)) = tagL [98] (tagL [105] (Esc.wr (l.map It.c))) := by rw [hm, bytes_tags3, Pg.bytes_chars]
  have hseg : B (Pg.bytes (Pg.seg x (l.map It.c))) = B (Pg.bytes (Pg.tags x.m ((l.map It.c).map Pg.Tok.ch))) := congrArg B (linked_no x.l (Pg.tags x.m ((l.map It.c).map Pg.Tok.ch)) he)
  rw [hres] at hseg
  clear hres
  rw [hseg]
  clear hseg
  generalize Esc.wr (l.map It.c) = T at *
  have q1 : (tagL [105] T).length ≤ 490 := by rw [tagL_len]; simp; omega
  have C1 : Hid (∀ w, Calls Tryz.prog 212 #[.string ⟨#[105]⟩, .string (B T)] w fun e w' => e = .returned (.string (B (tagL [105] T))) ∧ w' = w) := fun w => tagged_any [105] T w (by decide) (by omega)
  generalize tagL [105] T = T1 at *
  have q2 : (tagL [98] T1).length ≤ 500 := by rw [tagL_len]; simp; omega
  have C2 : Hid (∀ w, Calls Tryz.prog 212 #[.string ⟨#[98]⟩, .string (B T1)] w fun e w' => e = .returned (.string (B (tagL [98] T1))) ∧ w' = w) := fun w => tagged_any [98] T1 w (by decide) (by omega)
  generalize tagL [98] T1 = T2 at *
  have i0 := mdx0
  have i1 := mdx1
  go_enter Tryz.func140, Tryz.ntmps140
  go_wp2_with fail
  refine CC.out.mono ?_
  rintro e w1 ⟨rfl, hb⟩
  have H1 : Hid (Below w.heap.size w w1) := hb
  have P1 : Hid (Pairs w1) := HP.out.under hb
  clear hb
  go_wp2_with fail
  refine (CW.out _ P1.out).mono ?_
  rintro e w2 ⟨rfl, hb⟩
  have H2 : Hid (Below w.heap.size w w2) := H1.out.trans (hb.mono H1.out.size)
  have P2 : Hid (Pairs w2) := P1.out.under hb
  clear hb
  obtain ⟨t, fr, hg⟩ := HM.out.below H2.out
  have Hg : Hid (w2.heap[3]? = some (.cells mcells t fr)) := hg
  clear hg
  have A2 := HA.out.below H2.out
  have ha1 : w2.cell? ⟨b, off + 1, none⟩ = some (.int .i64 x.m) := by have := (A2.get HX.out).2.1; rw [Nat.zero_mul, Nat.add_zero] at this; exact this
  have ha2 : w2.cell? ⟨b, off + 2, none⟩ = some (.string x.l) := by have := (A2.get HX.out).2.2; rw [Nat.zero_mul, Nat.add_zero] at this; exact this
  have hb2 : b < w2.heap.size := cell_lt ha1
  rw [hm] at ha1
  clear A2
  go_wp2_with (refine wpList_load_row rfl 260 _ rfl 3 rfl t _ fr _ Hg.out Tryz.underlying260 rfl sz124 ?_)
  refine wp_loop_rounds 3 ?_
  rw [rounds_succ]
  go_wp2
  go_quiet (fail)
  go_wp2_with fail
  refine (C1.out _).mono ?_
  rintro e w3 ⟨rfl, rfl⟩
  go_wp2
  rw [rounds_succ]
  go_wp2
  go_quiet (fail)
  go_wp2_with fail
  refine (C2.out _).mono ?_
  rintro e w4 ⟨rfl, rfl⟩
  go_wp2
  rw [rounds_succ]
  go_wp2
  go_ret
  exact ⟨rfl, H2.out.trans ((two_below w2 _ _ _ _).mono H2.out.size)⟩

set_option maxRecDepth 100000 in
set_option maxHeartbeats 3200000 in
theorem run_3l (b off n cap : Nat) (l : List It) (x : It) (w : World) (h : Runs1 b off n cap l x w) (hm : x.m = 3) (he : x.l.toList.isEmpty = false) :
    Calls Tryz.prog 140 #[.slice (some ⟨b, off, none⟩) n cap] w fun e w' => e = .returned (.string (B (Pg.bytes (Pg.seg x (l.map It.c))))) ∧ Below w.heap.size w w' := by
  obtain ⟨hA, hD, hx, h80, hl, hP, hM⟩ := h
  have hn0 : 0 < n := by rw [← hD.len]; exact (List.getElem?_eq_some_iff.1 hx).1
  have hcap := hD.room
  have hbig := hD.big
  have HA : Hid (At w b off l) := hA
  have HX : Hid (l[0]? = some x) := hx
  have hlen : (Esc.wr (l.map It.c)).length ≤ 480 := by
    have h1 := (Esc.wr_len (l.map It.c)).2
    have h2 := hD.len
    rw [List.length_map] at h1
    omega
  have hlz : (B (Esc.wr x.l.data.toList)).size ≤ 144 := by
    have h1 := (Esc.wr_len x.l.data.toList).2
    rw [len_list] at h1
    rw [B_size]
    omega
  have CC : Hid (Calls Tryz.prog 214 #[.slice (some ⟨b, off, none⟩) n cap] w fun e w' => e = .returned (.string (B (l.map It.c))) ∧ Below w.heap.size w w') := chars_any _ n cap l w hD h80
  have CW : Hid (∀ w, Pairs w → Calls Tryz.prog 213 #[.string (B (l.map It.c))] w fun e w' => e = .returned (.string (B (Esc.wr (l.map It.c)))) ∧ Below w.heap.size w w') := fun w hp => written_any _ w hp (by have := hD.len; rw [List.length_map]; omega)
  have CL : Hid (∀ w, Pairs w → Calls Tryz.prog 213 #[.string x.l] w fun e w' => e = .returned (.string (B (Esc.wr x.l.data.toList))) ∧ Below w.heap.size w w') := fun w hp => written_any x.l.data.toList w hp (by rw [len_list]; omega)
  have HP : Hid (Pairs w) := hP
  have HM : Hid (Marks w) := hM
  clear hD hA hx hP hM
  have hres : Pg.bytes (Pg.tags x.m ((l.map It.c).map Pg.Tok.ch)) = tagL [98] (tagL [105] (Esc.wr (l.map It.c))) := by rw [hm, bytes_tags3, Pg.bytes_chars]
  have hseg : B (Pg.bytes (Pg.seg x (l.map It.c))) = _ := linked_yes x.l (Pg.tags x.m ((l.map It.c).map Pg.Tok.ch)) he
  rw [hres] at hseg
  clear hres
  rw [hseg]
  clear hseg
  generalize Esc.wr (l.map It.c) = T at *
  generalize B (Esc.wr x.l.data.toList) = L at *
  have q1 : (tagL [105] T).length ≤ 490 := by rw [tagL_len]; simp; omega
  have C1 : Hid (∀ w, Calls Tryz.prog 212 #[.string ⟨#[105]⟩, .string (B T)] w fun e w' => e = .returned (.string (B (tagL [105] T))) ∧ w' = w) := fun w => tagged_any [105] T w (by decide) (by omega)
  generalize tagL [105] T = T1 at *
  have q2 : (tagL [98] T1).length ≤ 500 := by rw [tagL_len]; simp; omega
  have C2 : Hid (∀ w, Calls Tryz.prog 212 #[.string ⟨#[98]⟩, .string (B T1)] w fun e w' => e = .returned (.string (B (tagL [98] T1))) ∧ w' = w) := fun w => tagged_any [98] T1 w (by decide) (by omega)
  generalize tagL [98] T1 = T2 at *
  have i0 := mdx0
  have i1 := mdx1
  go_enter Tryz.func140, Tryz.ntmps140
  go_wp2_with fail
  refine CC.out.mono ?_
  rintro e w1 ⟨rfl, hb⟩
  have H1 : Hid (Below w.heap.size w w1) := hb
  have P1 : Hid (Pairs w1) := HP.out.under hb
  clear hb
  go_wp2_with fail
  refine (CW.out _ P1.out).mono ?_
  rintro e w2 ⟨rfl, hb⟩
  have H2 : Hid (Below w.heap.size w w2) := H1.out.trans (hb.mono H1.out.size)
  have P2 : Hid (Pairs w2) := P1.out.under hb
  clear hb
  obtain ⟨t, fr, hg⟩ := HM.out.below H2.out
  have Hg : Hid (w2.heap[3]? = some (.cells mcells t fr)) := hg
  clear hg
  have A2 := HA.out.below H2.out
  have ha1 : w2.cell? ⟨b, off + 1, none⟩ = some (.int .i64 x.m) := by have := (A2.get HX.out).2.1; rw [Nat.zero_mul, Nat.add_zero] at this; exact this
  have ha2 : w2.cell? ⟨b, off + 2, none⟩ = some (.string x.l) := by have := (A2.get HX.out).2.2; rw [Nat.zero_mul, Nat.add_zero] at this; exact this
  have hb2 : b < w2.heap.size := cell_lt ha1
  rw [hm] at ha1
  clear A2
  go_wp2_with (refine wpList_load_row rfl 260 _ rfl 3 rfl t _ fr _ Hg.out Tryz.underlying260 rfl sz124 ?_)
  refine wp_loop_rounds 3 ?_
  rw [rounds_succ]
  go_wp2
  go_quiet (fail)
  go_wp2_with fail
  refine (C1.out _).mono ?_
  rintro e w3 ⟨rfl, rfl⟩
  go_wp2
  rw [rounds_succ]
  go_wp2
  go_quiet (fail)
  go_wp2_with fail
  refine (C2.out _).mono ?_
  rintro e w4 ⟨rfl, rfl⟩
  go_wp2
  rw [rounds_succ]
  go_wp2_with fail
  refine (CL.out _ (P2.out.under (two_below w2 _ _ _ _))).mono ?_
  rintro e w5 ⟨rfl, hb⟩
  have H5 : Hid (Below w.heap.size w w5) := by
    refine Below.trans (H2.out.trans ((two_below w2 _ _ _ _).mono H2.out.size)) (hb.mono ?_)
    exact (H2.out.trans ((two_below w2 _ _ _ _).mono H2.out.size)).size
  clear hb
  have hz := B_size T2
  go_wp2
  go_ret
  exact ⟨rfl, H5.out⟩

theorem run_any (b off n cap : Nat) (l : List It) (x : It) (w : World) (h : Runs1 b off n cap l x w) (h0 : 0 ≤ x.m) (h3 : x.m ≤ 3) :
    Calls Tryz.prog 140 #[.slice (some ⟨b, off, none⟩) n cap] w fun e w' => e = .returned (.string (B (Pg.bytes (Pg.seg x (l.map It.c))))) ∧ Below w.heap.size w w' := by
  have hm : x.m = 0 ∨ x.m = 1 ∨ x.m = 2 ∨ x.m = 3 := by omega
  cases he : x.l.toList.isEmpty
  · rcases hm with hm | hm | hm | hm
    · exact run_0l b off n cap l x w h hm he
    · exact run_1l b off n cap l x w h hm he
    · exact run_2l b off n cap l x w h hm he
    · exact run_3l b off n cap l x w h hm he
  · rcases hm with hm | hm | hm | hm
    · exact run_0 b off n cap l x w h hm he
    · exact run_1 b off n cap l x w h hm he
    · exact run_2 b off n cap l x w h hm he
    · exact run_3 b off n cap l x w h hm he
end Go.Proofs.YtbhcklkbckacpaaGreatDoor
