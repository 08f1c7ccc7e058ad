/-
  The reference's page at work: a run is written.
-/
import Derived.Test.YtmifcioccnmlaaaDoorXn
namespace Go.Proofs.YtmifcioccnmlaaaDoor
open Go.RowKit

/-- The reference's three variables that its inner function reads and writes: the text of a run, the run's last item, what stands in the block so far. -/
structure Vars3 (w : World) (bt bl bi : Nat) (t : List UInt8) (y : It) (i : List UInt8) : Prop where
  text : Blk w bt [.string (B t)] 9
  last : Blk w bl [.int .u8 y.c.toNat, .int .i64 y.m, .string y.l] 36
  ins : Blk w bi [.string (B i)] 9
  nti : bt ≠ bi
  ntl : bt ≠ bl
  nli : bl ≠ bi
theorem Vars3.far {w w' : World} {bt bl bi : Nat} {t : List UInt8} {y : It} {i : List UInt8} (h : Vars3 w bt bl bi t y i) (hb : Below w.heap.size w w') : Vars3 w' bt bl bi t y i :=
  ⟨(hb.block _ h.text.lt).trans h.text, (hb.block _ h.last.lt).trans h.last, (hb.block _ h.ins.lt).trans h.ins, h.nti, h.ntl, h.nli⟩

theorem wso_any (s : List UInt8) (w : World) (hs : s.length ≤ 20000) : Calls Tryd.prog 17 #[.string (B s)] w fun e w' => e = .returned (.string (B (Esc.wr s))) ∧ w' = w :=
  writtenSo_any (B s) w (by rw [B_size]; exact hs)

theorem flush_none (bt bl bi : Nat) (y : It) (i : List UInt8) (w : World) (h : Vars3 w bt bl bi [] y i) :
    Calls Tryd.prog 84 #[.pointer (some ⟨bt, 0, none⟩), .pointer (some ⟨bl, 0, none⟩), .pointer (some ⟨bi, 0, none⟩)] w fun e w' => e = .returned (.tuple #[]) ∧ w' = w := by
  have c0 : w.cell? ⟨bt, 0, none⟩ = some (.string ⟨#[]⟩) := h.text.cell 0
  clear h
  go_enter Tryd.func84, Tryd.ntmps84
  go_wp2
  refine bodyPost_ret (results_none rfl _ _ _) rfl ?_
  exact ⟨rfl, rfl⟩

theorem tag_i (T : List UInt8) : B (tagL [105] T) = ⟨#[60, 105, 62]⟩ ++ B T ++ ⟨#[60, 47, 105, 62]⟩ := by
  show B ([60, 105, 62] ++ T ++ [60, 47] ++ [105] ++ [62]) = _
  rw [List.append_assoc, List.append_assoc, ← B_app, ← B_app]
  rfl
theorem tag_b (T : List UInt8) : B (tagL [98] T) = ⟨#[60, 98, 62]⟩ ++ B T ++ ⟨#[60, 47, 98, 62]⟩ := by
  show B ([60, 98, 62] ++ T ++ [60, 47] ++ [98] ++ [62]) = _
  rw [List.append_assoc, List.append_assoc, ← B_app, ← B_app]
  rfl

set_option maxRecDepth 100000 in
set_option maxHeartbeats 1600000 in
theorem flush_0 (bt bl bi : Nat) (t : List UInt8) (y : It) (i : List UInt8) (w : World) (h : Vars3 w bt bl bi t y i) (ht : t.isEmpty = false) (htl : t.length ≤ 3000) (hil : i.length ≤ 1000000) (hl : y.l.size ≤ 24) (hm : y.m = 0) (he : y.l.toList.isEmpty = true) :
    Calls Tryd.prog 84 #[.pointer (some ⟨bt, 0, none⟩), .pointer (some ⟨bl, 0, none⟩), .pointer (some ⟨bi, 0, none⟩)] w fun e w' => e = .returned (.tuple #[]) ∧ w' = (w.setCell ⟨bi, 0, none⟩ (.string (B (i ++ Pg.bytes (Pg.seg y t))))).setCell ⟨bt, 0, none⟩ (.string ⟨#[]⟩) := by
  have c0 : w.cell? ⟨bt, 0, none⟩ = some (.string (B t)) := h.text.cell 0
  have c1 : w.cell? ⟨bl, 1, none⟩ = some (.int .i64 y.m) := h.last.cell 1
  have c2 : w.cell? ⟨bl, 2, none⟩ = some (.string y.l) := h.last.cell 2
  have c3 : w.cell? ⟨bi, 0, none⟩ = some (.string (B i)) := h.ins.cell 0
  have z0 := h.text.frozen 0
  have z3 := h.ins.frozen 0
  have n1 := h.nti
  rw [hm] at c1
  have hne : (B t).toList.isEmpty = false := by rw [Lib.toList_data, B_data]; exact ht
  have hlen : (B (Esc.wr t)).size ≤ 18000 := by rw [B_size]; have := (Esc.wr_len t).2; omega
  have hilz : (B i).size ≤ 1000000 := by rw [B_size]; exact hil
  have hlz : (B (Esc.wr y.l.data.toList)).size ≤ 144 := by
    have h1 := (Esc.wr_len y.l.data.toList).2
    rw [len_list] at h1
    rw [B_size]
    omega
  have CW : Hid (∀ w, Calls Tryd.prog 17 #[.string (B t)] w fun e w' => e = .returned (.string (B (Esc.wr t))) ∧ w' = w) := fun w => wso_any t w (by omega)
  have CL : Hid (∀ w, Calls Tryd.prog 17 #[.string y.l] w fun e w' => e = .returned (.string (B (Esc.wr y.l.data.toList))) ∧ w' = w) := fun w => wso_any y.l.data.toList w (by rw [len_list]; omega)
  clear h ht htl hil
  have hres : Pg.bytes (Pg.tags y.m (t.map Pg.Tok.ch)) = Esc.wr t := by rw [hm, bytes_tags0, Pg.bytes_chars]
  have hseg : B (Pg.bytes (Pg.seg y t)) = B (Pg.bytes (Pg.tags y.m (t.map Pg.Tok.ch))) := congrArg B (linked_no y.l (Pg.tags y.m (t.map Pg.Tok.ch)) he)
  rw [hres] at hseg
  rw [← B_app, hseg]
  clear hres hseg
  generalize B (Esc.wr t) = T at *
  generalize B t = bt0 at *
  generalize B (Esc.wr y.l.data.toList) = L at *
  generalize B i = I at *
  have s1 : (ByteArray.mk #[60, 105, 62]).size = 3 := rfl
  have s2 : (ByteArray.mk #[60, 47, 105, 62]).size = 4 := rfl
  have s3 : (ByteArray.mk #[60, 98, 62]).size = 3 := rfl
  have s4 : (ByteArray.mk #[60, 47, 98, 62]).size = 4 := rfl
  have s5 : (ByteArray.mk #[60, 97, 32, 104, 114, 101, 102, 61, 34]).size = 9 := rfl
  have s6 : (ByteArray.mk #[34, 62]).size = 2 := rfl
  have s7 : (ByteArray.mk #[60, 47, 97, 62]).size = 4 := rfl
  go_enter Tryd.func84, Tryd.ntmps84
  go_wp2_with fail
  refine (CW.out _).mono ?_
  rintro e w1 ⟨rfl, rfl⟩
  go_wp2
  go_end0
  exact ⟨rfl, rfl⟩

set_option maxRecDepth 100000 in
set_option maxHeartbeats 1600000 in
theorem flush_0l (bt bl bi : Nat) (t : List UInt8) (y : It) (i : List UInt8) (w : World) (h : Vars3 w bt bl bi t y i) (ht : t.isEmpty = false) (htl : t.length ≤ 3000) (hil : i.length ≤ 1000000) (hl : y.l.size ≤ 24) (hm : y.m = 0) (he : y.l.toList.isEmpty = false) :
    Calls Tryd.prog 84 #[.pointer (some ⟨bt, 0, none⟩), .pointer (some ⟨bl, 0, none⟩), .pointer (some ⟨bi, 0, none⟩)] w fun e w' => e = .returned (.tuple #[]) ∧ w' = (w.setCell ⟨bi, 0, none⟩ (.string (B (i ++ Pg.bytes (Pg.seg y t))))).setCell ⟨bt, 0, none⟩ (.string ⟨#[]⟩) := by
  have c0 : w.cell? ⟨bt, 0, none⟩ = some (.string (B t)) := h.text.cell 0
  have c1 : w.cell? ⟨bl, 1, none⟩ = some (.int .i64 y.m) := h.last.cell 1
  have c2 : w.cell? ⟨bl, 2, none⟩ = some (.string y.l) := h.last.cell 2
  have c3 : w.cell? ⟨bi, 0, none⟩ = some (.string (B i)) := h.ins.cell 0
  have z0 := h.text.frozen 0
  have z3 := h.ins.frozen 0
  have n1 := h.nti
  rw [hm] at c1
  have hne : (B t).toList.isEmpty = false := by rw [Lib.toList_data, B_data]; exact ht
  have hlen : (B (Esc.wr t)).size ≤ 18000 := by rw [B_size]; have := (Esc.wr_len t).2; omega
  have hilz : (B i).size ≤ 1000000 := by rw [B_size]; exact hil
  have hlz : (B (Esc.wr y.l.data.toList)).size ≤ 144 := by
    have h1 := (Esc.wr_len y.l.data.toList).2
    rw [len_list] at h1
    rw [B_size]
    omega
  have CW : Hid (∀ w, Calls Tryd.prog 17 #[.string (B t)] w fun e w' => e = .returned (.string (B (Esc.wr t))) ∧ w' = w) := fun w => wso_any t w (by omega)
  have CL : Hid (∀ w, Calls Tryd.prog 17 #[.string y.l] w fun e w' => e = .returned (.string (B (Esc.wr y.l.data.toList))) ∧ w' = w) := fun w => wso_any y.l.data.toList w (by rw [len_list]; omega)
  clear h ht htl hil
  have hres : Pg.bytes (Pg.tags y.m (t.map Pg.Tok.ch)) = Esc.wr t := by rw [hm, bytes_tags0, Pg.bytes_chars]
  have hseg : B (Pg.bytes (Pg.seg y t)) = _ := linked_yes y.l (Pg.tags y.m (t.map Pg.Tok.ch)) he
  rw [hres] at hseg
  rw [← B_app, hseg]
  clear hres hseg
  generalize B (Esc.wr t) = T at *
  generalize B t = bt0 at *
  generalize B (Esc.wr y.l.data.toList) = L at *
  generalize B i = I at *
  have s1 : (ByteArray.mk #[60, 105, 62]).size = 3 := rfl
  have s2 : (ByteArray.mk #[60, 47, 105, 62]).size = 4 := rfl
  have s3 : (ByteArray.mk #[60, 98, 62]).size = 3 := rfl
  have s4 : (ByteArray.mk #[60, 47, 98, 62]).size = 4 := rfl
  have s5 : (ByteArray.mk #[60, 97, 32, 104, 114, 101, 102, 61, 34]).size = 9 := rfl
  have s6 : (ByteArray.mk #[34, 62]).size = 2 := rfl
  have s7 : (ByteArray.mk #[60, 47, 97, 62]).size = 4 := rfl
  go_enter Tryd.func84, Tryd.ntmps84
  go_wp2_with fail
  refine (CW.out _).mono ?_
  rintro e w1 ⟨rfl, rfl⟩
  go_wp2_with fail
  refine (CL.out _).mono ?_
  rintro e w2 ⟨rfl, rfl⟩
  go_wp2
  go_end0
  exact ⟨rfl, rfl⟩

set_option maxRecDepth 100000 in
set_option maxHeartbeats 1600000 in
theorem flush_1 (bt bl bi : Nat) (t : List UInt8) (y : It) (i : List UInt8) (w : World) (h : Vars3 w bt bl bi t y i) (ht : t.isEmpty = false) (htl : t.length ≤ 3000) (hil : i.length ≤ 1000000) (hl : y.l.size ≤ 24) (hm : y.m = 1) (he : y.l.toList.isEmpty = true) :
    Calls Tryd.prog 84 #[.pointer (some ⟨bt, 0, none⟩), .pointer (some ⟨bl, 0, none⟩), .pointer (some ⟨bi, 0, none⟩)] w fun e w' => e = .returned (.tuple #[]) ∧ w' = (w.setCell ⟨bi, 0, none⟩ (.string (B (i ++ Pg.bytes (Pg.seg y t))))).setCell ⟨bt, 0, none⟩ (.string ⟨#[]⟩) := by
  have c0 : w.cell? ⟨bt, 0, none⟩ = some (.string (B t)) := h.text.cell 0
  have c1 : w.cell? ⟨bl, 1, none⟩ = some (.int .i64 y.m) := h.last.cell 1
  have c2 : w.cell? ⟨bl, 2, none⟩ = some (.string y.l) := h.last.cell 2
  have c3 : w.cell? ⟨bi, 0, none⟩ = some (.string (B i)) := h.ins.cell 0
  have z0 := h.text.frozen 0
  have z3 := h.ins.frozen 0
  have n1 := h.nti
  rw [hm] at c1
  have hne : (B t).toList.isEmpty = false := by rw [Lib.toList_data, B_data]; exact ht
  have hlen : (B (Esc.wr t)).size ≤ 18000 := by rw [B_size]; have := (Esc.wr_len t).2; omega
  have hilz : (B i).size ≤ 1000000 := by rw [B_size]; exact hil
  have hlz : (B (Esc.wr y.l.data.toList)).size ≤ 144 := by
    have h1 := (Esc.wr_len y.l.data.toList).2
    rw [len_list] at h1
    rw [B_size]
    omega
  have CW : Hid (∀ w, Calls Tryd.prog 17 #[.string (B t)] w fun e w' => e = .returned (.string (B (Esc.wr t))) ∧ w' = w) := fun w => wso_any t w (by omega)
  have CL : Hid (∀ w, Calls Tryd.prog 17 #[.string y.l] w fun e w' => e = .returned (.string (B (Esc.wr y.l.data.toList))) ∧ w' = w) := fun w => wso_any y.l.data.toList w (by rw [len_list]; omega)
  clear h ht htl hil
  have hres : Pg.bytes (Pg.tags y.m (t.map Pg.Tok.ch)) = tagL [98] (Esc.wr t) := by rw [hm, bytes_tags1, Pg.bytes_chars]
  have hseg : B (Pg.bytes (Pg.seg y t)) = B (Pg.bytes (Pg.tags y.m (t.map Pg.Tok.ch))) := congrArg B (linked_no y.l (Pg.tags y.m (t.map Pg.Tok.ch)) he)
  rw [hres, tag_b] at hseg
  rw [← B_app, hseg]
  clear hres hseg
  generalize B (Esc.wr t) = T at *
  generalize B t = bt0 at *
  generalize B (Esc.wr y.l.data.toList) = L at *
  generalize B i = I at *
  have s1 : (ByteArray.mk #[60, 105, 62]).size = 3 := rfl
  have s2 : (ByteArray.mk #[60, 47, 105, 62]).size = 4 := rfl
  have s3 : (ByteArray.mk #[60, 98, 62]).size = 3 := rfl
  have s4 : (ByteArray.mk #[60, 47, 98, 62]).size = 4 := rfl
  have s5 : (ByteArray.mk #[60, 97, 32, 104, 114, 101, 102, 61, 34]).size = 9 := rfl
  have s6 : (ByteArray.mk #[34, 62]).size = 2 := rfl
  have s7 : (ByteArray.mk #[60, 47, 97, 62]).size = 4 := rfl
  go_enter Tryd.func84, Tryd.ntmps84
  go_wp2_with fail
  refine (CW.out _).mono ?_
  rintro e w1 ⟨rfl, rfl⟩
  go_wp2
  go_end0
  exact ⟨rfl, rfl⟩

set_option maxRecDepth 100000 in
set_option maxHeartbeats 1600000 in
theorem flush_1l (bt bl bi : Nat) (t : List UInt8) (y : It) (i : List UInt8) (w : World) (h : Vars3 w bt bl bi t y i) (ht : t.isEmpty = false) (htl : t.length ≤ 3000) (hil : i.length ≤ 1000000) (hl : y.l.size ≤ 24) (hm : y.m = 1) (he : y.l.toList.isEmpty = false) :
    Calls Tryd.prog 84 #[.pointer (some ⟨bt, 0, none⟩), .pointer (some ⟨bl, 0, none⟩), .pointer (some ⟨bi, 0, none⟩)] w fun e w' => e = .returned (.tuple #[]) ∧ w' = (w.setCell ⟨bi, 0, none⟩ (.string (B (i ++ Pg.bytes (Pg.seg y t))))).setCell ⟨bt, 0, none⟩ (.string ⟨#[]⟩) := by
  have c0 : w.cell? ⟨bt, 0, none⟩ = some (.string (B t)) := h.text.cell 0
  have c1 : w.cell? ⟨bl, 1, none⟩ = some (.int .i64 y.m) := h.last.cell 1
  have c2 : w.cell? ⟨bl, 2, none⟩ = some (.string y.l) := h.last.cell 2
  have c3 : w.cell? ⟨bi, 0, none⟩ = some (.string (B i)) := h.ins.cell 0
  have z0 := h.text.frozen 0
  have z3 := h.ins.frozen 0
  have n1 := h.nti
  rw [hm] at c1
  have hne : (B t).toList.isEmpty = false := by rw [Lib.toList_data, B_data]; exact ht
  have hlen : (B (Esc.wr t)).size ≤ 18000 := by rw [B_size]; have := (Esc.wr_len t).2; omega
  have hilz : (B i).size ≤ 1000000 := by rw [B_size]; exact hil
  have hlz : (B (Esc.wr y.l.data.toList)).size ≤ 144 := by
    have h1 := (Esc.wr_len y.l.data.toList).2
    rw [len_list] at h1
    rw [B_size]
    omega
  have CW : Hid (∀ w, Calls Tryd.prog 17 #[.string (B t)] w fun e w' => e = .returned (.string (B (Esc.wr t))) ∧ w' = w) := fun w => wso_any t w (by omega)
  have CL : Hid (∀ w, Calls Tryd.prog 17 #[.string y.l] w fun e w' => e = .returned (.string (B (Esc.wr y.l.data.toList))) ∧ w' = w) := fun w => wso_any y.l.data.toList w (by rw [len_list]; omega)
  clear h ht htl hil
  have hres : Pg.bytes (Pg.tags y.m (t.map Pg.Tok.ch)) = tagL [98] (Esc.wr t) := by rw [hm, bytes_tags1, Pg.bytes_chars]
  have hseg : B (Pg.bytes (Pg.seg y t)) = _ := linked_yes y.l (Pg.tags y.m (t.map Pg.Tok.ch)) he
  rw [hres, tag_b] at hseg
  rw [← B_app, hseg]
  clear hres hseg
  generalize B (Esc.wr t) = T at *
  generalize B t = bt0 at *
  generalize B (Esc.wr y.l.data.toList) = L at *
  generalize B i = I at *
  have s1 : (ByteArray.mk #[60, 105, 62]).size = 3 := rfl
  have s2 : (ByteArray.mk #[60, 47, 105, 62]).size = 4 := rfl
  have s3 : (ByteArray.mk #[60, 98, 62]).size = 3 := rfl
  have s4 : (ByteArray.mk #[60, 47, 98, 62]).size = 4 := rfl
  have s5 : (ByteArray.mk #[60, 97, 32, 104, 114, 101, 102, 61, 34]).size = 9 := rfl
  have s6 : (ByteArray.mk #[34, 62]).size = 2 := rfl
  have s7 : (ByteArray.mk #[60, 47, 97, 62]).size = 4 := rfl
  go_enter Tryd.func84, Tryd.ntmps84
  go_wp2_with fail
  refine (CW.out _).mono ?_
  rintro e w1 ⟨rfl, rfl⟩
  go_wp2_with fail
  refine (CL.out _).mono ?_
  rintro e w2 ⟨rfl, rfl⟩
  go_wp2
  go_end0
  exact ⟨rfl, rfl⟩

set_option maxRecDepth 100000 in
set_option maxHeartbeats 1600000 in
theorem flush_2 (bt bl bi : Nat) (t : List UInt8) (y : It) (i : List UInt8) (w : World) (h : Vars3 w bt bl bi t y i) (ht : t.isEmpty = false) (htl : t.length ≤ 3000) (hil : i.length ≤ 1000000) (hl : y.l.size ≤ 24) (hm : y.m = 2) (he : y.l.toList.isEmpty = true) :
    Calls Tryd.prog 84 #[.pointer (some ⟨bt, 0, none⟩), .pointer (some ⟨bl, 0, none⟩), .pointer (some ⟨bi, 0, none⟩)] w fun e w' => e = .returned (.tuple #[]) ∧ w' = (w.setCell ⟨bi, 0, none⟩ (.string (B (i ++ Pg.bytes (Pg.seg y t))))).setCell ⟨bt, 0, none⟩ (.string ⟨#[]⟩) := by
  have c0 : w.cell? ⟨bt, 0, none⟩ = some (.string (B t)) := h.text.cell 0
  have c1 : w.cell? ⟨bl, 1, none⟩ = some (.int .i64 y.m) := h.last.cell 1
  have c2 : w.cell? ⟨bl, 2, none⟩ = some (.string y.l) := h.last.cell 2
  have c3 : w.cell? ⟨bi, 0, none⟩ = some (.string (B i)) := h.ins.cell 0
  have z0 := h.text.frozen 0
  have z3 := h.ins.frozen 0
  have n1 := h.nti
  rw [hm] at c1
  have hne : (B t).toList.isEmpty = false := by rw [Lib.toList_data, B_data]; exact ht
  have hlen : (B (Esc.wr t)).size ≤ 18000 := by rw [B_size]; have := (Esc.wr_len t).2; omega
  have hilz : (B i).size ≤ 1000000 := by rw [B_size]; exact hil
  have hlz : (B (Esc.wr y.l.data.toList)).size ≤ 144 := by
    have h1 := (Esc.wr_len y.l.data.toList).2
    rw [len_list] at h1
    rw [B_size]
    omega
  have CW : Hid (∀ w, Calls Tryd.prog 17 #[.string (B t)] w fun e w' => e = .returned (.string (B (Esc.wr t))) ∧ w' = w) := fun w => wso_any t w (by omega)
  have CL : Hid (∀ w, Calls Tryd.prog 17 #[.string y.l] w fun e w' => e = .returned (.string (B (Esc.wr y.l.data.toList))) ∧ w' = w) := fun w => wso_any y.l.data.toList w (by rw [len_list]; omega)
  clear h ht htl hil
  have hres : Pg.bytes (Pg.tags y.m (t.map Pg.Tok.ch)) = tagL [105] (Esc.wr t) := by rw [hm, bytes_tags2, Pg.bytes_chars]
  have hseg : B (Pg.bytes (Pg.seg y t)) = B (Pg.bytes (Pg.tags y.m (t.map Pg.Tok.ch))) := congrArg B (linked_no y.l (Pg.tags y.m (t.map Pg.Tok.ch)) he)
  rw [hres, tag_i] at hseg
  rw [← B_app, hseg]
  clear hres hseg
  generalize B (Esc.wr t) = T at *
  generalize B t = bt0 at *
  generalize B (Esc.wr y.l.data.toList) = L at *
  generalize B i = I at *
  have s1 : (ByteArray.mk #[60, 105, 62]).size = 3 := rfl
  have s2 : (ByteArray.mk #[60, 47, 105, 62]).size = 4 := rfl
  have s3 : (ByteArray.mk #[60, 98, 62]).size = 3 := rfl
  have s4 : (ByteArray.mk #[60, 47, 98, 62]).size = 4 := rfl
  have s5 : (ByteArray.mk #[60, 97, 32, 104, 114, 101, 102, 61, 34]).size = 9 := rfl
  have s6 : (ByteArray.mk #[34, 62]).size = 2 := rfl
  have s7 : (ByteArray.mk #[60, 47, 97, 62]).size = 4 := rfl
  go_enter Tryd.func84, Tryd.ntmps84
  go_wp2_with fail
  refine (CW.out _).mono ?_
  rintro e w1 ⟨rfl, rfl⟩
  go_wp2
  go_end0
  exact ⟨rfl, rfl⟩

set_option maxRecDepth 100000 in
set_option maxHeartbeats 1600000 in
theorem flush_2l (bt bl bi : Nat) (t : List UInt8) (y : It) (i : List UInt8) (w : World) (h : Vars3 w bt bl bi t y i) (ht : t.isEmpty = false) (htl : t.length ≤ 3000) (hil : i.length ≤ 1000000) (hl : y.l.size ≤ 24) (hm : y.m = 2) (he : y.l.toList.isEmpty = false) :
    Calls Tryd.prog 84 #[.pointer (some ⟨bt, 0, none⟩), .pointer (some ⟨bl, 0, none⟩), .pointer (some ⟨bi, 0, none⟩)] w fun e w' => e = .returned (.tuple #[]) ∧ w' = (w.setCell ⟨bi, 0, none⟩ (.string (B (i ++ Pg.bytes (Pg.seg y t))))).setCell ⟨bt, 0, none⟩ (.string ⟨#[]⟩) := by
  have c0 : w.cell? ⟨bt, 0, none⟩ = some (.string (B t)) := h.text.cell 0
  have c1 : w.cell? ⟨bl, 1, none⟩ = some (.int .i64 y.m) := h.last.cell 1
  have c2 : w.cell? ⟨bl, 2, none⟩ = some (.string y.l) := h.last.cell 2
  have c3 : w.cell? ⟨bi, 0, none⟩ = some (.string (B i)) := h.ins.cell 0
  have z0 := h.text.frozen 0
  have z3 := h.ins.frozen 0
  have n1 := h.nti
  rw [hm] at c1
  have hne : (B t).toList.isEmpty = false := by rw [Lib.toList_data, B_data]; exact ht
  have hlen : (B (Esc.wr t)).size ≤ 18000 := by rw [B_size]; have := (Esc.wr_len t).2; omega
  have hilz : (B i).size ≤ 1000000 := by rw [B_size]; exact hil
  have hlz : (B (Esc.wr y.l.data.toList)).size ≤ 144 := by
    have h1 := (Esc.wr_len y.l.data.toList).2
    rw [len_list] at h1
    rw [B_size]
    omega
  have CW : Hid (∀ w, Calls Tryd.prog 17 #[.string (B t)] w fun e w' => e = .returned (.string (B (Esc.wr t))) ∧ w' = w) := fun w => wso_any t w (by omega)
  have CL : Hid (∀ w, Calls Tryd.prog 17 #[.string y.l] w fun e w' => e = .returned (.string (B (Esc.wr y.l.data.toList))) ∧ w' = w) := fun w => wso_any y.l.data.toList w (by rw [len_list]; omega)
  clear h ht htl hil
  have hres : Pg.bytes (Pg.tags y.m (t.map Pg.Tok.ch)) = tagL [105] (Esc.wr t) := by rw [hm, bytes_tags2, Pg.bytes_chars]
  have hseg : B (Pg.bytes (Pg.seg y t)) = _ := linked_yes y.l (Pg.tags y.m (t.map Pg.Tok.ch)) he
  rw [hres, tag_i] at hseg
  rw [← B_app, hseg]
  clear hres hseg
  generalize B (Esc.wr t) = T at *
  generalize B t = bt0 at *
  generalize B (Esc.wr y.l.data.toList) = L at *
  generalize B i = I at *
  have s1 : (ByteArray.mk #[60, 105, 62]).size = 3 := rfl
  have s2 : (ByteArray.mk #[60, 47, 105, 62]).size = 4 := rfl
  have s3 : (ByteArray.mk #[60, 98, 62]).size = 3 := rfl
  have s4 : (ByteArray.mk #[60, 47, 98, 62]).size = 4 := rfl
  have s5 : (ByteArray.mk #[60, 97, 32, 104, 114, 101, 102, 61, 34]).size = 9 := rfl
  have s6 : (ByteArray.mk #[34, 62]).size = 2 := rfl
  have s7 : (ByteArray.mk #[60, 47, 97, 62]).size = 4 := rfl
  go_enter Tryd.func84, Tryd.ntmps84
  go_wp2_with fail
  refine (CW.out _).mono ?_
  rintro e w1 ⟨rfl, rfl⟩
  go_wp2_with fail
  refine (CL.out _).mono ?_
  rintro e w2 ⟨rfl, rfl⟩
  go_wp2
  go_end0
  exact ⟨rfl, rfl⟩

set_option maxRecDepth 100000 in
set_option maxHeartbeats 1600000 in
theorem flush_3 (bt bl bi : Nat) (t : List UInt8) (y : It) (i : List UInt8) (w : World) (h : Vars3 w bt bl bi t y i) (ht : t.isEmpty = false) (htl : t.length ≤ 3000) (hil : i.length ≤ 1000000) (hl : y.l.size ≤ 24) (hm : y.m = 3) (he : y.l.toList.isEmpty = true) :
    Calls Tryd.prog 84 #[.pointer (some ⟨bt, 0, none⟩), .pointer (some ⟨bl, 0, none⟩), .pointer (some ⟨bi, 0, none⟩)] w fun e w' => e = .returned (.tuple #[]) ∧ w' = (w.setCell ⟨bi, 0, none⟩ (.string (B (i ++ Pg.bytes (Pg.seg y t))))).setCell ⟨bt, 0, none⟩ (.string ⟨#[]⟩) := by
  have c0 : w.cell? ⟨bt, 0, none⟩ = some (.string (B t)) := h.text.cell 0
  have c1 : w.cell? ⟨bl, 1, none⟩ = some (.int .i64 y.m) := h.last.cell 1
  have c2 : w.cell? ⟨bl, 2, none⟩ = some (.string y.l) := h.last.cell 2
  have c3 : w.cell? ⟨bi, 0, none⟩ = some (.string (B i)) := h.ins.cell 0
  have z0 := h.text.frozen 0
  have z3 := h.ins.frozen 0
  have n1 := h.nti
  rw [hm] at c1
  have hne : (B t).toList.isEmpty = false := by rw [Lib.toList_data, B_data]; exact ht
  have hlen : (B (Esc.wr t)).size ≤ 18000 := by rw [B_size]; have := (Esc.wr_len t).2; omega
  have hilz : (B i).size ≤ 1000000 := by rw [B_size]; exact hil
  have hlz : (B (Esc.wr y.l.data.toList)).size ≤ 144 := by
    have h1 := (Esc.wr_len y.l.data.toList).2
    rw [len_list] at h1
    rw [B_size]
    omega
  have CW : Hid (∀ w, Calls Tryd.prog 17 #[.string (B t)] w fun e w' => e = .returned (.string (B (Esc.wr t))) ∧ w' = w) := fun w => wso_any t w (by omega)
  have CL : Hid (∀ w, Calls Tryd.prog 17 #[.string y.l] w fun e w' => e = .returned (.string (B (Esc.wr y.l.data.toList))) ∧ w' = w) := fun w => wso_any y.l.data.toList w (by rw [len_list]; omega)
  clear h ht htl hil
  have hres : Pg.bytes (Pg.tags y.m (t.map Pg.Tok.ch)) = tagL [98] (tagL [105] (Esc.wr t)) := by rw [hm, bytes_tags3, Pg.bytes_chars]
  have hseg : B (Pg.bytes (Pg.seg y t)) = B (Pg.bytes (Pg.tags y.m (t.map Pg.Tok.ch))) := congrArg B (linked_no y.l (Pg.tags y.m (t.map Pg.Tok.ch)) he)
  rw [hres, tag_b, tag_i] at hseg
  rw [← B_app, hseg]
  clear hres hseg
  generalize B (Esc.wr t) = T at *
  generalize B t = bt0 at *
  generalize B (Esc.wr y.l.data.toList) = L at *
  generalize B i = I at *
  have s1 : (ByteArray.mk #[60, 105, 62]).size = 3 := rfl
  have s2 : (ByteArray.mk #[60, 47, 105, 62]).size = 4 := rfl
  have s3 : (ByteArray.mk #[60, 98, 62]).size = 3 := rfl
  have s4 : (ByteArray.mk #[60, 47, 98, 62]).size = 4 := rfl
  have s5 : (ByteArray.mk #[60, 97, 32, 104, 114, 101, 102, 61, 34]).size = 9 := rfl
  have s6 : (ByteArray.mk #[34, 62]).size = 2 := rfl
  have s7 : (ByteArray.mk #[60, 47, 97, 62]).size = 4 := rfl
  go_enter Tryd.func84, Tryd.ntmps84
  go_wp2_with fail
  refine (CW.out _).mono ?_
  rintro e w1 ⟨rfl, rfl⟩
  go_wp2
  go_end0
  exact ⟨rfl, rfl⟩

set_option maxRecDepth 100000 in
set_option maxHeartbeats 1600000 in
theorem flush_3l (bt bl bi : Nat) (t : List UInt8) (y : It) (i : List UInt8) (w : World) (h : Vars3 w bt bl bi t y i) (ht : t.isEmpty = false) (htl : t.length ≤ 3000) (hil : i.length ≤ 1000000) (hl : y.l.size ≤ 24) (hm : y.m = 3) (he : y.l.toList.isEmpty = false) :
    Calls Tryd.prog 84 #[.pointer (some ⟨bt, 0, none⟩), .pointer (some ⟨bl, 0, none⟩), .pointer (some ⟨bi, 0, none⟩)] w fun e w' => e = .returned (.tuple #[]) ∧ w' = (w.setCell ⟨bi, 0, none⟩ (.string (B (i ++ Pg.bytes (Pg.seg y t))))).setCell ⟨bt, 0, none⟩ (.string ⟨#[]⟩) := by
  have c0 : w.cell? ⟨bt, 0, none⟩ = some (.string (B t)) := h.text.cell 0
  have c1 : w.cell? ⟨bl, 1, none⟩ = some (.int .i64 y.m) := h.last.cell 1
  have c2 : w.cell? ⟨bl, 2, none⟩ = some (.string y.l) := h.last.cell 2
  have c3 : w.cell? ⟨bi, 0, none⟩ = some (.string (B i)) := h.ins.cell 0
  have z0 := h.text.frozen 0
  have z3 := h.ins.frozen 0
  have n1 := h.nti
  rw [hm] at c1
  have hne : (B t).toList.isEmpty = false := by rw [Lib.toList_data, B_data]; exact ht
  have hlen : (B (Esc.wr t)).size ≤ 18000 := by rw [B_size]; have := (Esc.wr_len t).2; omega
  have hilz : (B i).size ≤ 1000000 := by rw [B_size]; exact hil
  have hlz : (B (Esc.wr y.l.data.toList)).size ≤ 144 := by
    have h1 := (Esc.wr_len y.l.data.toList).2
    rw [len_list] at h1
    rw [B_size]
    omega
  have CW : Hid (∀ w, Calls Tryd.prog 17 #[.string (B t)] w fun e w' => e = .returned (.string (B (Esc.wr t))) ∧ w' = w) := fun w => wso_any t w (by omega)
  have CL : Hid (∀ w, Calls Tryd.prog 17 #[.string y.l] w fun e w' => e = .returned (.string (B (Esc.wr y.l.data.toList))) ∧ w' = w) := fun w => wso_any y.l.data.toList w (by rw [len_list]; omega)
  clear h ht htl hil
  have hres : Pg.bytes (Pg.tags y.m (t.map Pg.Tok.ch)) = tagL [98] (tagL [105] (Esc.wr t)) := by rw [hm, bytes_tags3, Pg.bytes_chars]
  have hseg : B (Pg.bytes (Pg.seg y t)) = _ := linked_yes y.l (Pg.tags y.m (t.map Pg.Tok.ch)) he
  rw [hres, tag_b, tag_i] at hseg
  rw [← B_app, hseg]
  clear hres hseg
  generalize B (Esc.wr t) = T at *
  generalize B t = bt0 at *
  generalize B (Esc.wr y.l.data.toList) = L at *
  generalize B i = I at *
  have s1 : (ByteArray.mk #[60, 105, 62]).size = 3 := rfl
  have s2 : (ByteArray.mk #[60, 47, 105, 62]).size = 4 := rfl
  have s3 : (ByteArray.mk #[60, 98, 62]).size = 3 := rfl
  have s4 : (ByteArray.mk #[60, 47, 98, 62]).size = 4 := rfl
  have s5 : (ByteArray.mk #[60, 97, 32, 104, 114, 101, 102, 61, 34]).size = 9 := rfl
  have s6 : (ByteArray.mk #[34, 62]).size = 2 := rfl
  have s7 : (ByteArray.mk #[60, 47, 97, 62]).size = 4 := rfl
  go_enter Tryd.func84, Tryd.ntmps84
  go_wp2_with fail
  refine (CW.out _).mono ?_
  rintro e w1 ⟨rfl, rfl⟩
  go_wp2_with fail
  refine (CL.out _).mono ?_
  rintro e w2 ⟨rfl, rfl⟩
  go_wp2
  go_end0
  exact ⟨rfl, rfl⟩

/-- What the inner function does where there is a run. -/
theorem flush_some (bt bl bi : Nat) (t : List UInt8) (y : It) (i : List UInt8) (w : World) (h : Vars3 w bt bl bi t y i) (ht : t.isEmpty = false) (htl : t.length ≤ 3000) (hil : i.length ≤ 1000000) (hl : y.l.size ≤ 24) (h0 : 0 ≤ y.m) (h3 : y.m ≤ 3) :
    Calls Tryd.prog 84 #[.pointer (some ⟨bt, 0, none⟩), .pointer (some ⟨bl, 0, none⟩), .pointer (some ⟨bi, 0, none⟩)] w fun e w' => e = .returned (.tuple #[]) ∧ w' = (w.setCell ⟨bi, 0, none⟩ (.string (B (i ++ Pg.bytes (Pg.seg y t))))).setCell ⟨bt, 0, none⟩ (.string ⟨#[]⟩) := by
  have hm : y.m = 0 ∨ y.m = 1 ∨ y.m = 2 ∨ y.m = 3 := by omega
  cases he : y.l.toList.isEmpty
  · rcases hm with hm | hm | hm | hm
    · exact flush_0l bt bl bi t y i w h ht htl hil hl hm he
    · exact flush_1l bt bl bi t y i w h ht htl hil hl hm he
    · exact flush_2l bt bl bi t y i w h ht htl hil hl hm he
    · exact flush_3l bt bl bi t y i w h ht htl hil hl hm he
  · rcases hm with hm | hm | hm | hm
    · exact flush_0 bt bl bi t y i w h ht htl hil hl hm he
    · exact flush_1 bt bl bi t y i w h ht htl hil hl hm he
    · exact flush_2 bt bl bi t y i w h ht htl hil hl hm he
    · exact flush_3 bt bl bi t y i w h ht htl hil hl hm he
/-- What the inner function does. -/
theorem flush_any (bt bl bi : Nat) (t : List UInt8) (y : It) (i : List UInt8) (w : World) (h : Vars3 w bt bl bi t y i) (htl : t.length ≤ 3000) (hil : i.length ≤ 1000000) (hy : t ≠ [] → y.l.size ≤ 24 ∧ 0 ≤ y.m ∧ y.m ≤ 3):
    Calls Tryd.prog 84 #[.pointer (some ⟨bt, 0, none⟩), .pointer (some ⟨bl, 0, none⟩), .pointer (some ⟨bi, 0, none⟩)] w fun e w' => e = .returned (.tuple #[]) ∧ Vars3 w' bt bl bi [] y (i ++ Pg.bytes (Pg.tail y t)) ∧ Kept w w' [bt, bi] := by
  cases ht : t.isEmpty
  · have hne : t ≠ [] := by intro e; rw [e] at ht; cases ht
    obtain ⟨g1, g2, g3⟩ := hy hne
    refine (flush_some bt bl bi t y i w h ht htl hil g1 g2 g3).mono ?_
    rintro e w' ⟨rfl, rfl⟩
    have e1 : Pg.tail y t = Pg.seg y t := by unfold Pg.tail; rw [ht]; rfl
    rw [e1]
    refine ⟨rfl, ⟨?_, ?_, ?_, h.nti, h.ntl, h.nli⟩, ?_⟩
    · exact Blk.set (h.text.other ⟨bi, 0, none⟩ _ h.nti) 0 _
    · exact (h.last.other ⟨bi, 0, none⟩ _ h.nli).other ⟨bt, 0, none⟩ _ h.ntl.symm
    · exact (h.ins.set 0 _).other ⟨bt, 0, none⟩ _ h.nti.symm
    · exact ((Kept.refl w _).setCell ⟨bi, 0, none⟩ _ (.inl (by simp))).setCell ⟨bt, 0, none⟩ _ (.inl (by simp))
  · have e0 : t = [] := by simpa using ht
    subst e0
    refine (flush_none bt bl bi y i w h).mono ?_
    rintro e w' ⟨rfl, rfl⟩
    refine ⟨rfl, ?_, Kept.refl _ _⟩
    have e1 : Pg.bytes (Pg.tail y []) = [] := rfl
    rw [e1, List.append_nil]
    exact h
end Go.Proofs.YtmifcioccnmlaaaDoor
