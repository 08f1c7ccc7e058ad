/-
  Texts of this proof, one behind the other.
-/
import Derived.Test.YtpcaiechaakhnabGreatDoorM10
import Derived.Deep.RegionWith
import Derived.Test.YtpcaiechaakhnabGreatDoorM7
import Derived.Lib.SlBytesConst
import Derived.Test.YtpcaiechaakhnabGreatDoorM5
import Derived.Test.YtpcaiechaakhnabGreatDoorRows
import Derived.ProofKit
import Derived.LaidMore
import Derived.Lay
import Derived.OpenShut
import Derived.Stop.Joined

/-
  export's page at work: where a list begins and ends, where a block ends.
-/
namespace Go.Proofs.YtpcaiechaakhnabGreatDoor
open Go.RowKit

/-- A page at work, as cells. -/
def wcells (p i : ByteArray) (o : Bool) : List Value := [.string p, .string i, .bool o]
theorem Blk.far {w w' : World} {b : Nat} {cs : List Value} {t : TypeId} (h : Blk w b cs t) (hb : Below w.heap.size w w') : Blk w' b cs t := (hb.block b h.lt).trans h
theorem set_below {w : World} (b j : Nat) (v : Value) : Below b w (w.setCell ⟨b, j, none⟩ v) := (Below.refl b w).setCell (Nat.le_refl b) v

theorem lists_ft : Pg.bytes (Pg.lists false true) = [60, 117, 108, 62] := rfl
theorem lists_tf : Pg.bytes (Pg.lists true false) = [60, 47, 117, 108, 62] := rfl
theorem lists_ff : Pg.bytes (Pg.lists false false) = [] := rfl
theorem lists_tt : Pg.bytes (Pg.lists true true) = [] := rfl

set_option maxHeartbeats 800000 in
theorem turn_any (b : Nat) (P : List UInt8) (i : ByteArray) (o n : Bool) (w : World) (hB : Blk w b (wcells (B P) i o) 72) (hP : P.length ≤ 1000000) :
    Calls Tryz.prog 44 #[.pointer (some ⟨b, 0, none⟩), .bool n] w fun e w' => e = .returned (.tuple #[]) ∧ Blk w' b (wcells (B (P ++ Pg.bytes (Pg.lists o n))) i n) 72 ∧ Below b w w' := by
  have c0 : w.cell? ⟨b, 0, none⟩ = some (.string (B P)) := hB.cell 0
  have c1 : w.cell? ⟨b, 1, none⟩ = some (.string i) := hB.cell 1
  have c2 : w.cell? ⟨b, 2, none⟩ = some (.bool o) := hB.cell 2
  have z0 := hB.frozen 0
  have z2 := hB.frozen 2
  have HB : Hid (Blk w b (wcells (B P) i o) 72) := hB
  have hz := B_size P
  clear hB
  have s1 : (ByteArray.mk #[60, 117, 108, 62]).size = 4 := rfl
  have s2 : (ByteArray.mk #[60, 47, 117, 108, 62]).size = 5 := rfl
  cases o
  · cases n
    · rw [lists_ff, List.append_nil]
      go_enter Tryz.func44, Tryz.ntmps44
      go_wp2
      go_end0
      exact ⟨rfl, HB.out.set 2 _, set_below _ _ _⟩
    · rw [lists_ft, ← B_app]
      go_enter Tryz.func44, Tryz.ntmps44
      go_wp2
      go_end0
      exact ⟨rfl, (HB.out.set 0 _).set 2 _, (set_below _ _ _).trans (set_below _ _ _)⟩
  · cases n
    · rw [lists_tf, ← B_app]
      go_enter Tryz.func44, Tryz.ntmps44
      go_wp2
      go_end0
      exact ⟨rfl, (HB.out.set 0 _).set 2 _, (set_below _ _ _).trans (set_below _ _ _)⟩
    · rw [lists_tt, List.append_nil]
      go_enter Tryz.func44, Tryz.ntmps44
      go_wp2
      go_end0
      exact ⟨rfl, HB.out.set 2 _, set_below _ _ _⟩

def bcells : Array Value := #[.string ⟨#[112]⟩, .string ⟨#[104, 49]⟩, .string ⟨#[108, 105]⟩, .string ⟨#[104, 50]⟩]
/-- The variable 'blockNames' holds what its initialiser lays. -/
def Blocks (w : World) : Prop := ∃ t fr, w.heap[1]? = some (.cells bcells t fr)
theorem Blocks.below {w w' : World} {b : Nat} (h : Blocks w) (hb : Below b w w') (h6 : 1 < b) : Blocks w' := by
  obtain ⟨t, fr, hg⟩ := h
  exact ⟨t, fr, (hb.block 1 h6).trans hg⟩
theorem Blocks.at_ {w : World} (h : Blocks w) (k : Nat) (hk : k < 4) : w.cell? ⟨1, k, none⟩ = some (.string (B (Pg.name (Pg.kind k)))) := by
  obtain ⟨t, fr, hg⟩ := h
  have hm : k = 0 ∨ k = 1 ∨ k = 2 ∨ k = 3 := by omega
  unfold World.cell?
  rw [hg]
  rcases hm with rfl | rfl | rfl | rfl <;> rfl
theorem name_len (n : Pg.Nm) : (Pg.name n).length ≤ 2 := by
  obtain ⟨x, y, z⟩ := n
  cases x <;> cases y <;> cases z <;> decide

set_option maxRecDepth 100000 in
set_option maxHeartbeats 1600000 in
theorem endb_any (b k : Nat) (P I : List UInt8) (o : Bool) (w : World) (hB : Blk w b (wcells (B P) (B I) o) 72) (hT : Blocks w) (hb6 : 1 < b) (hk : k < 4) (hP : P.length ≤ 900000) (hI : I.length ≤ 1000000) :
    Calls Tryz.prog 42 #[.pointer (some ⟨b, 0, none⟩), .int .i64 k] w fun e w' => e = .returned (.tuple #[]) ∧ Blk w' b (wcells (B (P ++ Pg.bytes (Pg.lists o ((k : Int) == 2)) ++ tagL (Pg.name (Pg.kind k)) I)) (B []) ((k : Int) == 2)) 72 ∧ Below b w w' := by
  have C1 : Hid (Calls Tryz.prog 44 #[.pointer (some ⟨b, 0, none⟩), .bool ((k : Int) == 2)] w fun e w' => e = .returned (.tuple #[]) ∧ Blk w' b (wcells (B (P ++ Pg.bytes (Pg.lists o ((k : Int) == 2)))) (B I) ((k : Int) == 2)) 72 ∧ Below b w w') := turn_any b P (B I) o _ w hB (by omega)
  have C2 : Hid (∀ w, Calls Tryz.prog 72 #[.string (B (Pg.name (Pg.kind k))), .string (B I)] w fun e w' => e = .returned (.string (B (tagL (Pg.name (Pg.kind k)) I))) ∧ w' = w) := fun w => tagged_any _ I w (by have := name_len (Pg.kind k); omega) (by omega)
  have hQ : (P ++ Pg.bytes (Pg.lists o ((k : Int) == 2))).length ≤ 1000000 := by
    have := Pg.lists_len o ((k : Int) == 2)
    rw [List.length_append]
    omega
  have hG : (tagL (Pg.name (Pg.kind k)) I).length ≤ 1000100 := by
    rw [tagL_len]
    have := name_len (Pg.kind k)
    omega
  have HT : Hid (Blocks w) := hT
  clear hB hP hT
  generalize P ++ Pg.bytes (Pg.lists o ((k : Int) == 2)) = Q at *
  have HN : Hid (∀ w, Blocks w → w.cell? ⟨1, k, none⟩ = some (.string (B (Pg.name (Pg.kind k))))) := fun w h => h.at_ k hk
  generalize tagL (Pg.name (Pg.kind k)) I = G at *
  generalize B (Pg.name (Pg.kind k)) = nm at *
  rw [← B_app]
  have q1 := B_size Q
  have q2 := B_size G
  go_enter Tryz.func42, Tryz.ntmps42
  go_wp2_with fail
  refine C1.out.mono ?_
  rintro e w1 ⟨rfl, hB, hb⟩
  have c0 : w1.cell? ⟨b, 0, none⟩ = some (.string (B Q)) := hB.cell 0
  have c1 : w1.cell? ⟨b, 1, none⟩ = some (.string (B I)) := hB.cell 1
  have z0 := hB.frozen 0
  have z1 := hB.frozen 1
  have n1 := HN.out w1 (HT.out.below hb hb6)
  have HB : Hid (Blk w1 b (wcells (B Q) (B I) ((k : Int) == 2)) 72) := hB
  have H1 : Hid (Below b w w1) := hb
  have hne : (1 : Nat) ≠ b := by omega
  clear hB hb HN HT
  go_wp2
  go_region_with (go_at_call 72; refine (C2.out _).mono ?_; rintro e w3 ⟨rfl, rfl⟩)
  all_goals
    go_wp2
    go_end0
    exact ⟨rfl, Blk.set (Blk.set (w := w1) HB.out 0 _) 1 _, H1.out.trans ((Below.trans (set_below b 0 _) (set_below b 1 _)).drew)⟩
end Go.Proofs.YtpcaiechaakhnabGreatDoor

/-
  The reference's page at work: a run is written.
-/
namespace Go.Proofs.YtpcaiechaakhnabGreatDoor
open Go.RowKit

/-- The reference's three variables that its inner function reads and writes: the text of a run, the run's last item, what stands in the block so far. -/
structure Vars3 (w : World) (bt bl bi : Nat) (t : List UInt8) (y : It) (i : List UInt8) : Prop where
  text : Blk w bt [.string (B t)] 9
  last : Blk w bl [.int .u8 y.c.toNat, .int .i64 y.m, .string y.l] 39
  ins : Blk w bi [.string (B i)] 9
  nti : bt ≠ bi
  ntl : bt ≠ bl
  nli : bl ≠ bi
theorem Vars3.far {w w' : World} {bt bl bi : Nat} {t : List UInt8} {y : It} {i : List UInt8} (h : Vars3 w bt bl bi t y i) (hb : Below w.heap.size w w') : Vars3 w' bt bl bi t y i :=
  ⟨(hb.block _ h.text.lt).trans h.text, (hb.block _ h.last.lt).trans h.last, (hb.block _ h.ins.lt).trans h.ins, h.nti, h.ntl, h.nli⟩

theorem wso_any (s : List UInt8) (w : World) (hs : s.length ≤ 20000) : Calls Tryz.prog 20 #[.string (B s)] w fun e w' => e = .returned (.string (B (Esc.wr s))) ∧ w' = w :=
  writtenSo_any (B s) w (by rw [B_size]; exact hs)

theorem tag_i (T : List UInt8) : B (tagL [105] T) = ⟨#[60, 105, 62]⟩ ++ B T ++ ⟨#[60, 47, 105, 62]⟩ := by
  show B ([60, 105, 62] ++ T ++ [60, 47] ++ [105] ++ [62]) = _
  rw [List.append_assoc, List.append_assoc, ← B_app, ← B_app]
  rfl
theorem tag_b (T : List UInt8) : B (tagL [98] T) = ⟨#[60, 98, 62]⟩ ++ B T ++ ⟨#[60, 47, 98, 62]⟩ := by
  show B ([60, 98, 62] ++ T ++ [60, 47] ++ [98] ++ [62]) = _
  rw [List.append_assoc, List.append_assoc, ← B_app, ← B_app]
  rfl

end Go.Proofs.YtpcaiechaakhnabGreatDoor

/-
  The reference's PageOf of any document.
-/
namespace Go.Proofs.YtpcaiechaakhnabGreatDoor
open Go.RowKit

/-- What holds of an item of a document. -/
structure Fine (x : It) : Prop where
  lo : 0 ≤ x.m
  hi : x.m ≤ 3
  short : x.l.size ≤ 24
  ends : Dc.ends x = true → x.l = B []
theorem Fine.ok {x : It} (h : Fine x) : Pg.Ok x := ⟨h.lo, h.hi, h.ends⟩
/-- The reference's loop: what stands in its variables behind the first k items. -/
structure Loop (w0 w : World) (l : List It) (k : Nat) (o li : Value) : Prop where
  out : o = .string (B (Pg.bytes (Pg.run (l.take k)).page))
  list : li = .bool (Pg.run (l.take k)).list
  vars : ∃ y, Vars3 w (w0.heap.size + 1) (w0.heap.size + 2) w0.heap.size (Pg.run (l.take k)).text y (Pg.bytes (Pg.run (l.take k)).ins) ∧ ((Pg.run (l.take k)).text ≠ [] → y = (Pg.run (l.take k)).last)
  below : Below w0.heap.size w0 w

theorem conv_at (d : UInt8) (g : Nat) (W : World) (h : W.cell? ⟨g, 0, none⟩ = some (.int .u8 d.toNat)) : (convert 22 9 (.slice (some ⟨g, 0, none⟩) 1 1)).run Tryz.prog W = .ok (.string ⟨#[d]⟩) W := by
  have := run_convert_bytes_back (P := Tryz.prog) W 22 9 5 ⟨g, 0, none⟩ 1 [d] Tryz.underlying22 Tryz.underlying5 Tryz.underlying9 (fun j hj => by
    simp at hj
    subst hj
    exact h)
  exact this
theorem conv_box (x : It) (w : World) : (convert 22 9 (.slice (some ⟨w.heap.size + 1, 0, none⟩) 1 1)).run Tryz.prog ((w.alloc (.cells #[.int .u8 x.c.toNat, .int .i64 x.m, .string x.l] 39)).alloc (.cells #[.int .u8 x.c.toNat] 5)).drew = .ok (.string ⟨#[x.c]⟩) ((w.alloc (.cells #[.int .u8 x.c.toNat, .int .i64 x.m, .string x.l] 39)).alloc (.cells #[.int .u8 x.c.toNat] 5)).drew := by
  refine conv_at x.c _ _ ?_
  exact (Blk.newAt (w.alloc (.cells #[.int .u8 x.c.toNat, .int .i64 x.m, .string x.l] 39)) (w.heap.size + 1) [.int .u8 x.c.toNat] 5 (by simp)).cell 0

/-- What the loop lays of a character. -/
def put4 (h : Nat) (t : List UInt8) (x : It) (w : World) : World := (((w.setCell ⟨h + 1, 0, none⟩ (.string (B t ++ ⟨#[x.c]⟩))).setCell ⟨h + 1 + 1, 0, none⟩ (.int .u8 x.c.toNat)).setCell ⟨h + 1 + 1, 1, none⟩ (.int .i64 x.m)).setCell ⟨h + 1 + 1, 2, none⟩ (.string x.l)
theorem put_char {h : Nat} {w : World} {t i : List UInt8} {y : It} (x : It) (hV : Vars3 w (h + 1) (h + 2) h t y i) : Vars3 (put4 h t x w) (h + 1) (h + 2) h (t ++ [x.c]) x i ∧ Below h w (put4 h t x w) := by
  refine ⟨⟨?_, ?_, ?_, hV.nti, hV.ntl, hV.nli⟩, ?_⟩
  · have h1 := hV.text.set 0 (.string (B t ++ ⟨#[x.c]⟩))
    rw [show B t ++ (⟨#[x.c]⟩ : ByteArray) = B (t ++ [x.c]) from B_app t [x.c]] at h1
    unfold put4
    rw [show B t ++ (⟨#[x.c]⟩ : ByteArray) = B (t ++ [x.c]) from B_app t [x.c]]
    exact ((h1.other ⟨h + 1 + 1, 0, none⟩ _ (by simp)).other ⟨h + 1 + 1, 1, none⟩ _ (by simp)).other ⟨h + 1 + 1, 2, none⟩ _ (by simp)
  · exact (((hV.last.other ⟨h + 1, 0, none⟩ _ (by simp)).set 0 _).set 1 _).set 2 _
  · exact (((hV.ins.other ⟨h + 1, 0, none⟩ _ (by simp)).other ⟨h + 1 + 1, 0, none⟩ _ (by simp; omega)).other ⟨h + 1 + 1, 1, none⟩ _ (by simp; omega)).other ⟨h + 1 + 1, 2, none⟩ _ (by simp; omega)
  · exact ((((Below.refl h w).setCell (p := ⟨h + 1, 0, none⟩) (by simp) _).setCell (p := ⟨h + 1 + 1, 0, none⟩) (by simp; omega) _).setCell (p := ⟨h + 1 + 1, 1, none⟩) (by simp; omega) _).setCell (p := ⟨h + 1 + 1, 2, none⟩) (by simp; omega) _
theorem two_new (w : World) (o p : Obj) : Below w.heap.size w ((w.alloc o).alloc p).drew := (((Below.refl _ _).alloc (Nat.le_refl _) _).alloc (by simp) _).drew
theorem one_new (w : World) (o : Obj) : Below w.heap.size w (w.alloc o).drew := ((Below.refl _ _).alloc (Nat.le_refl _) _).drew

theorem conv_new (d : UInt8) (W : World) : (convert 22 9 (.slice (some ⟨W.heap.size, 0, none⟩) 1 1)).run Tryz.prog (W.alloc (.cells #[.int .u8 d.toNat] 5)).drew = .ok (.string ⟨#[d]⟩) (W.alloc (.cells #[.int .u8 d.toNat] 5)).drew :=
  conv_at d _ _ ((Blk.new W [.int .u8 d.toNat] 5).cell 0)
theorem last_fine : ∀ (l : List It) (s : Pg.St), (s.text ≠ [] → Fine s.last) → (∀ x ∈ l, Fine x) → ((l.foldl Pg.step s).text ≠ [] → Fine (l.foldl Pg.step s).last)
  | [], _, hs, _ => hs
  | x :: l, s, hs, hl => by
    rw [List.foldl_cons]
    refine last_fine l _ ?_ (fun y hy => hl y (by simp [hy]))
    have hx := hl x (by simp)
    unfold Pg.step
    cases Dc.ends x
    · simp only [Bool.false_eq_true, if_false]
      split <;> exact fun _ => hx
    · exact fun h => absurd rfl h
theorem run_fine {l : List It} (hF : ∀ x ∈ l, Fine x) (k : Nat) : (Pg.run (l.take k)).text ≠ [] → Fine (Pg.run (l.take k)).last :=
  last_fine (l.take k) Pg.st0 (fun h => absurd rfl h) (fun x hx => hF x (List.mem_of_mem_take hx))
theorem box_blk (x : It) (w : World) : Blk (boxed x w) w.heap.size [.int .u8 x.c.toNat, .int .i64 x.m, .string x.l] 39 := Blk.new w [.int .u8 x.c.toNat, .int .i64 x.m, .string x.l] 39

theorem shut3 {h : Nat} {w : World} {t i : List UInt8} {y : It} (hV : Vars3 w (h + 1) (h + 2) h t y i) : Vars3 (w.setCell ⟨h, 0, none⟩ (.string ⟨#[]⟩)) (h + 1) (h + 2) h t y [] ∧ Below h w (w.setCell ⟨h, 0, none⟩ (.string ⟨#[]⟩)) :=
  ⟨⟨hV.text.other ⟨h, 0, none⟩ _ (by simp), hV.last.other ⟨h, 0, none⟩ _ (by simp), hV.ins.set 0 _, hV.nti, hV.ntl, hV.nli⟩, (Below.refl h w).setCell (Nat.le_refl _) _⟩
theorem out_eq (P L nm I : List UInt8) : B (P ++ L ++ tagL nm I) = B P ++ B L ++ ⟨#[60]⟩ ++ B nm ++ ⟨#[62]⟩ ++ B I ++ ⟨#[60, 47]⟩ ++ B nm ++ ⟨#[62]⟩ := by
  unfold tagL
  simp only [← B_app]
  have e1 : B [60] = ⟨#[60]⟩ := rfl
  have e2 : B [62] = ⟨#[62]⟩ := rfl
  have e3 : B [60, 47] = ⟨#[60, 47]⟩ := rfl
  rw [e1, e2, e3]
  simp only [ByteArray.append_assoc]
theorem out_eq0 (P nm I : List UInt8) : B (P ++ [] ++ tagL nm I) = B P ++ ⟨#[60]⟩ ++ B nm ++ ⟨#[62]⟩ ++ B I ++ ⟨#[60, 47]⟩ ++ B nm ++ ⟨#[62]⟩ := by
  rw [List.append_nil]
  have := out_eq [] P nm I
  have e0 : B ([] : List UInt8) ++ B P = B P := by rw [B_app]; rfl
  rw [e0] at this
  exact this

/-- The world in which the reference's loop begins. -/
def laid3 (w : World) : World := ((w.alloc (.cells #[.string ⟨#[]⟩] 9)).alloc (.cells #[.string ⟨#[]⟩] 9)).alloc (.cells #[.int .u8 0, .int .i64 0, .string ⟨#[]⟩] 39)

theorem start3 (l : List It) (w : World) : Loop w (laid3 w) l 0 (.string ⟨#[]⟩) (.bool false) := by
  have hs : (laid3 w).heap.size = w.heap.size + 3 := by simp [laid3]
  refine ⟨rfl, rfl, ⟨⟨0, 0, ⟨#[]⟩⟩, ⟨?_, ?_, ?_, by omega, by omega, by omega⟩, fun h => absurd rfl h⟩, ?_⟩
  · exact (Blk.newAt (w.alloc (.cells #[.string ⟨#[]⟩] 9)) (w.heap.size + 1) [.string ⟨#[]⟩] 9 (by simp)).alloc _
  · exact Blk.newAt ((w.alloc (.cells #[.string ⟨#[]⟩] 9)).alloc (.cells #[.string ⟨#[]⟩] 9)) (w.heap.size + 2) [.int .u8 0, .int .i64 0, .string ⟨#[]⟩] 39 (by simp)
  · exact ((Blk.new w [.string ⟨#[]⟩] 9).alloc _).alloc _
  · exact (((Below.refl _ _).alloc (Nat.le_refl _) _).alloc (by simp) _).alloc (by simp; omega) _
/-- What a page at work may weigh. -/
theorem weighs {l : List It} (hF : ∀ x ∈ l, Fine x) (h80 : l.length ≤ 80) (k : Nat) : (Pg.bytes (Pg.run (l.take k)).page).length ≤ 16480 ∧ (Pg.bytes (Pg.run (l.take k)).ins).length ≤ 16480 ∧ (Pg.run (l.take k)).text.length ≤ 3000 ∧ (Pg.bytes (Pg.flush (Pg.run (l.take k))).ins).length ≤ 16480 := by
  have hall : ∀ x ∈ l.take k, x.l.size ≤ 24 := fun x hx => (hF x (List.mem_of_mem_take hx)).short
  have h := Pg.run_weight (l.take k) hall
  have h2 : (l.take k).length ≤ l.length := List.length_take_le' _ _
  have h3 := Pg.flush_weight (Pg.run (l.take k)) (Pg.last_short (l.take k) Pg.st0 (fun h => absurd rfl h) hall)
  have e1 : Pg.weight (Pg.run (l.take k)) = (Pg.bytes (Pg.run (l.take k)).page).length + (Pg.bytes (Pg.run (l.take k)).ins).length + Pg.pend (Pg.run (l.take k)).text := rfl
  have e2 : Pg.weight (Pg.flush (Pg.run (l.take k))) = (Pg.bytes (Pg.flush (Pg.run (l.take k))).page).length + (Pg.bytes (Pg.flush (Pg.run (l.take k))).ins).length + 0 := rfl
  refine ⟨by omega, by omega, ?_, by omega⟩
  unfold Pg.pend at e1
  cases ht : (Pg.run (l.take k)).text.isEmpty
  · rw [ht] at e1
    simp at e1
    omega
  · have : (Pg.run (l.take k)).text = [] := by simpa using ht
    rw [this]
    simp

theorem tail_as {S : Pg.St} {y : It} (h : S.text ≠ [] → y = S.last) : Pg.tail y S.text = Pg.tail S.last S.text := by
  by_cases ht : S.text = []
  · rw [ht]; rfl
  · rw [h ht]
theorem Loop.go {w w2 : World} {l : List It} {k : Nat} {x : It} {S : Pg.St} (hR : Pg.run (l.take (k + 1)) = Pg.step S x) (he : Dc.ends x = false) (hd : S.text.isEmpty = true ∨ Pg.diff S.last x = false)
    (hV : Vars3 w2 (w.heap.size + 1) (w.heap.size + 2) w.heap.size (S.text ++ [x.c]) x (Pg.bytes S.ins)) (hb : Below w.heap.size w w2) : Loop w w2 l (k + 1) (.string (B (Pg.bytes S.page))) (.bool S.list) := by
  have hs : Pg.step S x = { S with text := S.text ++ [x.c], last := x } := by
    unfold Pg.step
    rw [if_neg (by rw [he]; decide), if_neg]
    rcases hd with h | h <;> rw [h] <;> simp
  rw [hs] at hR
  refine ⟨by rw [hR], by rw [hR], ⟨x, ?_, fun _ => by rw [hR]⟩, hb⟩
  rw [hR]
  exact hV
theorem Loop.new {w w2 : World} {l : List It} {k : Nat} {x y : It} {S : Pg.St} (hR : Pg.run (l.take (k + 1)) = Pg.step S x) (he : Dc.ends x = false) (ht : S.text.isEmpty = false) (hd : Pg.diff S.last x = true) (hy : S.text ≠ [] → y = S.last)
    (hV : Vars3 w2 (w.heap.size + 1) (w.heap.size + 2) w.heap.size [x.c] x (Pg.bytes S.ins ++ Pg.bytes (Pg.tail y S.text))) (hb : Below w.heap.size w w2) : Loop w w2 l (k + 1) (.string (B (Pg.bytes S.page))) (.bool S.list) := by
  have hs : Pg.step S x = { Pg.flush S with text := [x.c], last := x } := by
    unfold Pg.step
    rw [if_neg (by rw [he]; decide), if_pos (by rw [ht, hd]; rfl)]
  rw [hs] at hR
  refine ⟨by rw [hR]; rfl, by rw [hR]; rfl, ⟨x, ?_, fun _ => by rw [hR]⟩, hb⟩
  rw [hR]
  rw [tail_as hy, ← Pg.bytes_append] at hV
  exact hV
theorem Loop.stop {w w2 : World} {l : List It} {k : Nat} {x y : It} {S : Pg.St} (hR : Pg.run (l.take (k + 1)) = Pg.step S x) (he : Dc.ends x = true) (hy : S.text ≠ [] → y = S.last)
    (hV : Vars3 w2 (w.heap.size + 1) (w.heap.size + 2) w.heap.size [] y []) (hb : Below w.heap.size w w2) :
    Loop w w2 l (k + 1) (.string (B (Pg.bytes S.page ++ Pg.bytes (Pg.lists S.list (x.m == 2)) ++ tagL (Pg.name (Pg.kind x.m)) (Pg.bytes S.ins ++ Pg.bytes (Pg.tail y S.text))))) (.bool (x.m == 2)) := by
  have hs : Pg.step S x = Pg.endB (Pg.flush S) x.m := by
    unfold Pg.step
    rw [if_pos he]
  rw [hs] at hR
  refine ⟨?_, by rw [hR]; rfl, ⟨y, ?_, fun h => by rw [hR] at h; exact absurd rfl h⟩, hb⟩
  · rw [hR, tail_as hy]
    show _ = Value.string (B (Pg.bytes (S.page ++ Pg.lists S.list (x.m == 2) ++ .op (Pg.kind x.m) :: ((S.ins ++ Pg.tail S.last S.text) ++ [.cl (Pg.kind x.m)]))))
    rw [Pg.bytes_append, Pg.bytes_append, Pg.bytes_cons, Pg.bytes_append, Pg.bytes_append, Pg.bytes_cons, Pg.bytes_nil]
    simp [tagL, Pg.enc]
  · rw [hR]
    exact hV

end Go.Proofs.YtpcaiechaakhnabGreatDoor

/-
  export.Page of any list of items.
-/
namespace Go.Proofs.YtpcaiechaakhnabGreatDoor
open Go.RowKit

theorem errs_all : ∀ {l : List It}, Dc.errs l = 0 → ∀ x ∈ l, Dc.err x = 0
  | [], _, x, hx => by simp at hx
  | y :: t, h, x, hx => by
    rw [Dc.errs] at h
    by_cases hy : Dc.err y = 0
    · rw [if_pos hy] at h
      rcases List.mem_cons.1 hx with rfl | hx
      · exact hy
      · exact errs_all h x hx
    · rw [if_neg hy] at h
      exact absurd h hy
theorem fine_of {x : It} (h : Dc.err x = 0) : Fine x := by
  unfold Dc.err at h
  split at h
  · cases h
  split at h
  · cases h
  rename_i h1 hm
  split at h
  · cases h
  rename_i hl
  have hm' : Dc.marks x = true := by simpa using hm
  have hl' : Dc.link x = true := by simpa using hl
  unfold Dc.marks at hm'
  simp at hm'
  refine ⟨hm'.1, hm'.2, ?_, fun he => ?_⟩
  · unfold Dc.link at hl'
    cases h0 : x.l.toList.isEmpty
    · rw [h0] at hl'
      simp at hl'
      have hmay := hl'.2
      unfold Lk.may at hmay
      simp only [Bool.and_eq_true, decide_eq_true_eq] at hmay
      have := hmay.1.1.2
      rw [len_list] at this
      exact this
    · have : x.l.data.toList = [] := by rw [Lib.toList_data] at h0; simpa using h0
      have h2 := len_list x.l
      rw [this] at h2
      rw [← h2]
      simp
  · unfold Dc.link at hl'
    rw [he] at hl'
    have h0 : x.l.toList.isEmpty = true := by simpa using hl'
    apply ext_list
    rw [B_data]
    rw [Lib.toList_data] at h0
    simpa using h0
/-- What holds of a document. -/
structure Docu (l : List It) : Prop where
  fine : ∀ x ∈ l, Fine x
  few : l.length ≤ 80
  some : l ≠ []
  last : ∃ k x, l = k ++ [x] ∧ Dc.ends x = true
theorem docu_of {l : List It} (h : Dc.check l = 0) : Docu l := by
  have h80 := Dc.check_ok h
  by_cases h0 : Dc.errs l = 0
  · by_cases hn : l.length = 0
    · rw [Dc.check_none h0 hn] at h; cases h
    · have hl := Dc.check_last (l := l) (k := l.length - 1) (by omega) h0 (by omega) (by omega)
      rw [h] at hl
      have he : Dc.ends (l[l.length - 1]'(by omega)) = true := by
        cases hc : Dc.ends (l[l.length - 1]'(by omega))
        · rw [hc] at hl; cases hl
        · rfl
      have hne : l ≠ [] := by intro e; rw [e] at hn; exact hn rfl
      refine ⟨fun x hx => fine_of (errs_all h0 x hx), h80, hne, l.dropLast, l.getLast hne, (List.dropLast_concat_getLast hne).symm, ?_⟩
      rw [List.getLast_eq_getElem]
      exact he
  · rw [Dc.check_errs (by omega) h0] at h
    exact absurd h h0

/-- The four variables that the program reads hold what their initialisers lay. -/
structure Tabs (w : World) : Prop where
  sch : Sch w
  pairs : Pairs w
  blocks : Blocks w
  marks : Marks w
theorem Tabs.below {w w' : World} (h : Tabs w) (hb : Below w.heap.size w w') : Tabs w' :=
  ⟨h.sch.below hb, h.pairs.under hb, by obtain ⟨t, fr, hg⟩ := h.blocks; exact ⟨t, fr, (hb.block 1 (Array.getElem?_eq_some_iff.1 hg).1).trans hg⟩, h.marks.below hb⟩
theorem Tabs.big {w : World} (h : Tabs w) : 2 < w.heap.size := by
  obtain ⟨t, fr, hg⟩ := h.marks
  exact (Array.getElem?_eq_some_iff.1 hg).1

theorem At.drop {w : World} {b off : Nat} {l : List It} (h : At w b off l) (q : Nat) : At w b (off + q * 3) (l.drop q) := by
  have e : ∀ i, off + q * 3 + i * 3 = off + (q + i) * 3 := fun i => by rw [Nat.add_mul]; omega
  refine ⟨fun i hi => ?_, fun i hi => ?_, fun i hi => ?_⟩
  all_goals
    have h2 : q + i < l.length := by simp at hi; omega
    rw [List.getElem_drop, e]
  · exact h.c _ h2
  · exact h.m _ h2
  · exact h.l _ h2
/-- Some items of a document. -/
theorem Doc.part {w : World} {b off n cap : Nat} {l : List It} (hD : Doc w (some ⟨b, off, none⟩) n cap l) (hA : At w b off l) (q q' : Nat) (h1 : q ≤ q') (h2 : q' ≤ n) :
    Doc w (some ⟨b, off + q * 3, none⟩) (q' - q) (cap - q) ((l.drop q).take (q' - q)) ∧ At w b (off + q * 3) ((l.drop q).take (q' - q)) := by
  have hA2 := (hA.drop q).take (q' - q)
  have hl := hD.len
  have hr := hD.room
  have hb := hD.big
  refine ⟨⟨fun x hx => hD.fit x (List.mem_of_mem_drop (List.mem_of_mem_take hx)), by simp; omega, by omega, by omega, fun _ => ⟨_, _, rfl, hA2⟩⟩, hA2⟩
theorem end_bytes (S : Pg.St) (m : Int) : Pg.bytes (Pg.endB S m).page = Pg.bytes S.page ++ Pg.bytes (Pg.lists S.list (m == 2)) ++ tagL (Pg.name (Pg.kind m)) (Pg.bytes S.ins) := by
  show Pg.bytes (S.page ++ Pg.lists S.list (m == 2) ++ .op (Pg.kind m) :: (S.ins ++ [.cl (Pg.kind m)])) = _
  rw [Pg.bytes_append, Pg.bytes_append, Pg.bytes_cons, Pg.bytes_append, Pg.bytes_cons, Pg.bytes_nil]
  simp [tagL, Pg.enc]
/-- Where the program's loop stands: behind k runs, which are q items. -/
structure Stand (l : List It) (ps : List Nat) (w1 w : World) (k q : Nat) : Prop where
  le : q ≤ l.length
  place : q = l.length ∨ Dc.runB l q = true
  left : ps.drop k = Pg.from_ l l.length q
  blk : Blk w w1.heap.size (wcells (B (Pg.bytes (Pg.flush (Pg.run (l.take q))).page)) (B (Pg.bytes (Pg.flush (Pg.run (l.take q))).ins)) (Pg.flush (Pg.run (l.take q))).list) 72
  below : Below w1.heap.size w1 w
theorem Stand.lt {l : List It} {ps : List Nat} {w1 w : World} {k q : Nat} (h : Stand l ps w1 w k q) (hk : k < ps.length) : q < l.length := by
  by_cases hq : q < l.length
  · exact hq
  · have e : q = l.length := by have := h.le; omega
    have hl := h.left
    rw [e, Pg.from_end] at hl
    have := congrArg List.length hl
    simp at this
    omega
theorem Stand.head {l : List It} {ps : List Nat} {w1 w : World} {k q : Nat} (h : Stand l ps w1 w k q) (hk : k < ps.length) : ps[k]? = some q ∧ ps.drop (k + 1) = Pg.from_ l l.length (q + 1) := by
  have hq := h.lt hk
  have hb : Dc.runB l q = true := by rcases h.place with e | e; omega; exact e
  have hl := h.left
  rw [Pg.from_head l _ q hq hb] at hl
  refine ⟨?_, ?_⟩
  · have := congrArg (fun z => z[0]?) hl
    simpa using this
  · have := congrArg (List.drop 1) hl
    simpa using this
theorem Stand.end_ {l : List It} {ps : List Nat} {w1 w : World} {k q : Nat} (h : Stand l ps w1 w k q) (hk : ps.length ≤ k) : q = l.length := by
  rcases h.place with e | e
  · exact e
  · by_cases hq : q < l.length
    · have hl := h.left
      rw [Pg.from_head l _ q hq e, List.drop_eq_nil_of_le hk] at hl
      cases hl
    · have := h.le; omega
theorem Stand.stop {l : List It} {ps : List Nat} {w1 w w2 : World} {k q : Nat} (h : Stand l ps w1 w k q) (hk : k < ps.length) (hq : q < l.length) (he : Dc.ends l[q] = true)
    (hB : Blk w2 w1.heap.size (wcells (B (Pg.bytes (Pg.flush (Pg.run (l.take q))).page ++ Pg.bytes (Pg.lists (Pg.flush (Pg.run (l.take q))).list (l[q].m == 2)) ++ tagL (Pg.name (Pg.kind l[q].m)) (Pg.bytes (Pg.flush (Pg.run (l.take q))).ins))) (B []) (l[q].m == 2)) 72) (hb : Below w1.heap.size w1 w2) : Stand l ps w1 w2 (k + 1) (q + 1) := by
  refine ⟨by omega, ?_, (h.head hk).2, ?_, hb⟩
  · by_cases h1 : q + 1 = l.length
    · exact .inl h1
    · right
      rw [Dc.runB_succ (by omega)]
      unfold Dc.turns
      rw [he]
      simp
  · rw [Pg.end_at l q hq he, end_bytes]
    exact hB
theorem last_at {l : List It} (hU : Docu l) (j : Nat) (hj : j < l.length) (e : j + 1 = l.length) : Dc.ends l[j] = true := by
  obtain ⟨k0, x0, rfl, he⟩ := hU.last
  have : j = k0.length := by simp at e; omega
  subst this
  simpa using he
theorem Stand.on {l : List It} {ps : List Nat} {w1 w : World} {k q : Nat} (h : Stand l ps w1 w k q) (hU : Docu l) (hk : k < ps.length) (hq : q < l.length) (he : Dc.ends l[q] = false) :
    ∃ q', q < q' ∧ q' < l.length ∧ k + 1 < ps.length ∧ ps[k + 1]? = some q' ∧ ∀ w2, Blk w2 w1.heap.size (wcells (B (Pg.bytes (Pg.flush (Pg.run (l.take q))).page)) (B (Pg.bytes (Pg.flush (Pg.run (l.take q))).ins ++ Pg.bytes (Pg.seg l[q] (((l.drop q).take (q' - q)).map It.c)))) (Pg.flush (Pg.run (l.take q))).list) 72 → Below w1.heap.size w1 w2 → Stand l ps w1 w2 (k + 1) q' := by
  obtain ⟨q', h1, h2, h3, h4, h5⟩ := Pg.next l l.length _ (q + 1) rfl (by omega)
  have hb : Dc.runB l q = true := by rcases h.place with e | e; omega; exact e
  have hlt : q' < l.length := by
    rcases Nat.lt_or_ge q' l.length with hl | hl
    · exact hl
    · exfalso
      have hq1 : ¬ q + 1 = l.length := fun e => by rw [last_at hU q hq e] at he; cases he
      obtain ⟨i, hi⟩ : ∃ i, l.length = i + 1 + 1 := ⟨l.length - 2, by omega⟩
      have hr := h4 (i + 1) (by omega) (by omega)
      rw [Dc.runB_succ (by omega)] at hr
      have hl2 := last_at hU (i + 1) (by omega) (by omega)
      unfold Dc.turns at hr
      rw [hl2] at hr
      simp at hr
  have hb' : Dc.runB l q' = true := by rcases h3 with e | e; omega; exact e
  have hd : ps.drop (k + 1) = Pg.from_ l l.length q' := (h.head hk).2.trans h5
  have hh := hd
  rw [Pg.from_head l _ q' hlt hb'] at hh
  have hget : ps[k + 1]? = some q' := by
    have := congrArg (fun z => z[0]?) hh
    simpa using this
  refine ⟨q', by omega, hlt, (List.getElem?_eq_some_iff.1 hget).1, hget, fun w2 hB hbl => ⟨by omega, .inr hb', hd, ?_, hbl⟩⟩
  have hra := Pg.run_at l q q' (by omega) (by omega) h4 hb hq he
  rw [hra]
  show Blk w2 w1.heap.size (wcells _ (B (Pg.bytes ((Pg.flush (Pg.run (l.take q))).ins ++ Pg.seg l[q] (((l.drop q).take (q' - q)).map It.c)))) _) 72
  rw [Pg.bytes_append]
  exact hB

namespace Dc
def page (l : List It) : List UInt8 := if check l = 0 then Pg.page l else []
end Dc
theorem places_cell {w : World} {B0 g pc : Nat} {ps : List Nat} (h : w.ownsRow B0 3 1 (.slice (some ⟨g, 0, none⟩) ps.length pc) ps.length (ps.map ci)) {j p : Nat} (hj : ps[j]? = some p) : w.cell? ⟨g, j, none⟩ = some (.int .i64 p) := by
  have := h.cells (g := g) rfl j (ci p) (by simp [hj])
  have e : (⟨g, 0, none⟩ : Addr).add j = ⟨g, 0 + j, none⟩ := by unfold Addr.add; split <;> simp_all
  rw [e, Nat.zero_add] at this
  exact this

set_option maxRecDepth 100000 in
set_option maxHeartbeats 6400000 in
theorem page_ok (ao : Option Addr) (n cap : Nat) (l : List It) (w : World) (hD : Doc w ao n cap l) (hT : Tabs w) (hc : Dc.check l = 0) :
    Calls Tryz.prog 16 #[.slice ao n cap] w fun e w' => e = .returned (.tuple #[.string (B (Pg.page l)), .int .i64 0]) ∧ Below w.heap.size w w' := by
  have HD : Hid (Doc w ao n cap l) := hD
  have HN : Hid (l.length = n) := hD.len
  have hcap := hD.room
  have hbig := hD.big
  have HT : Hid (Tabs w) := hT
  have HU : Hid (Docu l) := docu_of hc
  have h80 : n ≤ 80 := by rw [← hD.len]; exact HU.out.few
  have CR : Hid (Calls Tryz.prog 41 #[.slice ao n cap] w fun e w' => (∃ v, e = .returned (.tuple #[v, .int .i64 0]) ∧ w'.ownsRow w.heap.size 3 1 v (Dc.runsTo l l.length).length ((Dc.runsTo l l.length).map ci)) ∧ Below w.heap.size w w') := by
    have := runs_any ao n cap l w hD hT.sch
    unfold Dc.runs at this
    rw [hc, if_pos rfl] at this
    exact this
  clear hD hT hc
  obtain ⟨RES, hRES⟩ : ∃ R, B (Pg.page l) = R := ⟨_, rfl⟩
  have HRES : Hid (B (Pg.page l) = RES) := hRES
  rw [hRES]
  clear hRES
  obtain ⟨ps, hps⟩ : ∃ ps, Dc.runsTo l l.length = ps := ⟨_, rfl⟩
  have HPS : Hid (ps = Pg.from_ l l.length 0) := hps.symm.trans (Pg.from_runs l l.length)
  have hpl : ps.length ≤ 80 := by rw [← hps]; have := Dc.runsTo_len l l.length; have := HU.out.few; omega
  rw [hps] at CR
  clear hps
  go_enter Tryz.func16, Tryz.ntmps16
  go_wp2_with fail
  refine CR.out.mono ?_
  rintro e w1 ⟨⟨v, rfl, ho⟩, hb⟩
  have hpos : 0 < ps.length := by
    have hne := HU.out.some
    have hl0 : 0 < l.length := by cases l with | nil => exact absurd rfl hne | cons => simp
    rw [HPS.out, Pg.from_head l _ 0 hl0 rfl]
    simp
  obtain ⟨g, pc, rfl, _, hg⟩ := ho.form hpos
  have HO : Hid (w1.ownsRow w.heap.size 3 1 (.slice (some ⟨g, 0, none⟩) ps.length pc) ps.length (ps.map ci)) := ho
  have H1 : Hid (Below w.heap.size w w1) := hb
  have T1 : Hid (Tabs w1) := HT.out.below hb
  have D1 : Hid (Doc w1 ao n cap l) := HD.out.below hb
  clear ho hb
  obtain ⟨m, hm⟩ : ∃ m, ps.length = m := ⟨_, rfl⟩
  have HM : Hid (ps.length = m) := hm
  rw [hm] at hpl hpos ⊢
  clear hm
  go_wp2
  go_loopw [19] (fun i wr => ∃ k q : Nat, k ≤ m ∧ i = .int .i64 k ∧ Stand l ps w1 wr k q) (fun i _ => m - (intOf i).toNat)
  case atStart =>
    refine ⟨0, 0, Nat.zero_le _, rfl, ⟨Nat.zero_le _, .inr rfl, HPS.out, ?_, (Below.refl _ _).alloc (Nat.le_refl _) _⟩⟩
    exact Blk.new w1 _ 72
  case round =>
    obtain ⟨k, q, hk, rfl, hS⟩ := hrel
    have HS : Hid (Stand l ps w1 wr k q) := hS
    clear hS
    obtain ⟨z1, z2, z3, z4⟩ := weighs HU.out.fine HU.out.few q
    by_cases hlt : k < m
    · have hkp : k < ps.length := by rw [HM.out]; exact hlt
      have hq := HS.out.lt hkp
      have hqn : q < n := by rw [← HN.out]; exact hq
      have pk := cell_below (places_cell HO.out (HS.out.head hkp).1) HS.out.below
      obtain ⟨b, off, rfl, A0⟩ := D1.out.lies (by omega)
      have A2 := A0.below HS.out.below
      obtain ⟨hc0, hc1, hc2⟩ := A2.get (List.getElem?_eq_getElem hq)
      have HF : Hid (Fine l[q]) := HU.out.fine _ (List.getElem_mem hq)
      have T2 : Hid (Tabs wr) := T1.out.below HS.out.below
      have hbig2 := T1.out.big
      cases he : Dc.ends l[q]
      · obtain ⟨q', g1, g2, g3, g4, g5⟩ := HS.out.on HU.out hkp hq he
        have pk2 := cell_below (places_cell HO.out g4) HS.out.below
        have hqn' : q' ≤ n := by rw [← HN.out]; omega
        obtain ⟨P1, P2⟩ := (D1.out.below HS.out.below).part A2 q q' (by omega) hqn'
        have hfst : ((l.drop q).take (q' - q))[0]? = some l[q] := by
          rw [List.getElem?_take_of_lt (by omega), List.getElem?_drop, Nat.add_zero]
          exact List.getElem?_eq_getElem hq
        have CRun : Hid (∀ W, Below wr.heap.size wr W → Calls Tryz.prog 43 #[.slice (some ⟨b, off + q * 3, none⟩) (q' - q) (cap - q)] W fun e w' => e = .returned (.string (B (Pg.bytes (Pg.seg l[q] (((l.drop q).take (q' - q)).map It.c))))) ∧ Below W.heap.size W w') := fun W hW =>
          run_any b (off + q * 3) (q' - q) (cap - q) _ l[q] W ⟨P2.below hW, P1.below hW, hfst, by omega, HF.out.short, T2.out.pairs.under hW, T2.out.marks.below hW⟩ HF.out.lo HF.out.hi
        have hsl : (Pg.bytes (Pg.seg l[q] (((l.drop q).take (q' - q)).map It.c))).length ≤ 1000 := by
          have := Pg.seg_len l[q] (((l.drop q).take (q' - q)).map It.c) HF.out.short
          rw [List.length_map, List.length_take] at this
          omega
        have hB := HS.out.blk
        have HG : Hid (∀ w2, Blk w2 w1.heap.size (wcells (B (Pg.bytes (Pg.flush (Pg.run (l.take q))).page)) (B (Pg.bytes (Pg.flush (Pg.run (l.take q))).ins ++ Pg.bytes (Pg.seg l[q] (((l.drop q).take (q' - q)).map It.c)))) (Pg.flush (Pg.run (l.take q))).list) 72 → Below w1.heap.size w1 w2 → Stand l ps w1 w2 (k + 1) q') := g5
        have hch : ((l[q].c.toNat : Int) == 10) = false := he
        clear P1 P2 hfst g5 A2 A0 HF he z1 z2 z3
        generalize Pg.bytes (Pg.seg l[q] (((l.drop q).take (q' - q)).map It.c)) = G at *
        generalize l[q] = x at *
        generalize Pg.flush (Pg.run (l.take q)) = S at *
        have c1 : wr.cell? ⟨w1.heap.size, 1, none⟩ = some (.string (B (Pg.bytes S.ins))) := hB.cell 1
        have y1 := hB.frozen 1
        have HBK : Hid (Blk wr w1.heap.size (wcells (B (Pg.bytes S.page)) (B (Pg.bytes S.ins)) S.list) 72) := hB
        have bl := hB.lt
        have q1 := B_size (Pg.bytes S.ins)
        have q2 := B_size G
        have HBL : Hid (Below w1.heap.size w1 wr) := HS.out.below
        have hw : IntKind.i64.wrap ((k : Int) + 1) = (k : Int) + 1 := by exact IntWalk.i64_in _ ⟨by omega, by omega⟩
        have hkm : k + 1 < m := by rw [← HM.out]; exact g3
        clear hB hq hkp HS
        go_wp2
        go_region_with (go_at_call 43; refine (CRun.out _ ?_).mono ?_; exact (Below.refl _ _).drew; rintro e w3 ⟨rfl, hb3⟩; have HB3 : Hid (Below wr.heap.size wr w3) := (Below.refl _ _).drew.trans hb3; have e1 := cell_below c1 HB3.out; have e2 := (HBK.out.far HB3.out).frozen 1; clear hb3)
        all_goals
          have HS3 : Hid (Stand l ps w1 (w3.setCell ⟨w1.heap.size, 1, none⟩ (.string (B (Pg.bytes S.ins) ++ B G))) (k + 1) q') := HG.out _ (by have := (HBK.out.far HB3.out).set 1 (.string (B (Pg.bytes S.ins) ++ B G)); rw [B_app] at this ⊢; exact this) (HBL.out.trans ((HB3.out.mono HBL.out.size).trans (set_below _ _ _)))
          go_wp2
          go_roundw
          case rel => exact ⟨k + 1, q', by omega, by go_num, HS3.out⟩
          case measure => simp [intOf]; omega
      · obtain ⟨j, hj⟩ := Int.eq_ofNat_of_zero_le HF.out.lo
        have hj4 : j < 4 := by have := HF.out.hi; omega
        have HG : Hid (∀ w2, Blk w2 w1.heap.size (wcells (B (Pg.bytes (Pg.flush (Pg.run (l.take q))).page ++ Pg.bytes (Pg.lists (Pg.flush (Pg.run (l.take q))).list ((j : Int) == 2)) ++ tagL (Pg.name (Pg.kind j)) (Pg.bytes (Pg.flush (Pg.run (l.take q))).ins))) (B []) ((j : Int) == 2)) 72 → Below w1.heap.size w1 w2 → Stand l ps w1 w2 (k + 1) (q + 1)) := fun w2 h1 h2 => HS.out.stop hkp hq he (by rw [hj]; exact h1) h2
        have CE := endb_any w1.heap.size j _ _ _ wr HS.out.blk T2.out.blocks (by omega) hj4 (by show (Pg.bytes (Pg.run (l.take q)).page).length ≤ _; omega) (by omega)
        have HCE : Hid (Calls Tryz.prog 42 #[.pointer (some ⟨w1.heap.size, 0, none⟩), .int .i64 j] wr fun e w' => e = .returned (.tuple #[]) ∧ Stand l ps w1 w' (k + 1) (q + 1)) := CE.mono fun e w' ⟨h1, h2, h3⟩ => ⟨h1, HG.out w' h2 (HS.out.below.trans h3)⟩
        have hch : ((l[q].c.toNat : Int) == 10) = true := he
        rw [hj] at hc1
        clear CE HG hj A0 A2 z1 z2 z3 z4 he HF
        generalize l[q] = x at *
        clear hq hkp
        go_wp2_with fail
        refine HCE.out.mono ?_
        rintro e w2 ⟨rfl, hS2⟩
        have HS2 : Hid (Stand l ps w1 w2 (k + 1) (q + 1)) := hS2
        clear hS2
        go_wp2
        go_roundw
        case rel => exact ⟨k + 1, q + 1, by omega, by go_num, HS2.out⟩
        case measure => simp [intOf]; omega
    · obtain rfl : k = m := by omega
      have hqe := HS.out.end_ (by rw [HM.out]; exact Nat.le_refl _)
      have hB := HS.out.blk
      rw [hqe, List.take_length] at hB
      have hz : (Pg.bytes (Pg.flush (Pg.run l)).page).length ≤ 16480 := by
        rw [hqe, List.take_length] at z1
        exact z1
      have HR2 : Hid (B (Pg.bytes (Pg.flush (Pg.run l)).page ++ Pg.bytes (Pg.lists (Pg.flush (Pg.run l)).list false)) = RES) := by
        show _ = _
        rw [← HRES.out, ← Pg.bytes_append]
        rfl
      have CT : Hid (Calls Tryz.prog 44 #[.pointer (some ⟨w1.heap.size, 0, none⟩), .bool false] wr fun e w' => e = .returned (.tuple #[]) ∧ Blk w' w1.heap.size (wcells RES (B (Pg.bytes (Pg.flush (Pg.run l)).ins)) false) 72 ∧ Below w1.heap.size wr w') := by
        have := turn_any w1.heap.size _ _ _ false wr hB (by omega)
        rw [HR2.out] at this
        exact this
      have HBL : Hid (Below w1.heap.size w1 wr) := HS.out.below
      clear hB z1 z2 z3 z4 HS
      go_wp2_with fail
      refine CT.out.mono ?_
      rintro e w2 ⟨rfl, hB2, hb2⟩
      have c0 : w2.cell? ⟨w1.heap.size, 0, none⟩ = some (.string RES) := hB2.cell 0
      have HE : Hid (Below w.heap.size w w2) := H1.out.trans ((HBL.out.trans hb2).mono H1.out.size)
      clear hB2 hb2
      go_wp2
      go_ret2
      exact ⟨rfl, HE.out⟩

theorem page_any (ao : Option Addr) (n cap : Nat) (l : List It) (w : World) (hD : Doc w ao n cap l) (hT : Tabs w) :
    Calls Tryz.prog 16 #[.slice ao n cap] w fun e w' => e = .returned (.tuple #[.string (B (Dc.page l)), .int .i64 (Dc.check l)]) ∧ Below w.heap.size w w' := by
  by_cases hc : Dc.check l = 0
  · have := page_ok ao n cap l w hD hT hc
    unfold Dc.page
    rw [if_pos hc, hc]
    exact this
  · have CR : Hid (Calls Tryz.prog 41 #[.slice ao n cap] w fun e w' => (∃ v, e = .returned (.tuple #[v, .int .i64 (Dc.check l)]) ∧ w'.ownsRow w.heap.size 3 1 v (Dc.runs l).length ((Dc.runs l).map ci)) ∧ Below w.heap.size w w') := runs_any ao n cap l w hD hT.sch
    have hp : B (Dc.page l) = (⟨#[]⟩ : ByteArray) := by unfold Dc.page; rw [if_neg hc]; rfl
    rw [hp]
    clear hp hD hT
    generalize Dc.check l = c at *
    have hcb : (c != 0) = true := by simpa using hc
    go_enter Tryz.func16, Tryz.ntmps16
    go_wp2_with fail
    refine CR.out.mono ?_
    rintro e w1 ⟨⟨v, rfl, ho⟩, hb⟩
    have HB : Hid (Below w.heap.size w w1) := hb
    clear hb ho
    go_wp2
    go_ret2
    exact ⟨rfl, HB.out⟩
end Go.Proofs.YtpcaiechaakhnabGreatDoor

/-
  The closed fact 'exported', and the law ExportSays: it returns true at whatever list of items.
-/
namespace Go.Proofs.YtpcaiechaakhnabGreatDoor
open Go.RowKit

def smallPage : List UInt8 := [60, 104, 49, 62, 97, 60, 98, 62, 98, 60, 47, 98, 62, 60, 47, 104, 49, 62, 60, 117, 108, 62, 60, 108, 105, 62, 60, 97, 32, 104, 114, 101].append [102, 61, 34, 104, 116, 116, 112, 58, 38, 97, 109, 112, 59, 34, 62, 38, 108, 116, 59, 60, 47, 97, 62, 60, 47, 108, 105, 62, 60, 47, 117, 108, 62]
theorem small_page : Dc.page smallDoc = smallPage := by decide +kernel

end Go.Proofs.YtpcaiechaakhnabGreatDoor

/-
  The laws' closed fact of a page: torn.
-/
namespace Go.Proofs.YtpcaiechaakhnabGreatDoor
open Go.RowKit

theorem Env.top {w w' : World} (h : Env w w.heap.size) (hb : Below w.heap.size w w') : Env w' w'.heap.size :=
  ⟨(h.below hb).pairs, (h.below hb).mx, ⟨Nat.lt_of_lt_of_le h.low.1 hb.size, Nat.lt_of_lt_of_le h.low.2 hb.size⟩, Nat.le_refl _⟩
def tornL : List UInt8 := [60, 97, 32, 104, 114, 101, 102, 61, 39, 120, 39, 62, 38, 108, 116, 59, 60, 33, 45, 45, 121]
def tornT : List Tk := [⟨2, [97], [], [120]⟩, ⟨1, [], [60], []⟩, ⟨4, [], [], []⟩]
theorem torn_toks : Tk.toks tornL = tornT := by rfl
/-- A row of cells in a block of its own. -/
theorem row_new (w : World) (sz n : Nat) (cs : List Value) (t : TypeId) (fr : Nat × Nat) (hl : cs.length = n * sz) (hn : n ≤ 9223372036854775807) : Row (w.alloc (.cells cs.toArray t fr)) (some ⟨w.heap.size, 0, none⟩) n n sz cs := by
  refine ⟨hl, Nat.le_refl _, hn, fun _ => ⟨_, _, rfl, fun j u hu => ?_⟩⟩
  rw [Nat.zero_add]
  have h := heap_alloc_new w (.cells cs.toArray t fr)
  unfold World.cell?
  rw [h]
  simpa using hu
/-- The world in which a closed page is taken apart. -/
def tornW (w : World) : World := w.alloc (.cells (tornL.map b8).toArray 5 (21, 22))

set_option maxRecDepth 100000 in
set_option maxHeartbeats 800000 in
theorem torn_any (w : World) (hE : Env w w.heap.size) : Calls Tryz.prog 9 #[] w fun e w' => e = .returned (.bool true) ∧ Below w.heap.size w w' := by
  have hb1 : Below w.heap.size w (tornW w) := (Below.refl _ _).alloc (Nat.le_refl _) _
  have hB : Byt (tornW w) (some ⟨w.heap.size, 0, none⟩) 21 21 tornL := row_new w 1 21 (tornL.map b8) 5 (21, 22) rfl (by decide)
  have C1 := tpage_ok _ 21 21 tornL (tornW w) hB (hE.top hb1) (by decide)
  rw [torn_toks] at C1
  have HC : Hid (Calls Tryz.prog 8 #[.slice (some ⟨w.heap.size, 0, none⟩) 21 21] (tornW w) fun e w' => (∃ ao' cap', e = .returned (.tuple #[.slice ao' 3 cap', .int .i64 0]) ∧ Tks w' ao' 3 cap' tornT) ∧ Below (tornW w).heap.size (tornW w) w') := C1
  have H1 : Hid (Below w.heap.size w (tornW w)) := hb1
  have hcs := Lib.run_convert_bytes_const (P := Tryz.prog) w 22 5 (tornL.map b8).toArray 21 21 Tryz.underlying22 Tryz.underlying5
  change (convert 22 22 _).run Tryz.prog (w.alloc (.cells #[.int .u8 60, .int .u8 97, .int .u8 32, .int .u8 104, .int .u8 114, .int .u8 101, .int .u8 102, .int .u8 61, .int .u8 39, .int .u8 120, .int .u8 39, .int .u8 62, .int .u8 38, .int .u8 108, .int .u8 116, .int .u8 59, .int .u8 60, .int .u8 33, .int .u8 45, .int .u8 45, .int .u8 121] 5)) = .ok _ (tornW w) at hcs
  clear hB C1 hE hb1
  generalize tornW w = wt at *
  go_enter Tryz.func9, Tryz.ntmps9
  go_wp2_with fail
  refine HC.out.mono ?_
  rintro e w1 ⟨⟨ao', cap', rfl, hT⟩, hb⟩
  have HT : Hid (Tks w1 ao' 3 cap' tornT) := hT
  have H2 : Hid (Below w.heap.size w w1) := H1.out.trans (hb.mono H1.out.size)
  clear hT hb
  go_wp2_with fail
  refine (equalTk_any ao' (some ⟨w1.heap.size, 0, none⟩) 3 cap' 3 3 tornT tornT (w1.alloc (.cells (tkCells tornT).toArray 30)) (HT.out.below ((Below.refl _ _).alloc (Nat.le_refl _) _)) (row_new w1 4 3 (tkCells tornT) 30 (0, 0) rfl (by decide))).mono ?_
  rintro e w2 ⟨rfl, m, rfl⟩
  rw [Tk.same_self]
  have H3 : Hid (Below w.heap.size w ((w1.alloc (.cells (tkCells tornT).toArray 30)).drewN m)) := ⟨H2.out.os, H2.out.tape, H2.out.output, (H2.out.alloc H2.out.size _).size, (H2.out.alloc H2.out.size _).block⟩
  generalize (w1.alloc (.cells (tkCells tornT).toArray 30)).drewN m = w4 at *
  go_wp2
  go_ret
  exact ⟨rfl, H3.out⟩
end Go.Proofs.YtpcaiechaakhnabGreatDoor

/-
  The laws' closed fact of a page: paged.
-/
namespace Go.Proofs.YtpcaiechaakhnabGreatDoor
open Go.RowKit

/-- All that is laid, as the laws read it. -/
structure Tz (w : World) : Prop where
  tabs : Tabs w
  bn : Bn w
  hn : Hn w
  mx : Mxl w
theorem Tz.zt {w : World} (h : Tz w) : Zt w w.heap.size := ⟨h.bn, h.hn, h.tabs.sch, h.bn.pos, h.hn.pos, h.tabs.sch.pos⟩
theorem Tz.env {w : World} (h : Tz w) : Env w w.heap.size := by
  obtain ⟨m, hm⟩ := h.mx
  exact ⟨h.tabs.pairs, ⟨m, hm⟩, ⟨h.tabs.pairs.pos, World.block_lt_of_cell? _ _ hm⟩, Nat.le_refl _⟩
theorem Tz.below {w w' : World} (h : Tz w) (hb : Below w.heap.size w w') : Tz w' :=
  ⟨h.tabs.below hb, h.bn.below hb h.bn.pos, h.hn.below hb h.hn.pos, by obtain ⟨m, hm⟩ := h.mx; exact ⟨m, cell_under hm hb⟩⟩

def pagedL : List UInt8 := [97, 60, 98, 62, 98, 60, 47, 98, 62, 60, 104, 49, 62, 60, 47, 104, 49, 62, 60, 115, 99, 114, 105, 112, 116, 62, 120, 60, 47, 115, 99, 114, 105, 112, 116, 62]
def pagedD : List It := [⟨97, 0, B []⟩, ⟨98, 1, B []⟩, ⟨10, 0, B []⟩, ⟨10, 1, B []⟩]
set_option maxRecDepth 100000 in
theorem paged_read : Sn.read (Tk.toks pagedL) = some pagedD := by rfl
def constW (w : World) (l : List UInt8) : World := w.alloc (.cells (l.map b8).toArray 5 (l.length, l.length + 1))
theorem paged_fit : Fit pagedD := by
  intro x hx
  simp only [pagedD, List.mem_cons, List.not_mem_nil, or_false] at hx
  rcases hx with rfl | rfl | rfl | rfl <;> exact Nat.zero_le _
theorem paged_at (w : World) : Doc (w.alloc (.cells (itCells pagedD).toArray 39)) (some ⟨w.heap.size, 0, none⟩) 4 4 pagedD :=
  ⟨paged_fit, rfl, Nat.le_refl _, by decide, fun _ => ⟨_, _, rfl, at_block (heap_alloc_new ..)⟩⟩
theorem dsame_self : ∀ l : List It, Dc.same l l = true
  | [] => rfl
  | x :: t => by
    show (Dc.alike x x && Dc.same t t) = true
    rw [dsame_self t]
    unfold Dc.alike
    simp

set_option maxRecDepth 100000 in
set_option maxHeartbeats 3200000 in
theorem paged_any (w : World) (hT : Tz w) : Calls Tryz.prog 13 #[] w fun e w' => e = .returned (.bool true) ∧ Below w.heap.size w w' := by
  have HT : Hid (Tz w) := hT
  clear hT
  have CP : Hid (∀ ao w, Doc w ao 5 5 smallDoc → Tabs w → Calls Tryz.prog 16 #[.slice ao 5 5] w fun e w' => e = .returned (.tuple #[.string (B smallPage), .int .i64 0]) ∧ Below w.heap.size w w') := fun ao w hD hS => by
    have := page_any ao 5 5 smallDoc w hD hS
    rw [small_page, small_check] at this
    exact this
  go_enter Tryz.func13, Tryz.ntmps13
  go_wp2_with fail
  refine (smallD _).mono ?_
  rintro e w1 ⟨rfl, hd, hb⟩
  have H1 : Hid (Below w.heap.size w w1) := hb
  have D1 : Hid (Doc w1 (some ⟨w.heap.size, 0, none⟩) 5 5 smallDoc) := hd
  have T1 : Hid (Tz w1) := HT.out.below hb
  clear hb hd
  go_wp2_with fail
  refine (CP.out _ _ D1.out T1.out.tabs).mono ?_
  rintro e w2 ⟨rfl, hb⟩
  have H2 : Hid (Below w.heap.size w w2) := H1.out.trans (hb.mono H1.out.size)
  have T2 : Hid (Tz w2) := T1.out.below hb
  clear hb D1 T1 H1 CP
  have heq : (B smallPage).toList = smallPage := by rw [Lib.toList_data, B_data]
  have hb1 : Below w2.heap.size w2 (constW w2 tornL) := (Below.refl _ _).alloc (Nat.le_refl _) _
  have hB : Byt (constW w2 tornL) (some ⟨w2.heap.size, 0, none⟩) 21 21 tornL := row_new w2 1 21 (tornL.map b8) 5 (21, 22) rfl (by decide)
  have C1 := tpage_ok _ 21 21 tornL (constW w2 tornL) hB (T2.out.below hb1).env (by decide)
  rw [torn_toks] at C1
  have HC : Hid (Calls Tryz.prog 8 #[.slice (some ⟨w2.heap.size, 0, none⟩) 21 21] (constW w2 tornL) fun e w' => (∃ ao' cap', e = .returned (.tuple #[.slice ao' 3 cap', .int .i64 0]) ∧ Tks w' ao' 3 cap' tornT) ∧ Below (constW w2 tornL).heap.size (constW w2 tornL) w') := C1
  have H3 : Hid (Below w.heap.size w (constW w2 tornL)) := H2.out.trans (hb1.mono H2.out.size)
  have T3 : Hid (Tz (constW w2 tornL)) := T2.out.below hb1
  have hcs := Lib.run_convert_bytes_const (P := Tryz.prog) w2 22 5 (tornL.map b8).toArray 21 21 Tryz.underlying22 Tryz.underlying5
  change (convert 22 22 _).run Tryz.prog (w2.alloc (.cells #[.int .u8 60, .int .u8 97, .int .u8 32, .int .u8 104, .int .u8 114, .int .u8 101, .int .u8 102, .int .u8 61, .int .u8 39, .int .u8 120, .int .u8 39, .int .u8 62, .int .u8 38, .int .u8 108, .int .u8 116, .int .u8 59, .int .u8 60, .int .u8 33, .int .u8 45, .int .u8 45, .int .u8 121] 5)) = .ok _ (constW w2 tornL) at hcs
  clear hB C1 hb1
  generalize constW w2 tornL = wt at *
  go_wp2_with fail
  refine HC.out.mono ?_
  rintro e w4 ⟨⟨ao', cap', rfl, hT⟩, hb⟩
  have HTK : Hid (Tks w4 ao' 3 cap' tornT) := hT
  have H4 : Hid (Below w.heap.size w w4) := H3.out.trans (hb.mono H3.out.size)
  have T4 : Hid (Tz w4) := T3.out.below hb
  clear hT hb hcs HC H3 T3
  have hb1 : Below w4.heap.size w4 (constW w4 pagedL) := (Below.refl _ _).alloc (Nat.le_refl _) _
  have hB : Byt (constW w4 pagedL) (some ⟨w4.heap.size, 0, none⟩) 36 36 pagedL := row_new w4 1 36 (pagedL.map b8) 5 (36, 37) rfl (by decide)
  have C1 := zpage_ok _ 36 36 pagedL (constW w4 pagedL) hB (T4.out.below hb1).env (T4.out.below hb1).zt (by decide)
  rw [paged_read] at C1
  have HC : Hid (Calls Tryz.prog 12 #[.slice (some ⟨w4.heap.size, 0, none⟩) 36 36] (constW w4 pagedL) fun e w' => (∃ ao cap, e = .returned (.tuple #[.slice ao 4 cap, .int .i64 0]) ∧ Doc w' ao 4 cap pagedD) ∧ Below (constW w4 pagedL).heap.size (constW w4 pagedL) w') := C1
  have H5 : Hid (Below w.heap.size w (constW w4 pagedL)) := H4.out.trans (hb1.mono H4.out.size)
  have K5 : Hid (Tks (constW w4 pagedL) ao' 3 cap' tornT) := HTK.out.below hb1
  have hcs := Lib.run_convert_bytes_const (P := Tryz.prog) w4 22 5 (pagedL.map b8).toArray 36 36 Tryz.underlying22 Tryz.underlying5
  change (convert 22 22 _).run Tryz.prog (w4.alloc (.cells #[.int .u8 97, .int .u8 60, .int .u8 98, .int .u8 62, .int .u8 98, .int .u8 60, .int .u8 47, .int .u8 98, .int .u8 62, .int .u8 60, .int .u8 104, .int .u8 49, .int .u8 62, .int .u8 60, .int .u8 47, .int .u8 104, .int .u8 49, .int .u8 62, .int .u8 60, .int .u8 115, .int .u8 99, .int .u8 114, .int .u8 105, .int .u8 112, .int .u8 116, .int .u8 62, .int .u8 120, .int .u8 60, .int .u8 47, .int .u8 115, .int .u8 99, .int .u8 114, .int .u8 105, .int .u8 112, .int .u8 116, .int .u8 62] 5)) = .ok _ (constW w4 pagedL) at hcs
  clear hB C1 hb1
  generalize constW w4 pagedL = wp at *
  go_wp2_with fail
  refine HC.out.mono ?_
  rintro e w5 ⟨⟨ao2, cap2, rfl, hD⟩, hb⟩
  have HD : Hid (Doc w5 ao2 4 cap2 pagedD) := hD
  have K6 : Hid (Tks w5 ao' 3 cap' tornT) := K5.out.below hb
  have H6 : Hid (Below w.heap.size w w5) := H5.out.trans (hb.mono H5.out.size)
  clear hD hb hcs HC
  go_wp2_with fail
  refine (equalTk_any ao' (some ⟨w5.heap.size, 0, none⟩) 3 cap' 3 3 tornT tornT (w5.alloc (.cells (tkCells tornT).toArray 30)) (K6.out.below ((Below.refl _ _).alloc (Nat.le_refl _) _)) (row_new w5 4 3 (tkCells tornT) 30 (0, 0) rfl (by decide))).mono ?_
  rintro e w6 ⟨rfl, m, rfl⟩
  rw [Tk.same_self]
  have hb7 : Below w5.heap.size w5 ((w5.alloc (.cells (tkCells tornT).toArray 30)).drewN m) := Go.below_drewN ((Below.refl _ _).alloc (Nat.le_refl _) _) m
  have H7 : Hid (Below w.heap.size w ((w5.alloc (.cells (tkCells tornT).toArray 30)).drewN m)) := H6.out.trans (hb7.mono H6.out.size)
  have D7 : Hid (Doc ((w5.alloc (.cells (tkCells tornT).toArray 30)).drewN m) ao2 4 cap2 pagedD) := HD.out.below hb7
  clear hb7
  generalize (w5.alloc (.cells (tkCells tornT).toArray 30)).drewN m = w7 at *
  go_wp2_with fail
  refine (same_any ao2 (some ⟨w7.heap.size, 0, none⟩) 4 cap2 4 4 pagedD pagedD (w7.alloc (.cells (itCells pagedD).toArray 39)) (D7.out.below ((Below.refl _ _).alloc (Nat.le_refl _) _)) (paged_at w7)).mono ?_
  rintro e w8 ⟨rfl, m2, rfl⟩
  rw [dsame_self]
  have H8 : Hid (Below w.heap.size w ((w7.alloc (.cells (itCells pagedD).toArray 39)).drewN m2)) := Go.below_drewN (H7.out.alloc H7.out.size _) m2
  generalize (w7.alloc (.cells (itCells pagedD).toArray 39)).drewN m2 = w9 at *
  go_wp2
  go_ret
  exact ⟨rfl, H8.out⟩
end Go.Proofs.YtpcaiechaakhnabGreatDoor

/-
  What is written of a document is short, and its items are good; the bytes of a text as a row.
-/
namespace Go.Proofs.YtpcaiechaakhnabGreatDoor
open Go.RowKit

theorem good_of {l : List It} (h : Dc.check l = 0) : ∀ x ∈ l, Tk.Good x := by
  have h80 := Dc.check_ok h
  by_cases h0 : Dc.errs l = 0
  · intro x hx
    have he := errs_all h0 x hx
    unfold Dc.err at he
    by_cases h1 : (!Dc.ends x && !Dc.isChar x) = true
    · rw [if_pos h1] at he; cases he
    rw [if_neg h1] at he
    by_cases h2 : (!Dc.marks x) = true
    · rw [if_pos h2] at he; cases he
    rw [if_neg h2] at he
    by_cases h3 : (!Dc.link x) = true
    · rw [if_pos h3] at he; cases he
    have hm : Dc.marks x = true := by simpa using h2
    have hl : Dc.link x = true := by simpa using h3
    unfold Dc.marks at hm
    simp only [Bool.and_eq_true, decide_eq_true_eq] at hm
    unfold Dc.link at hl
    simp only [Bool.or_eq_true, Bool.and_eq_true] at hl
    exact ⟨hm.1, hm.2, hl.imp id (fun h => h.2)⟩
  · rw [Dc.check_errs (by omega) h0] at h
    exact absurd h h0
theorem page_few {l : List It} (h : Dc.check l = 0) : (Pg.page l).length ≤ 20000 := by
  have d := docu_of h
  have := Pg.page_len l (fun x hx => (d.fine x hx).short)
  have := d.few
  omega
theorem byt_world (w : World) (s : ByteArray) (hs : s.size ≤ 20000) : Byt (Lib.bytesWorld w 5 s) (some ⟨w.heap.size, 0, none⟩) s.size (grownCap w s.size 0 5) s.data.toList := by
  have hS := SBuf.start w s
  have hc := grownCap_le_maxLen w s.size 0 5 (by unfold maxLen; omega)
  refine ⟨by simp, grownCap_ge w s.size 0 5, by unfold maxLen at hc; exact hc, fun _ => ⟨_, _, rfl, fun j u hu => ?_⟩⟩
  have hj : j < s.data.toList.length := by
    have := (List.getElem?_eq_some_iff.1 hu).1
    simpa using this
  rw [Nat.zero_add, hS.cell j hj, ← hu, List.getElem?_map, List.getElem?_eq_getElem hj]
  rfl
end Go.Proofs.YtpcaiechaakhnabGreatDoor

/-
  SanitizeBack: what is made of a page is a document; what is written of a document is read as itself.
-/
namespace Go.Proofs.YtpcaiechaakhnabGreatDoor
open Go.RowKit

theorem vis_of {x : It} (h : Dc.isChar x = true) : Sn.vis x.c := by
  unfold Dc.isChar at h
  simp only [Bool.and_eq_true, decide_eq_true_eq] at h
  refine ⟨?_, ?_⟩
  · rw [UInt8.le_iff_toNat_le]; show 32 ≤ x.c.toNat; omega
  · rw [UInt8.le_iff_toNat_le]; show x.c.toNat ≤ 126; omega
theorem char_of {x : It} (h : Sn.vis x.c) : Dc.isChar x = true := by
  obtain ⟨h1, h2⟩ := h
  rw [UInt8.le_iff_toNat_le] at h1 h2
  have h3 : 32 ≤ x.c.toNat := h1
  have h4 : x.c.toNat ≤ 126 := h2
  unfold Dc.isChar
  simp only [Bool.and_eq_true, decide_eq_true_eq]
  omega
theorem empty_B' {s : ByteArray} (h : s.toList.isEmpty = true) : s = B [] := by
  rw [Lib.toList_data] at h
  obtain ⟨d⟩ := s
  have : d.toList = [] := by simpa using h
  have hd : d = #[] := by simpa using this
  rw [hd]
  rfl
theorem err_nice {x : It} (he : Dc.err x = 0) : Sn.Nice x := by
  unfold Dc.err at he
  by_cases h1 : (!Dc.ends x && !Dc.isChar x) = true
  · rw [if_pos h1] at he; cases he
  rw [if_neg h1] at he
  by_cases h2 : (!Dc.marks x) = true
  · rw [if_pos h2] at he; cases he
  rw [if_neg h2] at he
  by_cases h3 : (!Dc.link x) = true
  · rw [if_pos h3] at he; cases he
  have hm : Dc.marks x = true := by simpa using h2
  have hl : Dc.link x = true := by simpa using h3
  unfold Dc.marks at hm
  simp only [Bool.and_eq_true, decide_eq_true_eq] at hm
  unfold Dc.link at hl
  simp only [Bool.or_eq_true, Bool.and_eq_true] at hl
  refine ⟨⟨hm.1, hm.2, hl.imp id (fun h => h.2)⟩, fun hend => ?_, fun hend => ?_⟩
  · rcases hl with h | h
    · exact empty_B' h
    · rw [hend] at h; simp at h
  · rw [hend] at h1
    exact vis_of (by simpa using h1)
theorem nice_err {x : It} (h : Sn.Nice x) : Dc.err x = 0 := by
  obtain ⟨⟨h0, h3, hl⟩, he, hc⟩ := h
  have hm : Dc.marks x = true := by unfold Dc.marks; simp [h0, h3]
  have h1 : (!Dc.ends x && !Dc.isChar x) = false := by
    cases hx : Dc.ends x
    · rw [char_of (hc hx)]; rfl
    · rfl
  have h2 : Dc.link x = true := by
    unfold Dc.link
    cases hx : Dc.ends x
    · rcases hl with h | h
      · rw [h]; rfl
      · rw [h]; simp
    · rw [he hx]
      have : (B []).toList.isEmpty = true := Sn.empty_B
      rw [this]; rfl
  unfold Dc.err
  rw [h1, hm, h2]
  rfl
theorem errs_zero : ∀ {l : List It}, (∀ x ∈ l, Dc.err x = 0) → Dc.errs l = 0
  | [], _ => rfl
  | x :: t, h => by
    rw [Dc.errs, if_pos (h x (List.mem_cons_self ..))]
    exact errs_zero fun y hy => h y (List.mem_cons_of_mem _ hy)
theorem read_check {ts : List Tk} {d : List It} (h : Sn.read ts = some d) : Dc.check d = 0 := by
  obtain ⟨hN, h80, k, x, hk, he⟩ := Sn.read_doc h
  subst hk
  have h0 : Dc.errs (k ++ [x]) = 0 := errs_zero fun y hy => nice_err (hN y hy)
  rw [Dc.check_last (k := k.length) (by omega) h0 (by simp) (by simp)]
  have : (k ++ [x])[k.length]'(by simp) = x := by simp
  rw [this, he]
  rfl
theorem check_errs0 {d : List It} (h : Dc.check d = 0) : Dc.errs d = 0 := by
  have h80 := Dc.check_ok h
  by_cases h0 : Dc.errs d = 0
  · exact h0
  · rw [Dc.check_errs (by omega) h0] at h; exact absurd h h0
theorem read_back {d : List It} (h : Dc.check d = 0) : Sn.read (Tk.toks (Pg.page d)) = some d := by
  have hN : ∀ x ∈ d, Sn.Nice x := fun x hx => err_nice (errs_all (check_errs0 h) x hx)
  have hf := (docu_of h).few
  obtain ⟨k, x, rfl, he⟩ := (docu_of h).last
  exact Sn.read_page k x he hN hf
theorem page_eq {d : List It} (h : Dc.check d = 0) : Dc.page d = Pg.page d := by unfold Dc.page; rw [if_pos h]

/-- What a law has been called with, later. -/
structure Bk (w : World) (a1 : Option Addr) (n1 c1 : Nat) (l : List UInt8) (a2 : Option Addr) (n2 c2 : Nat) (d : List It) (wr : World) : Prop where
  below : Below w.heap.size w wr
  byt : Byt wr a1 n1 c1 l
  doc : Doc wr a2 n2 c2 d
  tz : Tz wr
theorem Bk.far {w : World} {a1 : Option Addr} {n1 c1 : Nat} {l : List UInt8} {a2 : Option Addr} {n2 c2 : Nat} {d : List It} {wr w' : World} (h : Bk w a1 n1 c1 l a2 n2 c2 d wr) (hb : Below wr.heap.size wr w') : Bk w a1 n1 c1 l a2 n2 c2 d w' :=
  ⟨h.below.trans (hb.mono h.below.size), h.byt.below hb, h.doc.below hb, h.tz.below hb⟩

/-- sanitize.Page of the bytes of a text, and the conversion. -/
structure Cv (w : World) (pg : List UInt8) (w2 : World) (cap : Nat) : Prop where
  run : (convert 9 22 (.string (B pg))).run Tryz.prog w = .ok (.slice (some ⟨w.heap.size, 0, none⟩) pg.length cap) w2
  below : Below w.heap.size w w2
  byt : Byt w2 (some ⟨w.heap.size, 0, none⟩) pg.length cap pg
theorem cv_of (w : World) (pg : List UInt8) (h : pg.length ≤ 20000) : ∃ w2 cap, Cv w pg w2 cap := by
  have zp := B_size pg
  have hcv := Lib.run_convert_string_bytes (P := Tryz.prog) w 9 22 5 (B pg) Tryz.underlying9 Tryz.underlying22 Tryz.underlying5
  have hby := byt_world w (B pg) (by rw [zp]; exact h)
  have hbw : Below w.heap.size w (Lib.bytesWorld w 5 (B pg)) := (SBuf.start w (B pg)).below
  rw [zp] at hcv hby
  rw [B_data] at hby
  exact ⟨_, _, hcv, hbw, hby⟩
theorem zread (w : World) (ao : Option Addr) (n cap : Nat) (l : List UInt8) (hB : Byt w ao n cap l) (hT : Tz w) (d : List It) (hn : n ≤ 20000) (hr : Sn.read (Tk.toks l) = some d) : Calls Tryz.prog 12 #[.slice ao n cap] w fun e w' => (∃ ao' cap', e = .returned (.tuple #[.slice ao' d.length cap', .int .i64 0]) ∧ Doc w' ao' d.length cap' d) ∧ Below w.heap.size w w' := by
  have := zpage_ok ao n cap l w hB hT.env hT.zt hn
  rw [hr] at this
  exact this
theorem zread_none (w : World) (ao : Option Addr) (n cap : Nat) (l : List UInt8) (hB : Byt w ao n cap l) (hT : Tz w) (hr : n ≤ 20000 → Sn.read (Tk.toks l) = none) : Calls Tryz.prog 12 #[.slice ao n cap] w fun e w' => e = .returned (.tuple #[.slice none 0 0, .int .i64 2]) ∧ Below w.heap.size w w' := by
  by_cases hn : n ≤ 20000
  · have := zpage_ok ao n cap l w hB hT.env hT.zt hn
    rw [hr hn] at this
    exact this
  · exact (zpage_many ao n cap w (by omega)).mono fun e w' h => ⟨h.1, by rw [h.2]; exact Below.refl _ _⟩

set_option maxRecDepth 100000 in
set_option maxHeartbeats 3200000 in
theorem back_ok_none (a1 a2 : Option Addr) (n1 c1 n2 c2 : Nat) (l : List UInt8) (d : List It) (w : World) (hB : Byt w a1 n1 c1 l) (hD : Doc w a2 n2 c2 d) (hT : Tz w) (hc : Dc.check d = 0) (hN : n1 ≤ 20000 → Sn.read (Tk.toks l) = none) :
    Calls Tryz.prog 5 #[.slice a1 n1 c1, .slice a2 n2 c2] w fun e w' => e = .returned (.bool true) ∧ Below w.heap.size w w' := by
  have H0 : Hid (Bk w a1 n1 c1 l a2 n2 c2 d w) := ⟨Below.refl _ _, hB, hD, hT⟩
  have hcap1 := hB.room
  have hbig1 := hB.big
  have hcap2 := hD.room
  have hbig2 := hD.big
  have C1 : Hid (Calls Tryz.prog 16 #[.slice a2 n2 c2] w fun e w' => e = .returned (.tuple #[.string (B (Pg.page d)), .int .i64 0]) ∧ Below w.heap.size w w') := by
    have := page_any a2 n2 c2 d w hD hT.tabs
    rw [page_eq hc, hc] at this
    exact this
  have HS : Hid ((Pg.page d).length ≤ 20000) := page_few hc
  have HRB : Hid (Sn.read (Tk.toks (Pg.page d)) = some d) := read_back hc
  clear hc
  have HN : Hid (n1 ≤ 20000 → Sn.read (Tk.toks l) = none) := hN
  clear hN
  clear hB hD hT
  go_enter Tryz.func5, Tryz.ntmps5
  go_wp2_with fail
  refine C1.out.mono ?_
  rintro e w1 ⟨rfl, hb⟩
  have H1 : Hid (Bk w a1 n1 c1 l a2 n2 c2 d w1) := H0.out.far hb
  clear hb C1
  obtain ⟨w2, cap2, hV⟩ := cv_of w1 (Pg.page d) HS.out
  have hcv := hV.run
  have H2 : Hid (Bk w a1 n1 c1 l a2 n2 c2 d w2) := H1.out.far hV.below
  have hP2 : Byt w2 (some ⟨w1.heap.size, 0, none⟩) (Pg.page d).length cap2 (Pg.page d) := hV.byt
  have CZ : Hid (Calls Tryz.prog 12 #[.slice (some ⟨w1.heap.size, 0, none⟩) (Pg.page d).length cap2] w2 fun e w' => (∃ ao' cap', e = .returned (.tuple #[.slice ao' d.length cap', .int .i64 0]) ∧ Doc w' ao' d.length cap' d) ∧ Below w2.heap.size w2 w') := zread w2 _ _ cap2 _ hP2 H2.out.tz d HS.out HRB.out
  clear hV hP2 H1
  go_wp2_with fail
  refine CZ.out.mono ?_
  rintro e w3 ⟨⟨ao3, cap3, rfl, hD3⟩, hb⟩
  have H3 : Hid (Bk w a1 n1 c1 l a2 n2 c2 d w3) := H2.out.far hb
  have D3 : Hid (Doc w3 ao3 d.length cap3 d) := hD3
  clear hD3 hb hcv CZ H2
  go_wp2_with fail
  refine (same_any ao3 a2 d.length cap3 n2 c2 d d w3 D3.out H3.out.doc).mono ?_
  rintro e wx ⟨rfl, m, rfl⟩
  rw [dsame_self]
  have H1 : Hid (Bk w a1 n1 c1 l a2 n2 c2 d (w3.drewN m)) := H3.out.far (Go.below_drewN (Below.refl _ _) m)
  clear H3 D3
  generalize w3.drewN m = w1 at *
  go_wp2_with fail
  refine (zread_none _ a1 n1 c1 l H1.out.byt H1.out.tz HN.out).mono ?_
  rintro e w4 ⟨rfl, hb⟩
  have H4 : Hid (Bk w a1 n1 c1 l a2 n2 c2 d w4) := H1.out.far hb
  clear hb H1
  go_wp2_with fail
  refine (paged_any w4 H4.out.tz).mono ?_
  rintro e w5 ⟨rfl, hb⟩
  have H5 : Hid (Bk w a1 n1 c1 l a2 n2 c2 d w5) := H4.out.far hb
  clear hb H4
  go_wp2_with fail
  refine (paged_any w5 H5.out.tz).mono ?_
  rintro e w6 ⟨rfl, hb⟩
  have H6 : Hid (Bk w a1 n1 c1 l a2 n2 c2 d w6) := H5.out.far hb
  clear hb H5
  go_wp2
  go_ret
  exact ⟨rfl, H6.out.below⟩

set_option maxRecDepth 100000 in
set_option maxHeartbeats 3200000 in
theorem back_ok_some (a1 a2 : Option Addr) (n1 c1 n2 c2 : Nat) (l : List UInt8) (d : List It) (w : World) (hB : Byt w a1 n1 c1 l) (hD : Doc w a2 n2 c2 d) (hT : Tz w) (hc : Dc.check d = 0) (c : List It) (hn1 : n1 ≤ 20000) (hR : Sn.read (Tk.toks l) = some c) :
    Calls Tryz.prog 5 #[.slice a1 n1 c1, .slice a2 n2 c2] w fun e w' => e = .returned (.bool true) ∧ Below w.heap.size w w' := by
  have H0 : Hid (Bk w a1 n1 c1 l a2 n2 c2 d w) := ⟨Below.refl _ _, hB, hD, hT⟩
  have hcap1 := hB.room
  have hbig1 := hB.big
  have hcap2 := hD.room
  have hbig2 := hD.big
  have C1 : Hid (Calls Tryz.prog 16 #[.slice a2 n2 c2] w fun e w' => e = .returned (.tuple #[.string (B (Pg.page d)), .int .i64 0]) ∧ Below w.heap.size w w') := by
    have := page_any a2 n2 c2 d w hD hT.tabs
    rw [page_eq hc, hc] at this
    exact this
  have HS : Hid ((Pg.page d).length ≤ 20000) := page_few hc
  have HRB : Hid (Sn.read (Tk.toks (Pg.page d)) = some d) := read_back hc
  clear hc
  have HR : Hid (Sn.read (Tk.toks l) = some c) := hR
  have HCK : Hid (Dc.check c = 0) := read_check hR
  have HSC : Hid ((Pg.page c).length ≤ 20000) := page_few (read_check hR)
  have HRC : Hid (Sn.read (Tk.toks (Pg.page c)) = some c) := read_back (read_check hR)
  clear hR
  clear hB hD hT
  go_enter Tryz.func5, Tryz.ntmps5
  go_wp2_with fail
  refine C1.out.mono ?_
  rintro e w1 ⟨rfl, hb⟩
  have H1 : Hid (Bk w a1 n1 c1 l a2 n2 c2 d w1) := H0.out.far hb
  clear hb C1
  obtain ⟨w2, cap2, hV⟩ := cv_of w1 (Pg.page d) HS.out
  have hcv := hV.run
  have H2 : Hid (Bk w a1 n1 c1 l a2 n2 c2 d w2) := H1.out.far hV.below
  have hP2 : Byt w2 (some ⟨w1.heap.size, 0, none⟩) (Pg.page d).length cap2 (Pg.page d) := hV.byt
  have CZ : Hid (Calls Tryz.prog 12 #[.slice (some ⟨w1.heap.size, 0, none⟩) (Pg.page d).length cap2] w2 fun e w' => (∃ ao' cap', e = .returned (.tuple #[.slice ao' d.length cap', .int .i64 0]) ∧ Doc w' ao' d.length cap' d) ∧ Below w2.heap.size w2 w') := zread w2 _ _ cap2 _ hP2 H2.out.tz d HS.out HRB.out
  clear hV hP2 H1
  go_wp2_with fail
  refine CZ.out.mono ?_
  rintro e w3 ⟨⟨ao3, cap3, rfl, hD3⟩, hb⟩
  have H3 : Hid (Bk w a1 n1 c1 l a2 n2 c2 d w3) := H2.out.far hb
  have D3 : Hid (Doc w3 ao3 d.length cap3 d) := hD3
  clear hD3 hb hcv CZ H2
  go_wp2_with fail
  refine (same_any ao3 a2 d.length cap3 n2 c2 d d w3 D3.out H3.out.doc).mono ?_
  rintro e wx ⟨rfl, m, rfl⟩
  rw [dsame_self]
  have H1 : Hid (Bk w a1 n1 c1 l a2 n2 c2 d (w3.drewN m)) := H3.out.far (Go.below_drewN (Below.refl _ _) m)
  clear H3 D3
  generalize w3.drewN m = w1 at *
  go_wp2_with fail
  refine (zread _ a1 n1 c1 l H1.out.byt H1.out.tz c hn1 HR.out).mono ?_
  rintro e w4 ⟨⟨ao4, cap4, rfl, hD4⟩, hb⟩
  have H4 : Hid (Bk w a1 n1 c1 l a2 n2 c2 d w4) := H1.out.far hb
  have D4 : Hid (Doc w4 ao4 c.length cap4 c) := hD4
  clear hb H1 hD4
  go_wp2_with fail
  refine (paged_any w4 H4.out.tz).mono ?_
  rintro e w5 ⟨rfl, hb⟩
  have H5 : Hid (Bk w a1 n1 c1 l a2 n2 c2 d w5) := H4.out.far hb
  have D5 : Hid (Doc w5 ao4 c.length cap4 c) := D4.out.below hb
  clear hb H4 D4
  have CP : Hid (Calls Tryz.prog 16 #[.slice ao4 c.length cap4] w5 fun e w' => e = .returned (.tuple #[.string (B (Pg.page c)), .int .i64 0]) ∧ Below w5.heap.size w5 w') := by
    have := page_any ao4 c.length cap4 c w5 D5.out H5.out.tz.tabs
    rw [page_eq HCK.out, HCK.out] at this
    exact this
  go_wp2_with fail
  refine CP.out.mono ?_
  rintro e w6 ⟨rfl, hb⟩
  have H6 : Hid (Bk w a1 n1 c1 l a2 n2 c2 d w6) := H5.out.far hb
  have D6 : Hid (Doc w6 ao4 c.length cap4 c) := D5.out.below hb
  clear hb H5 D5 CP
  obtain ⟨w7, cap7, hV⟩ := cv_of w6 (Pg.page c) HSC.out
  have hcv := hV.run
  have H7 : Hid (Bk w a1 n1 c1 l a2 n2 c2 d w7) := H6.out.far hV.below
  have D7 : Hid (Doc w7 ao4 c.length cap4 c) := D6.out.below hV.below
  have hP7 : Byt w7 (some ⟨w6.heap.size, 0, none⟩) (Pg.page c).length cap7 (Pg.page c) := hV.byt
  have CZ : Hid (Calls Tryz.prog 12 #[.slice (some ⟨w6.heap.size, 0, none⟩) (Pg.page c).length cap7] w7 fun e w' => (∃ ao' cap', e = .returned (.tuple #[.slice ao' c.length cap', .int .i64 0]) ∧ Doc w' ao' c.length cap' c) ∧ Below w7.heap.size w7 w') := zread w7 _ _ cap7 _ hP7 H7.out.tz c HSC.out HRC.out
  clear hV hP7 H6 D6
  go_wp2_with fail
  refine CZ.out.mono ?_
  rintro e w8 ⟨⟨ao8, cap8, rfl, hD8⟩, hb⟩
  have H8 : Hid (Bk w a1 n1 c1 l a2 n2 c2 d w8) := H7.out.far hb
  have D8 : Hid (Doc w8 ao4 c.length cap4 c) := D7.out.below hb
  have E8 : Hid (Doc w8 ao8 c.length cap8 c) := hD8
  have CK : Hid (Calls Tryz.prog 18 #[.slice ao4 c.length cap4] w8 fun e w' => e = .returned (.int .i64 0) ∧ Below w8.heap.size w8 w') := by
    have := check_any ao4 c.length cap4 c w8 D8.out H8.out.tz.tabs.sch
    rw [HCK.out] at this
    exact this
  clear hb hD8 H7 D7 hcv CZ
  go_wp2_with fail
  refine CK.out.mono ?_
  rintro e w9 ⟨rfl, hb⟩
  have H9 : Hid (Bk w a1 n1 c1 l a2 n2 c2 d w9) := H8.out.far hb
  have D9 : Hid (Doc w9 ao4 c.length cap4 c) := D8.out.below hb
  have E9 : Hid (Doc w9 ao8 c.length cap8 c) := E8.out.below hb
  clear hb CK H8 D8 E8
  go_wp2_with fail
  refine (same_any ao8 ao4 c.length cap8 c.length cap4 c c w9 E9.out D9.out).mono ?_
  rintro e wy ⟨rfl, m9, rfl⟩
  rw [dsame_self]
  have HE : Hid (Below w.heap.size w (w9.drewN m9)) := Go.below_drewN H9.out.below m9
  clear H9 D9 E9
  generalize w9.drewN m9 = we at *
  go_wp2
  go_ret
  exact ⟨rfl, HE.out⟩

set_option maxRecDepth 100000 in
set_option maxHeartbeats 3200000 in
theorem back_no_none (a1 a2 : Option Addr) (n1 c1 n2 c2 : Nat) (l : List UInt8) (d : List It) (w : World) (hB : Byt w a1 n1 c1 l) (hD : Doc w a2 n2 c2 d) (hT : Tz w) (hc : ¬ Dc.check d = 0) (hN : n1 ≤ 20000 → Sn.read (Tk.toks l) = none) :
    Calls Tryz.prog 5 #[.slice a1 n1 c1, .slice a2 n2 c2] w fun e w' => e = .returned (.bool true) ∧ Below w.heap.size w w' := by
  have H0 : Hid (Bk w a1 n1 c1 l a2 n2 c2 d w) := ⟨Below.refl _ _, hB, hD, hT⟩
  have hcap1 := hB.room
  have hbig1 := hB.big
  have hcap2 := hD.room
  have hbig2 := hD.big
  have hcb : (Dc.check d == 0) = false := by simpa using hc
  have C1 : Hid (Calls Tryz.prog 16 #[.slice a2 n2 c2] w fun e w' => e = .returned (.tuple #[.string (B (Dc.page d)), .int .i64 (Dc.check d)]) ∧ Below w.heap.size w w') := page_any a2 n2 c2 d w hD hT.tabs
  clear hc
  generalize Dc.check d = ck at *
  generalize B (Dc.page d) = bp at *
  have HN : Hid (n1 ≤ 20000 → Sn.read (Tk.toks l) = none) := hN
  clear hN
  clear hB hD hT
  go_enter Tryz.func5, Tryz.ntmps5
  go_wp2_with fail
  refine C1.out.mono ?_
  rintro e w1 ⟨rfl, hb⟩
  have H1 : Hid (Bk w a1 n1 c1 l a2 n2 c2 d w1) := H0.out.far hb
  clear hb C1
  obtain ⟨wa, hwa⟩ : ∃ wa, w1 = wa := ⟨_, rfl⟩
  subst hwa
  go_wp2_with fail
  refine (zread_none _ a1 n1 c1 l H1.out.byt H1.out.tz HN.out).mono ?_
  rintro e w4 ⟨rfl, hb⟩
  have H4 : Hid (Bk w a1 n1 c1 l a2 n2 c2 d w4) := H1.out.far hb
  clear hb H1
  go_wp2_with fail
  refine (paged_any w4 H4.out.tz).mono ?_
  rintro e w5 ⟨rfl, hb⟩
  have H5 : Hid (Bk w a1 n1 c1 l a2 n2 c2 d w5) := H4.out.far hb
  clear hb H4
  go_wp2_with fail
  refine (paged_any w5 H5.out.tz).mono ?_
  rintro e w6 ⟨rfl, hb⟩
  have H6 : Hid (Bk w a1 n1 c1 l a2 n2 c2 d w6) := H5.out.far hb
  clear hb H5
  go_wp2
  go_ret
  exact ⟨rfl, H6.out.below⟩

set_option maxRecDepth 100000 in
set_option maxHeartbeats 3200000 in
theorem back_no_some (a1 a2 : Option Addr) (n1 c1 n2 c2 : Nat) (l : List UInt8) (d : List It) (w : World) (hB : Byt w a1 n1 c1 l) (hD : Doc w a2 n2 c2 d) (hT : Tz w) (hc : ¬ Dc.check d = 0) (c : List It) (hn1 : n1 ≤ 20000) (hR : Sn.read (Tk.toks l) = some c) :
    Calls Tryz.prog 5 #[.slice a1 n1 c1, .slice a2 n2 c2] w fun e w' => e = .returned (.bool true) ∧ Below w.heap.size w w' := by
  have H0 : Hid (Bk w a1 n1 c1 l a2 n2 c2 d w) := ⟨Below.refl _ _, hB, hD, hT⟩
  have hcap1 := hB.room
  have hbig1 := hB.big
  have hcap2 := hD.room
  have hbig2 := hD.big
  have hcb : (Dc.check d == 0) = false := by simpa using hc
  have C1 : Hid (Calls Tryz.prog 16 #[.slice a2 n2 c2] w fun e w' => e = .returned (.tuple #[.string (B (Dc.page d)), .int .i64 (Dc.check d)]) ∧ Below w.heap.size w w') := page_any a2 n2 c2 d w hD hT.tabs
  clear hc
  generalize Dc.check d = ck at *
  generalize B (Dc.page d) = bp at *
  have HR : Hid (Sn.read (Tk.toks l) = some c) := hR
  have HCK : Hid (Dc.check c = 0) := read_check hR
  have HSC : Hid ((Pg.page c).length ≤ 20000) := page_few (read_check hR)
  have HRC : Hid (Sn.read (Tk.toks (Pg.page c)) = some c) := read_back (read_check hR)
  clear hR
  clear hB hD hT
  go_enter Tryz.func5, Tryz.ntmps5
  go_wp2_with fail
  refine C1.out.mono ?_
  rintro e w1 ⟨rfl, hb⟩
  have H1 : Hid (Bk w a1 n1 c1 l a2 n2 c2 d w1) := H0.out.far hb
  clear hb C1
  obtain ⟨wa, hwa⟩ : ∃ wa, w1 = wa := ⟨_, rfl⟩
  subst hwa
  go_wp2_with fail
  refine (zread _ a1 n1 c1 l H1.out.byt H1.out.tz c hn1 HR.out).mono ?_
  rintro e w4 ⟨⟨ao4, cap4, rfl, hD4⟩, hb⟩
  have H4 : Hid (Bk w a1 n1 c1 l a2 n2 c2 d w4) := H1.out.far hb
  have D4 : Hid (Doc w4 ao4 c.length cap4 c) := hD4
  clear hb H1 hD4
  go_wp2_with fail
  refine (paged_any w4 H4.out.tz).mono ?_
  rintro e w5 ⟨rfl, hb⟩
  have H5 : Hid (Bk w a1 n1 c1 l a2 n2 c2 d w5) := H4.out.far hb
  have D5 : Hid (Doc w5 ao4 c.length cap4 c) := D4.out.below hb
  clear hb H4 D4
  have CP : Hid (Calls Tryz.prog 16 #[.slice ao4 c.length cap4] w5 fun e w' => e = .returned (.tuple #[.string (B (Pg.page c)), .int .i64 0]) ∧ Below w5.heap.size w5 w') := by
    have := page_any ao4 c.length cap4 c w5 D5.out H5.out.tz.tabs
    rw [page_eq HCK.out, HCK.out] at this
    exact this
  go_wp2_with fail
  refine CP.out.mono ?_
  rintro e w6 ⟨rfl, hb⟩
  have H6 : Hid (Bk w a1 n1 c1 l a2 n2 c2 d w6) := H5.out.far hb
  have D6 : Hid (Doc w6 ao4 c.length cap4 c) := D5.out.below hb
  clear hb H5 D5 CP
  obtain ⟨w7, cap7, hV⟩ := cv_of w6 (Pg.page c) HSC.out
  have hcv := hV.run
  have H7 : Hid (Bk w a1 n1 c1 l a2 n2 c2 d w7) := H6.out.far hV.below
  have D7 : Hid (Doc w7 ao4 c.length cap4 c) := D6.out.below hV.below
  have hP7 : Byt w7 (some ⟨w6.heap.size, 0, none⟩) (Pg.page c).length cap7 (Pg.page c) := hV.byt
  have CZ : Hid (Calls Tryz.prog 12 #[.slice (some ⟨w6.heap.size, 0, none⟩) (Pg.page c).length cap7] w7 fun e w' => (∃ ao' cap', e = .returned (.tuple #[.slice ao' c.length cap', .int .i64 0]) ∧ Doc w' ao' c.length cap' c) ∧ Below w7.heap.size w7 w') := zread w7 _ _ cap7 _ hP7 H7.out.tz c HSC.out HRC.out
  clear hV hP7 H6 D6
  go_wp2_with fail
  refine CZ.out.mono ?_
  rintro e w8 ⟨⟨ao8, cap8, rfl, hD8⟩, hb⟩
  have H8 : Hid (Bk w a1 n1 c1 l a2 n2 c2 d w8) := H7.out.far hb
  have D8 : Hid (Doc w8 ao4 c.length cap4 c) := D7.out.below hb
  have E8 : Hid (Doc w8 ao8 c.length cap8 c) := hD8
  have CK : Hid (Calls Tryz.prog 18 #[.slice ao4 c.length cap4] w8 fun e w' => e = .returned (.int .i64 0) ∧ Below w8.heap.size w8 w') := by
    have := check_any ao4 c.length cap4 c w8 D8.out H8.out.tz.tabs.sch
    rw [HCK.out] at this
    exact this
  clear hb hD8 H7 D7 hcv CZ
  go_wp2_with fail
  refine CK.out.mono ?_
  rintro e w9 ⟨rfl, hb⟩
  have H9 : Hid (Bk w a1 n1 c1 l a2 n2 c2 d w9) := H8.out.far hb
  have D9 : Hid (Doc w9 ao4 c.length cap4 c) := D8.out.below hb
  have E9 : Hid (Doc w9 ao8 c.length cap8 c) := E8.out.below hb
  clear hb CK H8 D8 E8
  go_wp2_with fail
  refine (same_any ao8 ao4 c.length cap8 c.length cap4 c c w9 E9.out D9.out).mono ?_
  rintro e wy ⟨rfl, m9, rfl⟩
  rw [dsame_self]
  have HE : Hid (Below w.heap.size w (w9.drewN m9)) := Go.below_drewN H9.out.below m9
  clear H9 D9 E9
  generalize w9.drewN m9 = we at *
  go_wp2
  go_ret
  exact ⟨rfl, HE.out⟩

theorem back_any (a1 a2 : Option Addr) (n1 c1 n2 c2 : Nat) (l : List UInt8) (d : List It) (w : World) (hB : Byt w a1 n1 c1 l) (hD : Doc w a2 n2 c2 d) (hT : Tz w) :
    Calls Tryz.prog 5 #[.slice a1 n1 c1, .slice a2 n2 c2] w fun e w' => e = .returned (.bool true) ∧ Below w.heap.size w w' := by
  by_cases hn : n1 ≤ 20000
  · cases hr : Sn.read (Tk.toks l) with
    | none =>
      by_cases hc : Dc.check d = 0
      · exact back_ok_none a1 a2 n1 c1 n2 c2 l d w hB hD hT hc (fun _ => hr)
      · exact back_no_none a1 a2 n1 c1 n2 c2 l d w hB hD hT hc (fun _ => hr)
    | some c =>
      by_cases hc : Dc.check d = 0
      · exact back_ok_some a1 a2 n1 c1 n2 c2 l d w hB hD hT hc c hn hr
      · exact back_no_some a1 a2 n1 c1 n2 c2 l d w hB hD hT hc c hn hr
  · by_cases hc : Dc.check d = 0
    · exact back_ok_none a1 a2 n1 c1 n2 c2 l d w hB hD hT hc (fun h => absurd h hn)
    · exact back_no_none a1 a2 n1 c1 n2 c2 l d w hB hD hT hc (fun h => absurd h hn)
end Go.Proofs.YtpcaiechaakhnabGreatDoor

/-
  From the rows' condition, that the four listed variables read as the listed data, to their cells in memory; and that a heap with those variables laid meets the condition.
-/
namespace Go.Proofs.YtpcaiechaakhnabGreatDoor
open Go.ChangeShapes Go.WideShapes Go.ChangeAt Go.WideMaps Go.WideElems Go.RowKit

theorem own : ownKnob Tryz.prog.godebug = none := by kernel_rfl
/-- The rows' list of variables. -/
def laid4 : List (String × DataW Unit) := [("manyhands/escape.pairs", Rows.laid_manyhands_escape_pairs), ("manyhands/link.schemes", Rows.laid_manyhands_link_schemes), ("manyhands/export.blockNames", Rows.laid_manyhands_export_blockNames), ("manyhands/export.markNames", Rows.laid_manyhands_export_markNames)]
theorem gPairs : Tryz.prog.globalNamed "manyhands/escape.pairs" = some 7 := by kernel_rfl
theorem tPairs : (Tryz.prog.globals[7]?).map (·.type) = some 176 := by kernel_rfl
theorem gSch : Tryz.prog.globalNamed "manyhands/link.schemes" = some 8 := by kernel_rfl
theorem tSch : (Tryz.prog.globals[8]?).map (·.type) = some 200 := by kernel_rfl
theorem gBlk : Tryz.prog.globalNamed "manyhands/export.blockNames" = some 1 := by kernel_rfl
theorem tBlk : (Tryz.prog.globals[1]?).map (·.type) = some 96 := by kernel_rfl
theorem gMrk : Tryz.prog.globalNamed "manyhands/export.markNames" = some 2 := by kernel_rfl
theorem tMrk : (Tryz.prog.globals[2]?).map (·.type) = some 99 := by kernel_rfl
theorem c3 : Tryz.prog.cellsOf 3 = 1 := by kernel_rfl
theorem c5 : Tryz.prog.cellsOf 5 = 1 := by kernel_rfl
theorem c9 : Tryz.prog.cellsOf 9 = 1 := by kernel_rfl
theorem c80 : Tryz.prog.cellsOf 175 = 2 := by kernel_rfl
theorem c81 : Tryz.prog.cellsOf 176 = 8 := by kernel_rfl
theorem c108 : Tryz.prog.cellsOf 200 = 3 := by kernel_rfl
theorem c121 : Tryz.prog.cellsOf 96 = 4 := by kernel_rfl
theorem c123 : Tryz.prog.cellsOf 98 = 2 := by kernel_rfl
theorem c124 : Tryz.prog.cellsOf 99 = 4 := by kernel_rfl

/-- What is known of a variable that is laid. -/
def LaidAt (W : World) (n : String) (d : DataW Unit) : Prop :=
  ∃ g t cs fuel p, Tryz.prog.globalNamed n = some g ∧ (Tryz.prog.globals[g]?).map (·.type) = some t ∧ W.var? Tryz.prog n = some cs ∧ DataW.trod (fun _ => ()) Tryz.prog W 0 (fun _ => true) false fuel t cs.toList = some (d, p)
theorem vars_split {W : World} {n : String} {d : DataW Unit} {r : List (String × DataW Unit)} {ps : List MemPlace} (h : DataW.LaidVars Tryz.prog W ((n, d) :: r) ps) : LaidAt W n d ∧ ∃ q, DataW.LaidVars Tryz.prog W r q := by
  obtain ⟨g0, t0, cs0, f0, p0, q0, hg0, ht0, hv0, hd0, hr, _⟩ := h
  exact ⟨⟨g0, t0, cs0, f0, p0, hg0, ht0, hv0, hd0⟩, q0, hr⟩
theorem heap_of_var {W : World} {n : String} {g : Nat} {cs : Array Value} (hg : Tryz.prog.globalNamed n = some g) (h : W.var? Tryz.prog n = some cs) : ∃ t fr, W.heap[g]? = some (.cells cs t fr) := by
  simp only [World.var?, hg, Option.bind_some] at h
  split at h
  · rename_i cs' t fr hh
    simp at h
    subst h
    exact ⟨t, fr, hh⟩
  · cases h
theorem str_cell {W : World} {fuel : Nat} {cs : List Value} {l : List UInt8} {ps : List MemPlace}
    (h : DataW.trod (fun _ => ()) Tryz.prog W 0 (fun _ => true) false fuel 9 cs = some (.lit (.string l), ps)) : cs = [.string ⟨l.toArray⟩] := by
  obtain ⟨s, e, j, _⟩ := DataW.trod_string Tryz.underlying9 h
  simp at j
  rw [e, j.1]
theorem pair_cells {W : World} {fuel : Nat} {cs : List Value} {k : Int} {l : List UInt8} {ps : List MemPlace}
    (h : DataW.trod (fun _ => ()) Tryz.prog W 0 (fun _ => true) false fuel 175 cs = some (.agg [.lit (.int .u8 k), .lit (.string l)], ps)) : cs = [.int .u8 k, .string ⟨l.toArray⟩] := by
  obtain ⟨y0, y1, n, hx, hl, h0, h1⟩ := trod_struct2 Tryz.underlying175 h
  simp only [Prod.mk.injEq, DataW.agg.injEq, List.cons.injEq, and_true] at hx
  simp only [c5, c9] at h0 h1
  rw [c80] at hl
  match cs, hl with
  | [a, b], _ =>
    obtain ⟨k', e0, r0, _⟩ := DataW.trod_int Tryz.underlying5 h0
    obtain ⟨s', e1, r1, _⟩ := DataW.trod_string Tryz.underlying9 h1
    simp at e0 e1
    subst e0 e1
    rw [r0, r1] at hx
    simp at hx
    obtain ⟨⟨hk, hs⟩, _⟩ := hx
    subst hk
    have : s' = ⟨l.toArray⟩ := by rw [hs]
    rw [this]
theorem mark_cells {W : World} {fuel : Nat} {cs : List Value} {k : Int} {l : List UInt8} {ps : List MemPlace}
    (h : DataW.trod (fun _ => ()) Tryz.prog W 0 (fun _ => true) false fuel 98 cs = some (.agg [.lit (.int .i64 k), .lit (.string l)], ps)) : cs = [.int .i64 k, .string ⟨l.toArray⟩] := by
  obtain ⟨y0, y1, n, hx, hl, h0, h1⟩ := trod_struct2 Tryz.underlying98 h
  simp only [Prod.mk.injEq, DataW.agg.injEq, List.cons.injEq, and_true] at hx
  simp only [c3, c9] at h0 h1
  rw [c123] at hl
  match cs, hl with
  | [a, b], _ =>
    obtain ⟨k', e0, r0, _⟩ := DataW.trod_int Tryz.underlying3 h0
    obtain ⟨s', e1, r1, _⟩ := DataW.trod_string Tryz.underlying9 h1
    simp at e0 e1
    subst e0 e1
    rw [r0, r1] at hx
    simp at hx
    obtain ⟨⟨hk, hs⟩, _⟩ := hx
    subst hk
    have : s' = ⟨l.toArray⟩ := by rw [hs]
    rw [this]
theorem list3 {α : Type} (l : List α) (h : l.length = 3) (a b c : α) (h0 : (l.drop (0 * 1)).take 1 = [a]) (h1 : (l.drop (1 * 1)).take 1 = [b]) (h2 : (l.drop (2 * 1)).take 1 = [c]) : l = [a, b, c] := by
  match l, h with
  | [x0, x1, x2], _ => simp at h0 h1 h2; simp [h0, h1, h2]
theorem list4 {α : Type} (l : List α) (h : l.length = 4) (a b c d : α) (h0 : (l.drop (0 * 1)).take 1 = [a]) (h1 : (l.drop (1 * 1)).take 1 = [b]) (h2 : (l.drop (2 * 1)).take 1 = [c]) (h3 : (l.drop (3 * 1)).take 1 = [d]) : l = [a, b, c, d] := by
  match l, h with
  | [x0, x1, x2, x3], _ => simp at h0 h1 h2 h3; simp [h0, h1, h2, h3]
theorem list22 {α : Type} (l : List α) (h : l.length = 4) (a b c d : α) (h0 : (l.drop (0 * 2)).take 2 = [a, b]) (h1 : (l.drop (1 * 2)).take 2 = [c, d]) : l = [a, b, c, d] := by
  match l, h with
  | [x0, x1, x2, x3], _ => simp at h0 h1; simp [h0, h1]
theorem list8 {α : Type} (l : List α) (h : l.length = 8) (a b c d e f g i : α) (h0 : (l.drop (0 * 2)).take 2 = [a, b]) (h1 : (l.drop (1 * 2)).take 2 = [c, d]) (h2 : (l.drop (2 * 2)).take 2 = [e, f]) (h3 : (l.drop (3 * 2)).take 2 = [g, i]) : l = [a, b, c, d, e, f, g, i] := by
  match l, h with
  | [x0, x1, x2, x3, x4, x5, x6, x7], _ => simp at h0 h1 h2 h3; simp [h0, h1, h2, h3]

set_option maxRecDepth 100000 in
theorem pairs_of {W : World} (h : LaidAt W "manyhands/escape.pairs" Rows.laid_manyhands_escape_pairs) : Pairs W := by
  obtain ⟨g0, t0, cs0, f0, p0, hg0, ht0, hv0, hd0⟩ := h
  obtain rfl := Option.some.inj (gPairs.symm.trans hg0)
  obtain rfl := Option.some.inj (tPairs.symm.trans ht0)
  obtain ⟨xs, m1, rfl, hx1, hlen, hn4, hel⟩ := DataW.trod_array Tryz.underlying176 hd0
  simp only [Prod.mk.injEq, DataW.agg.injEq, Rows.laid_manyhands_escape_pairs] at hx1
  rw [c81] at hlen
  have e0 := hel 0 (by decide)
  have e1 := hel 1 (by decide)
  have e2 := hel 2 (by decide)
  have e3 := hel 3 (by decide)
  rw [c80] at e0 e1 e2 e3
  match xs, hn4, hx1, e0, e1, e2, e3 with
  | [(x0, q0), (x1, q1), (x2, q2), (x3, q3)], _, hx1, e0, e1, e2, e3 =>
    simp only [List.map_cons, List.map_nil, List.cons.injEq, and_true] at hx1
    obtain ⟨⟨r0, r1, r2, r3⟩, _⟩ := hx1
    subst r0 r1 r2 r3
    have hcs : cs0 = pcells := by
      apply Array.ext'
      rw [list8 cs0.toList hlen _ _ _ _ _ _ _ _ (pair_cells e0) (pair_cells e1) (pair_cells e2) (pair_cells e3)]
      rfl
    subst hcs
    exact heap_of_var gPairs hv0
set_option maxRecDepth 100000 in
theorem sch_of {W : World} (h : LaidAt W "manyhands/link.schemes" Rows.laid_manyhands_link_schemes) : Sch W := by
  obtain ⟨g0, t0, cs0, f0, p0, hg0, ht0, hv0, hd0⟩ := h
  obtain rfl := Option.some.inj (gSch.symm.trans hg0)
  obtain rfl := Option.some.inj (tSch.symm.trans ht0)
  obtain ⟨xs, m1, rfl, hx1, hlen, hn3, hel⟩ := DataW.trod_array Tryz.underlying200 hd0
  simp only [Prod.mk.injEq, DataW.agg.injEq, Rows.laid_manyhands_link_schemes] at hx1
  rw [c108] at hlen
  have e0 := hel 0 (by decide)
  have e1 := hel 1 (by decide)
  have e2 := hel 2 (by decide)
  rw [c9] at e0 e1 e2
  match xs, hn3, hx1, e0, e1, e2 with
  | [(x0, q0), (x1, q1), (x2, q2)], _, hx1, e0, e1, e2 =>
    simp only [List.map_cons, List.map_nil, List.cons.injEq, and_true] at hx1
    obtain ⟨⟨r0, r1, r2⟩, _⟩ := hx1
    subst r0 r1 r2
    have hcs : cs0 = scells := by
      apply Array.ext'
      rw [list3 cs0.toList hlen _ _ _ (str_cell e0) (str_cell e1) (str_cell e2)]
      rfl
    subst hcs
    exact heap_of_var gSch hv0
set_option maxRecDepth 100000 in
theorem blocks_of {W : World} (h : LaidAt W "manyhands/export.blockNames" Rows.laid_manyhands_export_blockNames) : Blocks W := by
  obtain ⟨g0, t0, cs0, f0, p0, hg0, ht0, hv0, hd0⟩ := h
  obtain rfl := Option.some.inj (gBlk.symm.trans hg0)
  obtain rfl := Option.some.inj (tBlk.symm.trans ht0)
  obtain ⟨xs, m1, rfl, hx1, hlen, hn4, hel⟩ := DataW.trod_array Tryz.underlying96 hd0
  simp only [Prod.mk.injEq, DataW.agg.injEq, Rows.laid_manyhands_export_blockNames] at hx1
  rw [c121] at hlen
  have e0 := hel 0 (by decide)
  have e1 := hel 1 (by decide)
  have e2 := hel 2 (by decide)
  have e3 := hel 3 (by decide)
  rw [c9] at e0 e1 e2 e3
  match xs, hn4, hx1, e0, e1, e2, e3 with
  | [(x0, q0), (x1, q1), (x2, q2), (x3, q3)], _, hx1, e0, e1, e2, e3 =>
    simp only [List.map_cons, List.map_nil, List.cons.injEq, and_true] at hx1
    obtain ⟨⟨r0, r1, r2, r3⟩, _⟩ := hx1
    subst r0 r1 r2 r3
    have hcs : cs0 = bcells := by
      apply Array.ext'
      rw [list4 cs0.toList hlen _ _ _ _ (str_cell e0) (str_cell e1) (str_cell e2) (str_cell e3)]
      rfl
    subst hcs
    exact heap_of_var gBlk hv0
set_option maxRecDepth 100000 in
theorem marks_of {W : World} (h : LaidAt W "manyhands/export.markNames" Rows.laid_manyhands_export_markNames) : Marks W := by
  obtain ⟨g0, t0, cs0, f0, p0, hg0, ht0, hv0, hd0⟩ := h
  obtain rfl := Option.some.inj (gMrk.symm.trans hg0)
  obtain rfl := Option.some.inj (tMrk.symm.trans ht0)
  obtain ⟨xs, m1, rfl, hx1, hlen, hn2, hel⟩ := DataW.trod_array Tryz.underlying99 hd0
  simp only [Prod.mk.injEq, DataW.agg.injEq, Rows.laid_manyhands_export_markNames] at hx1
  rw [c124] at hlen
  have e0 := hel 0 (by decide)
  have e1 := hel 1 (by decide)
  rw [c123] at e0 e1
  match xs, hn2, hx1, e0, e1 with
  | [(x0, q0), (x1, q1)], _, hx1, e0, e1 =>
    simp only [List.map_cons, List.map_nil, List.cons.injEq, and_true] at hx1
    obtain ⟨⟨r0, r1⟩, _⟩ := hx1
    subst r0 r1
    have hcs : cs0 = mcells := by
      apply Array.ext'
      rw [list22 cs0.toList hlen _ _ _ _ (mark_cells e0) (mark_cells e1)]
      rfl
    subst hcs
    exact heap_of_var gMrk hv0

theorem of_laid {W : World} (h : laidMetH Tryz.prog laid4 W) : Tabs W := by
  rw [MakeChecks.laidMetH_plain _ _ _ (by kernel_rfl)] at h
  obtain ⟨ps, h1, _⟩ := h
  obtain ⟨a1, q1, h2⟩ := vars_split h1
  obtain ⟨a2, q2, h3⟩ := vars_split h2
  obtain ⟨a3, q3, h4⟩ := vars_split h3
  obtain ⟨a4, q4, _⟩ := vars_split h4
  exact ⟨sch_of a2, pairs_of a1, blocks_of a3, marks_of a4⟩

theorem met4 (os : Os) (args : Array Value) : laidMetH Tryz.prog laid4 ((World.laidAll Tryz.prog os laid4).forCall (fun _ _ => 0) ⟨#[], args, []⟩).memory := by
  rw [MakeChecks.laidMetH_plain _ _ _ (by kernel_rfl)]
  exact laidMet_laidAll _ (by kernel_rfl) (by kernel_rfl)
end Go.Proofs.YtpcaiechaakhnabGreatDoor
