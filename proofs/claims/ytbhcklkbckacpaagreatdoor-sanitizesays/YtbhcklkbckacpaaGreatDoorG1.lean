/-
  Texts of this proof, one behind the other.
-/
import Derived.Test.YtbhcklkbckacpaaGreatDoorG0
import Derived.Deep.QuietTactic
import Derived.BigQuiet
import Derived.Handy
import Derived.Lib.LazyBuf
import Derived.Deep.RegionWith
import Derived.BigRegion
import Derived.Deep.MidRow

/-
  (*strings.trieNode).add: at a node that is empty, with no key left and with one.
-/
namespace Go.Proofs.YtbhcklkbckacpaaGreatDoor
open Go.RowKit

abbrev nilS : Value := .slice none 0 0
abbrev ptr (b : Nat) : Value := .pointer (some ⟨b, 0, none⟩)
def node (val : ByteArray) (pri : Int) (pre : ByteArray) (nxt tab : Value) : List Value := [.string val, .int .i64 pri, .string pre, nxt, tab]
def leafN (val : ByteArray) (pri : Int) : List Value := node val pri ⟨#[]⟩ (.pointer none) nilS
def emptyN : List Value := leafN ⟨#[]⟩ 0

set_option maxRecDepth 100000 in
set_option maxHeartbeats 800000 in
theorem add_leaf (b : Nat) (val : ByteArray) (pri : Int) (r : Value) (w : World) (hb : Blk w b emptyN 354) :
    Calls Tryz.prog 293 #[ptr b, .string ⟨#[]⟩, .string val, .int .i64 pri, r] w fun e w' => e = .returned (.tuple #[]) ∧ Blk w' b (leafN val pri) 354 ∧ Kept w w' [b] ∧ w'.heap.size = w.heap.size := by
  have h0 : w.cell? ⟨b, 0, none⟩ = some (.string ⟨#[]⟩) := hb.cell 0
  have h1 : w.cell? ⟨b, 1, none⟩ = some (.int .i64 0) := hb.cell 1
  have f0 := hb.frozen 0
  have f1 := hb.frozen 1
  have HB : Hid (Blk w b emptyN 354) := hb
  clear hb
  go_enter Tryz.func293, Tryz.ntmps293
  go_wp2
  go_returns
  refine ⟨rfl, (HB.out.set 0 _).set 1 _, ((Kept.refl w [b]).setCell _ _ (.inl (by simp))).setCell _ _ (.inl (by simp)), by simp⟩

set_option maxRecDepth 100000 in
set_option maxHeartbeats 800000 in
theorem add_plain (b : Nat) (key val : ByteArray) (pri : Int) (r : Value) (w : World) (hb : Blk w b emptyN 354) (hk : key.toList.isEmpty = false) :
    Calls Tryz.prog 293 #[ptr b, .string key, .string val, .int .i64 pri, r] w fun e w' => e = .returned (.tuple #[]) ∧ Blk w' b (node ⟨#[]⟩ 0 key (ptr w.heap.size) nilS) 354 ∧ Blk w' w.heap.size (leafN val pri) 354 ∧ Kept w w' [b] ∧ w'.heap.size = w.heap.size + 1 := by
  have h2 : w.cell? ⟨b, 2, none⟩ = some (.string ⟨#[]⟩) := hb.cell 2
  have h3 : w.cell? ⟨b, 3, none⟩ = some (.pointer none) := hb.cell 3
  have h4 : w.cell? ⟨b, 4, none⟩ = some nilS := hb.cell 4
  have f2 := hb.frozen 2
  have f3 := hb.frozen 3
  have HB : Hid (Blk w b emptyN 354) := hb
  have hlt := hb.lt
  clear hb
  have hnq := fun w => run_neq_slice_nil (P := Tryz.prog) w 352 351 none 0 0 Tryz.underlying352
  go_enter Tryz.func293, Tryz.ntmps293
  go_wp2_with fail
  refine (add_leaf w.heap.size val pri r _ ?_).mono ?_
  · exact Blk.newAt _ _ emptyN 354 (by simp)
  rintro e w1 ⟨rfl, hb1, hk1, hs1⟩
  have HB1 : Hid (Blk w1 w.heap.size (leafN val pri) 354) := hb1
  have HK1 : Hid (Kept w w1 [b]) := ((((Kept.refl w [b]).setCell ⟨b, 2, none⟩ (.string key) (.inl (by simp))).setCell ⟨b, 3, none⟩ (ptr w.heap.size) (.inl (by simp))).alloc _).trans_new hk1 (by simp)
  have HBb : Hid (Blk w1 b (node ⟨#[]⟩ 0 key (ptr w.heap.size) nilS) 354) := hk1.blk ((((HB.out.set 2 (.string key)).set 3 (ptr w.heap.size))).alloc _) (by simp; omega)
  have HS : Hid (w1.heap.size = w.heap.size + 1) := by simp at hs1; exact hs1
  clear hb1 hk1 hs1
  go_wp2
  go_returns
  exact ⟨rfl, HBb.out, HB1.out, HK1.out, HS.out⟩
end Go.Proofs.YtbhcklkbckacpaaGreatDoor

/-
  (*strings.trieNode).add at a node that has a table: the key's first byte leads on.
-/
namespace Go.Proofs.YtbhcklkbckacpaaGreatDoor
open Go.RowKit

set_option maxRecDepth 100000 in
set_option maxHeartbeats 1600000 in
theorem add_on (b tb rb nb : Nat) (key key' val : ByteArray) (pri c : Int) (m : Nat) (w : World) (Q : Ending → World → Prop)
    (hk : key.toList.isEmpty = false) (c0 : 0 ≤ c) (c1 : c < 256) (hm : m < 11)
    (hix : ∀ w, (Instr.index 9 (.string key) (.int .i64 0)).run Tryz.prog w = .ok (.int .u8 c) w)
    (hsl : ∀ w, (Instr.slice 9 (.string key) (some (.int .i64 1)) none none).run Tryz.prog w = .ok (.string key') w)
    (h2 : w.cell? ⟨b, 2, none⟩ = some (.string ⟨#[]⟩)) (h4 : w.cell? ⟨b, 4, none⟩ = some (.slice (some ⟨tb, 0, none⟩) 11 11))
    (hmap : w.cell? ⟨rb, 6 + c.toNat, none⟩ = some (.int .u8 m)) (htab : w.cell? ⟨tb, m, none⟩ = some (ptr nb))
    (hin : Hid (∀ n, Calls Tryz.prog 293 #[ptr nb, .string key', .string val, .int .i64 pri, ptr rb] (w.drewN n) fun e w' => e = .returned (.tuple #[]) ∧ Q e w')) :
    Calls Tryz.prog 293 #[ptr b, .string key, .string val, .int .i64 pri, ptr rb] w fun e w' => e = .returned (.tuple #[]) ∧ Q e w' := by
  have hnq := fun w => run_neq_slice_nil (P := Tryz.prog) w 352 351 (some ⟨tb, 0, none⟩) 11 11 Tryz.underlying352
  go_enter Tryz.func293, Tryz.ntmps293
  go_wp2_with fail
  go_quiet (fail)
  go_wp2_with fail
  go_region_with (go_at_call 293; refine (hin.out _).mono ?_; rintro e w1 ⟨rfl, hq⟩)
  go_end0
  exact ⟨rfl, by assumption⟩

set_option maxRecDepth 100000 in
set_option maxHeartbeats 1600000 in
theorem add_new (b tb rb : Nat) (key key' val : ByteArray) (pri c : Int) (m : Nat) (w : World) (Q : Ending → World → Prop)
    (hk : key.toList.isEmpty = false) (c0 : 0 ≤ c) (c1 : c < 256) (hm : m < 11) (hb : b < w.heap.size) (htb : tb < w.heap.size) (hbt : b ≠ tb)
    (hix : ∀ w, (Instr.index 9 (.string key) (.int .i64 0)).run Tryz.prog w = .ok (.int .u8 c) w)
    (hsl : ∀ w, (Instr.slice 9 (.string key) (some (.int .i64 1)) none none).run Tryz.prog w = .ok (.string key') w)
    (h2 : w.cell? ⟨b, 2, none⟩ = some (.string ⟨#[]⟩)) (h4 : w.cell? ⟨b, 4, none⟩ = some (.slice (some ⟨tb, 0, none⟩) 11 11))
    (hmap : w.cell? ⟨rb, 6 + c.toNat, none⟩ = some (.int .u8 m)) (htab : w.cell? ⟨tb, m, none⟩ = some (.pointer none)) (hfz : w.frozen? ⟨tb, m, none⟩ = false)
    (hin : Hid (∀ n, Calls Tryz.prog 293 #[ptr w.heap.size, .string key', .string val, .int .i64 pri, ptr rb] (((w.setCell ⟨tb, m, none⟩ (ptr w.heap.size)).alloc (.cells emptyN.toArray 354)).drewN n) fun e w' => e = .returned (.tuple #[]) ∧ Q e w')) :
    Calls Tryz.prog 293 #[ptr b, .string key, .string val, .int .i64 pri, ptr rb] w fun e w' => e = .returned (.tuple #[]) ∧ Q e w' := by
  have hnq := fun w => run_neq_slice_nil (P := Tryz.prog) w 352 351 (some ⟨tb, 0, none⟩) 11 11 Tryz.underlying352
  go_enter Tryz.func293, Tryz.ntmps293
  go_wp2_with fail
  go_quiet (fail)
  generalize hW : w.drewN nq = W at *
  have hsz : W.heap.size = w.heap.size := by rw [← hW]; rfl
  have g2 : W.cell? ⟨b, 2, none⟩ = some (.string ⟨#[]⟩) := by rw [← hW]; exact h2
  have g4 : W.cell? ⟨b, 4, none⟩ = some (.slice (some ⟨tb, 0, none⟩) 11 11) := by rw [← hW]; exact h4
  have gt : W.cell? ⟨tb, m, none⟩ = some (.pointer none) := by rw [← hW]; exact htab
  have gz : W.frozen? ⟨tb, m, none⟩ = false := by rw [← hW]; exact hfz
  have HW : Hid (w.drewN nq = W) := hW
  clear hW h2 h4 htab hfz hmap g2
  have q4 : (W.setCell ⟨tb, m, none⟩ (ptr w.heap.size)).cell? ⟨b, 4, none⟩ = some (.slice (some ⟨tb, 0, none⟩) 11 11) := by
    rw [World.cell?_setCell_other _ _ _ _ (by intro e; exact hbt (congrArg Addr.block e).symm)]; exact g4
  have qt : (W.setCell ⟨tb, m, none⟩ (ptr w.heap.size)).cell? ⟨tb, m, none⟩ = some (ptr w.heap.size) := World.cell?_setCell_same _ _ _ gt
  have HN : Hid (Calls Tryz.prog 293 #[ptr w.heap.size, .string key', .string val, .int .i64 pri, ptr rb] ((W.setCell ⟨tb, m, none⟩ (ptr w.heap.size)).alloc (.cells emptyN.toArray 354)).drew fun e w' => e = .returned (.tuple #[]) ∧ Q e w') := by
    rw [← HW.out]; exact hin.out (nq + 1)
  go_wp2_with fail
  have l4 : ((W.setCell ⟨tb, m, none⟩ (ptr w.heap.size)).alloc (.cells emptyN.toArray 354)).cell? ⟨b, 4, none⟩ = some (.slice (some ⟨tb, 0, none⟩) 11 11) := by
    rw [World.cell?_alloc_past _ _ _ (by simp [hsz]; exact hb)]; exact q4
  have lt : ((W.setCell ⟨tb, m, none⟩ (ptr w.heap.size)).alloc (.cells emptyN.toArray 354)).cell? ⟨tb, m, none⟩ = some (ptr w.heap.size) := by
    rw [World.cell?_alloc_past _ _ _ (by simp [hsz]; exact htb)]; exact qt
  have hV : ∃ V, (W.setCell ⟨tb, m, none⟩ (ptr w.heap.size)).alloc (.cells emptyN.toArray 354) = V := ⟨_, rfl⟩
  obtain ⟨V, hV⟩ := hV
  have HN2 : Hid (Calls Tryz.prog 293 #[ptr w.heap.size, .string key', .string val, .int .i64 pri, ptr rb] V.drew fun e w' => e = .returned (.tuple #[]) ∧ Q e w') := by rw [← hV]; exact HN.out
  rw [hV] at l4 lt
  clear HN q4 qt g4 gt gz HW hsz hin
  rw [show (W.setCell ⟨tb, m, none⟩ (Value.pointer (some ⟨w.heap.size, 0, none⟩))).alloc (Obj.cells #[Value.string { data := #[] }, Value.int IntKind.i64 0, Value.string { data := #[] }, Value.pointer none, Value.slice none 0 0] 354) = V from hV]
  clear hV
  go_region_with (go_at_call 293; refine HN2.out.mono ?_; rintro e w1 ⟨rfl, hq⟩)
  go_end0
  exact ⟨rfl, by assumption⟩
end Go.Proofs.YtbhcklkbckacpaaGreatDoor

/-
  (*strings.trieNode).add at a node that leads on by a longer text, with a key whose first byte is another one: a table is laid there.
-/
namespace Go.Proofs.YtbhcklkbckacpaaGreatDoor
open Go.RowKit

theorem size_set_drew (w : World) (a : Addr) (v : Value) : (w.setCell a v).drew.heap.size = w.heap.size := by simp

def nils (k : Nat) : List Value := List.replicate k (.pointer none)
theorem mk97 (w : World) : (Instr.makeSlice 352 (.int .i64 11) (.int .i64 11)).run Tryz.prog w = .ok (.slice (some ⟨w.heap.size, 0, none⟩) 11 11) (w.alloc (.cells (nils 11).toArray 351)) := by kernel_rfl

def tabV (k : Nat) : Value := .slice (some ⟨k, 0, none⟩) 11 11
def ampS : ByteArray := ⟨#[97, 109, 112, 59]⟩
def mpS : ByteArray := ⟨#[109, 112, 59]⟩

def splitW (W : World) (b nb : Nat) : World :=
  ((((W.alloc (.cells (node ⟨#[]⟩ 0 mpS (ptr nb) nilS).toArray 354)).alloc (.cells emptyN.toArray 354)).alloc (.cells (nils 11).toArray 351)).setCell ⟨b, 4, none⟩ (tabV (W.heap.size + 1 + 1))).drew

theorem splitW_facts (W : World) (b nb rb : Nat) (R : List Value) (hA : Blk W b (node ⟨#[]⟩ 0 ampS (ptr nb) nilS) 354) (hR : Blk W rb R 356) (hne : rb ≠ b) :
    Blk (splitW W b nb) b (node ⟨#[]⟩ 0 ampS (ptr nb) (tabV (W.heap.size + 2))) 354 ∧ Blk (splitW W b nb) W.heap.size (node ⟨#[]⟩ 0 mpS (ptr nb) nilS) 354 ∧
    Blk (splitW W b nb) (W.heap.size + 1) emptyN 354 ∧ Blk (splitW W b nb) (W.heap.size + 2) (nils 11) 351 ∧ Blk (splitW W b nb) rb R 356 ∧ Kept W (splitW W b nb) [b] ∧ (splitW W b nb).heap.size = W.heap.size + 3 := by
  have hb := hA.lt
  refine ⟨?_, ?_, ?_, ?_, ?_, ?_, ?_⟩
  · exact (((hA.alloc _).alloc _).alloc _).set 4 _
  · exact (((Blk.new W _ 354).alloc _).alloc _).other _ _ (by simp; omega)
  · exact (((Blk.newAt (W.alloc _) _ emptyN 354 (by simp)).alloc _)).other _ _ (by simp; omega)
  · exact (Blk.newAt ((W.alloc _).alloc _) _ (nils 11) 351 (by simp)).other _ _ (by simp; omega)
  · exact (((hR.alloc _).alloc _).alloc _).other _ _ hne
  · exact (((((Kept.refl W [b]).alloc _).alloc _).alloc _).setCell _ _ (.inl (by simp))).drew
  · simp [splitW]

set_option maxRecDepth 100000 in
set_option maxHeartbeats 1600000 in
theorem add_split (b rb nb : Nat) (R : List Value) (w : World) (hne : rb ≠ b) (hA : Blk w b (node ⟨#[]⟩ 0 ampS (ptr nb) nilS) 354) (hR : Blk w rb R 356)
    (r5 : R[5]? = some (.int .i64 11)) (ra : R[103]? = some (.int .u8 2)) (rl : R[114]? = some (.int .u8 4)) :
    Calls Tryz.prog 293 #[ptr b, .string ⟨#[108, 116, 59]⟩, .string ⟨#[60]⟩, .int .i64 6, ptr rb] w fun e w' => e = .returned (.tuple #[]) ∧
      Blk w' b (node ⟨#[]⟩ 0 ⟨#[]⟩ (.pointer none) (tabV (w.heap.size + 2))) 354 ∧ Blk w' w.heap.size (node ⟨#[]⟩ 0 mpS (ptr nb) nilS) 354 ∧ Blk w' (w.heap.size + 1) (node ⟨#[]⟩ 0 ⟨#[116, 59]⟩ (ptr (w.heap.size + 3)) nilS) 354 ∧
      Blk w' (w.heap.size + 2) (((nils 11).set 2 (ptr w.heap.size)).set 4 (ptr (w.heap.size + 1))) 351 ∧ Blk w' (w.heap.size + 3) (leafN ⟨#[60]⟩ 6) 354 ∧ Kept w w' [b] ∧ w'.heap.size = w.heap.size + 4 := by
  have hmk := mk97
  have ix1 : ∀ w, (Instr.index 9 (.string ⟨#[97, 109, 112, 59]⟩) (.int .i64 0)).run Tryz.prog w = .ok (.int .u8 97) w := fun _ => by kernel_rfl
  have ix2 : ∀ w, (Instr.index 9 (.string ⟨#[108, 116, 59]⟩) (.int .i64 0)).run Tryz.prog w = .ok (.int .u8 108) w := fun _ => by kernel_rfl
  have sl1 : ∀ w, (Instr.slice 9 (.string ⟨#[97, 109, 112, 59]⟩) (some (.int .i64 1)) none none).run Tryz.prog w = .ok (.string ⟨#[109, 112, 59]⟩) w := fun _ => by kernel_rfl
  have sl2 : ∀ w, (Instr.slice 9 (.string ⟨#[108, 116, 59]⟩) (some (.int .i64 1)) none none).run Tryz.prog w = .ok (.string ⟨#[116, 59]⟩) w := fun _ => by kernel_rfl
  have h2 : w.cell? ⟨b, 2, none⟩ = some (.string ⟨#[97, 109, 112, 59]⟩) := hA.cell 2
  have HA : Hid (Blk w b (node ⟨#[]⟩ 0 ampS (ptr nb) nilS) 354) := hA
  have HR : Hid (Blk w rb R 356) := hR
  have R5 : Hid (R[5]? = some (.int .i64 11)) := r5
  have Ra : Hid (R[103]? = some (.int .u8 2)) := ra
  have Rl : Hid (R[114]? = some (.int .u8 4)) := rl
  clear hA hR r5 ra rl
  go_enter Tryz.func293, Tryz.ntmps293
  go_wp2_with fail
  refine wp_loop_rounds 1 ?_
  rw [rounds_succ]
  go_wp2_with fail
  go_quiet (fail)
  go_wp2_with fail
  generalize hW : w.drewN nq = W at *
  have HA1 : Hid (Blk W b (node ⟨#[]⟩ 0 ampS (ptr nb) nilS) 354) := by rw [← hW]; exact HA.out
  have HR1 : Hid (Blk W rb R 356) := by rw [← hW]; exact HR.out
  have HK1 : Hid (Kept w W [b]) := by rw [← hW]; exact (Kept.refl w [b]).drewN nq
  have HS1 : Hid (W.heap.size = w.heap.size) := by rw [← hW]; rfl
  have g2 : W.cell? ⟨b, 2, none⟩ = some (.string ⟨#[97, 109, 112, 59]⟩) := HA1.out.cell 2
  have g3 : W.cell? ⟨b, 3, none⟩ = some (ptr nb) := HA1.out.cell 3
  have s5 : W.cell? ⟨rb, 5, none⟩ = some (.int .i64 11) := (HR1.out.cell 5).trans R5.out
  have hbW := HA1.out.lt
  have hrW := HR1.out.lt
  have z4 : ∀ o1 o2 o3, (((W.alloc o1).alloc o2).alloc o3).frozen? ⟨b, 4, none⟩ = false := fun o1 o2 o3 => (((HA1.out.alloc o1).alloc o2).alloc o3).frozen 4
  have y4 : ∀ o1 o2 o3, (((W.alloc o1).alloc o2).alloc o3).cell? ⟨b, 4, none⟩ = some nilS := fun o1 o2 o3 => (((HA1.out.alloc o1).alloc o2).alloc o3).cell 4
  clear hW h2
  go_region
  go_wp2_with fail
  change Code.wp Tryz.prog _ _ _ (splitW W b nb)
  have hF := splitW_facts W b nb rb R HA1.out HR1.out hne
  generalize splitW W b nb = V at *
  obtain ⟨fA, fC, fD, fT, fR, fK, fS⟩ := hF
  have q4 : V.cell? ⟨b, 4, none⟩ = some (.slice (some ⟨W.heap.size + 2, 0, none⟩) 11 11) := fA.cell 4
  have q2 : V.cell? ⟨b, 2, none⟩ = some (.string ⟨#[97, 109, 112, 59]⟩) := fA.cell 2
  have qa : V.cell? ⟨rb, 103, none⟩ = some (.int .u8 2) := (fR.cell 103).trans Ra.out
  have qt : V.cell? ⟨W.heap.size + 2, 2, none⟩ = some (.pointer none) := fT.cell 2
  have qz : V.frozen? ⟨W.heap.size + 2, 2, none⟩ = false := fT.frozen 2
  have FA : Hid (Blk V b (node ⟨#[]⟩ 0 ampS (ptr nb) (tabV (W.heap.size + 2))) 354) := fA
  have FC : Hid (Blk V W.heap.size (node ⟨#[]⟩ 0 mpS (ptr nb) nilS) 354) := fC
  have FD : Hid (Blk V (W.heap.size + 1) emptyN 354) := fD
  have FT : Hid (Blk V (W.heap.size + 2) (nils 11) 351) := fT
  have FR : Hid (Blk V rb R 356) := fR
  have FK : Hid (Kept w V [b]) := HK1.out.trans fK
  have FSz : Hid (V.heap.size = W.heap.size + 3) := fS
  clear fA fC fD fT fR fK fS z4 y4 s5 g2 g3 HA1 HR1 HA HR
  go_region
  go_wp2_with fail
  change Code.wp Tryz.prog _ _ _ ((V.setCell ⟨W.heap.size + 2, 2, none⟩ (ptr W.heap.size)).drew)
  have hlb := FA.out.lt
  have HV : Hid (V.heap.size = W.heap.size + 3) := FSz.out
  have GA : Hid (Blk (V.setCell ⟨W.heap.size + 2, 2, none⟩ (ptr W.heap.size)).drew b (node ⟨#[]⟩ 0 ampS (ptr nb) (tabV (W.heap.size + 2))) 354) := FA.out.other _ _ (by simp; omega)
  have GC : Hid (Blk (V.setCell ⟨W.heap.size + 2, 2, none⟩ (ptr W.heap.size)).drew W.heap.size (node ⟨#[]⟩ 0 mpS (ptr nb) nilS) 354) := FC.out.other _ _ (by simp)
  have GD : Hid (Blk (V.setCell ⟨W.heap.size + 2, 2, none⟩ (ptr W.heap.size)).drew (W.heap.size + 1) emptyN 354) := FD.out.other _ _ (by simp)
  have GT : Hid (Blk (V.setCell ⟨W.heap.size + 2, 2, none⟩ (ptr W.heap.size)).drew (W.heap.size + 2) ((nils 11).set 2 (ptr W.heap.size)) 351) := FT.out.set 2 _
  have GR : Hid (Blk (V.setCell ⟨W.heap.size + 2, 2, none⟩ (ptr W.heap.size)).drew rb R 356) := FR.out.other _ _ (by simp; omega)
  have GK : Hid (Kept w (V.setCell ⟨W.heap.size + 2, 2, none⟩ (ptr W.heap.size)).drew [b]) := (FK.out.setCell _ _ (.inr (by simp [HS1.out]))).drew
  have GS : Hid ((V.setCell ⟨W.heap.size + 2, 2, none⟩ (ptr W.heap.size)).drew.heap.size = W.heap.size + 3) := (size_set_drew _ _ _).trans FSz.out
  clear q4 q2 qa qt qz FA FC FD FT FR FK FSz HV
  generalize (V.setCell ⟨W.heap.size + 2, 2, none⟩ (ptr W.heap.size)).drew = V2 at *
  have q4 : V2.cell? ⟨b, 4, none⟩ = some (.slice (some ⟨W.heap.size + 2, 0, none⟩) 11 11) := GA.out.cell 4
  have ql : V2.cell? ⟨rb, 114, none⟩ = some (.int .u8 4) := (GR.out.cell 114).trans Rl.out
  have qt : V2.cell? ⟨W.heap.size + 2, 4, none⟩ = some (.pointer none) := GT.out.cell 4
  have qz : V2.frozen? ⟨W.heap.size + 2, 4, none⟩ = false := GT.out.frozen 4
  have NA : Hid (Blk (V2.setCell ⟨W.heap.size + 2, 4, none⟩ (ptr (W.heap.size + 1))) b (node ⟨#[]⟩ 0 ampS (ptr nb) (tabV (W.heap.size + 2))) 354) := GA.out.other _ _ (by simp; omega)
  have x2 : (V2.setCell ⟨W.heap.size + 2, 4, none⟩ (ptr (W.heap.size + 1))).cell? ⟨b, 2, none⟩ = some (.string ⟨#[97, 109, 112, 59]⟩) := NA.out.cell 2
  have x3 : (V2.setCell ⟨W.heap.size + 2, 4, none⟩ (ptr (W.heap.size + 1))).cell? ⟨b, 3, none⟩ = some (ptr nb) := NA.out.cell 3
  have z2 : (V2.setCell ⟨W.heap.size + 2, 4, none⟩ (ptr (W.heap.size + 1))).frozen? ⟨b, 2, none⟩ = false := NA.out.frozen 2
  have z3 : (V2.setCell ⟨W.heap.size + 2, 4, none⟩ (ptr (W.heap.size + 1))).frozen? ⟨b, 3, none⟩ = false := NA.out.frozen 3
  go_region
  go_wp2_with fail
  have hS1 := HS1.out
  have NC : Hid (Blk (V2.setCell ⟨W.heap.size + 2, 4, none⟩ (ptr (W.heap.size + 1))) W.heap.size (node ⟨#[]⟩ 0 mpS (ptr nb) nilS) 354) := GC.out.other _ _ (by simp)
  have ND : Hid (Blk (V2.setCell ⟨W.heap.size + 2, 4, none⟩ (ptr (W.heap.size + 1))) (W.heap.size + 1) emptyN 354) := GD.out.other _ _ (by simp)
  have NT : Hid (Blk (V2.setCell ⟨W.heap.size + 2, 4, none⟩ (ptr (W.heap.size + 1))) (W.heap.size + 2) (((nils 11).set 2 (ptr W.heap.size)).set 4 (ptr (W.heap.size + 1))) 351) := GT.out.set 4 _
  have NK : Hid (Kept w (V2.setCell ⟨W.heap.size + 2, 4, none⟩ (ptr (W.heap.size + 1))) [b]) := GK.out.setCell _ _ (.inr (by simp [hS1]))
  have NS : Hid ((V2.setCell ⟨W.heap.size + 2, 4, none⟩ (ptr (W.heap.size + 1))).heap.size = W.heap.size + 3) := (size_set_drew _ _ _).trans GS.out
  have hbN : b < W.heap.size := hbW
  generalize V2.setCell ⟨W.heap.size + 2, 4, none⟩ (ptr (W.heap.size + 1)) = U at *
  have XA : Hid (Blk ((U.setCell ⟨b, 2, none⟩ (.string ⟨#[]⟩)).setCell ⟨b, 3, none⟩ (.pointer none)).drew b (node ⟨#[]⟩ 0 ⟨#[]⟩ (.pointer none) (tabV (W.heap.size + 2))) 354) := (NA.out.set 2 _).set 3 _
  have XC : Hid (Blk ((U.setCell ⟨b, 2, none⟩ (.string ⟨#[]⟩)).setCell ⟨b, 3, none⟩ (.pointer none)).drew W.heap.size (node ⟨#[]⟩ 0 mpS (ptr nb) nilS) 354) := (NC.out.other ⟨b, 2, none⟩ _ (by simp; omega)).other ⟨b, 3, none⟩ _ (by simp; omega)
  have XD : Hid (Blk ((U.setCell ⟨b, 2, none⟩ (.string ⟨#[]⟩)).setCell ⟨b, 3, none⟩ (.pointer none)).drew (W.heap.size + 1) emptyN 354) := (ND.out.other ⟨b, 2, none⟩ _ (by simp; omega)).other ⟨b, 3, none⟩ _ (by simp; omega)
  have XT : Hid (Blk ((U.setCell ⟨b, 2, none⟩ (.string ⟨#[]⟩)).setCell ⟨b, 3, none⟩ (.pointer none)).drew (W.heap.size + 2) (((nils 11).set 2 (ptr W.heap.size)).set 4 (ptr (W.heap.size + 1))) 351) := (NT.out.other ⟨b, 2, none⟩ _ (by simp; omega)).other ⟨b, 3, none⟩ _ (by simp; omega)
  have XK : Hid (Kept w ((U.setCell ⟨b, 2, none⟩ (.string ⟨#[]⟩)).setCell ⟨b, 3, none⟩ (.pointer none)).drew [b]) := ((NK.out.setCell _ _ (.inl (by simp))).setCell _ _ (.inl (by simp))).drew
  have XS : Hid (((U.setCell ⟨b, 2, none⟩ (.string ⟨#[]⟩)).setCell ⟨b, 3, none⟩ (.pointer none)).drew.heap.size = W.heap.size + 3) := ((size_set_drew _ _ _).trans (size_set_drew _ _ _)).trans NS.out
  have hadd := add_plain (W.heap.size + 1) ⟨#[116, 59]⟩ ⟨#[60]⟩ 6 (ptr rb) _ XD.out (by rw [Lib.toList_data]; rfl)
  rw [XS.out] at hadd
  refine hadd.mono ?_
  clear hadd
  rintro e w4 ⟨rfl, k1, k2, k3, k4⟩
  have Y1 : Hid (Blk w4 b (node ⟨#[]⟩ 0 ⟨#[]⟩ (.pointer none) (tabV (w.heap.size + 2))) 354) := by rw [← hS1]; exact k3.blk XA.out (by simp; omega)
  have Y2 : Hid (Blk w4 w.heap.size (node ⟨#[]⟩ 0 mpS (ptr nb) nilS) 354) := by rw [← hS1]; exact k3.blk XC.out (by simp)
  have Y3 : Hid (Blk w4 (w.heap.size + 1) (node ⟨#[]⟩ 0 ⟨#[116, 59]⟩ (ptr (w.heap.size + 3)) nilS) 354) := by rw [← hS1]; exact k1
  have Y4 : Hid (Blk w4 (w.heap.size + 2) (((nils 11).set 2 (ptr w.heap.size)).set 4 (ptr (w.heap.size + 1))) 351) := by rw [← hS1]; exact k3.blk XT.out (by simp)
  have Y5 : Hid (Blk w4 (w.heap.size + 3) (leafN ⟨#[60]⟩ 6) 354) := by rw [← hS1]; exact k2
  have Y6 : Hid (Kept w w4 [b]) := XK.out.trans_new k3 (by simp [hS1])
  have Y7 : Hid (w4.heap.size = w.heap.size + 4) := by show _ = _; omega
  clear k1 k2 k3 k4 XA XC XD XT XK XS NA NC ND NT NK NS x2 x3 z2 z3 q4 ql qt qz GA GC GD GT GR GK GS hS1 HS1
  go_wp2
  go_returns
  exact ⟨rfl, Y1.out, Y2.out, Y3.out, Y4.out, Y5.out, Y6.out, Y7.out⟩
end Go.Proofs.YtbhcklkbckacpaaGreatDoor

/-
  strings.makeGenericReplacer's own memory: the cells of a generic replacer, and what a store makes of them.
-/
namespace Go.Proofs.YtbhcklkbckacpaaGreatDoor
open Go.RowKit

def mapL (f : Nat → Int) : List Value := (List.range 256).map fun i => .int .u8 (f i)
def rarr (root : List Value) (ts : Int) (f : Nat → Int) : List Value := root ++ (.int .i64 ts :: mapL f)
def upd (f : Nat → Int) (k : Nat) (v : Int) : Nat → Int := fun i => if i = k then v else f i

theorem mapL_length (f : Nat → Int) : (mapL f).length = 256 := by simp [mapL]
theorem mapL_at (f : Nat → Int) (k : Nat) (h : k < 256) : (mapL f)[k]? = some (.int .u8 (f k)) := by simp [mapL, h]
theorem mapL_set (f : Nat → Int) (k : Nat) (v : Int) : (mapL f).set k (.int .u8 v) = mapL (upd f k v) := by
  apply List.ext_getElem?
  intro i
  rw [List.getElem?_set]
  by_cases h : k = i
  · subst h
    by_cases hk : k < 256
    · rw [if_pos rfl, if_pos (by rw [mapL_length]; exact hk), mapL_at _ _ hk]; simp [upd]
    · rw [if_pos rfl, if_neg (by rw [mapL_length]; exact hk)]; simp [hk, mapL]
  · by_cases hi : i < 256
    · simp [h, mapL_at _ _ hi, upd, Ne.symm h]
    · simp [h, mapL, hi]
theorem rarr_map (root : List Value) (ts : Int) (f : Nat → Int) (hr : root.length = 5) (k : Nat) (h : k < 256) : (rarr root ts f)[6 + k]? = some (.int .u8 (f k)) := by
  unfold rarr
  rw [List.getElem?_append_right (by omega), show 6 + k - root.length = k + 1 by omega, List.getElem?_cons_succ, mapL_at f k h]
theorem rarr_ts (root : List Value) (ts : Int) (f : Nat → Int) (hr : root.length = 5) : (rarr root ts f)[5]? = some (.int .i64 ts) := by
  unfold rarr
  rw [List.getElem?_append_right (by omega), hr]
  rfl
theorem rarr_root (root : List Value) (ts : Int) (f : Nat → Int) (hr : root.length = 5) (j : Nat) (h : j < 5) : (rarr root ts f)[j]? = root[j]? := by
  unfold rarr
  rw [List.getElem?_append_left (by omega)]
theorem rarr_set_map (root : List Value) (ts : Int) (f : Nat → Int) (hr : root.length = 5) (k : Nat) (v : Int) : (rarr root ts f).set (6 + k) (.int .u8 v) = rarr root ts (upd f k v) := by
  unfold rarr
  rw [List.set_append_right _ _ (by omega), show 6 + k - root.length = k + 1 by omega, List.set_cons_succ, mapL_set]
theorem rarr_set_ts (root : List Value) (ts : Int) (f : Nat → Int) (hr : root.length = 5) (v : Int) : (rarr root ts f).set 5 (.int .i64 v) = rarr root v f := by
  unfold rarr
  rw [List.set_append_right _ _ (by omega), hr]
  rfl
theorem rarr_set_root (root : List Value) (ts : Int) (f : Nat → Int) (hr : root.length = 5) (j : Nat) (h : j < 5) (v : Value) : (rarr root ts f).set j v = rarr (root.set j v) ts f := by
  unfold rarr
  rw [List.set_append_left _ _ (by omega)]
def mk (l : List UInt8) : Nat → Int := fun i => if l.any (fun c => c.toNat == i) then 1 else 0
theorem mk_snoc (l : List UInt8) (c : UInt8) : upd (mk l) c.toNat 1 = mk (l ++ [c]) := by
  funext i
  unfold upd mk
  by_cases h : i = c.toNat
  · subst h; simp
  · have : (c.toNat == i) = false := beq_eq_false_iff_ne.2 (Ne.symm h)
    simp [h, List.any_append, this]

theorem zero101 (w : World) : (zeroValue 356).run Tryz.prog w = .ok (.agg (rarr emptyN 0 (fun _ => 0)).toArray) w := by kernel_rfl
theorem info80 : (Tryz.prog.info? 182).map (·.size) = some 256 := by kernel_rfl

theorem range_mid {w : World} {b : Nat} {root : List Value} {ts : Int} {f : Nat → Int} (hr : root.length = 5) (h : Blk w b (rarr root ts f) 356) : w.rangeAt b 6 (mapL f) := by
  intro j v hv
  have hj : j < 256 := by have := (List.getElem?_eq_some_iff.1 hv).1; rwa [mapL_length] at this
  rw [h.cell, rarr_map root ts f hr j hj, ← mapL_at f j hj, hv]

theorem run_index80 (f : Nat → Int) (k : Nat) (hk : k < 256) (w : World) : (Instr.index 182 (.agg (mapL f).toArray) (.int .i64 k)).run Tryz.prog w = .ok (.int .u8 (f k)) w := by
  have h1 := Tryz.underlying182
  have h4 := mapL_at f k hk
  have hs := Tryz.sizeOf5 w
  simp only [Instr.index, asIntOf, Sem.run_bind, Sem.run_pure, Result.andThen_ok, run_underlying h1]
  rw [if_pos ⟨by omega, by omega⟩]
  simp [Sem.run_bind, hs, part, h4]
end Go.Proofs.YtbhcklkbckacpaaGreatDoor

/-
  What strings.makeGenericReplacer reckons of the four ways of writing: which bytes stand in them, and their numbers.
-/
namespace Go.Proofs.YtbhcklkbckacpaaGreatDoor
open Go.RowKit

def onL : List ByteArray := [⟨#[38, 97, 109, 112, 59]⟩, ⟨#[38]⟩, ⟨#[38, 108, 116, 59]⟩, ⟨#[60]⟩, ⟨#[38, 103, 116, 59]⟩, ⟨#[62]⟩, ⟨#[38, 113, 117, 111, 116, 59]⟩, ⟨#[34]⟩]
def onCells : List Value := onL.map Value.string
def preL : Nat → List UInt8
  | 0 => []
  | 1 => [38, 97, 109, 112, 59]
  | 2 => [38, 97, 109, 112, 59, 38, 108, 116, 59]
  | 3 => [38, 97, 109, 112, 59, 38, 108, 116, 59, 38, 103, 116, 59]
  | _ => [38, 97, 109, 112, 59, 38, 108, 116, 59, 38, 103, 116, 59, 38, 113, 117, 111, 116, 59]

theorem on_key (ex : List Value) (q : Nat) (h : q < 4) : ∃ key : ByteArray, (onCells ++ ex)[2 * q]? = some (.string key) ∧ key.size ≤ 6 ∧ preL q ++ key.data.toList = preL (q + 1) := by
  have : q = 0 ∨ q = 1 ∨ q = 2 ∨ q = 3 := by omega
  rcases this with rfl | rfl | rfl | rfl
  · exact ⟨_, rfl, by decide, rfl⟩
  · exact ⟨_, rfl, by decide, rfl⟩
  · exact ⟨_, rfl, by decide, rfl⟩
  · exact ⟨_, rfl, by decide, rfl⟩

theorem take_snoc' (s : ByteArray) (k : Nat) (h : k < s.size) : s.data.toList.take (k + 1) = s.data.toList.take k ++ [s[k]] := by
  rw [List.take_succ_eq_append_getElem (by simpa using h)]; rfl

def F4 : Nat → Int := mk (preL 4)
def cnt (f : Nat → Int) : Nat → Int
  | 0 => 0
  | k + 1 => cnt f k + f k
theorem F4_01 (k : Nat) : 0 ≤ F4 k ∧ F4 k ≤ 1 := by unfold F4 mk; split <;> omega
theorem cnt_bd (k : Nat) : 0 ≤ cnt F4 k ∧ cnt F4 k ≤ k := by
  induction k with
  | zero => exact ⟨Int.le_refl _, Int.le_refl _⟩
  | succ k ih => have := F4_01 k; simp only [cnt]; omega
theorem cnt_all : cnt F4 256 = 11 := by decide +kernel

theorem cnt_mono (k j : Nat) : cnt F4 k ≤ cnt F4 (k + j) := by
  induction j with
  | zero => exact Int.le_refl _
  | succ j ih => have := F4_01 (k + j); show _ ≤ cnt F4 (k + j) + F4 (k + j); omega
theorem cnt_le (k : Nat) (h : k ≤ 256) : cnt F4 k ≤ 11 := by
  obtain ⟨j, hj⟩ := Nat.exists_eq_add_of_le h
  have := cnt_mono k j
  rw [← hj, cnt_all] at this
  exact this
theorem F4_two (k : Nat) : F4 k = 0 ∨ F4 k = 1 := by have := F4_01 k; omega
def FIN (i : Nat) : Int := if F4 i = 0 then 11 else cnt F4 i
def GG (k : Nat) : Nat → Int := fun i => if i < k then FIN i else F4 i
theorem GG_succ (k : Nat) : upd (GG k) k (FIN k) = GG (k + 1) := by
  funext i
  unfold upd GG
  by_cases h : i = k
  · subst h; simp
  · by_cases h2 : i < k
    · simp [h, h2, show i < k + 1 by omega]
    · simp [h, h2, show ¬ i < k + 1 by omega]
theorem GG_all (i : Nat) (h : i < 256) : GG 256 i = FIN i := by simp [GG, h]

end Go.Proofs.YtbhcklkbckacpaaGreatDoor

/-
  The four ways of writing, added to the replacer's tree one behind the other.
-/
namespace Go.Proofs.YtbhcklkbckacpaaGreatDoor
open Go.RowKit

def rootN (tb : Nat) : List Value := node ⟨#[]⟩ 0 ⟨#[]⟩ (.pointer none) (tabV tb)
def RC (tb : Nat) : List Value := rarr (rootN tb) 11 (GG 256)

theorem RC_map (tb k : Nat) (h : k < 256) (v : Int) (hv : FIN k = v) : (RC tb)[6 + k]? = some (.int .u8 v) := by
  rw [RC, rarr_map _ _ _ rfl k h, GG_all k h, hv]
theorem RC_ts (tb : Nat) : (RC tb)[5]? = some (.int .i64 11) := rarr_ts _ _ _ rfl
theorem RC_root (tb j : Nat) (h : j < 5) : (RC tb)[j]? = (rootN tb)[j]? := rarr_root _ _ _ rfl j h
theorem fin38 : FIN 38 = 0 := by decide +kernel
theorem fin97 : FIN 97 = 2 := by decide +kernel
theorem fin108 : FIN 108 = 4 := by decide +kernel
theorem fin103 : FIN 103 = 3 := by decide +kernel
theorem fin113 : FIN 113 = 8 := by decide +kernel

theorem bne_list (s : ByteArray) (h : s.data.toList ≠ []) : s.toList.isEmpty = false := by
  rw [Lib.toList_data]
  cases hh : s.data.toList with
  | nil => exact absurd hh h
  | cons => rfl

theorem add1 (n tb : Nat) (w : World) (hR : Blk w n (RC tb) 356) (hT : Blk w tb (nils 11) 351) (hne : n ≠ tb) :
    Calls Tryz.prog 293 #[ptr n, .string ⟨#[38, 97, 109, 112, 59]⟩, .string ⟨#[38]⟩, .int .i64 8, ptr n] w fun e w' => e = .returned (.tuple #[]) ∧
      (Blk w' tb ((nils 11).set 0 (ptr w.heap.size)) 351 ∧ Blk w' w.heap.size (node ⟨#[]⟩ 0 ampS (ptr (w.heap.size + 1)) nilS) 354 ∧ Blk w' (w.heap.size + 1) (leafN ⟨#[38]⟩ 8) 354 ∧ Kept w w' [tb] ∧ w'.heap.size = w.heap.size + 2) := by
  refine add_new n tb n ⟨#[38, 97, 109, 112, 59]⟩ ampS ⟨#[38]⟩ 8 38 0 w (fun e w' => Blk w' tb ((nils 11).set 0 (ptr w.heap.size)) 351 ∧ Blk w' w.heap.size (node ⟨#[]⟩ 0 ampS (ptr (w.heap.size + 1)) nilS) 354 ∧ Blk w' (w.heap.size + 1) (leafN ⟨#[38]⟩ 8) 354 ∧ Kept w w' [tb] ∧ w'.heap.size = w.heap.size + 2)
    (bne_list _ (by simp)) (by decide) (by decide) (by decide) hR.lt hT.lt hne (fun _ => by kernel_rfl) (fun _ => by kernel_rfl) ?_ ?_ ?_ ?_ (hT.frozen 0) ?_
  · exact (hR.cell 2).trans (RC_root tb 2 (by omega))
  · exact (hR.cell 4).trans (RC_root tb 4 (by omega))
  · exact (hR.cell _).trans (RC_map tb 38 (by omega) 0 fin38)
  · exact hT.cell 0
  · intro m
    have hX := Blk.newAt (w.setCell ⟨tb, 0, none⟩ (ptr w.heap.size)) w.heap.size emptyN 354 (by simp)
    have hS : (((w.setCell ⟨tb, 0, none⟩ (ptr w.heap.size)).alloc (.cells emptyN.toArray 354)).drewN m).heap.size = w.heap.size + 1 := by simp
    have := add_plain w.heap.size ampS ⟨#[38]⟩ 8 (ptr n) _ (hX.drewN m) (bne_list _ (by simp [ampS]))
    rw [hS] at this
    refine this.mono ?_
    rintro e w' ⟨he, k1, k2, k3, k4⟩
    refine ⟨he, ?_, k1, k2, ?_, by omega⟩
    · exact k3.blk (((hT.set 0 _).alloc _).drewN m) (by have := hT.lt; simp; omega)
    · exact (((((Kept.refl w [tb]).setCell _ _ (.inl (by simp))).alloc _).drewN m).trans_new k3 (by simp))

def tab2 (c d : Nat) : List Value := ((nils 11).set 2 (ptr c)).set 4 (ptr d)
def Leads (w : World) (x y : Nat) (pre val : ByteArray) (pri : Int) : Prop := Blk w x (node ⟨#[]⟩ 0 pre (ptr y) nilS) 354 ∧ Blk w y (leafN val pri) 354

theorem add2 (n tb a b : Nat) (T : List Value) (w : World) (hR : Blk w n (RC tb) 356) (hT : Blk w tb T 351) (h0 : T[0]? = some (ptr a)) (hA : Blk w a (node ⟨#[]⟩ 0 ampS (ptr b) nilS) 354) (hne : n ≠ a) :
    Calls Tryz.prog 293 #[ptr n, .string ⟨#[38, 108, 116, 59]⟩, .string ⟨#[60]⟩, .int .i64 6, ptr n] w fun e w' => e = .returned (.tuple #[]) ∧
      (Blk w' a (rootN (w.heap.size + 2)) 354 ∧ Blk w' w.heap.size (node ⟨#[]⟩ 0 mpS (ptr b) nilS) 354 ∧ Leads w' (w.heap.size + 1) (w.heap.size + 3) ⟨#[116, 59]⟩ ⟨#[60]⟩ 6 ∧
       Blk w' (w.heap.size + 2) (tab2 w.heap.size (w.heap.size + 1)) 351 ∧ Kept w w' [a] ∧ w'.heap.size = w.heap.size + 4) := by
  refine add_on n tb n a ⟨#[38, 108, 116, 59]⟩ ⟨#[108, 116, 59]⟩ ⟨#[60]⟩ 6 38 0 w (fun e w' => Blk w' a (rootN (w.heap.size + 2)) 354 ∧ Blk w' w.heap.size (node ⟨#[]⟩ 0 mpS (ptr b) nilS) 354 ∧ Leads w' (w.heap.size + 1) (w.heap.size + 3) ⟨#[116, 59]⟩ ⟨#[60]⟩ 6 ∧
       Blk w' (w.heap.size + 2) (tab2 w.heap.size (w.heap.size + 1)) 351 ∧ Kept w w' [a] ∧ w'.heap.size = w.heap.size + 4)
    (bne_list _ (by simp)) (by decide) (by decide) (by decide) (fun _ => by kernel_rfl) (fun _ => by kernel_rfl) ?_ ?_ ?_ ?_ ?_
  · exact (hR.cell 2).trans (RC_root tb 2 (by omega))
  · exact (hR.cell 4).trans (RC_root tb 4 (by omega))
  · exact (hR.cell _).trans (RC_map tb 38 (by omega) 0 fin38)
  · exact (hT.cell 0).trans h0
  · intro m
    refine (add_split a n b (RC tb) (w.drewN m) hne (hA.drewN m) (hR.drewN m) (RC_ts tb) (RC_map tb 97 (by omega) 2 fin97) (RC_map tb 108 (by omega) 4 fin108)).mono ?_
    rintro e w' ⟨he, k1, k2, k3, k4, k5, k6, k7⟩
    exact ⟨he, k1, k2, ⟨k3, k5⟩, k4, ((Kept.refl w [a]).drewN m).trans k6, k7⟩

theorem add34 (n tb a t1 : Nat) (T T1 : List Value) (key key1 key2 val : ByteArray) (pri c : Int) (k m : Nat) (w : World) (hR : Blk w n (RC tb) 356) (hT : Blk w tb T 351) (h0 : T[0]? = some (ptr a)) (hA : Blk w a (rootN t1) 354) (hT1 : Blk w t1 T1 351) (hm : m < 11)
    (hT1m : T1[m]? = some (.pointer none)) (hat : a ≠ t1) (hk : key.data.toList ≠ []) (hk1 : key1.data.toList ≠ []) (hk2 : key2.data.toList ≠ []) (hck : c = k) (hk256 : k < 256) (hfin : FIN k = m)
    (hix : ∀ w, (Instr.index 9 (.string key) (.int .i64 0)).run Tryz.prog w = .ok (.int .u8 38) w)
    (hsl : ∀ w, (Instr.slice 9 (.string key) (some (.int .i64 1)) none none).run Tryz.prog w = .ok (.string key1) w)
    (hix1 : ∀ w, (Instr.index 9 (.string key1) (.int .i64 0)).run Tryz.prog w = .ok (.int .u8 c) w)
    (hsl1 : ∀ w, (Instr.slice 9 (.string key1) (some (.int .i64 1)) none none).run Tryz.prog w = .ok (.string key2) w) :
    Calls Tryz.prog 293 #[ptr n, .string key, .string val, .int .i64 pri, ptr n] w fun e w' => e = .returned (.tuple #[]) ∧
      (Blk w' t1 (T1.set m (ptr w.heap.size)) 351 ∧ Leads w' w.heap.size (w.heap.size + 1) key2 val pri ∧ Kept w w' [t1] ∧ w'.heap.size = w.heap.size + 2) := by
  have hin : ∀ j, Calls Tryz.prog 293 #[ptr a, .string key1, .string val, .int .i64 pri, ptr n] (w.drewN j) fun e w' => e = .returned (.tuple #[]) ∧
      (Blk w' t1 (T1.set m (ptr w.heap.size)) 351 ∧ Leads w' w.heap.size (w.heap.size + 1) key2 val pri ∧ Kept w w' [t1] ∧ w'.heap.size = w.heap.size + 2) := by
    intro j
    refine add_new a t1 n key1 key2 val pri c m (w.drewN j) (fun e w' => Blk w' t1 (T1.set m (ptr w.heap.size)) 351 ∧ Leads w' w.heap.size (w.heap.size + 1) key2 val pri ∧ Kept w w' [t1] ∧ w'.heap.size = w.heap.size + 2)
      (bne_list _ hk1) (by omega) (by omega) hm hA.lt hT1.lt hat hix1 hsl1 ?_ ?_ ?_ ?_ (hT1.frozen m) ?_
    · exact hA.cell 2
    · exact hA.cell 4
    · have h6 : (6 + c.toNat) = 6 + k := by omega
      rw [h6]
      exact (hR.cell _).trans (RC_map tb k hk256 m hfin)
    · exact (hT1.cell m).trans hT1m
    · intro i
      have hX := Blk.newAt ((w.drewN j).setCell ⟨t1, m, none⟩ (ptr w.heap.size)) w.heap.size emptyN 354 (by simp)
      have hS : ((((w.drewN j).setCell ⟨t1, m, none⟩ (ptr w.heap.size)).alloc (.cells emptyN.toArray 354)).drewN i).heap.size = w.heap.size + 1 := by simp
      have := add_plain w.heap.size key2 val pri (ptr n) _ (hX.drewN i) (bne_list _ hk2)
      rw [hS] at this
      refine this.mono ?_
      rintro e w' ⟨he, k1, k2, k3, k4⟩
      refine ⟨he, ?_, ⟨k1, k2⟩, ?_, by omega⟩
      · exact k3.blk ((((hT1.drewN j).set m _).alloc _).drewN i) (by have := hT1.lt; simp; omega)
      · exact ((((((Kept.refl w [t1]).drewN j).setCell _ _ (.inl (by simp))).alloc _).drewN i).trans_new k3 (by simp))
  refine add_on n tb n a key key1 val pri 38 0 w _ (bne_list _ hk) (by decide) (by decide) (by decide) hix hsl ?_ ?_ ?_ ?_ hin
  · exact (hR.cell 2).trans (RC_root tb 2 (by omega))
  · exact (hR.cell 4).trans (RC_root tb 4 (by omega))
  · exact (hR.cell _).trans (RC_map tb 38 (by omega) 0 fin38)
  · exact (hT.cell 0).trans h0
end Go.Proofs.YtbhcklkbckacpaaGreatDoor

/-
  The replacer's tree in memory, addition by addition.
-/
namespace Go.Proofs.YtbhcklkbckacpaaGreatDoor
open Go.RowKit

def Trie (w : World) (n : Nat) : Prop := ∃ tb a t1 c b d e f g h i : Nat, Blk w n (RC tb) 356 ∧ Blk w tb ((nils 11).set 0 (ptr a)) 351 ∧ Blk w a (rootN t1) 354 ∧ Blk w t1 (((tab2 c d).set 3 (ptr f)).set 8 (ptr h)) 351 ∧
  Leads w c b mpS ⟨#[38]⟩ 8 ∧ Leads w d e ⟨#[116, 59]⟩ ⟨#[60]⟩ 6 ∧ Leads w f g ⟨#[116, 59]⟩ ⟨#[62]⟩ 4 ∧ Leads w h i ⟨#[117, 111, 116, 59]⟩ ⟨#[34]⟩ 2

def genW (wr : World) (n : Nat) : World := (wr.setCell ⟨n, 4, none⟩ (tabV wr.heap.size)).alloc (.cells (nils 11).toArray 351)
theorem genW_facts (w wr : World) (n ob : Nat) (ex : List Value) (hR : Blk wr n (rarr emptyN 11 (GG 256)) 356) (hK : Kept w wr []) (hO : Blk w ob (onCells ++ ex) 9) (hn : n = w.heap.size) :
    Blk (genW wr n) n (RC wr.heap.size) 356 ∧ Blk (genW wr n) wr.heap.size (nils 11) 351 ∧ Blk (genW wr n) ob (onCells ++ ex) 9 ∧ Kept w (genW wr n) [] ∧ (genW wr n).heap.size = wr.heap.size + 1 := by
  subst hn
  refine ⟨?_, ?_, ?_, ?_, ?_⟩
  · have := (hR.set 4 (tabV wr.heap.size)).alloc (.cells (nils 11).toArray 351)
    rw [rarr_set_root emptyN 11 _ rfl 4 (by omega)] at this
    exact this
  · exact Blk.newAt _ _ (nils 11) 351 (by simp)
  · exact ((hK.blk hO (by simp)).other _ _ (by have := hO.lt; simp; omega)).alloc _
  · exact (hK.setCell _ _ (.inr (Nat.le_refl _))).alloc _
  · simp [genW]

def Bes (w : World) (n ob : Nat) (ex : List Value) (wx : World) : Prop := Blk wx ob (onCells ++ ex) 9 ∧ Kept w wx [] ∧ n = w.heap.size ∧ ob < w.heap.size
def St (w : World) (n ob : Nat) (ex : List Value) (q : Nat) (wx : World) : Prop := Bes w n ob ex wx ∧
  match q with
  | 0 => ∃ tb, n < tb ∧ Blk wx n (RC tb) 356 ∧ Blk wx tb (nils 11) 351
  | 1 => ∃ tb a b, n < tb ∧ n < a ∧ Blk wx n (RC tb) 356 ∧ Blk wx tb ((nils 11).set 0 (ptr a)) 351 ∧ Blk wx a (node ⟨#[]⟩ 0 ampS (ptr b) nilS) 354 ∧ Blk wx b (leafN ⟨#[38]⟩ 8) 354 ∧ tb < a ∧ a < b
  | 2 => ∃ tb a t1 c b d e, n < tb ∧ tb < a ∧ a < b ∧ b < c ∧ c < d ∧ d < t1 ∧ t1 < e ∧ Blk wx n (RC tb) 356 ∧ Blk wx tb ((nils 11).set 0 (ptr a)) 351 ∧ Blk wx a (rootN t1) 354 ∧ Blk wx t1 (tab2 c d) 351 ∧ Leads wx c b mpS ⟨#[38]⟩ 8 ∧ Leads wx d e ⟨#[116, 59]⟩ ⟨#[60]⟩ 6
  | 3 => ∃ tb a t1 c b d e f g, n < tb ∧ tb < a ∧ a < b ∧ b < c ∧ c < d ∧ d < t1 ∧ t1 < e ∧ e < f ∧ f < g ∧ Blk wx n (RC tb) 356 ∧ Blk wx tb ((nils 11).set 0 (ptr a)) 351 ∧ Blk wx a (rootN t1) 354 ∧ Blk wx t1 ((tab2 c d).set 3 (ptr f)) 351 ∧ Leads wx c b mpS ⟨#[38]⟩ 8 ∧ Leads wx d e ⟨#[116, 59]⟩ ⟨#[60]⟩ 6 ∧ Leads wx f g ⟨#[116, 59]⟩ ⟨#[62]⟩ 4
  | _ => Trie wx n

theorem Leads.kept {w w' : World} {S : List Nat} {x y : Nat} {p v : ByteArray} {i : Int} (h : Leads w x y p v i) (k : Kept w w' S) (hx : x ∉ S) (hy : y ∉ S) : Leads w' x y p v i := ⟨k.blk h.1 hx, k.blk h.2 hy⟩
theorem Leads.lt {w : World} {x y : Nat} {p v : ByteArray} {i : Int} (h : Leads w x y p v i) : x < w.heap.size ∧ y < w.heap.size := ⟨h.1.lt, h.2.lt⟩
theorem Bes.kept {w : World} {n ob : Nat} {ex : List Value} {wx w' : World} {S : List Nat} (h : Bes w n ob ex wx) (k : Kept wx w' S) (hS : ∀ x ∈ S, n < x) : Bes w n ob ex w' := by
  obtain ⟨hO, hK, hn, ho⟩ := h
  refine ⟨k.blk hO (fun hm => by have := hS ob hm; omega), ?_, hn, ho⟩
  exact hK.trans_new k (fun x hx => .inr (by have := hS x hx; omega))

theorem step0 (w : World) (n ob : Nat) (ex : List Value) (V : World) (h : St w n ob ex 0 V) : Calls Tryz.prog 293 #[ptr n, .string ⟨#[38, 97, 109, 112, 59]⟩, .string ⟨#[38]⟩, .int .i64 8, ptr n] V.drew fun e w' => e = .returned (.tuple #[]) ∧ St w n ob ex 1 w' := by
  obtain ⟨hB, tb, hnt, hR, hT⟩ := h
  refine (add1 n tb V.drew hR.drew hT.drew (by omega)).mono ?_
  rintro e w' ⟨he, k1, k2, k3, k4, k5⟩
  have hlt := hT.lt
  refine ⟨he, hB.kept ((Kept.refl V [tb]).drew.trans k4) (by simp; omega), tb, V.heap.size, V.heap.size + 1, hnt, by omega, ?_, k1, k2, k3, hlt, by omega⟩
  exact k4.blk hR (by simp; omega)

theorem step1 (w : World) (n ob : Nat) (ex : List Value) (V : World) (h : St w n ob ex 1 V) : Calls Tryz.prog 293 #[ptr n, .string ⟨#[38, 108, 116, 59]⟩, .string ⟨#[60]⟩, .int .i64 6, ptr n] V.drew fun e w' => e = .returned (.tuple #[]) ∧ St w n ob ex 2 w' := by
  obtain ⟨hB, tb, a, b, hnt, hna, hR, hT, hA, hb, hta, hab⟩ := h
  refine (add2 n tb a b _ V.drew hR.drew hT.drew rfl hA.drew (by omega)).mono ?_
  rintro e w' ⟨he, k1, k2, k3, k4, k5, k6⟩
  have hl := hb.lt
  refine ⟨he, hB.kept ((Kept.refl V [a]).drew.trans k5) (by simp; omega), tb, a, V.heap.size + 2, V.heap.size, b, V.heap.size + 1, V.heap.size + 3, hnt, hta, hab, hl, by omega, by omega, by omega, ?_, ?_, k1, k4, ⟨k2, ?_⟩, k3⟩
  · exact k5.blk hR (by simp; omega)
  · exact k5.blk hT (by simp; omega)
  · exact k5.blk hb (by simp; omega)

theorem step2 (w : World) (n ob : Nat) (ex : List Value) (V : World) (h : St w n ob ex 2 V) : Calls Tryz.prog 293 #[ptr n, .string ⟨#[38, 103, 116, 59]⟩, .string ⟨#[62]⟩, .int .i64 4, ptr n] V.drew fun e w' => e = .returned (.tuple #[]) ∧ St w n ob ex 3 w' := by
  obtain ⟨hB, tb, a, t1, c, b, d, e, l1, l2, l3, l4, l5, l6, l7, hR, hT, hA, hT1, hC, hD⟩ := h
  refine (add34 n tb a t1 _ _ ⟨#[38, 103, 116, 59]⟩ ⟨#[103, 116, 59]⟩ ⟨#[116, 59]⟩ ⟨#[62]⟩ 4 103 103 3 V.drew hR.drew hT.drew rfl hA.drew hT1.drew (by omega) rfl (by omega) (by simp) (by simp) (by simp) rfl (by omega) fin103 (fun _ => by kernel_rfl) (fun _ => by kernel_rfl) (fun _ => by kernel_rfl) (fun _ => by kernel_rfl)).mono ?_
  rintro e' w' ⟨he, k1, k2, k3, k4⟩
  have hl := hD.lt.2
  refine ⟨he, hB.kept ((Kept.refl V [t1]).drew.trans k3) (by simp; omega), tb, a, t1, c, b, d, e, V.heap.size, V.heap.size + 1, l1, l2, l3, l4, l5, l6, l7, hl, by omega, ?_, ?_, ?_, k1, ?_, ?_, k2⟩
  · exact k3.blk hR (by simp; omega)
  · exact k3.blk hT (by simp; omega)
  · exact k3.blk hA (by simp; omega)
  · exact hC.kept ((Kept.refl V [t1]).drew.trans k3) (by simp; omega) (by simp; omega)
  · exact hD.kept ((Kept.refl V [t1]).drew.trans k3) (by simp; omega) (by simp; omega)

theorem step3 (w : World) (n ob : Nat) (ex : List Value) (V : World) (h : St w n ob ex 3 V) : Calls Tryz.prog 293 #[ptr n, .string ⟨#[38, 113, 117, 111, 116, 59]⟩, .string ⟨#[34]⟩, .int .i64 2, ptr n] V.drew fun e w' => e = .returned (.tuple #[]) ∧ St w n ob ex 4 w' := by
  obtain ⟨hB, tb, a, t1, c, b, d, e, f, g, l1, l2, l3, l4, l5, l6, l7, l8, l9, hR, hT, hA, hT1, hC, hD, hF⟩ := h
  refine (add34 n tb a t1 _ _ ⟨#[38, 113, 117, 111, 116, 59]⟩ ⟨#[113, 117, 111, 116, 59]⟩ ⟨#[117, 111, 116, 59]⟩ ⟨#[34]⟩ 2 113 113 8 V.drew hR.drew hT.drew rfl hA.drew hT1.drew (by omega) rfl (by omega) (by simp) (by simp) (by simp) rfl (by omega) fin113 (fun _ => by kernel_rfl) (fun _ => by kernel_rfl) (fun _ => by kernel_rfl) (fun _ => by kernel_rfl)).mono ?_
  rintro e' w' ⟨he, k1, k2, k3, k4⟩
  refine ⟨he, hB.kept ((Kept.refl V [t1]).drew.trans k3) (by simp; omega), tb, a, t1, c, b, d, e, f, g, V.heap.size, V.heap.size + 1, ?_, ?_, ?_, k1, ?_, ?_, ?_, k2⟩
  · exact k3.blk hR (by simp; omega)
  · exact k3.blk hT (by simp; omega)
  · exact k3.blk hA (by simp; omega)
  · exact hC.kept ((Kept.refl V [t1]).drew.trans k3) (by simp; omega) (by simp; omega)
  · exact hD.kept ((Kept.refl V [t1]).drew.trans k3) (by simp; omega) (by simp; omega)
  · exact hF.kept ((Kept.refl V [t1]).drew.trans k3) (by simp; omega) (by simp; omega)

theorem step_any (w : World) (n ob : Nat) (ex : List Value) (q : Nat) (V : World) (hq : q < 4) (h : St w n ob ex q V) : ∃ key val : ByteArray, V.cell? ⟨ob, 2 * q, none⟩ = some (.string key) ∧ V.cell? ⟨ob, 2 * q + 1, none⟩ = some (.string val) ∧
    Calls Tryz.prog 293 #[ptr n, .string key, .string val, .int .i64 (8 - 2 * (q : Int)), ptr n] V.drew fun e w' => e = .returned (.tuple #[]) ∧ St w n ob ex (q + 1) w' := by
  have hO := h.1.1
  have : q = 0 ∨ q = 1 ∨ q = 2 ∨ q = 3 := by omega
  rcases this with rfl | rfl | rfl | rfl
  · exact ⟨_, _, hO.cell 0, hO.cell 1, step0 w n ob ex V h⟩
  · exact ⟨_, _, hO.cell 2, hO.cell 3, step1 w n ob ex V h⟩
  · exact ⟨_, _, hO.cell 4, hO.cell 5, step2 w n ob ex V h⟩
  · exact ⟨_, _, hO.cell 6, hO.cell 7, step3 w n ob ex V h⟩

theorem genW_st (w wr : World) (ob : Nat) (ex : List Value) (hR : Blk wr w.heap.size (rarr emptyN 11 (GG 256)) 356) (hK : Kept w wr []) (hO : Blk w ob (onCells ++ ex) 9) : St w w.heap.size ob ex 0 (genW wr w.heap.size) := by
  obtain ⟨g1, g2, g3, g4, g5⟩ := genW_facts w wr w.heap.size ob ex hR hK hO rfl
  exact ⟨⟨g3, g4, rfl, hO.lt⟩, wr.heap.size, hR.lt, g1, g2⟩
end Go.Proofs.YtbhcklkbckacpaaGreatDoor
