/-
  (*strings.trieNode).add at a node that leads on by a longer text, with a key whose first byte is another one: a table is laid there.
-/
import Derived.Test.YtbhcklkbckacpaaGreatDoorAdd
import Derived.Deep.RegionWith
import Derived.BigRegion
namespace Go.Proofs.YtbhcklkbckacpaaGreatDoor
open Go.RowKit

theorem size_set_drew (w : World) (a : Addr) (v : Value) : (w.setCell a v).drew.heap.size = w.heap.size := by simp

def nils (k : Nat) : List Value := List.replicate k (.pointer none)
theorem mk97 (w : World) : (Instr.makeSlice 352 (.int .i64 11) (.int .i64 11)).run Tryz.prog w = .ok (.slice (some ⟨w.heap.size, 0, none⟩) 11 11) (w.alloc (.cells (nils 11).toArray 351)) := by kernel_rfl

def tabV (k : Nat) : Value := .slice (some ⟨k, 0, none⟩) 11 11
def ampS : ByteArray := ⟨#[97, 109, 112, 59]⟩
def mpS : ByteArray := ⟨#[109, 112, 59]⟩

/-- The world behind the first half of the split. -/
def splitW (W : World) (b nb : Nat) : World :=
  ((((W.alloc (.cells (node ⟨#[]⟩ 0 mpS (ptr nb) nilS).toArray 354)).alloc (.cells emptyN.toArray 354)).alloc (.cells (nils 11).toArray 351)).setCell ⟨b, 4, none⟩ (tabV (W.heap.size + 1 + 1))).drew

theorem splitW_facts (W : World) (b nb rb : Nat) (R : List Value) (hA : Blk W b (node ⟨#[]⟩ 0 ampS (ptr nb) nilS) 354) (hR : Blk W rb R 356) (hne : rb ≠ b) :
    Blk (splitW W b nb) b (node ⟨#[]⟩ 0 ampS (ptr nb) (tabV (W.heap.size + 2))) 354 ∧ Blk (splitW W b nb) W.heap.size (node ⟨#[]⟩ 0 mpS (ptr nb) nilS) 354 ∧
    Blk (splitW W b nb) (W.heap.size + 1) emptyN 354 ∧ Blk (splitW W b nb) (W.heap.size + 2) (nils 11) 351 ∧ Blk (splitW W b nb) rb R 356 ∧ Kept W (splitW W b nb) [b] ∧ (splitW W b nb).heap.size = W.heap.size + 3 := by
  have hb := hA.lt
  refine ⟨?_, ?_, ?_, ?_, ?_, ?_, ?_⟩
  · exact (((hA.alloc _).alloc _).alloc _).set 4 _
  · exact (((Blk.new W _ 354).alloc _).alloc _).other _ _ (by simp; omega)
  · exact (((Blk.newAt (W.alloc _) _ emptyN 354 (by simp)).alloc _)).other _ _ (by simp; omega)
  · exact (Blk.newAt ((W.alloc _).alloc _) _ (nils 11) 351 (by simp)).other _ _ (by simp; omega)
  · exact (((hR.alloc _).alloc _).alloc _).other _ _ hne
  · exact (((((Kept.refl W [b]).alloc _).alloc _).alloc _).setCell _ _ (.inl (by simp))).drew
  · simp [splitW]

set_option maxRecDepth 100000 in
set_option maxHeartbeats 1600000 in
theorem add_split (b rb nb : Nat) (R : List Value) (w : World) (hne : rb ≠ b) (hA : Blk w b (node ⟨#[]⟩ 0 ampS (ptr nb) nilS) 354) (hR : Blk w rb R 356)
    (r5 : R[5]? = some (.int .i64 11)) (ra : R[103]? = some (.int .u8 2)) (rl : R[114]? = some (.int .u8 4)) :
    Calls Tryz.prog 293 #[ptr b, .string ⟨#[108, 116, 59]⟩, .string ⟨#[60]⟩, .int .i64 6, ptr rb] w fun e w' => e = .returned (.tuple #[]) ∧
      Blk w' b (node ⟨#[]⟩ 0 ⟨#[]⟩ (.pointer none) (tabV (w.heap.size + 2))) 354 ∧ Blk w' w.heap.size (node ⟨#[]⟩ 0 mpS (ptr nb) nilS) 354 ∧ Blk w' (w.heap.size + 1) (node ⟨#[]⟩ 0 ⟨#[116, 59]⟩ (ptr (w.heap.size + 3)) nilS) 354 ∧
      Blk w' (w.heap.size + 2) (((nils 11).set 2 (ptr w.heap.size)).set 4 (ptr (w.heap.size + 1))) 351 ∧ Blk w' (w.heap.size + 3) (leafN ⟨#[60]⟩ 6) 354 ∧ Kept w w' [b] ∧ w'.heap.size = w.heap.size + 4 := by
  have hmk := mk97
  have ix1 : ∀ w, (Instr.index 9 (.string ⟨#[97, 109, 112, 59]⟩) (.int .i64 0)).run Tryz.prog w = .ok (.int .u8 97) w := fun _ => by kernel_rfl
  have ix2 : ∀ w, (Instr.index 9 (.string ⟨#[108, 116, 59]⟩) (.int .i64 0)).run Tryz.prog w = .ok (.int .u8 108) w := fun _ => by kernel_rfl
  have sl1 : ∀ w, (Instr.slice 9 (.string ⟨#[97, 109, 112, 59]⟩) (some (.int .i64 1)) none none).run Tryz.prog w = .ok (.string ⟨#[109, 112, 59]⟩) w := fun _ => by kernel_rfl
  have sl2 : ∀ w, (Instr.slice 9 (.string ⟨#[108, 116, 59]⟩) (some (.int .i64 1)) none none).run Tryz.prog w = .ok (.string ⟨#[116, 59]⟩) w := fun _ => by kernel_rfl
  have h2 : w.cell? ⟨b, 2, none⟩ = some (.string ⟨#[97, 109, 112, 59]⟩) := hA.cell 2
  have HA : Hid (Blk w b (node ⟨#[]⟩ 0 ampS (ptr nb) nilS) 354) := hA
  have HR : Hid (Blk w rb R 356) := hR
  have R5 : Hid (R[5]? = some (.int .i64 11)) := r5
  have Ra : Hid (R[103]? = some (.int .u8 2)) := ra
  have Rl : Hid (R[114]? = some (.int .u8 4)) := rl
  clear hA hR r5 ra rl
  go_enter Tryz.func293, Tryz.ntmps293
  go_wp2_with fail
  refine wp_loop_rounds 1 ?_
  rw [rounds_succ]
  go_wp2_with fail
  go_quiet (fail)
  go_wp2_with fail
  generalize hW : w.drewN nq = W at *
  have HA1 : Hid (Blk W b (node ⟨#[]⟩ 0 ampS (ptr nb) nilS) 354) := by rw [← hW]; exact HA.out
  have HR1 : Hid (Blk W rb R 356) := by rw [← hW]; exact HR.out
  have HK1 : Hid (Kept w W [b]) := by rw [← hW]; exact (Kept.refl w [b]).drewN nq
  have HS1 : Hid (W.heap.size = w.heap.size) := by rw [← hW]; rfl
  have g2 : W.cell? ⟨b, 2, none⟩ = some (.string ⟨#[97, 109, 112, 59]⟩) := HA1.out.cell 2
  have g3 : W.cell? ⟨b, 3, none⟩ = some (ptr nb) := HA1.out.cell 3
  have s5 : W.cell? ⟨rb, 5, none⟩ = some (.int .i64 11) := (HR1.out.cell 5).trans R5.out
  have hbW := HA1.out.lt
  have hrW := HR1.out.lt
  have z4 : ∀ o1 o2 o3, (((W.alloc o1).alloc o2).alloc o3).frozen? ⟨b, 4, none⟩ = false := fun o1 o2 o3 => (((HA1.out.alloc o1).alloc o2).alloc o3).frozen 4
  have y4 : ∀ o1 o2 o3, (((W.alloc o1).alloc o2).alloc o3).cell? ⟨b, 4, none⟩ = some nilS := fun o1 o2 o3 => (((HA1.out.alloc o1).alloc o2).alloc o3).cell 4
  clear hW h2
  go_region
  go_wp2_with fail
  change Code.wp Tryz.prog _ _ _ (splitW W b nb)
  have hF := splitW_facts W b nb rb R HA1.out HR1.out hne
  generalize splitW W b nb = V at *
  obtain ⟨fA, fC, fD, fT, fR, fK, fS⟩ := hF
  have q4 : V.cell? ⟨b, 4, none⟩ = some (.slice (some ⟨W.heap.size + 2, 0, none⟩) 11 11) := fA.cell 4
  have q2 : V.cell? ⟨b, 2, none⟩ = some (.string ⟨#[97, 109, 112, 59]⟩) := fA.cell 2
  have qa : V.cell? ⟨rb, 103, none⟩ = some (.int .u8 2) := (fR.cell 103).trans Ra.out
  have qt : V.cell? ⟨W.heap.size + 2, 2, none⟩ = some (.pointer none) := fT.cell 2
  have qz : V.frozen? ⟨W.heap.size + 2, 2, none⟩ = false := fT.frozen 2
  have FA : Hid (Blk V b (node ⟨#[]⟩ 0 ampS (ptr nb) (tabV (W.heap.size + 2))) 354) := fA
  have FC : Hid (Blk V W.heap.size (node ⟨#[]⟩ 0 mpS (ptr nb) nilS) 354) := fC
  have FD : Hid (Blk V (W.heap.size + 1) emptyN 354) := fD
  have FT : Hid (Blk V (W.heap.size + 2) (nils 11) 351) := fT
  have FR : Hid (Blk V rb R 356) := fR
  have FK : Hid (Kept w V [b]) := HK1.out.trans fK
  have FSz : Hid (V.heap.size = W.heap.size + 3) := fS
  clear fA fC fD fT fR fK fS z4 y4 s5 g2 g3 HA1 HR1 HA HR
  go_region
  go_wp2_with fail
  change Code.wp Tryz.prog _ _ _ ((V.setCell ⟨W.heap.size + 2, 2, none⟩ (ptr W.heap.size)).drew)
  have hlb := FA.out.lt
  have HV : Hid (V.heap.size = W.heap.size + 3) := FSz.out
  have GA : Hid (Blk (V.setCell ⟨W.heap.size + 2, 2, none⟩ (ptr W.heap.size)).drew b (node ⟨#[]⟩ 0 ampS (ptr nb) (tabV (W.heap.size + 2))) 354) := FA.out.other _ _ (by simp; omega)
  have GC : Hid (Blk (V.setCell ⟨W.heap.size + 2, 2, none⟩ (ptr W.heap.size)).drew W.heap.size (node ⟨#[]⟩ 0 mpS (ptr nb) nilS) 354) := FC.out.other _ _ (by simp)
  have GD : Hid (Blk (V.setCell ⟨W.heap.size + 2, 2, none⟩ (ptr W.heap.size)).drew (W.heap.size + 1) emptyN 354) := FD.out.other _ _ (by simp)
  have GT : Hid (Blk (V.setCell ⟨W.heap.size + 2, 2, none⟩ (ptr W.heap.size)).drew (W.heap.size + 2) ((nils 11).set 2 (ptr W.heap.size)) 351) := FT.out.set 2 _
  have GR : Hid (Blk (V.setCell ⟨W.heap.size + 2, 2, none⟩ (ptr W.heap.size)).drew rb R 356) := FR.out.other _ _ (by simp; omega)
  have GK : Hid (Kept w (V.setCell ⟨W.heap.size + 2, 2, none⟩ (ptr W.heap.size)).drew [b]) := (FK.out.setCell _ _ (.inr (by simp [HS1.out]))).drew
  have GS : Hid ((V.setCell ⟨W.heap.size + 2, 2, none⟩ (ptr W.heap.size)).drew.heap.size = W.heap.size + 3) := (size_set_drew _ _ _).trans FSz.out
  clear q4 q2 qa qt qz FA FC FD FT FR FK FSz HV
  generalize (V.setCell ⟨W.heap.size + 2, 2, none⟩ (ptr W.heap.size)).drew = V2 at *
  have q4 : V2.cell? ⟨b, 4, none⟩ = some (.slice (some ⟨W.heap.size + 2, 0, none⟩) 11 11) := GA.out.cell 4
  have ql : V2.cell? ⟨rb, 114, none⟩ = some (.int .u8 4) := (GR.out.cell 114).trans Rl.out
  have qt : V2.cell? ⟨W.heap.size + 2, 4, none⟩ = some (.pointer none) := GT.out.cell 4
  have qz : V2.frozen? ⟨W.heap.size + 2, 4, none⟩ = false := GT.out.frozen 4
  have NA : Hid (Blk (V2.setCell ⟨W.heap.size + 2, 4, none⟩ (ptr (W.heap.size + 1))) b (node ⟨#[]⟩ 0 ampS (ptr nb) (tabV (W.heap.size + 2))) 354) := GA.out.other _ _ (by simp; omega)
  have x2 : (V2.setCell ⟨W.heap.size + 2, 4, none⟩ (ptr (W.heap.size + 1))).cell? ⟨b, 2, none⟩ = some (.string ⟨#[97, 109, 112, 59]⟩) := NA.out.cell 2
  have x3 : (V2.setCell ⟨W.heap.size + 2, 4, none⟩ (ptr (W.heap.size + 1))).cell? ⟨b, 3, none⟩ = some (ptr nb) := NA.out.cell 3
  have z2 : (V2.setCell ⟨W.heap.size + 2, 4, none⟩ (ptr (W.heap.size + 1))).frozen? ⟨b, 2, none⟩ = false := NA.out.frozen 2
  have z3 : (V2.setCell ⟨W.heap.size + 2, 4, none⟩ (ptr (W.heap.size + 1))).frozen? ⟨b, 3, none⟩ = false := NA.out.frozen 3
  go_region
  go_wp2_with fail
  have hS1 := HS1.out
  have NC : Hid (Blk (V2.setCell ⟨W.heap.size + 2, 4, none⟩ (ptr (W.heap.size + 1))) W.heap.size (node ⟨#[]⟩ 0 mpS (ptr nb) nilS) 354) := GC.out.other _ _ (by simp)
  have ND : Hid (Blk (V2.setCell ⟨W.heap.size + 2, 4, none⟩ (ptr (W.heap.size + 1))) (W.heap.size + 1) emptyN 354) := GD.out.other _ _ (by simp)
  have NT : Hid (Blk (V2.setCell ⟨W.heap.size + 2, 4, none⟩ (ptr (W.heap.size + 1))) (W.heap.size + 2) (((nils 11).set 2 (ptr W.heap.size)).set 4 (ptr (W.heap.size + 1))) 351) := GT.out.set 4 _
  have NK : Hid (Kept w (V2.setCell ⟨W.heap.size + 2, 4, none⟩ (ptr (W.heap.size + 1))) [b]) := GK.out.setCell _ _ (.inr (by simp [hS1]))
  have NS : Hid ((V2.setCell ⟨W.heap.size + 2, 4, none⟩ (ptr (W.heap.size + 1))).heap.size = W.heap.size + 3) := (size_set_drew _ _ _).trans GS.out
  have hbN : b < W.heap.size := hbW
  generalize V2.setCell ⟨W.heap.size + 2, 4, none⟩ (ptr (W.heap.size + 1)) = U at *
  have XA : Hid (Blk ((U.setCell ⟨b, 2, none⟩ (.string ⟨#[]⟩)).setCell ⟨b, 3, none⟩ (.pointer none)).drew b (node ⟨#[]⟩ 0 ⟨#[]⟩ (.pointer none) (tabV (W.heap.size + 2))) 354) := (NA.out.set 2 _).set 3 _
  have XC : Hid (Blk ((U.setCell ⟨b, 2, none⟩ (.string ⟨#[]⟩)).setCell ⟨b, 3, none⟩ (.pointer none)).drew W.heap.size (node ⟨#[]⟩ 0 mpS (ptr nb) nilS) 354) := (NC.out.other ⟨b, 2, none⟩ _ (by simp; omega)).other ⟨b, 3, none⟩ _ (by simp; omega)
  have XD : Hid (Blk ((U.setCell ⟨b, 2, none⟩ (.string ⟨#[]⟩)).setCell ⟨b, 3, none⟩ (.pointer none)).drew (W.heap.size + 1) emptyN 354) := (ND.out.other ⟨b, 2, none⟩ _ (by simp; omega)).other ⟨b, 3, none⟩ _ (by simp; omega)
  have XT : Hid (Blk ((U.setCell ⟨b, 2, none⟩ (.string ⟨#[]⟩)).setCell ⟨b, 3, none⟩ (.pointer none)).drew (W.heap.size + 2) (((nils 11).set 2 (ptr W.heap.size)).set 4 (ptr (W.heap.size + 1))) 351) := (NT.out.other ⟨b, 2, none⟩ _ (by simp; omega)).other ⟨b, 3, none⟩ _ (by simp; omega)
  have XK : Hid (Kept w ((U.setCell ⟨b, 2, none⟩ (.string ⟨#[]⟩)).setCell ⟨b, 3, none⟩ (.pointer none)).drew [b]) := ((NK.out.setCell _ _ (.inl (by simp))).setCell _ _ (.inl (by simp))).drew
  have XS : Hid (((U.setCell ⟨b, 2, none⟩ (.string ⟨#[]⟩)).setCell ⟨b, 3, none⟩ (.pointer none)).drew.heap.size = W.heap.size + 3) := ((size_set_drew _ _ _).trans (size_set_drew _ _ _)).trans NS.out
  have hadd := add_plain (W.heap.size + 1) ⟨#[116, 59]⟩ ⟨#[60]⟩ 6 (ptr rb) _ XD.out (by rw [Lib.toList_data]; rfl)
  rw [XS.out] at hadd
  refine hadd.mono ?_
  clear hadd
  rintro e w4 ⟨rfl, k1, k2, k3, k4⟩
  have Y1 : Hid (Blk w4 b (node ⟨#[]⟩ 0 ⟨#[]⟩ (.pointer none) (tabV (w.heap.size + 2))) 354) := by rw [← hS1]; exact k3.blk XA.out (by simp; omega)
  have Y2 : Hid (Blk w4 w.heap.size (node ⟨#[]⟩ 0 mpS (ptr nb) nilS) 354) := by rw [← hS1]; exact k3.blk XC.out (by simp)
  have Y3 : Hid (Blk w4 (w.heap.size + 1) (node ⟨#[]⟩ 0 ⟨#[116, 59]⟩ (ptr (w.heap.size + 3)) nilS) 354) := by rw [← hS1]; exact k1
  have Y4 : Hid (Blk w4 (w.heap.size + 2) (((nils 11).set 2 (ptr w.heap.size)).set 4 (ptr (w.heap.size + 1))) 351) := by rw [← hS1]; exact k3.blk XT.out (by simp)
  have Y5 : Hid (Blk w4 (w.heap.size + 3) (leafN ⟨#[60]⟩ 6) 354) := by rw [← hS1]; exact k2
  have Y6 : Hid (Kept w w4 [b]) := XK.out.trans_new k3 (by simp [hS1])
  have Y7 : Hid (w4.heap.size = w.heap.size + 4) := by show _ = _; omega
  clear k1 k2 k3 k4 XA XC XD XT XK XS NA NC ND NT NK NS x2 x3 z2 z3 q4 ql qt qz GA GC GD GT GR GK GS hS1 HS1
  go_wp2
  go_returns
  exact ⟨rfl, Y1.out, Y2.out, Y3.out, Y4.out, Y5.out, Y6.out, Y7.out⟩
end Go.Proofs.YtbhcklkbckacpaaGreatDoor
