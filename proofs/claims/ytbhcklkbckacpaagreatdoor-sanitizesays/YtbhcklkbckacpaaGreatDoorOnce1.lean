/-
  sync.Once's parts: its lock, its mark, and (*strings.Replacer).build at the eight texts.
-/
import Derived.Test.YtbhcklkbckacpaaGreatDoorGen2
import Derived.Defers
import Derived.Laws.Pointers
import Derived.Laws.LoneSync
import Derived.RegionTactic
import Derived.RegionCalls
import Derived.ChangeAlike
namespace Go.Proofs.YtbhcklkbckacpaaGreatDoor
open Go.RowKit

theorem disable (w : World) : (callFunc 309 #[]).run Tryz.prog w = .ok (.value (.tuple #[])) w := run_call_mark0 Tryz.func309 (by kernel_rfl) (by kernel_rfl) (by kernel_rfl) .disable (by kernel_rfl) w
theorem enable (w : World) : (callFunc 311 #[]).run Tryz.prog w = .ok (.value (.tuple #[])) w := run_call_mark0 Tryz.func311 (by kernel_rfl) (by kernel_rfl) (by kernel_rfl) .enable (by kernel_rfl) w
theorem acquire (a : Addr) (w : World) : (callFunc 312 #[.pointer (some a)]).run Tryz.prog w = .ok (.value (.tuple #[])) w := run_call_marked Tryz.func312 (by kernel_rfl) (by kernel_rfl) (by kernel_rfl) .acquire (by kernel_rfl) a w
theorem releaseMerge (a : Addr) (w : World) : (callFunc 314 #[.pointer (some a)]).run Tryz.prog w = .ok (.value (.tuple #[])) w := run_call_marked Tryz.func314 (by kernel_rfl) (by kernel_rfl) (by kernel_rfl) .releaseMerge (by kernel_rfl) a w

theorem store_deferred (a : Addr) (x : Value) (u : FrameMode) (w : World) (hc : w.cell? a = some x) (hz : w.frozen? a = false) :
    CallsD Tryz.prog 275 #[.pointer (some a), .bool true] u w fun e u' w' => u' = u ∧ (e = .returned (.tuple #[]) ∧ w' = w.drew.setCell a (.int .u32 1)) := by
  have hc' : w.drew.cell? a = some x := by go_simp
  have hz' : w.drew.frozen? a = false := by go_simp
  have hst := run_call_store (P := Tryz.prog) Tryz.func290 (by kernel_rfl) (by kernel_rfl) (by kernel_rfl) (by kernel_rfl) (k := .u32) (y := 1) hc' hz'
  go_enter_d Tryz.func275, Tryz.ntmps275
  go_wp2
  go_region_calls
  all_goals (go_end0; exact ⟨rfl, rfl⟩)

set_option maxRecDepth 100000 in
theorem unlock_deferred (a : Addr) (u : FrameMode) (w : World) (hc : w.cell? a = some (.int .i32 1)) (hz : w.frozen? a = false) :
    CallsD Tryz.prog 274 #[.pointer (some a)] u w fun e u' w' => u' = u ∧ (e = .returned (.tuple #[]) ∧ w' = w.setCell a (.int .i32 0)) := by
  have hd := disable
  have he := enable
  have hr := releaseMerge
  have hadd := run_call_add (P := Tryz.prog) Tryz.func315 (by kernel_rfl) (by kernel_rfl) (by kernel_rfl) .i32 (by kernel_rfl) (y := -1) (s := 0) hc hz (by simp [go_sem]; rfl)
  have hcv := run_convert_to_unsafe (P := Tryz.prog) (src := 367) (dst := 371) Tryz.underlying367 Tryz.underlying371 (by kernel_rfl) hc
  go_enter_d Tryz.func274, Tryz.ntmps274
  go_wp2
  go_end0
  go_wp2

set_option maxRecDepth 100000 in
theorem lock_free (a : Addr) (w : World) (hc : w.cell? a = some (.int .i32 0)) (hz : w.frozen? a = false) :
    Calls Tryz.prog 273 #[.pointer (some a)] w fun e w' => e = .returned (.tuple #[]) ∧ w' = w.setCell a (.int .i32 1) := by
  have hd := disable
  have he := enable
  have ha := acquire
  have hcas := run_call_cas_hit (P := Tryz.prog) Tryz.func310 (by kernel_rfl) (by kernel_rfl) (by kernel_rfl) .i32 (by kernel_rfl) (y := 1) hc hz
  have hc' : (w.setCell a (.int .i32 1)).cell? a = some (.int .i32 1) := World.cell?_setCell_same w a _ hc
  have hcv := run_convert_to_unsafe (P := Tryz.prog) (src := 367) (dst := 371) Tryz.underlying367 Tryz.underlying371 (by kernel_rfl) hc'
  go_enter Tryz.func273, Tryz.ntmps273
  go_wp2
  first | go_end0 | (simp only [Exit.inBlock, Exit.then]; refine bodyPost_ret (results_none rfl _ _ _) rfl ?_) | refine bodyPost_ret (results_none rfl _ _ _) rfl ?_
  go_wp2

def rep (done st : Int) (r oldnew : Value) : List Value := [.int .u32 done, .int .i32 st, .int .u32 0, r, oldnew]

set_option maxRecDepth 100000 in
set_option maxHeartbeats 800000 in
theorem build_any (pb ob cap : Nat) (ex : List Value) (done st : Int) (r : Value) (w : World) (hP : Blk w pb (rep done st r (.slice (some ⟨ob, 0, none⟩) 8 cap)) 246) (hO : Blk w ob (onCells ++ ex) 9) :
    Calls Tryz.prog 249 #[ptr pb] w fun e w' => e = .returned (.iface 325 (ptr w.heap.size)) ∧ Trie w' w.heap.size ∧ Kept w w' [] := by
  have h4 : w.cell? ⟨pb, 4, none⟩ = some (.slice (some ⟨ob, 0, none⟩) 8 cap) := hP.cell 4
  have h0 : w.cell? ⟨ob, 0, none⟩ = some (.string ⟨#[38, 97, 109, 112, 59]⟩) := hO.cell 0
  have HO : Hid (Blk w ob (onCells ++ ex) 9) := hO
  clear hP hO
  go_enter Tryz.func249, Tryz.ntmps249
  go_wp2_with fail
  refine wp_loop_rounds 1 ?_
  rw [rounds_succ]
  go_wp2_with fail
  refine (gen_any ob cap ex w HO.out).mono ?_
  rintro e w1 ⟨rfl, k1, k2⟩
  have K1 : Hid (Trie w1 w.heap.size) := k1
  have K2 : Hid (Kept w w1 []) := k2
  clear k1 k2
  go_wp2
  go_ret
  exact ⟨rfl, K1.out, K2.out⟩

theorem Blk.ne {w : World} {b b' : Nat} {cs cs' : List Value} {t t' : TypeId} (h : Blk w b cs t) (h' : Blk w b' cs' t') (hne : t ≠ t') : b ≠ b' := by
  rintro rfl
  unfold Blk at h h'
  rw [h] at h'
  simp at h'
  exact hne h'.2
theorem Leads.set {w : World} {x y pb j : Nat} {p u : ByteArray} {i : Int} {cs : List Value} (h : Leads w x y p u i) (hP : Blk w pb cs 246) (v : Value) : Leads (w.setCell ⟨pb, j, none⟩ v) x y p u i :=
  ⟨h.1.other _ _ (h.1.ne hP (by decide)), h.2.other _ _ (h.2.ne hP (by decide))⟩
theorem Trie.set {w : World} {n pb j : Nat} {cs : List Value} (h : Trie w n) (hP : Blk w pb cs 246) (v : Value) : Trie (w.setCell ⟨pb, j, none⟩ v) n := by
  obtain ⟨tb, a, t1, c, b, d, e, f, g, i, k, h1, h2, h3, h4, h5, h6, h7, h8⟩ := h
  exact ⟨tb, a, t1, c, b, d, e, f, g, i, k, h1.other _ _ (h1.ne hP (by decide)), h2.other _ _ (h2.ne hP (by decide)), h3.other _ _ (h3.ne hP (by decide)), h4.other _ _ (h4.ne hP (by decide)), h5.set hP v, h6.set hP v, h7.set hP v, h8.set hP v⟩

set_option maxRecDepth 100000 in
set_option maxHeartbeats 800000 in
theorem bonce_any (pb ob cap : Nat) (ex : List Value) (done st : Int) (r : Value) (w : World) (hP : Blk w pb (rep done st r (.slice (some ⟨ob, 0, none⟩) 8 cap)) 246) (hO : Blk w ob (onCells ++ ex) 9) :
    Calls Tryz.prog 201 #[ptr pb] w fun e w' => e = .returned (.tuple #[]) ∧ Blk w' pb (rep done st (.iface 325 (ptr w.heap.size)) nilS) 246 ∧ Trie w' w.heap.size ∧ Kept w w' [pb] := by
  have HP : Hid (Blk w pb (rep done st r (.slice (some ⟨ob, 0, none⟩) 8 cap)) 246) := hP
  have HO : Hid (Blk w ob (onCells ++ ex) 9) := hO
  clear hP hO
  go_enter Tryz.func201, Tryz.ntmps201
  go_wp2_with fail
  refine (build_any pb ob cap ex done st r w HP.out HO.out).mono ?_
  rintro e w1 ⟨rfl, k1, k2⟩
  have K1 : Hid (Trie w1 w.heap.size) := k1
  have K2 : Hid (Kept w w1 []) := k2
  have HP1 : Hid (Blk w1 pb (rep done st r (.slice (some ⟨ob, 0, none⟩) 8 cap)) 246) := k2.blk HP.out (by simp)
  clear k1 k2
  have c3 : w1.cell? ⟨pb, 3, none⟩ = some r := HP1.out.cell 3
  have c4 : w1.cell? ⟨pb, 4, none⟩ = some (.slice (some ⟨ob, 0, none⟩) 8 cap) := HP1.out.cell 4
  have f3 := HP1.out.frozen 3
  have f4 := HP1.out.frozen 4
  go_wp2
  go_end0
  refine ⟨rfl, (HP1.out.set 3 _).set 4 _, (K1.out.set HP1.out _).set (HP1.out.set 3 _) _, ?_⟩
  exact (((K2.out.mono (by simp)).setCell _ _ (.inl (by simp))).setCell _ _ (.inl (by simp)))

set_option maxRecDepth 100000 in
set_option maxHeartbeats 1600000 in
theorem slow_any (pb ob cap : Nat) (ex : List Value) (r : Value) (w : World) (hP : Blk w pb (rep 0 0 r (.slice (some ⟨ob, 0, none⟩) 8 cap)) 246) (hO : Blk w ob (onCells ++ ex) 9) :
    Calls Tryz.prog 248 #[ptr pb, .func (.func 201) #[ptr pb] #[]] w fun e w' => e = .returned (.tuple #[]) ∧ Blk w' pb (rep 1 0 (.iface 325 (ptr w.heap.size)) nilS) 246 ∧ Trie w' w.heap.size ∧ Kept w w' [pb] := by
  have h1 : w.cell? ⟨pb, 1, none⟩ = some (.int .i32 0) := hP.cell 1
  have f1 := hP.frozen 1
  have HP1 : Hid (Blk (w.setCell ⟨pb, 1, none⟩ (.int .i32 1)) pb (rep 0 1 r (.slice (some ⟨ob, 0, none⟩) 8 cap)) 246) := hP.set 1 _
  have HO1 : Hid (Blk (w.setCell ⟨pb, 1, none⟩ (.int .i32 1)) ob (onCells ++ ex) 9) := hO.other _ _ (hO.ne hP (by decide))
  have HL1 : Hid (Calls Tryz.prog 273 #[.pointer (some ⟨pb, 1, none⟩)] w fun e w' => e = .returned (.tuple #[]) ∧ w' = w.setCell ⟨pb, 1, none⟩ (.int .i32 1)) := lock_free ⟨pb, 1, none⟩ w h1 f1
  have HK1 : Hid (Kept w (w.setCell ⟨pb, 1, none⟩ (.int .i32 1)) [pb]) := (Kept.refl w [pb]).setCell _ _ (.inl (by simp))
  have HS1 : Hid ((w.setCell ⟨pb, 1, none⟩ (.int .i32 1)).heap.size = w.heap.size) := by show _ = _; simp
  have HB := bonce_any pb ob cap ex 0 1 r _ HP1.out HO1.out
  rw [HS1.out] at HB
  have hl := run_call_load (P := Tryz.prog) Tryz.func272 (by kernel_rfl) (by kernel_rfl) (by kernel_rfl) .u32 (by kernel_rfl) (w := w.setCell ⟨pb, 1, none⟩ (.int .i32 1)) (a := ⟨pb, 0, none⟩) (x := 0) (HP1.out.cell 0)
  have hnot : ∀ (x : Bool) (w : World), (Op.unary .not (.bool x)).run Tryz.prog w = .ok (.bool (!x)) w := fun _ _ => rfl
  have HB2 : Hid (Calls Tryz.prog 201 #[ptr pb] (w.setCell ⟨pb, 1, none⟩ (.int .i32 1)) fun e w' => e = .returned (.tuple #[]) ∧ Blk w' pb (rep 0 1 (.iface 325 (ptr w.heap.size)) nilS) 246 ∧ Trie w' w.heap.size ∧ Kept (w.setCell ⟨pb, 1, none⟩ (.int .i32 1)) w' [pb]) := HB
  clear HB hP hO
  go_enter_defers Tryz.func248, Tryz.ntmps248
  go_wp2_with fail
  refine HL1.out.mono ?_
  rintro e w1 ⟨rfl, hw1⟩
  rw [hw1]
  clear hw1
  go_wp2_with (go_at_call 247; go_in)
  refine HB2.out.mono ?_
  rintro e w2 ⟨rfl, k1, k2, k3⟩
  have K1 : Hid (Blk w2 pb (rep 0 1 (.iface 325 (ptr w.heap.size)) nilS) 246) := k1
  have K2 : Hid (Trie w2 w.heap.size) := k2
  have K3 : Hid (Kept w w2 [pb]) := HK1.out.trans k3
  clear k1 k2 k3 hl
  go_wp2
  -- two deferred calls, the last laid first
  refine leaves_cons (f := 275) (args := #[.pointer (some ⟨pb, 0, none⟩), .bool true]) (by simp) (by simp [go_sem]) ?_
  refine (store_deferred ⟨pb, 0, none⟩ (.int .u32 0) .returning _ (K1.out.cell 0) (K1.out.frozen 0)).mono ?_
  rintro e u' w3 ⟨rfl, rfl, rfl⟩
  have L1 : Hid (Blk (w2.drew.setCell ⟨pb, 0, none⟩ (.int .u32 1)) pb (rep 1 1 (.iface 325 (ptr w.heap.size)) nilS) 246) := K1.out.drew.set 0 _
  have L2 : Hid (Trie (w2.drew.setCell ⟨pb, 0, none⟩ (.int .u32 1)) w.heap.size) := Trie.set (w := w2.drew) K2.out K1.out.drew _
  have L3 : Hid (Kept w (w2.drew.setCell ⟨pb, 0, none⟩ (.int .u32 1)) [pb]) := K3.out.drew.setCell _ _ (.inl (by simp))
  refine leaves_cons (f := 274) (args := #[.pointer (some ⟨pb, 1, none⟩)]) (by simp [settle]) (by simp [go_sem]) ?_
  refine (unlock_deferred ⟨pb, 1, none⟩ _ _ (L1.out.cell 1) (L1.out.frozen 1)).mono ?_
  rintro e u' w4 ⟨rfl, rfl, rfl⟩
  have M1 : Blk ((w2.drew.setCell ⟨pb, 0, none⟩ (.int .u32 1)).setCell ⟨pb, 1, none⟩ (.int .i32 0)) pb (rep 1 0 (.iface 325 (ptr w.heap.size)) nilS) 246 := L1.out.set 1 _
  have M2 : Trie ((w2.drew.setCell ⟨pb, 0, none⟩ (.int .u32 1)).setCell ⟨pb, 1, none⟩ (.int .i32 0)) w.heap.size := L2.out.set L1.out _
  have M3 : Kept w ((w2.drew.setCell ⟨pb, 0, none⟩ (.int .u32 1)).setCell ⟨pb, 1, none⟩ (.int .i32 0)) [pb] := L3.out.setCell _ _ (.inl (by simp))
  simp only [Leaves, settle]
  refine ⟨.tuple #[], ?_, rfl, M1, M2, M3⟩
  simp [results, Tryz.results248]
end Go.Proofs.YtbhcklkbckacpaaGreatDoor
