/-
  The reference's Tokens: a tag's frames.
-/
import Derived.Test.YtbhcklkbckacpaaGreatDoorTw
import Derived.Test.YtbhcklkbckacpaaGreatDoorTv5
import Derived.Test.YtbhcklkbckacpaaGreatDoorG3
import Derived.OneCell
namespace Go.Proofs.YtbhcklkbckacpaaGreatDoor
open Go.RowKit
theorem u8_ne (c d : UInt8) (h : ¬ c = d) : ((c.toNat : Int) != (d.toNat : Int)) = true := by
  rw [bne_iff_ne]
  intro e
  exact h (UInt8.toNat_inj.1 (by omega))
theorem slice_lst (m : List UInt8) (x : UInt8) (w : World) : (Instr.slice 9 (.string (B (m ++ [x]))) none (some (.int .i64 m.length)) none).run Tryz.prog w = .ok (.string (B m)) w := by
  rw [slice_to (B (m ++ [x])) m.length (by rw [B_size]; simp) w, B_data]
  simp
theorem val_cons (q : UInt8) (r : List UInt8) : Tk.val (q :: r) = if q == 34 || q == 39 then (r.takeWhile (Tk.not q), (r.dropWhile (Tk.not q)).drop 1) else ((q :: r).takeWhile Tk.avl, (q :: r).dropWhile Tk.avl) := rfl
theorem beq_href (x : List UInt8) : ((B x).toList == [104, 114, 101, 102]) = (x == Tk.hrefL) := by rw [toList_B]; rfl
structure TagM (w : World) (bb off n cap : Nat) (l : List UInt8) (v : Value) (pre : List Tk) (tb : Nat) (k : Tk) (wr : World) : Prop where
  m : RefM w bb off n cap l v wr pre
  blk : Blk wr tb (tkC k) 30
  hi : w.heap.size + 1 ≤ tb
  lo : v.ownBlock ≠ some tb
theorem TagM.far {w : World} {bb off n cap tb : Nat} {l : List UInt8} {v : Value} {wr w2 : World} {pre : List Tk} {k : Tk} (h : TagM w bb off n cap l v pre tb k wr) (hb : Below wr.heap.size wr w2) : TagM w bb off n cap l v pre tb k w2 :=
  ⟨h.m.far hb, (hb.block _ h.blk.lt).trans h.blk, h.hi, h.lo⟩
theorem TagM.set {w : World} {bb off n cap tb : Nat} {l : List UInt8} {v : Value} {wr : World} {pre : List Tk} {k k' : Tk} (h : TagM w bb off n cap l v pre tb k wr) (j : Nat) (x : Value) (hk : (tkC k).set j x = tkC k') : TagM w bb off n cap l v pre tb k' (wr.setCell ⟨tb, j, none⟩ x) := by
  have h1 := h.hi
  refine ⟨⟨ownsRow_setCell_other h.m.own h.lo _, h.m.box.other _ _ (by show w.heap.size ≠ tb; omega), ?_, h.m.b0, h.m.m0⟩, ?_, h.hi, h.lo⟩
  · exact h.m.below.setCell (by show w.heap.size ≤ tb; omega) _
  · have := h.blk.set j x
    rw [hk] at this
    exact this
theorem TagM.new {w : World} {bb off n cap : Nat} {l : List UInt8} {v : Value} {w2 : World} {pre : List Tk} (k : Tk) (h : RefM w bb off n cap l v w2 pre) : TagM w bb off n cap l v pre w2.heap.size k (w2.alloc (.cells (tkC k).toArray 30)) := by
  have hlt := h.box.lt
  have hne : v.ownBlock ≠ some w2.heap.size := fun e => by
    have := (h.own.lt _ e).2
    omega
  exact ⟨h.far ((Below.refl _ _).alloc (Nat.le_refl _) _), Blk.new w2 _ _, by omega, hne⟩
def RefO (w : World) (bb off n cap : Nat) (l : List UInt8) (Q0 : Exit → Act → World → Prop) : Prop := ∀ (a : Act) (w' : World) (v : Value), RefM w bb off n cap l v w' (Tk.toks l) → a.tmps.getD 2 undef = v → a.defers = [] → Q0 .ret a w'
def loopsOf : Code → List Code
  | .loop c => c :: loopsOf c
  | .seq a b => loopsOf a ++ loopsOf b
  | .block _ c => loopsOf c
  | .scope c => loopsOf c
  | .cond _ a b => loopsOf a ++ loopsOf b
  | _ => []
def isTmp (n : Nat) : Operand → Bool
  | .tmp m => m == n
  | _ => false
def ifOn (n : Nat) : Code → Option Code
  | .loop c => ifOn n c
  | .seq a b => match ifOn n a with
    | some c => some c
    | none => ifOn n b
  | .block _ c => ifOn n c
  | .scope c => ifOn n c
  | .cond o a b => if isTmp n o then some (.cond o a b) else match ifOn n a with
    | some c => some c
    | none => ifOn n b
  | _ => none
theorem as_frame {K : Act → World → Prop} {a : Act} {w : World} (F : (Nat → Value) → Act) (h : a = F (fun k => a.tmps.getD k undef)) (hk : ∀ us, K (F us) w) : K a w := by
  have := hk (fun k => a.tmps.getD k undef)
  rw [← h] at this
  exact this
theorem wp_frame {P : Program} {c : Code} {Q : Exit → Act → World → Prop} {a : Act} {w : World} (F : (Nat → Value) → Act) (h : a = F (fun k => a.tmps.getD k undef)) (hk : ∀ us, Code.wp P c Q (F us) w) : Code.wp P c Q a w := as_frame (K := fun a w => Code.wp P c Q a w) F h hk
set_option maxRecDepth 1000000 in
def frm4 (h : Nat) (v : Value) (i : Nat) (shut : Bool) (k tb : Nat) (hr fd : Value) (us : Nat → Value) : Act := ⟨#[us 0, .pointer (some ⟨h, 0, none⟩), us 2, v, .func (.func 53) #[] #[.pointer (some ⟨h, 0, none⟩)], .func (.func 54) #[] #[.pointer (some ⟨h, 0, none⟩)], .int .i64 i, us 7, us 8, .bool shut, .int .i64 k, .pointer (some ⟨tb, 0, none⟩), hr, fd, us 14, us 15, us 16, us 17, us 18, us 19, us 20, us 21, us 22, us 23, us 24, us 25, us 26, us 27, us 28, us 29, us 30, us 31, us 32, us 33, us 34, us 35, us 36, us 37, us 38, us 39, us 40, us 41, us 42, us 43, us 44, us 45, us 46, us 47, us 48, us 49, us 50, us 51, us 52, us 53, us 54, us 55, us 56, us 57, us 58, us 59, us 60, us 61, us 62, us 63, us 64, us 65, us 66, us 67, us 68, us 69, us 70, us 71, us 72, us 73, us 74, us 75, us 76, us 77, us 78, us 79, us 80, us 81, us 82, us 83, us 84, us 85, us 86, us 87, us 88, us 89, us 90, us 91, us 92, us 93, us 94, us 95, us 96, us 97, us 98, us 99, us 100, us 101, us 102, us 103, us 104, us 105, us 106, us 107, us 108, us 109, us 110, us 111, us 112, us 113, us 114, us 115, us 116, us 117, us 118, us 119, us 120, us 121, us 122, us 123, us 124, us 125, us 126, us 127, us 128, us 129, us 130, us 131, us 132, us 133, us 134, us 135, us 136, us 137, us 138, us 139, us 140, us 141, us 142, us 143, us 144, us 145, us 146, us 147, us 148, us 149, us 150, us 151, us 152, us 153, us 154, us 155, us 156, us 157, us 158, us 159, us 160, us 161, us 162, us 163, us 164, us 165, us 166, us 167, us 168, us 169, us 170, us 171, us 172, us 173, us 174, us 175, us 176, us 177, us 178, us 179, us 180, us 181, us 182, us 183, us 184, us 185, us 186, us 187, us 188, us 189, us 190, us 191, us 192, us 193, us 194, us 195, us 196, us 197, us 198, us 199, us 200, us 201, us 202, us 203, us 204, us 205, us 206, us 207, us 208, us 209, us 210, us 211, us 212, us 213, us 214, us 215, us 216, us 217, us 218, us 219, us 220, us 221, us 222, us 223, us 224, us 225, us 226, us 227, us 228, us 229, us 230, us 231, us 232, us 233, us 234, us 235, us 236, us 237, us 238, us 239, us 240, us 241, us 242, us 243, us 244, us 245, us 246, us 247, us 248, us 249, us 250, us 251, us 252, us 253, us 254, us 255, us 256, us 257, us 258, us 259, us 260, us 261, us 262, us 263, us 264, us 265, us 266, us 267, us 268, us 269, us 270, us 271, us 272, us 273, us 274, us 275, us 276, us 277, us 278, us 279, us 280, us 281, us 282, us 283, us 284, us 285, us 286, us 287, us 288, us 289, us 290, us 291, us 292, us 293, us 294, us 295, us 296, us 297, us 298, us 299, us 300, us 301, us 302, us 303, us 304, us 305, us 306, us 307, us 308, us 309, us 310, us 311, us 312, us 313, us 314, us 315, us 316, us 317, us 318, us 319, us 320, us 321, us 322, us 323, us 324, us 325, us 326, us 327, us 328, us 329, us 330, us 331, us 332, us 333, us 334, us 335, us 336, us 337, us 338, us 339, us 340, us 341, us 342, us 343, us 344, us 345, us 346, us 347, us 348], []⟩
set_option maxRecDepth 1000000 in
def frmU (h : Nat) (v : Value) (i : Nat) (shut : Bool) (m1 j tb : Nat) (hr fd nv : Value) (q : UInt8) (us : Nat → Value) : Act := ⟨#[us 0, .pointer (some ⟨h, 0, none⟩), us 2, v, .func (.func 53) #[] #[.pointer (some ⟨h, 0, none⟩)], .func (.func 54) #[] #[.pointer (some ⟨h, 0, none⟩)], .int .i64 i, us 7, us 8, .bool shut, .int .i64 m1, .pointer (some ⟨tb, 0, none⟩), hr, fd, us 14, nv, .string ⟨#[]⟩, .int .i64 j, us 18, us 19, us 20, us 21, us 22, us 23, us 24, us 25, us 26, us 27, us 28, us 29, us 30, us 31, us 32, us 33, us 34, us 35, us 36, us 37, us 38, us 39, us 40, us 41, us 42, us 43, us 44, us 45, us 46, us 47, us 48, us 49, us 50, us 51, us 52, us 53, us 54, us 55, us 56, us 57, us 58, us 59, us 60, us 61, us 62, us 63, us 64, us 65, us 66, us 67, us 68, us 69, us 70, us 71, us 72, us 73, us 74, us 75, us 76, us 77, us 78, us 79, us 80, us 81, us 82, us 83, us 84, us 85, us 86, us 87, us 88, us 89, us 90, us 91, us 92, us 93, us 94, us 95, us 96, us 97, us 98, us 99, us 100, us 101, us 102, us 103, us 104, us 105, us 106, us 107, us 108, us 109, us 110, us 111, us 112, us 113, us 114, us 115, us 116, us 117, us 118, us 119, us 120, us 121, us 122, us 123, us 124, us 125, us 126, us 127, us 128, us 129, us 130, us 131, us 132, us 133, us 134, us 135, us 136, us 137, us 138, us 139, us 140, us 141, us 142, us 143, us 144, us 145, us 146, us 147, us 148, us 149, us 150, us 151, us 152, us 153, us 154, us 155, us 156, us 157, us 158, us 159, us 160, us 161, us 162, us 163, us 164, us 165, us 166, us 167, us 168, us 169, us 170, us 171, us 172, us 173, us 174, us 175, us 176, us 177, us 178, us 179, us 180, us 181, us 182, us 183, us 184, us 185, us 186, us 187, us 188, us 189, us 190, us 191, us 192, us 193, us 194, us 195, us 196, us 197, us 198, us 199, us 200, us 201, us 202, us 203, us 204, us 205, us 206, us 207, us 208, us 209, us 210, us 211, us 212, us 213, us 214, us 215, us 216, us 217, us 218, us 219, us 220, us 221, us 222, us 223, us 224, us 225, us 226, us 227, us 228, us 229, us 230, us 231, us 232, us 233, us 234, us 235, us 236, us 237, us 238, us 239, us 240, us 241, us 242, us 243, us 244, us 245, us 246, us 247, us 248, us 249, .bool ((q.toNat : Int) == 61), us 251, us 252, us 253, us 254, us 255, us 256, us 257, us 258, us 259, us 260, us 261, us 262, us 263, us 264, us 265, us 266, us 267, us 268, us 269, us 270, us 271, us 272, us 273, us 274, us 275, us 276, us 277, us 278, us 279, us 280, us 281, us 282, us 283, us 284, us 285, us 286, us 287, us 288, us 289, us 290, us 291, us 292, us 293, us 294, us 295, us 296, us 297, us 298, us 299, us 300, us 301, us 302, us 303, us 304, us 305, us 306, us 307, us 308, us 309, us 310, us 311, us 312, us 313, us 314, us 315, us 316, us 317, us 318, us 319, us 320, us 321, us 322, us 323, us 324, us 325, us 326, us 327, us 328, us 329, us 330, us 331, us 332, us 333, us 334, us 335, us 336, us 337, us 338, us 339, us 340, us 341, us 342, us 343, us 344, us 345, us 346, us 347, us 348], []⟩
set_option maxRecDepth 1000000 in
def frmV (h : Nat) (v : Value) (i : Nat) (shut : Bool) (k tb : Nat) (hr fd nv vv : Value) (us : Nat → Value) : Act := ⟨#[us 0, .pointer (some ⟨h, 0, none⟩), us 2, v, .func (.func 53) #[] #[.pointer (some ⟨h, 0, none⟩)], .func (.func 54) #[] #[.pointer (some ⟨h, 0, none⟩)], .int .i64 i, us 7, us 8, .bool shut, .int .i64 k, .pointer (some ⟨tb, 0, none⟩), hr, fd, us 14, nv, vv, us 17, us 18, us 19, us 20, us 21, us 22, us 23, us 24, us 25, us 26, us 27, us 28, us 29, us 30, us 31, us 32, us 33, us 34, us 35, us 36, us 37, us 38, us 39, us 40, us 41, us 42, us 43, us 44, us 45, us 46, us 47, us 48, us 49, us 50, us 51, us 52, us 53, us 54, us 55, us 56, us 57, us 58, us 59, us 60, us 61, us 62, us 63, us 64, us 65, us 66, us 67, us 68, us 69, us 70, us 71, us 72, us 73, us 74, us 75, us 76, us 77, us 78, us 79, us 80, us 81, us 82, us 83, us 84, us 85, us 86, us 87, us 88, us 89, us 90, us 91, us 92, us 93, us 94, us 95, us 96, us 97, us 98, us 99, us 100, us 101, us 102, us 103, us 104, us 105, us 106, us 107, us 108, us 109, us 110, us 111, us 112, us 113, us 114, us 115, us 116, us 117, us 118, us 119, us 120, us 121, us 122, us 123, us 124, us 125, us 126, us 127, us 128, us 129, us 130, us 131, us 132, us 133, us 134, us 135, us 136, us 137, us 138, us 139, us 140, us 141, us 142, us 143, us 144, us 145, us 146, us 147, us 148, us 149, us 150, us 151, us 152, us 153, us 154, us 155, us 156, us 157, us 158, us 159, us 160, us 161, us 162, us 163, us 164, us 165, us 166, us 167, us 168, us 169, us 170, us 171, us 172, us 173, us 174, us 175, us 176, us 177, us 178, us 179, us 180, us 181, us 182, us 183, us 184, us 185, us 186, us 187, us 188, us 189, us 190, us 191, us 192, us 193, us 194, us 195, us 196, us 197, us 198, us 199, us 200, us 201, us 202, us 203, us 204, us 205, us 206, us 207, us 208, us 209, us 210, us 211, us 212, us 213, us 214, us 215, us 216, us 217, us 218, us 219, us 220, us 221, us 222, us 223, us 224, us 225, us 226, us 227, us 228, us 229, us 230, us 231, us 232, us 233, us 234, us 235, us 236, us 237, us 238, us 239, us 240, us 241, us 242, us 243, us 244, us 245, us 246, us 247, us 248, us 249, us 250, us 251, us 252, us 253, us 254, us 255, us 256, us 257, us 258, us 259, us 260, us 261, us 262, us 263, us 264, us 265, us 266, us 267, us 268, us 269, us 270, us 271, us 272, us 273, us 274, us 275, us 276, us 277, us 278, us 279, us 280, us 281, us 282, us 283, us 284, us 285, us 286, us 287, us 288, us 289, us 290, us 291, us 292, us 293, us 294, us 295, us 296, us 297, us 298, us 299, us 300, us 301, us 302, us 303, us 304, us 305, us 306, us 307, us 308, us 309, us 310, us 311, us 312, us 313, us 314, us 315, us 316, us 317, us 318, us 319, us 320, us 321, us 322, us 323, us 324, us 325, us 326, us 327, us 328, us 329, us 330, us 331, us 332, us 333, us 334, us 335, us 336, us 337, us 338, us 339, us 340, us 341, us 342, us 343, us 344, us 345, us 346, us 347, us 348], []⟩
def attMu (n : Nat) (a : Act) : Nat := n - (intOf (a.tmps.getD 10 undef)).toNat
structure AttAt (w : World) (bb off n cap : Nat) (l : List UInt8) (v : Value) (pre : List Tk) (tb : Nat) (tk : Tk) (m : Nat) (R : Option (Option (List UInt8) × List UInt8)) (wr : World) (k : Nat) (h : Option (List UInt8)) : Prop where
  lo : m ≤ k
  hi : k ≤ n
  len : (h.getD []).length ≤ n
  at' : Tk.attr (l.drop k) h = R
  mem : TagM w bb off n cap l v pre tb tk wr
def frmA (h : Nat) (v : Value) (i : Nat) (shut : Bool) (tb k : Nat) (x : Option (List UInt8)) (us : Nat → Value) : Act := frm4 h v i shut k tb (.string (B (x.getD []))) (.bool x.isSome) us
def AttI (w : World) (bb off n cap : Nat) (l : List UInt8) (v : Value) (pre : List Tk) (tb : Nat) (tk : Tk) (m : Nat) (R : Option (Option (List UInt8) × List UInt8)) (i : Nat) (shut : Bool) (a : Act) (wr : World) : Prop := ∃ k h us, a = frmA w.heap.size v i shut tb k h us ∧ AttAt w bb off n cap l v pre tb tk m R wr k h
theorem AttI.start {w : World} {bb off n cap : Nat} {l : List UInt8} {v : Value} {pre : List Tk} {tb : Nat} {tk : Tk} {m : Nat} {R : Option (Option (List UInt8) × List UInt8)} {i : Nat} {shut : Bool} {a : Act} {wr : World} {k : Nat} {h : Option (List UInt8)} (hf : a = frmA w.heap.size v i shut tb k h (fun j => a.tmps.getD j undef)) (hA : AttAt w bb off n cap l v pre tb tk m R wr k h) : AttI w bb off n cap l v pre tb tk m R i shut a wr := ⟨k, h, _, hf, hA⟩
theorem attMu_of (n h : Nat) (v : Value) (i : Nat) (shut : Bool) (tb k : Nat) (x : Option (List UInt8)) (us : Nat → Value) : attMu n (frmA h v i shut tb k x us) = n - k := rfl
theorem AttI.step {w : World} {bb off n cap : Nat} {l : List UInt8} {v : Value} {pre : List Tk} {tb : Nat} {tk : Tk} {m : Nat} {R : Option (Option (List UInt8) × List UInt8)} {i : Nat} {shut : Bool} {a : Act} {wr : World} {k k0 : Nat} {h : Option (List UInt8)} (hf : a = frmA w.heap.size v i shut tb k h (fun j => a.tmps.getD j undef)) (hA : AttAt w bb off n cap l v pre tb tk m R wr k h) (hk : k0 < k) : AttI w bb off n cap l v pre tb tk m R i shut a wr ∧ attMu n a < n - k0 := by
  refine ⟨AttI.start hf hA, ?_⟩
  rw [hf, attMu_of]
  have := hA.hi
  omega
end Go.Proofs.YtbhcklkbckacpaaGreatDoor
