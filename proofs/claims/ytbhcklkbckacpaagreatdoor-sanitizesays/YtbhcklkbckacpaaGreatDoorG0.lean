/-
  Texts of this proof, one behind the other.
-/
import Derived.Test.YtbhcklkbckacpaaGreatDoorRows
import Derived.WalkKit
import Derived.WalkLawsBesides
import Derived.Deep.Draws
import Derived.Shelf.Strings.Builder1
import Derived.Shelf.Strings.Builder2
import Derived.Shelf.Strings.Trim
import Derived.Shelf.Small.Utf8
import Derived.Shelf.Small.Strs
import Derived.Shelf.Utf8.RuneCount
import Derived.Shelf.LaysM
import Derived.Shelf.Strconv.Clone
import Derived.Shelf.Strings.Search1
import Derived.Shelf.Strings.Search2
import Derived.Shelf.Strings.Search3
import Derived.Shelf.Strings.Cut
import Derived.Shelf.Strings.Count
import Derived.Shelf.Strings.Shaped
import Derived.Shelf.Strings.Prefix
import Derived.Shelf.Strings.Split
import Derived.Shelf.Strings.Fields
import Derived.Shelf.Strings.SplitShaped
import Derived.Shelf.Unicode.Latin
import Derived.Shelf.Unicode.Decode
import Derived.Shelf.Strings.Runes
import Derived.Shelf.Strings.RuneCount
import Derived.Shelf.Strings.IndexAny
import Derived.Shelf.Strings.AsciiSet
import Derived.Shelf.Strings.IndexAnyAll
import Derived.Shelf.Bits.Mul64
import Derived.Shelf.Unicode.DecodeSlow
import Derived.Shelf.Unicode.DecodeAny
import Derived.Shelf.Unicode.Is16White
import Derived.Shelf.Unicode.IsSpaceAny
import Derived.Shelf.Unicode.DecodeLast
import Derived.Shelf.Unicode.Is16Any
import Derived.Shelf.Unicode.Is32Any
import Derived.Shelf.Slices.Turned
import Derived.Test.YtbhcklkbckacpaaGreatDoorProg
import Derived.Deep.QuietTactic
import Derived.BigQuiet
import Derived.Deep.LoopGhost
import Derived.Handy
import Derived.WalkMore
import Derived.Laws.RangeAny
import Derived.Lib.OthersKept
import Derived.Lib.BufSteps
import Derived.Laws.IdiomStrings
import Derived.Laws.BytesArg
import Derived.Lib.IndexAny
import Derived.Lib.ConvBytes
import Derived.Deep.AppendLies
import Derived.Laws.AppendOwnNone
import Derived.Laws.OwnMore
import Derived.Lib.AppendZeros
import Derived.Deep.Upon
import Derived.Deep.AppendSrc
import Derived.Lib.IndexMore
import Derived.Lib.Strings

/-
  Blocks of memory that a call lays and writes: what holds of them behind a store, a new block, a draw; and that all else is as it was.
-/
namespace Go.Proofs.YtbhcklkbckacpaaGreatDoor
open Go.RowKit

def Blk (w : World) (b : Nat) (cs : List Value) (t : TypeId) : Prop := w.heap[b]? = some (.cells cs.toArray t (0, 0))

theorem Blk.lt {w : World} {b : Nat} {cs : List Value} {t : TypeId} (h : Blk w b cs t) : b < w.heap.size := (Array.getElem?_eq_some_iff.1 h).1
theorem Blk.cell {w : World} {b : Nat} {cs : List Value} {t : TypeId} (h : Blk w b cs t) (j : Nat) : w.cell? ⟨b, j, none⟩ = cs[j]? := by
  unfold Blk at h
  simp [World.cell?, h]
theorem Blk.frozen {w : World} {b : Nat} {cs : List Value} {t : TypeId} (h : Blk w b cs t) (j : Nat) : w.frozen? ⟨b, j, none⟩ = false := by
  unfold Blk at h
  simp [World.frozen?, h]
theorem Blk.new (w : World) (cs : List Value) (t : TypeId) : Blk (w.alloc (.cells cs.toArray t)) w.heap.size cs t := heap_alloc_new w _
theorem Blk.newAt (w : World) (b : Nat) (cs : List Value) (t : TypeId) (h : w.heap.size = b) : Blk (w.alloc (.cells cs.toArray t)) b cs t := h ▸ Blk.new w cs t
theorem Blk.alloc {w : World} {b : Nat} {cs : List Value} {t : TypeId} (h : Blk w b cs t) (o : Obj) : Blk (w.alloc o) b cs t := (Below.heap_alloc w o b h.lt).trans h
theorem Blk.drew {w : World} {b : Nat} {cs : List Value} {t : TypeId} (h : Blk w b cs t) : Blk w.drew b cs t := h
theorem Blk.drewN {w : World} {b : Nat} {cs : List Value} {t : TypeId} (h : Blk w b cs t) (n : Nat) : Blk (w.drewN n) b cs t := h
theorem Blk.other {w : World} {b : Nat} {cs : List Value} {t : TypeId} (h : Blk w b cs t) (a : Addr) (v : Value) (hne : b ≠ a.block) : Blk (w.setCell a v) b cs t := (Below.heap_setCell w a v b hne).trans h
theorem Blk.set {w : World} {b : Nat} {cs : List Value} {t : TypeId} (h : Blk w b cs t) (j : Nat) (v : Value) : Blk (w.setCell ⟨b, j, none⟩ v) b (cs.set j v) t := by
  unfold Blk at h ⊢
  obtain ⟨hlt, he⟩ := Array.getElem?_eq_some_iff.1 h
  simp [World.setCell, hlt, Array.getElem_modify, he]

structure Kept (w w' : World) (S : List Nat) : Prop where
  os : w'.os = w.os
  tape : w'.tape = w.tape
  output : w'.output = w.output
  size : w.heap.size ≤ w'.heap.size
  block : ∀ k, k < w.heap.size → k ∉ S → w'.heap[k]? = w.heap[k]?

theorem Kept.refl (w : World) (S : List Nat) : Kept w w S := ⟨rfl, rfl, rfl, Nat.le_refl _, fun _ _ _ => rfl⟩
theorem Kept.trans {a b c : World} {S : List Nat} (h : Kept a b S) (k : Kept b c S) : Kept a c S :=
  ⟨k.os.trans h.os, k.tape.trans h.tape, k.output.trans h.output, Nat.le_trans h.size k.size, fun i hi hs => (k.block i (Nat.lt_of_lt_of_le hi h.size) hs).trans (h.block i hi hs)⟩
theorem Kept.mono {a b : World} {S T : List Nat} (h : Kept a b S) (hs : ∀ x ∈ S, x ∈ T) : Kept a b T := ⟨h.os, h.tape, h.output, h.size, fun k hk hn => h.block k hk (fun hm => hn (hs k hm))⟩
theorem Kept.trans_new {a b c : World} {S T : List Nat} (h : Kept a b S) (k : Kept b c T) (ht : ∀ x ∈ T, x ∈ S ∨ a.heap.size ≤ x) : Kept a c S :=
  ⟨k.os.trans h.os, k.tape.trans h.tape, k.output.trans h.output, Nat.le_trans h.size k.size, fun i hi hs => (k.block i (Nat.lt_of_lt_of_le hi h.size) (fun hm => by rcases ht i hm with h1 | h1; exact hs h1; omega)).trans (h.block i hi hs)⟩
theorem Kept.alloc {a w : World} {S : List Nat} (h : Kept a w S) (o : Obj) : Kept a (w.alloc o) S :=
  h.trans ⟨rfl, rfl, rfl, by simp, fun k hk _ => Below.heap_alloc w o k hk⟩
theorem Kept.drew {a w : World} {S : List Nat} (h : Kept a w S) : Kept a w.drew S := ⟨h.os, h.tape, h.output, h.size, h.block⟩
theorem Kept.drewN {a w : World} {S : List Nat} (h : Kept a w S) (n : Nat) : Kept a (w.drewN n) S := ⟨h.os, h.tape, h.output, h.size, h.block⟩
theorem Kept.setCell {a w : World} {S : List Nat} (h : Kept a w S) (p : Addr) (v : Value) (hp : p.block ∈ S ∨ a.heap.size ≤ p.block) : Kept a (w.setCell p v) S := by
  have hb := (Below.refl 0 w).setCell (p := p) (Nat.zero_le _) v
  refine ⟨hb.os.trans h.os, hb.tape.trans h.tape, hb.output.trans h.output, Nat.le_trans h.size hb.size, fun k hk hs => ?_⟩
  refine (Below.heap_setCell w p v k ?_).trans (h.block k hk hs)
  intro e
  rcases hp with h1 | h1
  · exact hs (e ▸ h1)
  · omega
theorem Kept.blk {w w' : World} {S : List Nat} (h : Kept w w' S) {b : Nat} {cs : List Value} {t : TypeId} (hb : Blk w b cs t) (hs : b ∉ S) : Blk w' b cs t := (h.block b hb.lt hs).trans hb
theorem Kept.below {w w' : World} {S : List Nat} (h : Kept w w' S) {B : Nat} (hB : B ≤ w.heap.size) (hS : ∀ x ∈ S, B ≤ x) : Below B w w' :=
  ⟨h.os, h.tape, h.output, h.size, fun k hk => h.block k (Nat.lt_of_lt_of_le hk hB) (fun hm => by have := hS k hm; omega)⟩
end Go.Proofs.YtbhcklkbckacpaaGreatDoor

/-
  Contracts of library functions, laid over this translation by the kit's tool.
-/
namespace Go.Proofs
open Go.Shelf
def Tryz.lays119_ren : Go.Shelf.Ren := ⟨fun | 119 => 322 | n => n, fun | 21 => 21 | 4 => 4 | n => n, fun | n => n⟩
theorem Tryz.lays119 : Go.Proofs.Lays.n119 Tryz.prog Tryz.lays119_ren := {
  mixed := by kernel_rfl
  f119 := Tryz.func322.trans (congrArg some (by kernel_rfl))
  t4 := Tryz.underlying4
  a4 := Tryz.isAgg4
  z4 := Tryz.sizeOf4
  v4 := Tryz.zeroValue4
  t21 := Tryz.underlying21
  a21 := Tryz.isAgg21
  z21 := Tryz.sizeOf21
  v21 := Tryz.zeroValue21 }
theorem Tryz.utf8_ValidRune (r : Int) (w : World) :
    Calls Tryz.prog 322 #[.int .i32 r] w fun e w' => e = .returned (.bool (Lib.validRune r)) ∧ w' = w := Any.utf8_ValidRune Tryz.lays119 r w
def Tryz.lays137_ren : Go.Shelf.Ren := ⟨fun | 137 => 70 | 217 => 142 | 266 => 215 | n => n, fun | 9 => 9 | 5 => 5 | 3 => 3 | n => n, fun | n => n⟩
theorem Tryz.lays137 : Go.Proofs.Lays.n137 Tryz.prog Tryz.lays137_ren := {
  mixed := by kernel_rfl
  f137 := Tryz.func70.trans (congrArg some (by kernel_rfl))
  f217 := Tryz.func142.trans (congrArg some (by kernel_rfl))
  f266 := Tryz.func215.trans (congrArg some (by kernel_rfl))
  t3 := Tryz.underlying3
  a3 := Tryz.isAgg3
  z3 := Tryz.sizeOf3
  v3 := Tryz.zeroValue3
  t5 := Tryz.underlying5
  a5 := Tryz.isAgg5
  z5 := Tryz.sizeOf5
  v5 := Tryz.zeroValue5
  t9 := Tryz.underlying9
  a9 := Tryz.isAgg9
  z9 := Tryz.sizeOf9
  v9 := Tryz.zeroValue9 }
open Go.RowKit in
theorem Tryz.strings_IndexByte (s : ByteArray) (c : Int) (w : World) :
    Calls Tryz.prog 70 #[.string s, .int .u8 c] w fun e w' => e = .returned (.int .i64 (Lib.indexByte s.data.toList c.toNat.toUInt8)) ∧ w' = w := Any.strings_IndexByte Tryz.lays137 s c w
def Tryz.laysM316_ren : Go.Shelf.Ren := ⟨fun | 316 => 304 | n => n, fun | 9 => 9 | 3 => 3 | 4 => 4 | 37 => 22 | 0 => 0 | 127 => 381 | 5 => 5 | n => n, fun | n => n⟩
theorem Tryz.laysM316 : Go.Proofs.LaysM.n316 Tryz.prog Tryz.laysM316_ren := {
  mixed := by kernel_rfl
  f316 := Tryz.func304.trans (congrArg some (by kernel_rfl))
  t0 := Tryz.underlying0
  a0 := Tryz.isAgg0
  z0 := Tryz.sizeOf0
  v0 := Tryz.zeroValue0
  t3 := Tryz.underlying3
  a3 := Tryz.isAgg3
  z3 := Tryz.sizeOf3
  v3 := Tryz.zeroValue3
  t4 := Tryz.underlying4
  a4 := Tryz.isAgg4
  z4 := Tryz.sizeOf4
  v4 := Tryz.zeroValue4
  t9 := Tryz.underlying9
  a9 := Tryz.isAgg9
  z9 := Tryz.sizeOf9
  v9 := Tryz.zeroValue9
  t37 := Tryz.underlying22
  a37 := Tryz.isAgg22
  z37 := Tryz.sizeOf22
  v37 := Tryz.zeroValue22
  t127 := Tryz.underlying381
  a127 := Tryz.isAgg381
  z127 := Tryz.sizeOf381
  v127 := Tryz.zeroValue381
  t5 := Tryz.underlying5
  a5 := Tryz.isAgg5
  z5 := Tryz.sizeOf5
  v5 := Tryz.zeroValue5
  i0 := by kernel_rfl
  i3 := by kernel_rfl
  i4 := by kernel_rfl
  i5 := by kernel_rfl
  i9 := by kernel_rfl
  i37 := by kernel_rfl
  i127 := by kernel_rfl }
open Go.RowKit in
theorem Tryz.stringslite_Clone (s : ByteArray) (w : World) (hlim : s.size ≤ 281474976710656) :
    Calls Tryz.prog 304 #[.string s] w fun e w' => e = .returned (.string s) ∧ Below w.heap.size w w' := Any.stringslite_Clone Tryz.laysM316 s w hlim
def Tryz.lays219_ren : Go.Shelf.Ren := ⟨fun | 219 => 129 | 217 => 142 | 225 => 197 | 224 => 198 | 267 => 199 | 266 => 215 | 314 => 246 | n => n, fun | 9 => 9 | 3 => 3 | 4 => 4 | 5 => 5 | 46 => 155 | 146 => 222 | 51 => 221 | n => n, fun | 1 => 1 | n => n⟩
theorem Tryz.lays219 : Go.Proofs.Lays.n219 Tryz.prog Tryz.lays219_ren := {
  mixed := by kernel_rfl
  f217 := Tryz.func142.trans (congrArg some (by kernel_rfl))
  f219 := Tryz.func129.trans (congrArg some (by kernel_rfl))
  f224 := Tryz.func198.trans (congrArg some (by kernel_rfl))
  f225 := Tryz.func197.trans (congrArg some (by kernel_rfl))
  f266 := Tryz.func215.trans (congrArg some (by kernel_rfl))
  f267 := Tryz.func199.trans (congrArg some (by kernel_rfl))
  f314 := Tryz.func246.trans (congrArg some (by kernel_rfl))
  t3 := Tryz.underlying3
  a3 := Tryz.isAgg3
  z3 := Tryz.sizeOf3
  v3 := Tryz.zeroValue3
  t4 := Tryz.underlying4
  a4 := Tryz.isAgg4
  z4 := Tryz.sizeOf4
  v4 := Tryz.zeroValue4
  t5 := Tryz.underlying5
  a5 := Tryz.isAgg5
  z5 := Tryz.sizeOf5
  v5 := Tryz.zeroValue5
  t9 := Tryz.underlying9
  a9 := Tryz.isAgg9
  z9 := Tryz.sizeOf9
  v9 := Tryz.zeroValue9
  t46 := Tryz.underlying155
  a46 := Tryz.isAgg155
  z46 := Tryz.sizeOf155
  v46 := Tryz.zeroValue155
  t51 := Tryz.underlying221
  a51 := Tryz.isAgg221
  z51 := Tryz.sizeOf221
  v51 := Tryz.zeroValue221
  t146 := Tryz.underlying222
  a146 := Tryz.isAgg222
  z146 := Tryz.sizeOf222
  v146 := Tryz.zeroValue222
  g1 := by kernel_rfl }
open Go.RowKit Go.Lib in
theorem Tryz.stringslite_Index_one (s : ByteArray) (c : UInt8) (w : World) :
    Calls Tryz.prog 129 #[.string s, .string ⟨#[c]⟩] w fun e w' => e = .returned (.int .i64 (Lib.indexByte s.data.toList c)) ∧ w' = w := Any.stringslite_Index_one Tryz.lays219 s c w
def Tryz.lays143_ren : Go.Shelf.Ren := ⟨fun | 143 => 55 | 219 => 129 | 217 => 142 | 225 => 197 | 224 => 198 | 267 => 199 | 266 => 215 | 314 => 246 | n => n, fun | 9 => 9 | 3 => 3 | 4 => 4 | 5 => 5 | 46 => 155 | 146 => 222 | 51 => 221 | n => n, fun | 1 => 1 | n => n⟩
theorem Tryz.lays143 : Go.Proofs.Lays.n143 Tryz.prog Tryz.lays143_ren := {
  mixed := by kernel_rfl
  f143 := Tryz.func55.trans (congrArg some (by kernel_rfl))
  f217 := Tryz.func142.trans (congrArg some (by kernel_rfl))
  f219 := Tryz.func129.trans (congrArg some (by kernel_rfl))
  f224 := Tryz.func198.trans (congrArg some (by kernel_rfl))
  f225 := Tryz.func197.trans (congrArg some (by kernel_rfl))
  f266 := Tryz.func215.trans (congrArg some (by kernel_rfl))
  f267 := Tryz.func199.trans (congrArg some (by kernel_rfl))
  f314 := Tryz.func246.trans (congrArg some (by kernel_rfl))
  t3 := Tryz.underlying3
  a3 := Tryz.isAgg3
  z3 := Tryz.sizeOf3
  v3 := Tryz.zeroValue3
  t4 := Tryz.underlying4
  a4 := Tryz.isAgg4
  z4 := Tryz.sizeOf4
  v4 := Tryz.zeroValue4
  t5 := Tryz.underlying5
  a5 := Tryz.isAgg5
  z5 := Tryz.sizeOf5
  v5 := Tryz.zeroValue5
  t9 := Tryz.underlying9
  a9 := Tryz.isAgg9
  z9 := Tryz.sizeOf9
  v9 := Tryz.zeroValue9
  t46 := Tryz.underlying155
  a46 := Tryz.isAgg155
  z46 := Tryz.sizeOf155
  v46 := Tryz.zeroValue155
  t51 := Tryz.underlying221
  a51 := Tryz.isAgg221
  z51 := Tryz.sizeOf221
  v51 := Tryz.zeroValue221
  t146 := Tryz.underlying222
  a146 := Tryz.isAgg222
  z146 := Tryz.sizeOf222
  v146 := Tryz.zeroValue222
  g1 := by kernel_rfl }
open Go.RowKit Go.Lib in
theorem Tryz.strings_Index_one (s : ByteArray) (c : UInt8) (w : World) :
    Calls Tryz.prog 55 #[.string s, .string ⟨#[c]⟩] w fun e w' => e = .returned (.int .i64 (Lib.indexByte s.data.toList c)) ∧ w' = w := Any.strings_Index_one Tryz.lays143 s c w
open Go.RowKit Go.Lib in
theorem Tryz.strings_Index (s sub : ByteArray) (m : Int) (w : World) (hs : s.size < 4294967281) (hm : w.cell? ⟨1, 0, none⟩ = some (.int .i64 m)) :
    Calls Tryz.prog 55 #[.string s, .string sub] w fun e w' => e = .returned (.int .i64 (Lib.index s.data.toList sub.data.toList)) ∧ w' = w := Any.strings_Index Tryz.lays143 s sub m w hs hm
def Tryz.lays144_ren : Go.Shelf.Ren := ⟨fun | 144 => 143 | 143 => 55 | 219 => 129 | 217 => 142 | 225 => 197 | 224 => 198 | 267 => 199 | 266 => 215 | 314 => 246 | n => n, fun | 9 => 9 | 4 => 4 | 3 => 3 | 5 => 5 | 46 => 155 | 146 => 222 | 51 => 221 | n => n, fun | 1 => 1 | n => n⟩
theorem Tryz.lays144 : Go.Proofs.Lays.n144 Tryz.prog Tryz.lays144_ren := {
  mixed := by kernel_rfl
  f143 := Tryz.func55.trans (congrArg some (by kernel_rfl))
  f144 := Tryz.func143.trans (congrArg some (by kernel_rfl))
  f217 := Tryz.func142.trans (congrArg some (by kernel_rfl))
  f219 := Tryz.func129.trans (congrArg some (by kernel_rfl))
  f224 := Tryz.func198.trans (congrArg some (by kernel_rfl))
  f225 := Tryz.func197.trans (congrArg some (by kernel_rfl))
  f266 := Tryz.func215.trans (congrArg some (by kernel_rfl))
  f267 := Tryz.func199.trans (congrArg some (by kernel_rfl))
  f314 := Tryz.func246.trans (congrArg some (by kernel_rfl))
  t3 := Tryz.underlying3
  a3 := Tryz.isAgg3
  z3 := Tryz.sizeOf3
  v3 := Tryz.zeroValue3
  t4 := Tryz.underlying4
  a4 := Tryz.isAgg4
  z4 := Tryz.sizeOf4
  v4 := Tryz.zeroValue4
  t5 := Tryz.underlying5
  a5 := Tryz.isAgg5
  z5 := Tryz.sizeOf5
  v5 := Tryz.zeroValue5
  t9 := Tryz.underlying9
  a9 := Tryz.isAgg9
  z9 := Tryz.sizeOf9
  v9 := Tryz.zeroValue9
  t46 := Tryz.underlying155
  a46 := Tryz.isAgg155
  z46 := Tryz.sizeOf155
  v46 := Tryz.zeroValue155
  t51 := Tryz.underlying221
  a51 := Tryz.isAgg221
  z51 := Tryz.sizeOf221
  v51 := Tryz.zeroValue221
  t146 := Tryz.underlying222
  a146 := Tryz.isAgg222
  z146 := Tryz.sizeOf222
  v146 := Tryz.zeroValue222
  g1 := by kernel_rfl }
open Go.RowKit Go.Lib in
theorem Tryz.strings_Contains_one (s : ByteArray) (c : UInt8) (w : World) :
    Calls Tryz.prog 143 #[.string s, .string ⟨#[c]⟩] w fun e w' => e = .returned (.bool (decide (0 ≤ Lib.indexByte s.data.toList c))) ∧ w' = w := Any.strings_Contains_one Tryz.lays144 s c w
def Tryz.lays145_ren : Go.Shelf.Ren := ⟨fun | 145 => 191 | 220 => 242 | 219 => 129 | 217 => 142 | 225 => 197 | 224 => 198 | 267 => 199 | 266 => 215 | 314 => 246 | n => n, fun | 9 => 9 | 4 => 4 | 59 => 227 | 3 => 3 | 5 => 5 | 46 => 155 | 146 => 222 | 51 => 221 | n => n, fun | 1 => 1 | n => n⟩
theorem Tryz.lays145 : Go.Proofs.Lays.n145 Tryz.prog Tryz.lays145_ren := {
  mixed := by kernel_rfl
  f145 := Tryz.func191.trans (congrArg some (by kernel_rfl))
  f217 := Tryz.func142.trans (congrArg some (by kernel_rfl))
  f219 := Tryz.func129.trans (congrArg some (by kernel_rfl))
  f220 := Tryz.func242.trans (congrArg some (by kernel_rfl))
  f224 := Tryz.func198.trans (congrArg some (by kernel_rfl))
  f225 := Tryz.func197.trans (congrArg some (by kernel_rfl))
  f266 := Tryz.func215.trans (congrArg some (by kernel_rfl))
  f267 := Tryz.func199.trans (congrArg some (by kernel_rfl))
  f314 := Tryz.func246.trans (congrArg some (by kernel_rfl))
  t3 := Tryz.underlying3
  a3 := Tryz.isAgg3
  z3 := Tryz.sizeOf3
  v3 := Tryz.zeroValue3
  t4 := Tryz.underlying4
  a4 := Tryz.isAgg4
  z4 := Tryz.sizeOf4
  v4 := Tryz.zeroValue4
  t5 := Tryz.underlying5
  a5 := Tryz.isAgg5
  z5 := Tryz.sizeOf5
  v5 := Tryz.zeroValue5
  t9 := Tryz.underlying9
  a9 := Tryz.isAgg9
  z9 := Tryz.sizeOf9
  v9 := Tryz.zeroValue9
  t46 := Tryz.underlying155
  a46 := Tryz.isAgg155
  z46 := Tryz.sizeOf155
  v46 := Tryz.zeroValue155
  t51 := Tryz.underlying221
  a51 := Tryz.isAgg221
  z51 := Tryz.sizeOf221
  v51 := Tryz.zeroValue221
  t59 := Tryz.underlying227
  a59 := Tryz.isAgg227
  z59 := Tryz.sizeOf227
  v59 := Tryz.zeroValue227
  t146 := Tryz.underlying222
  a146 := Tryz.isAgg222
  z146 := Tryz.sizeOf222
  v146 := Tryz.zeroValue222
  g1 := by kernel_rfl }
open Go.RowKit Go.Lib in
theorem Tryz.strings_Cut (s sep : ByteArray) (m : Int) (w : World) (hs : s.size < 4294967281) (hm : w.cell? ⟨1, 0, none⟩ = some (.int .i64 m)) :
    Calls Tryz.prog 191 #[.string s, .string sep] w fun e w' => e = .returned (.tuple #[.string ⟨(Lib.cut s.data.toList sep.data.toList).1.toArray⟩, .string ⟨(Lib.cut s.data.toList sep.data.toList).2.1.toArray⟩, .bool (Lib.cut s.data.toList sep.data.toList).2.2]) ∧ ∃ n, w' = w.drewN n := Any.strings_Cut Tryz.lays145 s sep m w hs hm
def Tryz.lays99_ren : Go.Shelf.Ren := ⟨fun | 99 => 57 | 206 => 132 | n => n, fun | 9 => 9 | 4 => 4 | 3 => 3 | n => n, fun | n => n⟩
theorem Tryz.lays99 : Go.Proofs.Lays.n99 Tryz.prog Tryz.lays99_ren := {
  mixed := by kernel_rfl
  f99 := Tryz.func57.trans (congrArg some (by kernel_rfl))
  f206 := Tryz.func132.trans (congrArg some (by kernel_rfl))
  t3 := Tryz.underlying3
  a3 := Tryz.isAgg3
  z3 := Tryz.sizeOf3
  v3 := Tryz.zeroValue3
  t4 := Tryz.underlying4
  a4 := Tryz.isAgg4
  z4 := Tryz.sizeOf4
  v4 := Tryz.zeroValue4
  t9 := Tryz.underlying9
  a9 := Tryz.isAgg9
  z9 := Tryz.sizeOf9
  v9 := Tryz.zeroValue9 }
open Go.RowKit Go.Lib in
theorem Tryz.strings_HasPrefix (s p : ByteArray) (w : World) :
    Calls Tryz.prog 57 #[.string s, .string p] w fun e w' => e = .returned (.bool (Lib.hasPrefix s.data.toList p.data.toList)) ∧ w' = w := Any.strings_HasPrefix Tryz.lays99 s p w
def Tryz.lays100_ren : Go.Shelf.Ren := ⟨fun | 100 => 61 | 207 => 133 | n => n, fun | 9 => 9 | 4 => 4 | 3 => 3 | n => n, fun | n => n⟩
theorem Tryz.lays100 : Go.Proofs.Lays.n100 Tryz.prog Tryz.lays100_ren := {
  mixed := by kernel_rfl
  f100 := Tryz.func61.trans (congrArg some (by kernel_rfl))
  f207 := Tryz.func133.trans (congrArg some (by kernel_rfl))
  t3 := Tryz.underlying3
  a3 := Tryz.isAgg3
  z3 := Tryz.sizeOf3
  v3 := Tryz.zeroValue3
  t4 := Tryz.underlying4
  a4 := Tryz.isAgg4
  z4 := Tryz.sizeOf4
  v4 := Tryz.zeroValue4
  t9 := Tryz.underlying9
  a9 := Tryz.isAgg9
  z9 := Tryz.sizeOf9
  v9 := Tryz.zeroValue9 }
open Go.RowKit Go.Lib in
theorem Tryz.strings_HasSuffix (s p : ByteArray) (w : World) (hs : s.size ≤ 9223372036854775807) :
    Calls Tryz.prog 61 #[.string s, .string p] w fun e w' => e = .returned (.bool (Lib.hasSuffix s.data.toList p.data.toList)) ∧ w' = w := Any.strings_HasSuffix Tryz.lays100 s p w hs
def Tryz.lays157_ren : Go.Shelf.Ren := ⟨fun | 157 => 73 | 229 => 146 | 199 => 147 | 261 => 217 | 311 => 253 | 312 => 254 | n => n, fun | 9 => 9 | 31 => 107 | 3 => 3 | 5 => 5 | 4 => 4 | 119 => 182 | 0 => 0 | 40 => 184 | 152 => 261 | 21 => 21 | 154 => 263 | 51 => 221 | 141 => 265 | 196 => 299 | 193 => 296 | 198 => 302 | 49 => 300 | 194 => 297 | 201 => 305 | 226 => 334 | 46 => 155 | 227 => 335 | n => n, fun | 0 => 0 | 6 => 4 | n => n⟩
theorem Tryz.lays157 : Go.Proofs.Lays.n157 Tryz.prog Tryz.lays157_ren := {
  mixed := by kernel_rfl
  f157 := Tryz.func73.trans (congrArg some (by kernel_rfl))
  f199 := Tryz.func147.trans (congrArg some (by kernel_rfl))
  f229 := Tryz.func146.trans (congrArg some (by kernel_rfl))
  f261 := Tryz.func217.trans (congrArg some (by kernel_rfl))
  f311 := Tryz.func253.trans (congrArg some (by kernel_rfl))
  f312 := Tryz.func254.trans (congrArg some (by kernel_rfl))
  t0 := Tryz.underlying0
  a0 := Tryz.isAgg0
  z0 := Tryz.sizeOf0
  v0 := Tryz.zeroValue0
  t3 := Tryz.underlying3
  a3 := Tryz.isAgg3
  z3 := Tryz.sizeOf3
  v3 := Tryz.zeroValue3
  t4 := Tryz.underlying4
  a4 := Tryz.isAgg4
  z4 := Tryz.sizeOf4
  v4 := Tryz.zeroValue4
  t5 := Tryz.underlying5
  a5 := Tryz.isAgg5
  z5 := Tryz.sizeOf5
  v5 := Tryz.zeroValue5
  t9 := Tryz.underlying9
  a9 := Tryz.isAgg9
  z9 := Tryz.sizeOf9
  v9 := Tryz.zeroValue9
  t21 := Tryz.underlying21
  a21 := Tryz.isAgg21
  z21 := Tryz.sizeOf21
  v21 := Tryz.zeroValue21
  t31 := Tryz.underlying107
  a31 := Tryz.isAgg107
  z31 := Tryz.sizeOf107
  v31 := Tryz.zeroValue107
  t40 := Tryz.underlying184
  a40 := Tryz.isAgg184
  z40 := Tryz.sizeOf184
  v40 := Tryz.zeroValue184
  t46 := Tryz.underlying155
  a46 := Tryz.isAgg155
  z46 := Tryz.sizeOf155
  v46 := Tryz.zeroValue155
  t49 := Tryz.underlying300
  a49 := Tryz.isAgg300
  z49 := Tryz.sizeOf300
  v49 := Tryz.zeroValue300
  t51 := Tryz.underlying221
  a51 := Tryz.isAgg221
  z51 := Tryz.sizeOf221
  v51 := Tryz.zeroValue221
  t119 := Tryz.underlying182
  a119 := Tryz.isAgg182
  z119 := Tryz.sizeOf182
  t141 := Tryz.underlying265
  a141 := Tryz.isAgg265
  z141 := Tryz.sizeOf265
  v141 := Tryz.zeroValue265
  t152 := Tryz.underlying261
  a152 := Tryz.isAgg261
  z152 := Tryz.sizeOf261
  v152 := Tryz.zeroValue261
  t154 := Tryz.underlying263
  a154 := Tryz.isAgg263
  z154 := Tryz.sizeOf263
  v154 := Tryz.zeroValue263
  t193 := Tryz.underlying296
  a193 := Tryz.isAgg296
  z193 := Tryz.sizeOf296
  v193 := Tryz.zeroValue296
  t194 := Tryz.underlying297
  a194 := Tryz.isAgg297
  z194 := Tryz.sizeOf297
  v194 := Tryz.zeroValue297
  t196 := Tryz.underlying299
  a196 := Tryz.isAgg299
  z196 := Tryz.sizeOf299
  v196 := Tryz.zeroValue299
  t198 := Tryz.underlying302
  a198 := Tryz.isAgg302
  z198 := Tryz.sizeOf302
  v198 := Tryz.zeroValue302
  t201 := Tryz.underlying305
  a201 := Tryz.isAgg305
  z201 := Tryz.sizeOf305
  v201 := Tryz.zeroValue305
  t226 := Tryz.underlying334
  a226 := Tryz.isAgg334
  z226 := Tryz.sizeOf334
  v226 := Tryz.zeroValue334
  t227 := Tryz.underlying335
  a227 := Tryz.isAgg335
  z227 := Tryz.sizeOf335
  v227 := Tryz.zeroValue335
  g0 := by kernel_rfl
  g6 := by kernel_rfl }
open Go.RowKit Go.Lib in
theorem Tryz.strings_Fields (s : ByteArray) (w : World) (hs : s.size < 4294967281) (hascii : ∀ (j : Nat) b, s.data.toList[j]? = some b → b.toNat < 128) (htab : Lib.TabIs Tryz.prog w "strings.asciiSpace" .u8 Lib.asciiSpaceTab) :
    Calls Tryz.prog 73 #[.string s] w fun e w' =>
      e = .returned (.slice (some ⟨w.heap.size, 0, none⟩) (Lib.fields s.data.toList).length (Lib.fields s.data.toList).length) ∧ w' = w.alloc (.cells ((Lib.fields s.data.toList).map fun l => Value.string ⟨l.toArray⟩).toArray 9) := Any.strings_Fields Tryz.lays157 (by kernel_rfl) (by kernel_rfl) s w hs hascii htab
def Tryz.lays152_ren : Go.Shelf.Ren := ⟨fun | 152 => 305 | 137 => 70 | 119 => 322 | 224 => 198 | 225 => 197 | 217 => 142 | 266 => 215 | n => n, fun | 9 => 9 | 21 => 21 | 3 => 3 | 4 => 4 | 5 => 5 | 0 => 0 | 46 => 155 | n => n, fun | n => n⟩
theorem Tryz.lays152 : Go.Proofs.Lays.n152 Tryz.prog Tryz.lays152_ren := {
  mixed := by kernel_rfl
  f119 := Tryz.func322.trans (congrArg some (by kernel_rfl))
  f137 := Tryz.func70.trans (congrArg some (by kernel_rfl))
  f152 := Tryz.func305.trans (congrArg some (by kernel_rfl))
  f217 := Tryz.func142.trans (congrArg some (by kernel_rfl))
  f224 := Tryz.func198.trans (congrArg some (by kernel_rfl))
  f225 := Tryz.func197.trans (congrArg some (by kernel_rfl))
  f266 := Tryz.func215.trans (congrArg some (by kernel_rfl))
  t0 := Tryz.underlying0
  a0 := Tryz.isAgg0
  z0 := Tryz.sizeOf0
  v0 := Tryz.zeroValue0
  t3 := Tryz.underlying3
  a3 := Tryz.isAgg3
  z3 := Tryz.sizeOf3
  v3 := Tryz.zeroValue3
  t4 := Tryz.underlying4
  a4 := Tryz.isAgg4
  z4 := Tryz.sizeOf4
  v4 := Tryz.zeroValue4
  t5 := Tryz.underlying5
  a5 := Tryz.isAgg5
  z5 := Tryz.sizeOf5
  v5 := Tryz.zeroValue5
  t9 := Tryz.underlying9
  a9 := Tryz.isAgg9
  z9 := Tryz.sizeOf9
  v9 := Tryz.zeroValue9
  t21 := Tryz.underlying21
  a21 := Tryz.isAgg21
  z21 := Tryz.sizeOf21
  v21 := Tryz.zeroValue21
  t46 := Tryz.underlying155
  a46 := Tryz.isAgg155
  z46 := Tryz.sizeOf155
  v46 := Tryz.zeroValue155 }
open Go.RowKit Go.Lib in
theorem Tryz.strings_IndexRune_ascii (s : ByteArray) (r : Int) (w : World) (h0 : 0 ≤ r) (h1 : r < 128) :
    Calls Tryz.prog 305 #[.string s, .int .i32 r] w fun e w' => e = .returned (.int .i64 (Lib.indexByte s.data.toList r.toNat.toUInt8)) ∧ w' = w := Any.strings_IndexRune_ascii Tryz.lays152 s r w h0 h1
def Tryz.lays226_ren : Go.Shelf.Ren := ⟨fun | 226 => 306 | n => n, fun | 3 => 3 | 4 => 4 | n => n, fun | n => n⟩
theorem Tryz.lays226 : Go.Proofs.Lays.n226 Tryz.prog Tryz.lays226_ren := {
  mixed := by kernel_rfl
  f226 := Tryz.func306.trans (congrArg some (by kernel_rfl))
  t3 := Tryz.underlying3
  a3 := Tryz.isAgg3
  z3 := Tryz.sizeOf3
  v3 := Tryz.zeroValue3
  t4 := Tryz.underlying4
  a4 := Tryz.isAgg4
  z4 := Tryz.sizeOf4
  v4 := Tryz.zeroValue4 }
open Go.RowKit Go.Lib in
theorem Tryz.strings_shouldUseASCIISet (n : Int) (w : World) :
    Calls Tryz.prog 306 #[.int .i64 n] w fun e w' => e = .returned (.bool (decide (8 < n))) ∧ w' = w := Any.strings_shouldUseASCIISet Tryz.lays226 n w
def Tryz.lays227_ren : Go.Shelf.Ren := ⟨fun | 227 => 296 | n => n, fun | 9 => 9 | 116 => 360 | 4 => 4 | 0 => 0 | 3 => 3 | 5 => 5 | n => n, fun | n => n⟩
theorem Tryz.lays227 : Go.Proofs.Lays.n227 Tryz.prog Tryz.lays227_ren := {
  mixed := by kernel_rfl
  f227 := Tryz.func296.trans (congrArg some (by kernel_rfl))
  t0 := Tryz.underlying0
  a0 := Tryz.isAgg0
  z0 := Tryz.sizeOf0
  v0 := Tryz.zeroValue0
  t3 := Tryz.underlying3
  a3 := Tryz.isAgg3
  z3 := Tryz.sizeOf3
  v3 := Tryz.zeroValue3
  t4 := Tryz.underlying4
  a4 := Tryz.isAgg4
  z4 := Tryz.sizeOf4
  v4 := Tryz.zeroValue4
  t5 := Tryz.underlying5
  a5 := Tryz.isAgg5
  z5 := Tryz.sizeOf5
  v5 := Tryz.zeroValue5
  t9 := Tryz.underlying9
  a9 := Tryz.isAgg9
  z9 := Tryz.sizeOf9
  v9 := Tryz.zeroValue9
  t116 := Tryz.underlying360
  a116 := Tryz.isAgg360
  z116 := Tryz.sizeOf360 }
open Go.RowKit Go.Lib in
theorem Tryz.strings_makeASCIISet (hv116 : ∀ w, (zeroValue 360).run Tryz.prog w = .ok (.agg (Array.replicate 256 (.bool false))) w) (chars : ByteArray) (w : World) (hs : chars.size < 4294967281) (hascii : ∀ (j : Nat) b, chars.data.toList[j]? = some b → b.toNat < 128) :
    Calls Tryz.prog 296 #[.string chars] w fun e w' => e = .returned (.tuple #[.agg (Lib.setCells chars.data.toList), .bool true]) ∧ w' = w.alloc (.cells (Lib.setCells chars.data.toList) 360) := Any.strings_makeASCIISet Tryz.lays227 hv116 (by kernel_rfl) chars w hs hascii
def Tryz.lays228_ren : Go.Shelf.Ren := ⟨fun | 228 => 307 | n => n, fun | 124 => 364 | 5 => 5 | 4 => 4 | 0 => 0 | 116 => 360 | n => n, fun | n => n⟩
theorem Tryz.lays228 : Go.Proofs.Lays.n228 Tryz.prog Tryz.lays228_ren := {
  mixed := by kernel_rfl
  f228 := Tryz.func307.trans (congrArg some (by kernel_rfl))
  t0 := Tryz.underlying0
  a0 := Tryz.isAgg0
  z0 := Tryz.sizeOf0
  v0 := Tryz.zeroValue0
  t4 := Tryz.underlying4
  a4 := Tryz.isAgg4
  z4 := Tryz.sizeOf4
  v4 := Tryz.zeroValue4
  t5 := Tryz.underlying5
  a5 := Tryz.isAgg5
  z5 := Tryz.sizeOf5
  v5 := Tryz.zeroValue5
  t116 := Tryz.underlying360
  a116 := Tryz.isAgg360
  z116 := Tryz.sizeOf360
  t124 := Tryz.underlying364
  a124 := Tryz.isAgg364
  z124 := Tryz.sizeOf364
  v124 := Tryz.zeroValue364 }
open Go.RowKit Go.Lib in
theorem Tryz.asciiSet_contains (b : Nat) (x : UInt8) (v : Bool) (w : World) (hc : w.cell? ⟨b, x.toNat, none⟩ = some (.bool v)) :
    Calls Tryz.prog 307 #[.pointer (some ⟨b, 0, none⟩), .int .u8 x.toNat] w fun e w' => e = .returned (.bool v) ∧ w' = w := Any.asciiSet_contains Tryz.lays228 b x v w hc
def Tryz.lays110_ren : Go.Shelf.Ren := ⟨fun | 110 => 72 | 109 => 145 | n => n, fun | 31 => 107 | 9 => 9 | 4 => 4 | 3 => 3 | 0 => 0 | n => n, fun | n => n⟩
theorem Tryz.lays110 : Go.Proofs.Lays.n110 Tryz.prog Tryz.lays110_ren := {
  mixed := by kernel_rfl
  f109 := Tryz.func145.trans (congrArg some (by kernel_rfl))
  f110 := Tryz.func72.trans (congrArg some (by kernel_rfl))
  t0 := Tryz.underlying0
  a0 := Tryz.isAgg0
  z0 := Tryz.sizeOf0
  v0 := Tryz.zeroValue0
  t3 := Tryz.underlying3
  a3 := Tryz.isAgg3
  z3 := Tryz.sizeOf3
  v3 := Tryz.zeroValue3
  t4 := Tryz.underlying4
  a4 := Tryz.isAgg4
  z4 := Tryz.sizeOf4
  v4 := Tryz.zeroValue4
  t9 := Tryz.underlying9
  a9 := Tryz.isAgg9
  z9 := Tryz.sizeOf9
  v9 := Tryz.zeroValue9
  t31 := Tryz.underlying107
  a31 := Tryz.isAgg107
  z31 := Tryz.sizeOf107
  v31 := Tryz.zeroValue107 }
open Go.Lib in
theorem Tryz.slices_Contains_string (b off n c : Nat) (zs : List ByteArray) (x : ByteArray) (w : World) (hz : n ≤ zs.length) (hbig : n ≤ 9223372036854775807) (hc : ∀ j, j < zs.length → w.cell? ⟨b, off + j, none⟩ = some (.string (zs.getD j ByteArray.empty))) :
    Calls Tryz.prog 72 #[.slice (some ⟨b, off, none⟩) n c, .string x] w fun e w' => e = .returned (.bool (Lib.containsS (zs.take n) x)) ∧ w' = w := Any.slices_Contains_string Tryz.lays110 b off n c zs x w hz hbig hc
end Go.Proofs

/-
  A byte of a text.
-/
namespace Go.Proofs.YtbhcklkbckacpaaGreatDoor
open Go.RowKit

theorem run_index_at (s : ByteArray) (k : Nat) (h : k < s.size) (w : World) : (Instr.index 9 (.string s) (.int .i64 k)).run Tryz.prog w = .ok (.int .u8 (s[k]'h).toNat) w := by
  have ht := Tryz.underlying9
  simp [go_sem, ht, h]
end Go.Proofs.YtbhcklkbckacpaaGreatDoor

/-
  Plain mathematics of chapter 1, of no program: what Write and Read come to, as functions on lists of bytes, and what holds of them.
-/
namespace Go.Proofs.YtbhcklkbckacpaaGreatDoor.Esc

def enc1 (c : UInt8) : List UInt8 :=
  if c = 38 then [38, 97, 109, 112, 59] else if c = 60 then [38, 108, 116, 59] else if c = 62 then [38, 103, 116, 59] else if c = 34 then [38, 113, 117, 111, 116, 59] else [c]

def wr (l : List UInt8) : List UInt8 := l.flatMap enc1

def fst1 (l : List UInt8) : UInt8 × Nat :=
  if ([38, 97, 109, 112, 59] : List UInt8).isPrefixOf l then (38, 5) else if ([38, 108, 116, 59] : List UInt8).isPrefixOf l then (60, 4)
  else if ([38, 103, 116, 59] : List UInt8).isPrefixOf l then (62, 4) else if ([38, 113, 117, 111, 116, 59] : List UInt8).isPrefixOf l then (34, 6) else (l.headD 0, 1)

def rdN : Nat → List UInt8 → List UInt8
  | 0, _ => []
  | _ + 1, [] => []
  | n + 1, c :: t => (fst1 (c :: t)).1 :: rdN n ((c :: t).drop (fst1 (c :: t)).2)

def rd (l : List UInt8) : List UInt8 := rdN l.length l

theorem fst1_pos (l : List UInt8) : 1 ≤ (fst1 l).2 ∧ (fst1 l).2 ≤ 6 := by
  unfold fst1; split
  · simp
  split
  · simp
  split
  · simp
  split <;> simp

theorem prefix_le {p l : List UInt8} (h : p.isPrefixOf l = true) : p.length ≤ l.length := (List.isPrefixOf_iff_prefix.1 h).length_le

theorem fst1_le (l : List UInt8) (h : l ≠ []) : (fst1 l).2 ≤ l.length := by
  have hl : 1 ≤ l.length := by cases l with | nil => exact absurd rfl h | cons => simp
  unfold fst1; split
  · rename_i g; simpa using prefix_le g
  split
  · rename_i g; simpa using prefix_le g
  split
  · rename_i g; simpa using prefix_le g
  split
  · rename_i g; simpa using prefix_le g
  · exact hl

theorem rdN_more : ∀ (n m : Nat) (l : List UInt8), l.length ≤ n → l.length ≤ m → rdN n l = rdN m l
  | n, m, [], _, _ => by cases n <;> cases m <;> rfl
  | 0, _, _ :: _, h, _ => by simp at h
  | _ + 1, 0, _ :: _, _, h => by simp at h
  | n + 1, m + 1, c :: t, h1, h2 => by
    simp only [rdN]
    congr 1
    have := fst1_pos (c :: t)
    apply rdN_more <;> simp at h1 h2 ⊢ <;> omega

theorem rd_nil : rd [] = [] := rfl

theorem rd_step (l : List UInt8) (h : l ≠ []) : rd l = (fst1 l).1 :: rd (l.drop (fst1 l).2) := by
  cases l with
  | nil => exact absurd rfl h
  | cons c t =>
    have := fst1_pos (c :: t)
    unfold rd
    simp only [List.length_cons, rdN]
    congr 1
    apply rdN_more <;> simp <;> omega

theorem rd_len (l : List UInt8) : (rd l).length ≤ l.length := by
  generalize hn : l.length = n
  induction n using Nat.strongRecOn generalizing l with
  | ind n ih =>
    by_cases h : l = []
    · subst h; simp [rd_nil]
    · rw [rd_step l h]
      have h1 := fst1_pos l
      have h2 := fst1_le l h
      have := ih (l.drop (fst1 l).2).length (by simp; omega) _ rfl
      simp at this ⊢
      omega

theorem enc1_pos (c : UInt8) : 1 ≤ (enc1 c).length ∧ (enc1 c).length ≤ 6 := by
  unfold enc1; split
  · simp
  split
  · simp
  split
  · simp
  split <;> simp

theorem wr_append (a b : List UInt8) : wr (a ++ b) = wr a ++ wr b := by simp [wr]
theorem wr_nil : wr [] = [] := rfl
theorem wr_cons (c : UInt8) (l : List UInt8) : wr (c :: l) = enc1 c ++ wr l := by simp [wr]
theorem wr_one (c : UInt8) : wr [c] = enc1 c := by simp [wr]

theorem wr_len (l : List UInt8) : l.length ≤ (wr l).length ∧ (wr l).length ≤ 6 * l.length := by
  induction l with
  | nil => simp [wr_nil]
  | cons c l ih =>
    have := enc1_pos c
    rw [wr_cons]
    simp
    omega

end Go.Proofs.YtbhcklkbckacpaaGreatDoor.Esc

/-
  The variable 'pairs' of package escape, holding what its initialiser lays; bytes as cells.
-/
namespace Go.Proofs.YtbhcklkbckacpaaGreatDoor
open Go.RowKit

def pcells : Array Value := #[.int .u8 38, .string ⟨#[38, 97, 109, 112, 59]⟩, .int .u8 60, .string ⟨#[38, 108, 116, 59]⟩, .int .u8 62, .string ⟨#[38, 103, 116, 59]⟩, .int .u8 34, .string ⟨#[38, 113, 117, 111, 116, 59]⟩]
def Pairs (w : World) : Prop := ∃ t fr, w.heap[7]? = some (.cells pcells t fr)
def b8 (b : UInt8) : Value := .int .u8 b.toNat

theorem Pairs.below {B : Nat} {w w' : World} (h : Pairs w) (hb : Below B w w') (h0 : 7 < B) : Pairs w' := by
  obtain ⟨t, fr, hg⟩ := h
  exact ⟨t, fr, (hb.block 7 h0).trans hg⟩
theorem Pairs.alloc {w : World} (h : Pairs w) (o : Obj) : Pairs (w.alloc o) := by
  obtain ⟨t, fr, hg⟩ := h
  exact ⟨t, fr, (Below.heap_alloc w o 7 (Array.getElem?_eq_some_iff.1 hg).1).trans hg⟩
theorem Pairs.pos {w : World} (h : Pairs w) : 7 < w.heap.size := by
  obtain ⟨t, fr, hg⟩ := h
  exact (Array.getElem?_eq_some_iff.1 hg).1

theorem idx0 (w : World) : (Instr.index 343 (.agg pcells) (.int .i64 0)).run Tryz.prog w = .ok (.agg #[.int .u8 38, .string ⟨#[38, 97, 109, 112, 59]⟩]) w := by kernel_rfl
theorem idx1 (w : World) : (Instr.index 343 (.agg pcells) (.int .i64 1)).run Tryz.prog w = .ok (.agg #[.int .u8 60, .string ⟨#[38, 108, 116, 59]⟩]) w := by kernel_rfl
theorem idx2 (w : World) : (Instr.index 343 (.agg pcells) (.int .i64 2)).run Tryz.prog w = .ok (.agg #[.int .u8 62, .string ⟨#[38, 103, 116, 59]⟩]) w := by kernel_rfl
theorem idx3 (w : World) : (Instr.index 343 (.agg pcells) (.int .i64 3)).run Tryz.prog w = .ok (.agg #[.int .u8 34, .string ⟨#[38, 113, 117, 111, 116, 59]⟩]) w := by kernel_rfl
theorem sz40 : (Tryz.prog.info? 343).map (·.size) = some pcells.size := by kernel_rfl
theorem Tryz.info5w : (Tryz.prog.info? 5).map (fun i => (i.zero, i.size, i.bytes)) = some (some (.int .u8 0), 1, 1) := by kernel_rfl

end Go.Proofs.YtbhcklkbckacpaaGreatDoor

/-
  A buffer of bytes that a call owns, turned into a text.
-/
namespace Go.Proofs.YtbhcklkbckacpaaGreatDoor
open Go.RowKit

theorem conv_esc {B n : Nat} {v : Value} {l : List UInt8} {W0 w : World} (h : Lib.OwnBuf B 5 v n (l.map b8) W0 w) : (convert 22 9 v).run Tryz.prog w = .ok (.string ⟨l.toArray⟩) w := by
  obtain ⟨⟨hl, hv⟩, _, _⟩ := h
  have hn : n = l.length := by simpa using hl.symm
  subst hn
  have hown : w.ownsRowF B 5 1 v l.length (l.map b8) := ⟨hl, hv⟩
  rcases hv with ⟨rfl, h0⟩ | ⟨g, cap, cur, fz, rfl, hrest⟩
  · obtain rfl : l = [] := List.length_eq_zero_iff.1 h0
    exact run_convert_bytes_nil w 22 5 Tryz.underlying22 Tryz.underlying5 0 0 9 Tryz.underlying9
  · refine run_convert_bytes_back w 22 9 5 ⟨g, 0, none⟩ cap l Tryz.underlying22 Tryz.underlying5 Tryz.underlying9 (fun j hj => ?_)
    exact hown.cells (g := g) rfl j _ (by simp [b8, List.getElem?_eq_getElem hj])

theorem own_make {w w1 : World} {n : Nat} (h : w1.ownsRow w.heap.size 5 1 (.slice (some ⟨w.heap.size, 0, none⟩) 0 n) 0 []) (hg : w.grownBy w1 none) : Lib.OwnBuf w.heap.size 5 (.slice (some ⟨w.heap.size, 0, none⟩) 0 n) 0 [] w w1 :=
  ⟨World.ownsRowF_of h, (Below.refl _ _).grown hg (Nat.le_refl _) (fun k hk => by cases hk), hg.size⟩

theorem take_snoc (s : ByteArray) (k : Nat) (h : k < s.size) : s.data.toList.take (k + 1) = s.data.toList.take k ++ [s[k]] := by
  rw [List.take_succ_eq_append_getElem (by simpa using h)]; rfl

end Go.Proofs.YtbhcklkbckacpaaGreatDoor

/-
  Chapter 2 on lists of bytes: the scheme of an address, whether one may be led to it, an address without blanks at its ends; and what holds of them.
-/
namespace Go.Proofs.YtbhcklkbckacpaaGreatDoor
open Go.RowKit
namespace Lk

def small1 (c : UInt8) : UInt8 := if 65 ≤ c ∧ c ≤ 90 then c + 32 else c
def small (l : List UInt8) : List UInt8 := l.map small1
def path : List UInt8 := [47, 63, 35]
def head (l : List UInt8) : List UInt8 := l.takeWhile (fun c => c != 58)
def scheme (l : List UInt8) : List UInt8 := if l.contains 58 && !(Lib.containsAny (head l) path) then small (head l) else []
def barred : List UInt8 := [34, 39, 60, 62, 92, 96]
def stand (c : UInt8) : Bool := decide (33 ≤ c) && decide (c ≤ 126) && !(barred.contains c)
def leads : List (List UInt8) := [[104, 116, 116, 112], [104, 116, 116, 112, 115], [109, 97, 105, 108, 116, 111]]
def lead (x : List UInt8) : Bool := leads.contains x
def may (l : List UInt8) : Bool := decide (1 ≤ l.length) && decide (l.length ≤ 24) && l.all stand && lead (scheme l)
def blanks : List UInt8 := [32, 9, 10, 13, 12]
def tl (p : UInt8 → Bool) : List UInt8 → List UInt8
  | [] => []
  | x :: t => if p x then tl p t else x :: t
def tr (p : UInt8 → Bool) : List UInt8 → List UInt8
  | [] => []
  | x :: t => match tr p t with
    | [] => if p x then [] else [x]
    | y :: u => x :: y :: u
def bl (c : UInt8) : Bool := blanks.contains c
def trim (l : List UInt8) : List UInt8 := tl bl (tr bl l)
def clean (l : List UInt8) : List UInt8 := if may (trim l) then trim l else []

theorem tr_snoc (p : UInt8 → Bool) (x : UInt8) : ∀ l, tr p (l ++ [x]) = if p x then tr p l else l ++ [x]
  | [] => by simp [tr]
  | y :: t => by
    have ih := tr_snoc p x t
    rw [List.cons_append, tr, ih]
    cases hp : p x
    · simp only [Bool.false_eq_true, if_false]
      cases t with
      | nil => rfl
      | cons z u => rfl
    · simp only [if_true]
      rw [tr]
theorem tr_tl (p : UInt8 → Bool) : ∀ l, tl p (tr p l) = tr p (tl p l)
  | [] => rfl
  | x :: t => by
    have ih := tr_tl p t
    cases hp : p x
    · have h1 : tl p (x :: t) = x :: t := by simp [tl, hp]
      rw [h1, tr]
      cases htr : tr p t with
      | nil => simp [tl, hp]
      | cons y u => simp [tl, hp]
    · have h1 : tl p (x :: t) = tl p t := by simp [tl, hp]
      rw [h1, ← ih, tr]
      cases htr : tr p t with
      | nil => simp [tl, hp]
      | cons y u => simp [tl, hp]
theorem tl_len (p : UInt8 → Bool) : ∀ l, (tl p l).length ≤ l.length
  | [] => Nat.le_refl _
  | x :: t => by
    rw [tl]
    split
    · exact Nat.le_trans (tl_len p t) (by simp)
    · exact Nat.le_refl _
theorem tr_len (p : UInt8 → Bool) : ∀ l, (tr p l).length ≤ l.length
  | [] => Nat.le_refl _
  | x :: t => by
    have ih := tr_len p t
    rw [tr]
    cases h : tr p t with
    | nil => simp only; split <;> simp
    | cons y u => rw [h] at ih; simp at ih ⊢; omega
theorem trim_len (l : List UInt8) : (trim l).length ≤ l.length := Nat.le_trans (tl_len _ _) (tr_len _ _)

theorem head_at : ∀ (l : List UInt8) (k : Nat), Lib.indexByte l 58 = k → k < l.length ∧ l.take k = head l ∧ l.contains 58 = true
  | [], k, h => by simp [Lib.indexByte] at h
  | b :: l, k, h => by
    rw [Lib.indexByte] at h
    by_cases hb : b = 58
    · subst hb
      simp at h
      obtain rfl : k = 0 := by omega
      exact ⟨by simp, by simp [head], by simp⟩
    · have hb' : (b == 58) = false := by simpa using hb
      rw [hb'] at h
      by_cases hi : Lib.indexByte l 58 = -1
      · rw [hi] at h; simp at h
      · have hi' : (Lib.indexByte l 58 == -1) = false := by simpa using hi
        have hge := Lib.indexByte_ge l 58
        rw [hi'] at h
        simp at h
        match k, h with
        | 0, h => omega
        | k + 1, h =>
          obtain ⟨h1, h2, h3⟩ := head_at l k (by omega)
          refine ⟨by simp; omega, ?_, by simp; right; simpa using h3⟩
          simp [head, hb]
          rw [h2]; rfl
theorem no_head (l : List UInt8) (h : Lib.indexByte l 58 = -1) : l.contains 58 = false := by
  rw [Lib.contains_iff_indexByte, h]; rfl
theorem idx_cases (l : List UInt8) : Lib.indexByte l 58 = -1 ∨ ∃ k : Nat, Lib.indexByte l 58 = k := by
  have hge := Lib.indexByte_ge l 58
  by_cases h : Lib.indexByte l 58 = -1
  · exact .inl h
  · exact .inr ⟨(Lib.indexByte l 58).toNat, by omega⟩
theorem head_len (l : List UInt8) : (head l).length ≤ l.length := (List.takeWhile_sublist _).length_le
theorem small_len (l : List UInt8) : (small l).length = l.length := by simp [small]
end Lk

def B (l : List UInt8) : ByteArray := ⟨l.toArray⟩
theorem B_data (l : List UInt8) : (B l).data.toList = l := rfl
theorem B_size (l : List UInt8) : (B l).size = l.length := by simp [B, ByteArray.size]
theorem B_of (s : ByteArray) : B s.data.toList = s := rfl
theorem len_list (s : ByteArray) : s.data.toList.length = s.size := by simp
theorem B_inj {a b : List UInt8} (h : B a = B b) : a = b := by
  have := congrArg (fun s : ByteArray => s.data.toList) h
  simpa [B] using this
theorem ext_list {a b : ByteArray} (h : a.data.toList = b.data.toList) : a = b := by
  apply ByteArray.ext
  apply Array.ext'
  exact h
theorem extract_B (s : ByteArray) (a b : Nat) : s.extract a b = B ((s.data.toList.drop a).take (b - a)) := by
  apply ext_list
  rw [Lib.extract_data]
  rfl
end Go.Proofs.YtbhcklkbckacpaaGreatDoor

/-
  Texts as bytes: parts of a text, a text turned into bytes and written.
-/
namespace Go.Proofs.YtbhcklkbckacpaaGreatDoor
open Go.RowKit

theorem slice_to (s : ByteArray) (k : Nat) (h : k ≤ s.size) (w : World) : (Instr.slice 9 (.string s) none (some (.int .i64 k)) none).run Tryz.prog w = .ok (.string (B (s.data.toList.take k))) w := by
  have := run_slice_string_h (P := Tryz.prog) w 9 s Tryz.underlying9 .i64 (k : Int) (by omega) (by omega)
  rw [this, extract_B]
  simp
theorem slice_from (s : ByteArray) (k : Nat) (h : k ≤ s.size) (w : World) : (Instr.slice 9 (.string s) (some (.int .i64 k)) none none).run Tryz.prog w = .ok (.string (B (s.data.toList.drop k))) w := by
  have := run_slice_string_l (P := Tryz.prog) w 9 s Tryz.underlying9 .i64 (k : Int) (by omega) (by omega)
  rw [this, extract_B, List.take_of_length_le (by simp)]
  simp

structure SBuf (b : Nat) (w wr : World) (l : List UInt8) : Prop where
  blk : ∃ cs f, wr.heap[b]? = some (.cells cs 5 (f, f + 1)) ∧ l.length ≤ f ∧ ∀ j (hj : j < l.length), cs[j]? = some (.int .u8 l[j].toNat)
  below : Below b w wr
theorem SBuf.start (w : World) (s : ByteArray) : SBuf w.heap.size w (Lib.bytesWorld w 5 s) s.data.toList := by
  refine ⟨⟨_, _, Lib.bytesWorld_at_new w 5 s, ?_, ?_⟩, ⟨rfl, rfl, rfl, by rw [Lib.bytesWorld_size]; omega, fun k hk => Lib.bytesWorld_at_old w 5 s k hk⟩⟩
  · simp [Lib.bytesCells]
  · intro j hj
    simp [Lib.bytesCells, Array.getElem?_append] at hj ⊢
    rw [if_pos (by simpa using hj), Array.getElem?_eq_getElem (by simpa using hj)]
    simp
theorem SBuf.cell {b : Nat} {w wr : World} {l : List UInt8} (h : SBuf b w wr l) (j : Nat) (hj : j < l.length) : wr.cell? ⟨b, j, none⟩ = some (.int .u8 l[j].toNat) := by
  obtain ⟨cs, f, hg, _, hc⟩ := h.blk
  simp [World.cell?, hg, hc j hj]
theorem SBuf.frozen {b : Nat} {w wr : World} {l : List UInt8} (h : SBuf b w wr l) (j : Nat) (hj : j < l.length) : wr.frozen? ⟨b, j, none⟩ = false := by
  obtain ⟨cs, f, hg, hf, hc⟩ := h.blk
  simp [World.frozen?, hg]
  omega
theorem SBuf.set {b : Nat} {w wr : World} {l : List UInt8} (h : SBuf b w wr l) (j : Nat) (c : UInt8) : SBuf b w (wr.setCell ⟨b, j, none⟩ (.int .u8 c.toNat)) (l.set j c) := by
  obtain ⟨cs, f, hg, hf, hc⟩ := h.blk
  obtain ⟨hlt, he⟩ := Array.getElem?_eq_some_iff.1 hg
  refine ⟨⟨cs.set! j (.int .u8 c.toNat), f, ?_, by simpa using hf, ?_⟩, h.below.setCell (Nat.le_refl _) _⟩
  · simp [World.setCell, hlt, Array.getElem_modify, he]
  · intro i hi
    have hi' : i < l.length := by simpa using hi
    by_cases hji : j = i
    · subst hji
      have := hc j hi'
      have hsz : j < cs.size := (Array.getElem?_eq_some_iff.1 this).1
      simp [hsz]
    · rw [List.getElem_set_ne hji]
      have := hc i hi'
      simp [Array.getElem?_setIfInBounds_ne hji, this]

def smP (l : List UInt8) (k : Nat) : List UInt8 := Lk.small (l.take k) ++ l.drop k
theorem smP_zero (l : List UInt8) : smP l 0 = l := by simp [smP, Lk.small]
theorem smP_all (l : List UInt8) (k : Nat) (h : l.length ≤ k) : smP l k = Lk.small l := by
  unfold smP
  rw [List.take_of_length_le h, List.drop_of_length_le h]
  simp
theorem smP_len (l : List UInt8) (k : Nat) : (smP l k).length = l.length := by
  simp [smP, Lk.small]
  omega
theorem smP_at (l : List UInt8) (k : Nat) (h : k < l.length) : (smP l k)[k]'(by rw [smP_len]; exact h) = l[k] := by
  unfold smP
  rw [List.getElem_append_right (by simp [Lk.small]; omega)]
  simp [Lk.small, Nat.min_eq_left (Nat.le_of_lt h)]
theorem smP_succ (l : List UInt8) (k : Nat) (h : k < l.length) : smP l (k + 1) = (smP l k).set k (Lk.small1 l[k]) := by
  unfold smP
  rw [List.take_succ_eq_append_getElem h, Lk.small, List.map_append, List.set_append_right _ _ (by simp [Lk.small]; omega)]
  have hd : l.drop k = l[k] :: l.drop (k + 1) := List.drop_eq_getElem_cons h
  simp [Lk.small, Nat.min_eq_left (Nat.le_of_lt h)]
  rw [hd]
  rfl
theorem smP_same (l : List UInt8) (k : Nat) (h : k < l.length) (hc : Lk.small1 l[k] = l[k]) : smP l (k + 1) = smP l k := by
  rw [smP_succ l k h, hc, ← smP_at l k h, List.set_getElem_self]

theorem small_toNat (c : UInt8) (hA : 65 ≤ c.toNat) (hZ : c.toNat ≤ 90) : (Lk.small1 c).toNat = c.toNat + 32 := by
  unfold Lk.small1
  rw [if_pos ⟨by rw [UInt8.le_iff_toNat_le]; exact hA, by rw [UInt8.le_iff_toNat_le]; exact hZ⟩]
  rw [UInt8.toNat_add]
  show (c.toNat + 32) % 256 = _
  omega
theorem small_not (c : UInt8) (h : ¬ (65 ≤ c.toNat ∧ c.toNat ≤ 90)) : Lk.small1 c = c := by
  unfold Lk.small1
  rw [if_neg (fun hh => h ⟨by have := hh.1; rw [UInt8.le_iff_toNat_le] at this; exact this, by have := hh.2; rw [UInt8.le_iff_toNat_le] at this; exact this⟩)]
end Go.Proofs.YtbhcklkbckacpaaGreatDoor

/-
  The reference's Small: the letters A to Z small.
-/
namespace Go.Proofs.YtbhcklkbckacpaaGreatDoor
open Go.RowKit

def upper : List UInt8 := [65, 66, 67, 68, 69, 70, 71, 72, 73, 74, 75, 76, 77, 78, 79, 80, 81, 82, 83, 84, 85, 86, 87, 88, 89, 90]
def lower : ByteArray := ⟨#[97, 98, 99, 100, 101, 102, 103, 104, 105, 106, 107, 108, 109, 110, 111, 112, 113, 114, 115, 116, 117, 118, 119, 120, 121, 122]⟩
theorem up_idx (c : UInt8) : Lib.indexByte upper c = if 65 ≤ c.toNat ∧ c.toNat ≤ 90 then (c.toNat : Int) - 65 else -1 := by
  have h : ∀ n : Fin 256, Lib.indexByte upper (UInt8.ofNat n.val) = if 65 ≤ n.val ∧ n.val ≤ 90 then (n.val : Int) - 65 else -1 := by decide +kernel
  have := h ⟨c.toNat, c.toNat_lt⟩
  simpa using this
theorem low_all : ∀ n : Fin 26, (lower.data.toList[n.val]?).map (fun b => b.toNat) = some (n.val + 97) := by decide +kernel
theorem low_at (c : UInt8) (hA : 65 ≤ c.toNat) (hZ : c.toNat ≤ 90) (w : World) : (Instr.index 9 (.string lower) (.int .i64 ((c.toNat : Int) - 65))).run Tryz.prog w = .ok (.int .u8 (Lk.small1 c).toNat) w := by
  have hsz : lower.size = 26 := rfl
  have hk : c.toNat - 65 < lower.size := by omega
  have h := run_index_at lower (c.toNat - 65) hk w
  rw [show ((c.toNat - 65 : Nat) : Int) = (c.toNat : Int) - 65 by omega] at h
  rw [h]
  have ha := low_all ⟨c.toNat - 65, by omega⟩
  have hd := Lib.data_getElem? lower (c.toNat - 65) hk
  simp only [hd, Option.map_some, Option.some.injEq] at ha
  rw [ha, small_toNat c hA hZ, show c.toNat - 65 + 97 = c.toNat + 32 by omega]

def smQ (s : ByteArray) (k : Nat) : ByteArray := B (Lk.small (s.data.toList.take k))
theorem smQ_zero (s : ByteArray) : smQ s 0 = ⟨#[]⟩ := by simp [smQ, Lk.small, B]
theorem smQ_all (s : ByteArray) (k : Nat) (h : s.size ≤ k) : smQ s k = B (Lk.small s.data.toList) := by
  unfold smQ
  rw [List.take_of_length_le (by rw [len_list]; exact h)]
theorem smQ_size (s : ByteArray) (k : Nat) : (smQ s k).size ≤ k := by
  rw [smQ, B_size, Lk.small_len]
  exact List.length_take_le _ _
theorem smQ_succ (s : ByteArray) (k : Nat) (h : k < s.size) : smQ s (k + 1) = smQ s k ++ ⟨#[Lk.small1 (s[k]'h)]⟩ := by
  apply ext_list
  have hk : k < s.data.toList.length := by rw [len_list]; exact h
  rw [ByteArray.data_append, Array.toList_append]
  show Lk.small (s.data.toList.take (k + 1)) = Lk.small (s.data.toList.take k) ++ [Lk.small1 (s[k]'h)]
  rw [List.take_succ_eq_append_getElem hk, Lk.small, List.map_append]
  rfl

set_option maxRecDepth 100000 in
set_option maxHeartbeats 1600000 in
theorem Small_any (s : ByteArray) (w : World) (hs : s.size ≤ 9223372036854775807) :
    Calls Tryz.prog 60 #[.string s] w fun e w' => e = .returned (.string (B (Lk.small s.data.toList))) ∧ Below w.heap.size w w' := by
  have hz1 : ∀ c : UInt8, (ByteArray.mk #[c]).size = 1 := fun _ => rfl
  go_enter Tryz.func60, Tryz.ntmps60
  go_wp2
  go_loopw [3, 9] (fun o i wr => ∃ k : Nat, k ≤ s.size ∧ i = .int .i64 k ∧ o = .string (smQ s k) ∧ Below w.heap.size w wr) (fun _ i _ => s.size - (intOf i).toNat)
  case atStart => exact ⟨0, Nat.zero_le _, rfl, by rw [smQ_zero], Below.refl _ _⟩
  case round =>
    obtain ⟨k, hk, rfl, rfl, hb⟩ := hrel
    have HB : Hid (Below w.heap.size w wr) := hb
    clear hb
    have hz := smQ_size s k
    by_cases hlt : k < s.size
    · obtain ⟨c, hc⟩ : ∃ c : UInt8, s[k]'hlt = c := ⟨_, rfl⟩
      have hix := run_index_at s k hlt
      rw [hc] at hix
      have HS : Hid (smQ s (k + 1) = smQ s k ++ ⟨#[Lk.small1 c]⟩) := by show _ = _; rw [smQ_succ s k hlt, hc]
      clear hc
      have hback : ((c.toNat : Int)).toNat.toUInt8 = c := by simp
      have hI := fun w => Tryz.strings_IndexByte ⟨upper.toArray⟩ (c.toNat : Int) w
      rw [hback] at hI
      change ∀ w, Calls Tryz.prog 70 _ w fun e w' => e = .returned (.int .i64 (Lib.indexByte upper c)) ∧ w' = w at hI
      rw [up_idx] at hI
      have hcb : ∀ (d : UInt8) (wx : World), (convert 22 9 (.slice (some ⟨wx.heap.size, 0, none⟩) 1 1)).run Tryz.prog (wx.alloc (.cells #[.int .u8 d.toNat] 5)) = .ok (.string ⟨#[d]⟩) (wx.alloc (.cells #[.int .u8 d.toNat] 5)) := fun d wx => by
        have := run_convert_bytes_back (P := Tryz.prog) (wx.alloc (.cells #[.int .u8 d.toNat] 5)) 22 9 5 ⟨wx.heap.size, 0, none⟩ 1 [d] Tryz.underlying22 Tryz.underlying5 Tryz.underlying9 (fun j hj => by
          simp at hj
          subst hj
          simp [Addr.add])
        exact this
      by_cases hA : 65 ≤ c.toNat ∧ c.toNat ≤ 90
      · rw [if_pos hA] at hI
        have HI : Hid (∀ w, Calls Tryz.prog 70 #[.string ⟨upper.toArray⟩, .int .u8 c.toNat] w fun e w' => e = .returned (.int .i64 ((c.toNat : Int) - 65)) ∧ w' = w) := hI
        clear hI
        have hlow := low_at c hA.1 hA.2
        have hge : (0 : Int) ≤ (c.toNat : Int) - 65 := by omega
        have hcb1 := hcb (Lk.small1 c)
        unfold lower at hlow
        generalize Lk.small1 c = d at *
        go_wp2_with fail
        refine (HI.out _).mono ?_
        rintro e w' ⟨rfl, hw⟩
        rw [hw]
        go_wp2
        go_roundw
        case rel => exact ⟨k + 1, by omega, by go_num, by rw [HS.out], HB.out.alloc HB.out.size _⟩
        case measure => simp [intOf]; omega
      · rw [if_neg hA] at hI
        have HI : Hid (∀ w, Calls Tryz.prog 70 #[.string ⟨upper.toArray⟩, .int .u8 c.toNat] w fun e w' => e = .returned (.int .i64 (-1)) ∧ w' = w) := hI
        clear hI
        have hcb1 := hcb c
        have HN : Hid (Lk.small1 c = c) := small_not c hA
        clear hA
        go_wp2_with fail
        refine (HI.out _).mono ?_
        rintro e w' ⟨rfl, hw⟩
        rw [hw]
        go_wp2
        go_roundw
        case rel => exact ⟨k + 1, by omega, by go_num, by rw [HS.out, HN.out], HB.out.alloc HB.out.size _⟩
        case measure => simp [intOf]; omega
    · have HA : Hid (smQ s k = B (Lk.small s.data.toList)) := smQ_all s k (by omega)
      go_wp2
      go_ret
      exact ⟨by rw [← HA.out]; rfl, HB.out⟩

end Go.Proofs.YtbhcklkbckacpaaGreatDoor

/-
  Slices in memory: rows of cells; what is appended to a row that is the call's own.
-/
namespace Go.Proofs.YtbhcklkbckacpaaGreatDoor
open Go.RowKit

theorem cell_under {w w' : World} {a : Addr} {v : Value} (h : w.cell? a = some v) (hb : Below w.heap.size w w') : w'.cell? a = some v :=
  (World.cell?_of_block (w := w) (hb.block _ (World.block_lt_of_cell? _ _ h))).trans h
theorem ownBlk_ge {w : World} {base : Nat} {e : TypeId} {size : Nat} {v : Value} {n : Nat} {xs : List Value} (h : w.ownsRow base e size v n xs) : ∀ k, v.ownBlock = some k → base ≤ k := by
  intro k hk
  rcases h.2 with ⟨rfl, _⟩ | ⟨g, cap, cur, rfl, hg, _⟩
  · cases hk
  · simp [Value.ownBlock] at hk; omega
theorem own_kept {w w' : World} {base b n sz : Nat} {e : TypeId} {v : Value} {xs : List Value} (h : w.ownsRow base e sz v n xs) (hk : Kept w w' [b]) (hb : b < base) : w'.ownsRow base e sz v n xs := by
  refine ⟨h.1, ?_⟩
  rcases h.2 with h2 | ⟨g, cap, cur, hv, hg, hh, r⟩
  · exact .inl h2
  · exact .inr ⟨g, cap, cur, hv, hg, (hk.block g (Array.getElem?_eq_some_iff.1 hh).1 (by simp; omega)).trans hh, r⟩
theorem own_under {w w' : World} {base n sz : Nat} {e : TypeId} {v : Value} {xs : List Value} (h : w.ownsRow base e sz v n xs) (hb : Below w.heap.size w w') : w'.ownsRow base e sz v n xs := by
  refine ⟨h.1, ?_⟩
  rcases h.2 with h2 | ⟨g, cap, cur, hv, hg, hh, r⟩
  · exact .inl h2
  · exact .inr ⟨g, cap, cur, hv, hg, (hb.block g (Array.getElem?_eq_some_iff.1 hh).1).trans hh, r⟩

structure Row (w : World) (ao : Option Addr) (n cap sz : Nat) (cs : List Value) : Prop where
  len : cs.length = n * sz
  room : n ≤ cap
  big : cap ≤ 9223372036854775807
  lies : n ≠ 0 → ∃ b off, ao = some ⟨b, off, none⟩ ∧ ∀ j u, cs[j]? = some u → w.cell? ⟨b, off + j, none⟩ = some u
theorem Row.below {w w' : World} {ao : Option Addr} {n cap sz : Nat} {cs : List Value} (h : Row w ao n cap sz cs) (hb : Below w.heap.size w w') : Row w' ao n cap sz cs :=
  ⟨h.len, h.room, h.big, fun hn => by
    obtain ⟨b, off, he, hc⟩ := h.lies hn
    exact ⟨b, off, he, fun j u hu => cell_under (hc j u hu) hb⟩⟩
theorem Row.nil (w : World) (sz : Nat) : Row w none 0 0 sz [] := ⟨by simp, Nat.le_refl _, by decide, fun h => absurd rfl h⟩
theorem own_row {w : World} {B0 n sz : Nat} {e : TypeId} {v : Value} {xs : List Value} (h : w.ownsRow B0 e sz v n xs) : ∃ ao cap, v = .slice ao n cap ∧ Row w ao n cap sz xs := by
  rcases h.2 with ⟨rfl, rfl⟩ | ⟨g, cap, cur, rfl, hg, hh, h1, h2, h3, h4⟩
  · have : xs = [] := by have := h.1; rw [Nat.zero_mul] at this; exact List.length_eq_zero_iff.1 this
    subst this
    exact ⟨none, 0, rfl, Row.nil w sz⟩
  · refine ⟨_, cap, rfl, h.1, h1, by unfold maxLen at h2; exact h2, fun _ => ⟨g, 0, rfl, fun j u hu => ?_⟩⟩
    have := h.cells (g := g) rfl j u hu
    have e : (⟨g, 0, none⟩ : Addr).add j = ⟨g, 0 + j, none⟩ := by unfold Addr.add; split <;> simp_all
    rw [e] at this
    exact this

def ob (v : Value) : List Nat := v.ownBlock.toList
theorem ob_mem {v : Value} {x : Nat} (h : x ∈ ob v) : v.ownBlock = some x := by
  unfold ob at h
  simpa using h
theorem kept_set (w : World) (b j : Nat) (v : Value) (S : List Nat) (h : b ∈ S) : Kept w (w.setCell ⟨b, j, none⟩ v) S := (Kept.refl w S).setCell _ _ (.inl h)

section
variable {P : Program} (w : World)
end
end Go.Proofs.YtbhcklkbckacpaaGreatDoor

/-
  Chapter 5 on lists of bytes: what a page is taken apart into.
-/
namespace Go.Proofs.YtbhcklkbckacpaaGreatDoor
open Go.RowKit
structure Tk where
  kind : Int
  name : List UInt8
  text : List UInt8
  href : List UInt8
namespace Tk
def sp (c : UInt8) : Bool := c == 32 || c == 9 || c == 10 || c == 13 || c == 12
def letter (c : UInt8) : Bool := (decide (97 ≤ c) && decide (c ≤ 122)) || (decide (65 ≤ c) && decide (c ≤ 90))
def nam (c : UInt8) : Bool := !sp c && c != 47 && c != 62
def anm (c : UInt8) : Bool := !sp c && c != 47 && c != 62 && c != 61
def avl (c : UInt8) : Bool := !sp c && c != 62
def not (q : UInt8) (c : UInt8) : Bool := c != q
def hrefL : List UInt8 := [104, 114, 101, 102]
def after (pat : List UInt8) : List UInt8 → Option (List UInt8)
  | [] => none
  | c :: t => if pat.isPrefixOf (c :: t) then some ((c :: t).drop pat.length) else after pat t
def val : List UInt8 → List UInt8 × List UInt8
  | [] => ([], [])
  | q :: r => if q == 34 || q == 39 then (r.takeWhile (not q), (r.dropWhile (not q)).drop 1) else ((q :: r).takeWhile avl, (q :: r).dropWhile avl)
def value (r : List UInt8) : List UInt8 × List UInt8 :=
  match r.dropWhile sp with
  | [] => ([], r)
  | c :: r2 => if c == 61 then val (r2.dropWhile sp) else ([], r)
def attrs : Nat → List UInt8 → Option (List UInt8) → Option (Option (List UInt8) × List UInt8)
  | 0, _, _ => none
  | _ + 1, [], _ => none
  | n + 1, c :: t, h => if c == 62 then some (h, t) else if sp c || c == 47 then attrs n t h else
      attrs n (value (t.dropWhile anm)).2 (if Lk.small (c :: t.takeWhile anm) == hrefL && h.isNone then some (value (t.dropWhile anm)).1 else h)
theorem dw_len (p : UInt8 → Bool) (l : List UInt8) : (l.dropWhile p).length ≤ l.length := (List.dropWhile_sublist p).length_le
theorem val_len (l : List UInt8) : (val l).2.length ≤ l.length := by
  cases l with
  | nil => exact Nat.le_refl _
  | cons q r =>
    rw [val]
    split
    · have := dw_len (not q) r
      simp only [List.length_drop, List.length_cons]
      omega
    · exact dw_len avl (q :: r)
theorem value_len (l : List UInt8) : (value l).2.length ≤ l.length := by
  unfold value
  have h0 := dw_len sp l
  cases h : l.dropWhile sp with
  | nil => exact Nat.le_refl _
  | cons c r2 =>
    rw [h] at h0
    simp only
    split
    · have h1 := val_len (r2.dropWhile sp)
      have h2 := dw_len sp r2
      simp at h0
      omega
    · exact Nat.le_refl _
theorem attrs_more : ∀ (n m : Nat) (l : List UInt8) (h : Option (List UInt8)), l.length < n → l.length < m → attrs n l h = attrs m l h
  | 0, _, _, _, h, _ => by omega
  | _, 0, _, _, _, h => by omega
  | n + 1, m + 1, [], _, _, _ => rfl
  | n + 1, m + 1, c :: t, h, h1, h2 => by
    have h3 := value_len (t.dropWhile anm)
    have h4 := dw_len anm t
    simp only [List.length_cons] at h1 h2
    unfold attrs
    rw [attrs_more n m t h (by omega) (by omega), attrs_more n m (value (t.dropWhile anm)).2 _ (by omega) (by omega)]
def attr (l : List UInt8) (h : Option (List UInt8)) : Option (Option (List UInt8) × List UInt8) := attrs (l.length + 1) l h
theorem attr_nil (h : Option (List UInt8)) : attr [] h = none := rfl
theorem attr_cons (c : UInt8) (t : List UInt8) (h : Option (List UInt8)) : attr (c :: t) h = if c == 62 then some (h, t) else if sp c || c == 47 then attr t h else
      attr (value (t.dropWhile anm)).2 (if Lk.small (c :: t.takeWhile anm) == hrefL && h.isNone then some (value (t.dropWhile anm)).1 else h) := by
  have h3 := value_len (t.dropWhile anm)
  have h4 := dw_len anm t
  show attrs (t.length + 1 + 1) (c :: t) h = _
  unfold attrs
  rw [attrs_more (t.length + 1) ((value (t.dropWhile anm)).2.length + 1) (value (t.dropWhile anm)).2 _ (by omega) (by omega)]
  rfl
theorem attr_len : ∀ (n : Nat) (l : List UInt8) (h : Option (List UInt8)) (x : Option (List UInt8) × List UInt8), l.length ≤ n → attr l h = some x → x.2.length < l.length
  | _, [], _, _, _, e => by rw [attr_nil] at e; cases e
  | 0, _ :: _, _, _, hn, _ => by simp at hn
  | n + 1, c :: t, h, x, hn, e => by
    have h3 := value_len (t.dropWhile anm)
    have h4 := dw_len anm t
    simp only [List.length_cons] at hn ⊢
    rw [attr_cons] at e
    split at e
    · cases e; simp
    split at e
    · have := attr_len n t h x (by omega) e; omega
    · have := attr_len n _ _ x (by omega) e; omega
def txt (l : List UInt8) : Tk := ⟨1, [], l, []⟩
def oth : Tk := ⟨4, [], [], []⟩
def tag (shut : Bool) (u : List UInt8) : List Tk × List UInt8 :=
  match attr (u.dropWhile nam) none with
  | some (h, r) => ([⟨if shut then 3 else 2, Lk.small (u.takeWhile nam), [], if shut then [] else Esc.rd (h.getD [])⟩], r)
  | none => ([], [])
def shutAt : List UInt8 → List Tk × List UInt8
  | [] => ([txt [60]], [47])
  | e :: v => if letter e then tag true (e :: v) else ([txt [60]], 47 :: e :: v)
def angle (t : List UInt8) : List Tk × List UInt8 :=
  if ([33, 45, 45] : List UInt8).isPrefixOf t then ([oth], (after [45, 45, 62] (t.drop 3)).getD [])
  else match t with
    | [] => ([txt [60]], [])
    | d :: u => if d == 33 || d == 63 then ([oth], (after [62] t).getD [])
      else if d == 47 then shutAt u else if letter d then tag false t else ([txt [60]], t)
def first (c : UInt8) (t : List UInt8) : List Tk × List UInt8 :=
  if c == 60 then angle t else ([txt (Esc.rd (c :: t.takeWhile (not 60)))], t.dropWhile (not 60))
def toksN : Nat → List UInt8 → List Tk
  | 0, _ => []
  | _ + 1, [] => []
  | n + 1, c :: t => (first c t).1 ++ toksN n (first c t).2
def toks (l : List UInt8) : List Tk := toksN l.length l
theorem after_len (p : List UInt8) : ∀ (l r : List UInt8), after p l = some r → r.length ≤ l.length
  | [], _, h => by cases h
  | c :: t, r, h => by
    rw [after] at h
    split at h
    · cases h; simp
    · have := after_len p t r h; simp; omega
theorem after_le (p l : List UInt8) : ((after p l).getD []).length ≤ l.length := by
  cases h : after p l with
  | none => simp
  | some r => exact after_len p l r h
theorem tag_len (s : Bool) (u : List UInt8) : (tag s u).2.length ≤ u.length := by
  unfold tag
  have h0 := dw_len nam u
  cases h : attr (u.dropWhile nam) none with
  | none => simp
  | some x =>
    have := attr_len _ _ _ x (Nat.le_refl _) h
    obtain ⟨a, r⟩ := x
    simp only at this ⊢
    omega
theorem angle_nil : angle [] = ([txt [60]], []) := rfl
theorem angle_cons (d : UInt8) (u : List UInt8) : angle (d :: u) = if ([33, 45, 45] : List UInt8).isPrefixOf (d :: u) then ([oth], (after [45, 45, 62] ((d :: u).drop 3)).getD []) else if d == 33 || d == 63 then ([oth], (after [62] (d :: u)).getD [])
    else if d == 47 then shutAt u else if letter d then tag false (d :: u) else ([txt [60]], d :: u) := rfl
theorem shut_len (u : List UInt8) : (shutAt u).2.length ≤ u.length + 1 := by
  cases u with
  | nil => simp [shutAt]
  | cons e v =>
    rw [shutAt]
    split
    · have := tag_len true (e :: v); simp only [List.length_cons] at this ⊢; omega
    · simp
theorem angle_len (t : List UInt8) : (angle t).2.length ≤ t.length := by
  cases t with
  | nil => simp [angle_nil]
  | cons d u =>
    rw [angle_cons]
    split
    · have := after_le [45, 45, 62] ((d :: u).drop 3)
      simp only [List.length_drop] at this
      simp only
      omega
    split
    · exact after_le [62] (d :: u)
    split
    · have := shut_len u
      simp only [List.length_cons]
      omega
    split
    · exact tag_len false (d :: u)
    · simp
theorem first_len (c : UInt8) (t : List UInt8) : (first c t).2.length ≤ t.length := by
  unfold first
  split
  · exact angle_len t
  · exact dw_len _ t
theorem toksN_more : ∀ (n m : Nat) (l : List UInt8), l.length ≤ n → l.length ≤ m → toksN n l = toksN m l
  | 0, 0, _, _, _ => rfl
  | 0, _ + 1, [], _, _ => rfl
  | _ + 1, 0, [], _, _ => rfl
  | 0, _ + 1, _ :: _, h, _ => by simp at h
  | _ + 1, 0, _ :: _, _, h => by simp at h
  | _ + 1, _ + 1, [], _, _ => rfl
  | n + 1, m + 1, c :: t, h1, h2 => by
    have := first_len c t
    simp only [List.length_cons] at h1 h2
    simp only [toksN]
    rw [toksN_more n m _ (by omega) (by omega)]
theorem toks_nil : toks [] = [] := rfl
theorem toks_cons (c : UInt8) (t : List UInt8) : toks (c :: t) = (first c t).1 ++ toks (first c t).2 := by
  have := first_len c t
  show (first c t).1 ++ toksN t.length (first c t).2 = _
  rw [toksN_more t.length (first c t).2.length _ this (Nat.le_refl _)]
  rfl
end Tk
end Go.Proofs.YtbhcklkbckacpaaGreatDoor

/-
  More of chapter 5 on lists of bytes: how the program goes by what is left of a page, how one goes by places, sets of bytes; and how many tokens there are.
-/
namespace Go.Proofs.YtbhcklkbckacpaaGreatDoor
open Go.RowKit
namespace Tk
def sl (c : UInt8) : Bool := sp c || c == 47
def restA (r : List UInt8) : List UInt8 :=
  match r.dropWhile sp with
  | [] => []
  | c :: r2 => if c == 61 then (val (r2.dropWhile sp)).2 else c :: r2
theorem sp_ne (c : UInt8) (h : sp c = true) : (c == 62) = false := by
  unfold sp at h
  simp only [Bool.or_eq_true, beq_iff_eq] at h
  rcases h with (((h | h) | h) | h) | h <;> subst h <;> rfl
theorem sl_ne (c : UInt8) (h : sl c = true) : (c == 62) = false := by
  unfold sl at h
  rw [Bool.or_eq_true] at h
  rcases h with h | h
  · exact sp_ne c h
  · rw [beq_iff_eq] at h; subst h; rfl
theorem attr_sl1 (c : UInt8) (t : List UInt8) (h : Option (List UInt8)) (hc : sl c = true) : attr (c :: t) h = attr t h := by
  rw [attr_cons, sl_ne c hc, if_neg Bool.false_ne_true]
  unfold sl at hc
  rw [if_pos hc]
theorem attr_skip (p : UInt8 → Bool) (hp : ∀ c, p c = true → sl c = true) : ∀ (l : List UInt8) (h : Option (List UInt8)), attr (l.dropWhile p) h = attr l h
  | [], _ => rfl
  | c :: t, h => by
    cases hc : p c
    · rw [List.dropWhile_cons, hc]; rfl
    · rw [List.dropWhile_cons, hc, if_pos rfl, attr_skip p hp t h, attr_sl1 c t h (hp c hc)]
theorem attr_sp (l : List UInt8) (h : Option (List UInt8)) : attr (l.dropWhile sp) h = attr l h := attr_skip sp (fun c hc => by unfold sl; rw [hc]; rfl) l h
theorem attr_sl (l : List UInt8) (h : Option (List UInt8)) : attr (l.dropWhile sl) h = attr l h := attr_skip sl (fun _ hc => hc) l h
theorem attr_restA (r : List UInt8) (h : Option (List UInt8)) : attr (restA r) h = attr (value r).2 h := by
  unfold restA value
  cases e : r.dropWhile sp with
  | nil =>
    have := attr_sp r h
    rw [e] at this
    exact this
  | cons c r2 =>
    simp only
    split
    · rfl
    · have := attr_sp r h
      rw [e] at this
      exact this
theorem restA_len (l : List UInt8) : (restA l).length ≤ l.length := by
  unfold restA
  have h0 := dw_len sp l
  cases h : l.dropWhile sp with
  | nil => simp
  | cons c r2 =>
    rw [h] at h0
    simp only
    split
    · have h1 := val_len (r2.dropWhile sp)
      have h2 := dw_len sp r2
      simp at h0
      omega
    · exact h0
theorem restA_eq (r r2 : List UInt8) (h : r.dropWhile sp = 61 :: r2) : restA r = (val (r2.dropWhile sp)).2 ∧ (value r).1 = (val (r2.dropWhile sp)).1 ∧ (value r).2 = (val (r2.dropWhile sp)).2 := by
  unfold restA value
  rw [h]
  exact ⟨rfl, rfl, rfl⟩
theorem restA_ne (r : List UInt8) (h : ∀ r2, r.dropWhile sp ≠ 61 :: r2) : restA r = r.dropWhile sp ∧ (value r).1 = [] ∧ (value r).2 = r := by
  unfold restA value
  cases e : r.dropWhile sp with
  | nil => exact ⟨rfl, rfl, rfl⟩
  | cons c r2 =>
    have hc : (c == 61) = false := by
      rw [beq_eq_false_iff_ne]
      intro hc
      exact h r2 (by rw [e, hc])
    simp only [hc]
    exact ⟨rfl, rfl, rfl⟩
theorem val_len1 (l : List UInt8) : (val l).1.length ≤ l.length := by
  cases l with
  | nil => exact Nat.le_refl _
  | cons q r =>
    rw [val]
    split
    · have := (List.takeWhile_sublist (not q) (l := r)).length_le
      simp only [List.length_cons]
      omega
    · exact (List.takeWhile_sublist avl).length_le
theorem value_len1 (l : List UInt8) : (value l).1.length ≤ l.length := by
  unfold value
  have h0 := dw_len sp l
  cases h : l.dropWhile sp with
  | nil => simp
  | cons c r2 =>
    rw [h] at h0
    simp only
    split
    · have h1 := val_len1 (r2.dropWhile sp)
      have h2 := dw_len sp r2
      simp at h0
      omega
    · simp
theorem attr_go (c : UInt8) (t : List UInt8) (h : Option (List UInt8)) (h1 : (c == 62) = false) (h2 : sl c = false) : attr (c :: t) h =
    attr (restA (t.dropWhile anm)) (if Lk.small (c :: t.takeWhile anm) == hrefL && h.isNone then some (value (t.dropWhile anm)).1 else h) := by
  rw [attr_cons, h1, if_neg Bool.false_ne_true, attr_restA]
  unfold sl at h2
  rw [h2, if_neg Bool.false_ne_true]
theorem after_index (p : List UInt8) (hp : p ≠ []) : ∀ l, (Lib.index l p = -1 ∧ after p l = none) ∨ (∃ k : Nat, Lib.index l p = k ∧ k + p.length ≤ l.length ∧ after p l = some (l.drop (k + p.length)))
  | [] => by
    left
    refine ⟨?_, rfl⟩
    unfold Lib.index
    cases p with
    | nil => exact absurd rfl hp
    | cons a b => rfl
  | c :: t => by
    by_cases h : p.isPrefixOf (c :: t) = true
    · right
      refine ⟨0, ?_, ?_, ?_⟩
      · unfold Lib.index; rw [if_pos h]; rfl
      · have := (List.isPrefixOf_iff_prefix.1 h).length_le; omega
      · rw [after, if_pos h, Nat.zero_add]
    · rcases after_index p hp t with ⟨h1, h2⟩ | ⟨k, h1, h2, h3⟩
      · left
        refine ⟨?_, by rw [after, if_neg h, h2]⟩
        unfold Lib.index
        rw [if_neg h, h1]
        rfl
      · right
        refine ⟨k + 1, ?_, by simp only [List.length_cons]; omega, ?_⟩
        · unfold Lib.index
          have : ((k : Int) == -1) = false := by rw [beq_eq_false_iff_ne]; omega
          rw [if_neg h, h1, this, if_neg Bool.false_ne_true]
          omega
        · rw [after, if_neg h, h3, show k + 1 + p.length = (k + p.length) + 1 by omega, List.drop_succ_cons]
theorem cut_after (p : List UInt8) (hp : p ≠ []) (l : List UInt8) : (Lib.cut l p).2.1 = (after p l).getD [] := by
  unfold Lib.cut
  rcases after_index p hp l with ⟨h1, h2⟩ | ⟨k, h1, h2, h3⟩
  · rw [h1, h2]; rfl
  · rw [h1, h3, if_pos (by omega)]
    simp
theorem tw_of_dw {l : List UInt8} {p : UInt8 → Bool} {i k : Nat} (hi : i ≤ k) (hk : k ≤ l.length) (h : l.drop k = (l.drop i).dropWhile p) : (l.drop i).take (k - i) = (l.drop i).takeWhile p := by
  have h1 : (l.drop i).takeWhile p ++ (l.drop i).dropWhile p = l.drop i := List.takeWhile_append_dropWhile
  have h2 := congrArg List.length h1
  rw [← h, List.length_append, List.length_drop, List.length_drop] at h2
  have h3 : ((l.drop i).takeWhile p).length = k - i := by omega
  have h4 : (l.drop i).take (k - i) = ((l.drop i).takeWhile p ++ (l.drop i).dropWhile p).take (k - i) := by rw [h1]
  rw [h4, ← h3, List.take_left]
theorem dw_go {l : List UInt8} {p : UInt8 → Bool} {k : Nat} (hk : k < l.length) (h : p l[k] = true) : (l.drop (k + 1)).dropWhile p = (l.drop k).dropWhile p := by
  rw [List.drop_eq_getElem_cons hk, List.dropWhile_cons, h, if_pos rfl]
theorem dw_stop {l : List UInt8} {p : UInt8 → Bool} {k : Nat} (hk : k < l.length) (h : p l[k] = false) : (l.drop k).dropWhile p = l.drop k := by
  rw [List.drop_eq_getElem_cons hk, List.dropWhile_cons, h]
  rfl
theorem dw_end {l : List UInt8} {p : UInt8 → Bool} {k : Nat} (hk : l.length ≤ k) : (l.drop k).dropWhile p = l.drop k := by
  rw [List.drop_eq_nil_of_le hk]
  rfl
def inS (set : List UInt8) (c : UInt8) : Bool := decide (0 ≤ Lib.indexByte set c)
theorem all256 (f : UInt8 → Bool) (h : ∀ n : Fin 256, f (UInt8.ofNat n.val) = true) (c : UInt8) : f c = true := by
  have := h ⟨c.toNat, c.toNat_lt⟩
  simpa using this
theorem in_sp (c : UInt8) : inS [32, 9, 10, 13, 12] c = sp c := by
  have := all256 (fun c => inS [32, 9, 10, 13, 12] c == sp c) (by decide +kernel) c
  simpa using this
theorem in_sl (c : UInt8) : inS [32, 9, 10, 13, 12, 47] c = sl c := by
  have := all256 (fun c => inS [32, 9, 10, 13, 12, 47] c == sl c) (by decide +kernel) c
  simpa using this
theorem in_nam (c : UInt8) : inS [32, 9, 10, 13, 12, 47, 62] c = !nam c := by
  have := all256 (fun c => inS [32, 9, 10, 13, 12, 47, 62] c == !nam c) (by decide +kernel) c
  simpa using this
theorem in_anm (c : UInt8) : inS [32, 9, 10, 13, 12, 47, 62, 61] c = !anm c := by
  have := all256 (fun c => inS [32, 9, 10, 13, 12, 47, 62, 61] c == !anm c) (by decide +kernel) c
  simpa using this
theorem in_avl (c : UInt8) : inS [32, 9, 10, 13, 12, 62] c = !avl c := by
  have := all256 (fun c => inS [32, 9, 10, 13, 12, 62] c == !avl c) (by decide +kernel) c
  simpa using this
theorem in_one (q c : UInt8) : inS [q] c = !not q c := by
  unfold inS not Lib.indexByte Lib.indexByte
  by_cases h : q = c
  · subst h; simp
  · have h1 : (q == c) = false := by simpa using h
    have h2 : (c != q) = true := by simp; exact fun e => h e.symm
    rw [h1, h2]
    simp
theorem first_one (c : UInt8) (t : List UInt8) : (first c t).1.length ≤ 1 := by
  unfold first angle shutAt tag
  split
  · split
    · simp
    split
    · simp
    split
    · simp
    split
    · split
      · simp
      split
      · split <;> simp
      · simp
    split
    · split <;> simp
    · simp
  · simp
theorem toksN_len : ∀ (n : Nat) (l : List UInt8), (toksN n l).length ≤ n
  | 0, _ => Nat.le_refl _
  | _ + 1, [] => by simp [toksN]
  | n + 1, c :: t => by
    have h1 := first_one c t
    have h2 := toksN_len n (first c t).2
    rw [toksN, List.length_append]
    omega
theorem toks_len (l : List UInt8) : (toks l).length ≤ l.length := toksN_len _ _
theorem suf_none (q : UInt8) (r : List UInt8) (h : ∀ y ∈ r, y ≠ q) : ([q] : List UInt8).isSuffixOf r = false := by
  rw [Bool.eq_false_iff]
  intro hs
  have := (List.isSuffixOf_iff_suffix.1 hs).subset (List.mem_singleton.2 rfl)
  exact h q this rfl
theorem quote_at (q : UInt8) : ∀ r : List UInt8, (Lib.index r [q] = -1 ∧ r.takeWhile (not q) = r ∧ r.dropWhile (not q) = [] ∧ ∀ y ∈ r, y ≠ q) ∨
    ∃ k : Nat, Lib.index r [q] = k ∧ k + 1 ≤ r.length ∧ r.take k = r.takeWhile (not q) ∧ r.take (k + 1) = r.takeWhile (not q) ++ [q] ∧ r.drop (k + 1) = (r.dropWhile (not q)).drop 1
  | [] => .inl ⟨rfl, rfl, rfl, fun _ h => by cases h⟩
  | c :: t => by
    by_cases h : c = q
    · subst h
      have h1 : not c c = false := by unfold not; simp
      have h0 : ([c] : List UInt8).isPrefixOf (c :: t) = true := by simp [List.isPrefixOf]
      refine .inr ⟨0, ?_, by simp, ?_, ?_, ?_⟩
      · unfold Lib.index; rw [if_pos h0]; rfl
      · rw [List.takeWhile_cons, h1]; rfl
      · rw [List.takeWhile_cons, h1]; rfl
      · rw [List.dropWhile_cons, h1]; rfl
    · have h1 : not q c = true := by unfold not; simpa using h
      have h0 : ([q] : List UInt8).isPrefixOf (c :: t) = false := by
        have : (q == c) = false := by simpa using (fun e => h e.symm)
        simp [List.isPrefixOf, this]
      rcases quote_at q t with ⟨a, b, d, e⟩ | ⟨k, a, b, d, e, f⟩
      · refine .inl ⟨?_, ?_, ?_, ?_⟩
        · unfold Lib.index; rw [h0, a]; rfl
        · rw [List.takeWhile_cons, h1, if_pos rfl, b]
        · rw [List.dropWhile_cons, h1, if_pos rfl, d]
        · intro y hy
          rcases List.mem_cons.1 hy with rfl | hy
          · exact h
          · exact e y hy
      · refine .inr ⟨k + 1, ?_, by simp only [List.length_cons]; omega, ?_, ?_, ?_⟩
        · unfold Lib.index
          have : ((k : Int) == -1) = false := by rw [beq_eq_false_iff_ne]; omega
          rw [h0, if_neg Bool.false_ne_true, a, this, if_neg Bool.false_ne_true]
          omega
        · rw [List.take_succ_cons, List.takeWhile_cons, h1, if_pos rfl, d]
        · rw [List.take_succ_cons, List.takeWhile_cons, h1, if_pos rfl, e]; rfl
        · rw [List.drop_succ_cons, List.dropWhile_cons, h1, if_pos rfl, f]
end Tk
end Go.Proofs.YtbhcklkbckacpaaGreatDoor
