/-
  Texts of this proof, one behind the other.
-/
import Derived.Shelf.Small.Utf8
import Derived.Shelf.Small.Strs
import Derived.Shelf.Strings.Search1
import Derived.Shelf.Strings.Search2
import Derived.Shelf.Strings.Search3
import Derived.Shelf.Strings.Cut
import Derived.Shelf.LaysM
import Derived.Shelf.Strings.Shaped
import Derived.Shelf.Strings.Runes
import Derived.Shelf.Strings.IndexAny
import Derived.Shelf.Strings.AsciiSet
import Derived.Shelf.Strings.IndexAnyAll
import Derived.Shelf.Bits.Mul64
import Derived.Shelf.Slices.Turned
import Derived.Test.YtbhcklkbckacpaaDoorProg
import Derived.Test.YtbhcklkbckacpaaDoorRows
import Derived.WalkKit
import Derived.WalkLawsBesides
import Derived.Lib.OthersKept
import Derived.Lib.IndexAny
import Derived.Deep.QuietTactic
import Derived.BigQuiet
import Derived.Deep.Draws
import Derived.Deep.LoopGhost
import Derived.Handy
import Derived.WalkMore
import Derived.Laws.RangeAny
import Derived.Lib.ConvBytes
import Derived.Laws.IdiomStrings
import Derived.Deep.AppendLies
import Derived.Laws.AppendOwnNone
import Derived.Laws.OwnMore
import Derived.Lib.AppendZeros
import Derived.Deep.Upon
import Derived.Deep.AppendSrc

/-
  Contracts of library functions, laid over this translation by the kit's tool.
-/
namespace Go.Proofs
open Go.Shelf
def Tryd.lays119_ren : Go.Shelf.Ren := ⟨fun | 119 => 143 | n => n, fun | 21 => 21 | 4 => 4 | n => n, fun | n => n⟩
theorem Tryd.lays119 : Go.Proofs.Lays.n119 Tryd.prog Tryd.lays119_ren := {
  mixed := by kernel_rfl
  f119 := Tryd.func143.trans (congrArg some (by kernel_rfl))
  t4 := Tryd.underlying4
  a4 := Tryd.isAgg4
  z4 := Tryd.sizeOf4
  v4 := Tryd.zeroValue4
  t21 := Tryd.underlying21
  a21 := Tryd.isAgg21
  z21 := Tryd.sizeOf21
  v21 := Tryd.zeroValue21 }
theorem Tryd.utf8_ValidRune (r : Int) (w : World) :
    Calls Tryd.prog 143 #[.int .i32 r] w fun e w' => e = .returned (.bool (Lib.validRune r)) ∧ w' = w := Any.utf8_ValidRune Tryd.lays119 r w
def Tryd.lays137_ren : Go.Shelf.Ren := ⟨fun | 137 => 115 | 217 => 124 | 266 => 131 | n => n, fun | 9 => 9 | 5 => 5 | 3 => 3 | n => n, fun | n => n⟩
theorem Tryd.lays137 : Go.Proofs.Lays.n137 Tryd.prog Tryd.lays137_ren := {
  mixed := by kernel_rfl
  f137 := Tryd.func115.trans (congrArg some (by kernel_rfl))
  f217 := Tryd.func124.trans (congrArg some (by kernel_rfl))
  f266 := Tryd.func131.trans (congrArg some (by kernel_rfl))
  t3 := Tryd.underlying3
  a3 := Tryd.isAgg3
  z3 := Tryd.sizeOf3
  v3 := Tryd.zeroValue3
  t5 := Tryd.underlying5
  a5 := Tryd.isAgg5
  z5 := Tryd.sizeOf5
  v5 := Tryd.zeroValue5
  t9 := Tryd.underlying9
  a9 := Tryd.isAgg9
  z9 := Tryd.sizeOf9
  v9 := Tryd.zeroValue9 }
open Go.RowKit in
theorem Tryd.strings_IndexByte (s : ByteArray) (c : Int) (w : World) :
    Calls Tryd.prog 115 #[.string s, .int .u8 c] w fun e w' => e = .returned (.int .i64 (Lib.indexByte s.data.toList c.toNat.toUInt8)) ∧ w' = w := Any.strings_IndexByte Tryd.lays137 s c w
def Tryd.lays217_ren : Go.Shelf.Ren := ⟨fun | 217 => 124 | 266 => 131 | n => n, fun | 9 => 9 | 5 => 5 | 3 => 3 | n => n, fun | n => n⟩
theorem Tryd.lays217 : Go.Proofs.Lays.n217 Tryd.prog Tryd.lays217_ren := {
  mixed := by kernel_rfl
  f217 := Tryd.func124.trans (congrArg some (by kernel_rfl))
  f266 := Tryd.func131.trans (congrArg some (by kernel_rfl))
  t3 := Tryd.underlying3
  a3 := Tryd.isAgg3
  z3 := Tryd.sizeOf3
  v3 := Tryd.zeroValue3
  t5 := Tryd.underlying5
  a5 := Tryd.isAgg5
  z5 := Tryd.sizeOf5
  v5 := Tryd.zeroValue5
  t9 := Tryd.underlying9
  a9 := Tryd.isAgg9
  z9 := Tryd.sizeOf9
  v9 := Tryd.zeroValue9 }
open Go.RowKit Go.Lib in
theorem Tryd.stringslite_IndexByte (s : ByteArray) (c : Int) (w : World) :
    Calls Tryd.prog 124 #[.string s, .int .u8 c] w fun e w' => e = .returned (.int .i64 (Lib.indexByte s.data.toList c.toNat.toUInt8)) ∧ w' = w := Any.stringslite_IndexByte Tryd.lays217 s c w
def Tryd.lays224_ren : Go.Shelf.Ren := ⟨fun | 224 => 136 | n => n, fun | 3 => 3 | n => n, fun | n => n⟩
theorem Tryd.lays224 : Go.Proofs.Lays.n224 Tryd.prog Tryd.lays224_ren := {
  mixed := by kernel_rfl
  f224 := Tryd.func136.trans (congrArg some (by kernel_rfl))
  t3 := Tryd.underlying3
  a3 := Tryd.isAgg3
  z3 := Tryd.sizeOf3
  v3 := Tryd.zeroValue3 }
open Go.RowKit Go.Lib in
theorem Tryd.bytealg_Cutover (n : Int) (h0 : 0 ≤ n) (h1 : n < 4611686018427387904) (w : World) :
    Calls Tryd.prog 136 #[.int .i64 n] w fun e w' => e = .returned (.int .i64 ((n + 16) / 8)) ∧ w' = w := Any.bytealg_Cutover Tryd.lays224 n h0 h1 w
def Tryd.lays314_ren : Go.Shelf.Ren := ⟨fun | 314 => 142 | n => n, fun | 9 => 9 | 51 => 148 | 3 => 3 | 4 => 4 | 5 => 5 | 46 => 128 | n => n, fun | n => n⟩
theorem Tryd.lays314 : Go.Proofs.Lays.n314 Tryd.prog Tryd.lays314_ren := {
  mixed := by kernel_rfl
  f314 := Tryd.func142.trans (congrArg some (by kernel_rfl))
  t3 := Tryd.underlying3
  a3 := Tryd.isAgg3
  z3 := Tryd.sizeOf3
  v3 := Tryd.zeroValue3
  t4 := Tryd.underlying4
  a4 := Tryd.isAgg4
  z4 := Tryd.sizeOf4
  v4 := Tryd.zeroValue4
  t5 := Tryd.underlying5
  a5 := Tryd.isAgg5
  z5 := Tryd.sizeOf5
  v5 := Tryd.zeroValue5
  t9 := Tryd.underlying9
  a9 := Tryd.isAgg9
  z9 := Tryd.sizeOf9
  v9 := Tryd.zeroValue9
  t46 := Tryd.underlying128
  a46 := Tryd.isAgg128
  z46 := Tryd.sizeOf128
  v46 := Tryd.zeroValue128
  t51 := Tryd.underlying148
  a51 := Tryd.isAgg148
  z51 := Tryd.sizeOf148
  v51 := Tryd.zeroValue148 }
open Go.RowKit Go.Lib in
theorem Tryd.bytealg_hashStr (sep : ByteArray) (hs : sep.size < 4294967281) (w : World) :
    Calls Tryd.prog 142 #[.string sep] w fun e w' => e = .returned (.tuple #[.int .u32 (RK.H sep.data.toList % 4294967296), .int .u32 (16777619 ^ sep.size % 4294967296)]) ∧ w' = w := Any.bytealg_hashStr Tryd.lays314 sep hs w
def Tryd.lays267_ren : Go.Shelf.Ren := ⟨fun | 267 => 137 | 314 => 142 | n => n, fun | 9 => 9 | 3 => 3 | 146 => 149 | 51 => 148 | 4 => 4 | 5 => 5 | 46 => 128 | n => n, fun | n => n⟩
theorem Tryd.lays267 : Go.Proofs.Lays.n267 Tryd.prog Tryd.lays267_ren := {
  mixed := by kernel_rfl
  f267 := Tryd.func137.trans (congrArg some (by kernel_rfl))
  f314 := Tryd.func142.trans (congrArg some (by kernel_rfl))
  t3 := Tryd.underlying3
  a3 := Tryd.isAgg3
  z3 := Tryd.sizeOf3
  v3 := Tryd.zeroValue3
  t4 := Tryd.underlying4
  a4 := Tryd.isAgg4
  z4 := Tryd.sizeOf4
  v4 := Tryd.zeroValue4
  t5 := Tryd.underlying5
  a5 := Tryd.isAgg5
  z5 := Tryd.sizeOf5
  v5 := Tryd.zeroValue5
  t9 := Tryd.underlying9
  a9 := Tryd.isAgg9
  z9 := Tryd.sizeOf9
  v9 := Tryd.zeroValue9
  t46 := Tryd.underlying128
  a46 := Tryd.isAgg128
  z46 := Tryd.sizeOf128
  v46 := Tryd.zeroValue128
  t51 := Tryd.underlying148
  a51 := Tryd.isAgg148
  z51 := Tryd.sizeOf148
  v51 := Tryd.zeroValue148
  t146 := Tryd.underlying149
  a146 := Tryd.isAgg149
  z146 := Tryd.sizeOf149
  v146 := Tryd.zeroValue149 }
open Go.RowKit Go.Lib in
theorem Tryd.bytealg_IndexRabinKarp (s sep : ByteArray) (h1 : 1 ≤ sep.size) (h2 : sep.size ≤ s.size) (hs : s.size < 4294967281) (w : World) :
    Calls Tryd.prog 137 #[.string s, .string sep] w fun e w' => e = .returned (.int .i64 (Lib.index s.data.toList sep.data.toList)) ∧ w' = w := Any.bytealg_IndexRabinKarp Tryd.lays267 s sep h1 h2 hs w
def Tryd.lays219_ren : Go.Shelf.Ren := ⟨fun | 219 => 132 | 217 => 124 | 225 => 135 | 224 => 136 | 267 => 137 | 266 => 131 | 314 => 142 | n => n, fun | 9 => 9 | 3 => 3 | 4 => 4 | 5 => 5 | 46 => 128 | 146 => 149 | 51 => 148 | n => n, fun | 1 => 1 | n => n⟩
theorem Tryd.lays219 : Go.Proofs.Lays.n219 Tryd.prog Tryd.lays219_ren := {
  mixed := by kernel_rfl
  f217 := Tryd.func124.trans (congrArg some (by kernel_rfl))
  f219 := Tryd.func132.trans (congrArg some (by kernel_rfl))
  f224 := Tryd.func136.trans (congrArg some (by kernel_rfl))
  f225 := Tryd.func135.trans (congrArg some (by kernel_rfl))
  f266 := Tryd.func131.trans (congrArg some (by kernel_rfl))
  f267 := Tryd.func137.trans (congrArg some (by kernel_rfl))
  f314 := Tryd.func142.trans (congrArg some (by kernel_rfl))
  t3 := Tryd.underlying3
  a3 := Tryd.isAgg3
  z3 := Tryd.sizeOf3
  v3 := Tryd.zeroValue3
  t4 := Tryd.underlying4
  a4 := Tryd.isAgg4
  z4 := Tryd.sizeOf4
  v4 := Tryd.zeroValue4
  t5 := Tryd.underlying5
  a5 := Tryd.isAgg5
  z5 := Tryd.sizeOf5
  v5 := Tryd.zeroValue5
  t9 := Tryd.underlying9
  a9 := Tryd.isAgg9
  z9 := Tryd.sizeOf9
  v9 := Tryd.zeroValue9
  t46 := Tryd.underlying128
  a46 := Tryd.isAgg128
  z46 := Tryd.sizeOf128
  v46 := Tryd.zeroValue128
  t51 := Tryd.underlying148
  a51 := Tryd.isAgg148
  z51 := Tryd.sizeOf148
  v51 := Tryd.zeroValue148
  t146 := Tryd.underlying149
  a146 := Tryd.isAgg149
  z146 := Tryd.sizeOf149
  v146 := Tryd.zeroValue149
  g1 := by kernel_rfl }
open Go.RowKit Go.Lib in
theorem Tryd.stringslite_Index_one (s : ByteArray) (c : UInt8) (w : World) :
    Calls Tryd.prog 132 #[.string s, .string ⟨#[c]⟩] w fun e w' => e = .returned (.int .i64 (Lib.indexByte s.data.toList c)) ∧ w' = w := Any.stringslite_Index_one Tryd.lays219 s c w
open Go.RowKit Go.Lib in
theorem Tryd.stringslite_Index (s sub : ByteArray) (m : Int) (w : World) (hs : s.size < 4294967281) (hm : w.cell? ⟨1, 0, none⟩ = some (.int .i64 m)) :
    Calls Tryd.prog 132 #[.string s, .string sub] w fun e w' => e = .returned (.int .i64 (Lib.index s.data.toList sub.data.toList)) ∧ w' = w := Any.stringslite_Index Tryd.lays219 s sub m w hs hm
def Tryd.lays143_ren : Go.Shelf.Ren := ⟨fun | 143 => 126 | 219 => 132 | 217 => 124 | 225 => 135 | 224 => 136 | 267 => 137 | 266 => 131 | 314 => 142 | n => n, fun | 9 => 9 | 3 => 3 | 4 => 4 | 5 => 5 | 46 => 128 | 146 => 149 | 51 => 148 | n => n, fun | 1 => 1 | n => n⟩
theorem Tryd.lays143 : Go.Proofs.Lays.n143 Tryd.prog Tryd.lays143_ren := {
  mixed := by kernel_rfl
  f143 := Tryd.func126.trans (congrArg some (by kernel_rfl))
  f217 := Tryd.func124.trans (congrArg some (by kernel_rfl))
  f219 := Tryd.func132.trans (congrArg some (by kernel_rfl))
  f224 := Tryd.func136.trans (congrArg some (by kernel_rfl))
  f225 := Tryd.func135.trans (congrArg some (by kernel_rfl))
  f266 := Tryd.func131.trans (congrArg some (by kernel_rfl))
  f267 := Tryd.func137.trans (congrArg some (by kernel_rfl))
  f314 := Tryd.func142.trans (congrArg some (by kernel_rfl))
  t3 := Tryd.underlying3
  a3 := Tryd.isAgg3
  z3 := Tryd.sizeOf3
  v3 := Tryd.zeroValue3
  t4 := Tryd.underlying4
  a4 := Tryd.isAgg4
  z4 := Tryd.sizeOf4
  v4 := Tryd.zeroValue4
  t5 := Tryd.underlying5
  a5 := Tryd.isAgg5
  z5 := Tryd.sizeOf5
  v5 := Tryd.zeroValue5
  t9 := Tryd.underlying9
  a9 := Tryd.isAgg9
  z9 := Tryd.sizeOf9
  v9 := Tryd.zeroValue9
  t46 := Tryd.underlying128
  a46 := Tryd.isAgg128
  z46 := Tryd.sizeOf128
  v46 := Tryd.zeroValue128
  t51 := Tryd.underlying148
  a51 := Tryd.isAgg148
  z51 := Tryd.sizeOf148
  v51 := Tryd.zeroValue148
  t146 := Tryd.underlying149
  a146 := Tryd.isAgg149
  z146 := Tryd.sizeOf149
  v146 := Tryd.zeroValue149
  g1 := by kernel_rfl }
open Go.RowKit Go.Lib in
theorem Tryd.strings_Index_one (s : ByteArray) (c : UInt8) (w : World) :
    Calls Tryd.prog 126 #[.string s, .string ⟨#[c]⟩] w fun e w' => e = .returned (.int .i64 (Lib.indexByte s.data.toList c)) ∧ w' = w := Any.strings_Index_one Tryd.lays143 s c w
open Go.RowKit Go.Lib in
theorem Tryd.strings_Index (s sub : ByteArray) (m : Int) (w : World) (hs : s.size < 4294967281) (hm : w.cell? ⟨1, 0, none⟩ = some (.int .i64 m)) :
    Calls Tryd.prog 126 #[.string s, .string sub] w fun e w' => e = .returned (.int .i64 (Lib.index s.data.toList sub.data.toList)) ∧ w' = w := Any.strings_Index Tryd.lays143 s sub m w hs hm
def Tryd.lays220_ren : Go.Shelf.Ren := ⟨fun | 220 => 134 | 219 => 132 | 217 => 124 | 225 => 135 | 224 => 136 | 267 => 137 | 266 => 131 | 314 => 142 | n => n, fun | 9 => 9 | 4 => 4 | 3 => 3 | 5 => 5 | 46 => 128 | 146 => 149 | 51 => 148 | n => n, fun | 1 => 1 | n => n⟩
theorem Tryd.lays220 : Go.Proofs.Lays.n220 Tryd.prog Tryd.lays220_ren := {
  mixed := by kernel_rfl
  f217 := Tryd.func124.trans (congrArg some (by kernel_rfl))
  f219 := Tryd.func132.trans (congrArg some (by kernel_rfl))
  f220 := Tryd.func134.trans (congrArg some (by kernel_rfl))
  f224 := Tryd.func136.trans (congrArg some (by kernel_rfl))
  f225 := Tryd.func135.trans (congrArg some (by kernel_rfl))
  f266 := Tryd.func131.trans (congrArg some (by kernel_rfl))
  f267 := Tryd.func137.trans (congrArg some (by kernel_rfl))
  f314 := Tryd.func142.trans (congrArg some (by kernel_rfl))
  t3 := Tryd.underlying3
  a3 := Tryd.isAgg3
  z3 := Tryd.sizeOf3
  v3 := Tryd.zeroValue3
  t4 := Tryd.underlying4
  a4 := Tryd.isAgg4
  z4 := Tryd.sizeOf4
  v4 := Tryd.zeroValue4
  t5 := Tryd.underlying5
  a5 := Tryd.isAgg5
  z5 := Tryd.sizeOf5
  v5 := Tryd.zeroValue5
  t9 := Tryd.underlying9
  a9 := Tryd.isAgg9
  z9 := Tryd.sizeOf9
  v9 := Tryd.zeroValue9
  t46 := Tryd.underlying128
  a46 := Tryd.isAgg128
  z46 := Tryd.sizeOf128
  v46 := Tryd.zeroValue128
  t51 := Tryd.underlying148
  a51 := Tryd.isAgg148
  z51 := Tryd.sizeOf148
  v51 := Tryd.zeroValue148
  t146 := Tryd.underlying149
  a146 := Tryd.isAgg149
  z146 := Tryd.sizeOf149
  v146 := Tryd.zeroValue149
  g1 := by kernel_rfl }
open Go.RowKit Go.Lib in
theorem Tryd.stringslite_Cut (s sep : ByteArray) (m : Int) (w : World) (hs : s.size < 4294967281) (hm : w.cell? ⟨1, 0, none⟩ = some (.int .i64 m)) :
    Calls Tryd.prog 134 #[.string s, .string sep] w fun e w' => e = .returned (.tuple #[.string ⟨(Lib.cut s.data.toList sep.data.toList).1.toArray⟩, .string ⟨(Lib.cut s.data.toList sep.data.toList).2.1.toArray⟩, .bool (Lib.cut s.data.toList sep.data.toList).2.2]) ∧ ∃ n, w' = w.drewN n := Any.stringslite_Cut Tryd.lays220 s sep m w hs hm
def Tryd.lays145_ren : Go.Shelf.Ren := ⟨fun | 145 => 129 | 220 => 134 | 219 => 132 | 217 => 124 | 225 => 135 | 224 => 136 | 267 => 137 | 266 => 131 | 314 => 142 | n => n, fun | 9 => 9 | 4 => 4 | 59 => 168 | 3 => 3 | 5 => 5 | 46 => 128 | 146 => 149 | 51 => 148 | n => n, fun | 1 => 1 | n => n⟩
theorem Tryd.lays145 : Go.Proofs.Lays.n145 Tryd.prog Tryd.lays145_ren := {
  mixed := by kernel_rfl
  f145 := Tryd.func129.trans (congrArg some (by kernel_rfl))
  f217 := Tryd.func124.trans (congrArg some (by kernel_rfl))
  f219 := Tryd.func132.trans (congrArg some (by kernel_rfl))
  f220 := Tryd.func134.trans (congrArg some (by kernel_rfl))
  f224 := Tryd.func136.trans (congrArg some (by kernel_rfl))
  f225 := Tryd.func135.trans (congrArg some (by kernel_rfl))
  f266 := Tryd.func131.trans (congrArg some (by kernel_rfl))
  f267 := Tryd.func137.trans (congrArg some (by kernel_rfl))
  f314 := Tryd.func142.trans (congrArg some (by kernel_rfl))
  t3 := Tryd.underlying3
  a3 := Tryd.isAgg3
  z3 := Tryd.sizeOf3
  v3 := Tryd.zeroValue3
  t4 := Tryd.underlying4
  a4 := Tryd.isAgg4
  z4 := Tryd.sizeOf4
  v4 := Tryd.zeroValue4
  t5 := Tryd.underlying5
  a5 := Tryd.isAgg5
  z5 := Tryd.sizeOf5
  v5 := Tryd.zeroValue5
  t9 := Tryd.underlying9
  a9 := Tryd.isAgg9
  z9 := Tryd.sizeOf9
  v9 := Tryd.zeroValue9
  t46 := Tryd.underlying128
  a46 := Tryd.isAgg128
  z46 := Tryd.sizeOf128
  v46 := Tryd.zeroValue128
  t51 := Tryd.underlying148
  a51 := Tryd.isAgg148
  z51 := Tryd.sizeOf148
  v51 := Tryd.zeroValue148
  t59 := Tryd.underlying168
  a59 := Tryd.isAgg168
  z59 := Tryd.sizeOf168
  v59 := Tryd.zeroValue168
  t146 := Tryd.underlying149
  a146 := Tryd.isAgg149
  z146 := Tryd.sizeOf149
  v146 := Tryd.zeroValue149
  g1 := by kernel_rfl }
open Go.RowKit Go.Lib in
theorem Tryd.strings_Cut (s sep : ByteArray) (m : Int) (w : World) (hs : s.size < 4294967281) (hm : w.cell? ⟨1, 0, none⟩ = some (.int .i64 m)) :
    Calls Tryd.prog 129 #[.string s, .string sep] w fun e w' => e = .returned (.tuple #[.string ⟨(Lib.cut s.data.toList sep.data.toList).1.toArray⟩, .string ⟨(Lib.cut s.data.toList sep.data.toList).2.1.toArray⟩, .bool (Lib.cut s.data.toList sep.data.toList).2.2]) ∧ ∃ n, w' = w.drewN n := Any.strings_Cut Tryd.lays145 s sep m w hs hm
def Tryd.laysM219_ren : Go.Shelf.Ren := ⟨fun | 219 => 132 | 217 => 124 | 225 => 135 | 224 => 136 | 267 => 137 | 266 => 131 | 314 => 142 | n => n, fun | 9 => 9 | 3 => 3 | 4 => 4 | 5 => 5 | 46 => 128 | 146 => 149 | 51 => 148 | n => n, fun | 1 => 1 | n => n⟩
theorem Tryd.laysM219 : Go.Proofs.LaysM.n219 Tryd.prog Tryd.laysM219_ren := {
  mixed := by kernel_rfl
  f217 := Tryd.func124.trans (congrArg some (by kernel_rfl))
  f219 := Tryd.func132.trans (congrArg some (by kernel_rfl))
  f224 := Tryd.func136.trans (congrArg some (by kernel_rfl))
  f225 := Tryd.func135.trans (congrArg some (by kernel_rfl))
  f266 := Tryd.func131.trans (congrArg some (by kernel_rfl))
  f267 := Tryd.func137.trans (congrArg some (by kernel_rfl))
  f314 := Tryd.func142.trans (congrArg some (by kernel_rfl))
  t3 := Tryd.underlying3
  a3 := Tryd.isAgg3
  z3 := Tryd.sizeOf3
  v3 := Tryd.zeroValue3
  t4 := Tryd.underlying4
  a4 := Tryd.isAgg4
  z4 := Tryd.sizeOf4
  v4 := Tryd.zeroValue4
  t5 := Tryd.underlying5
  a5 := Tryd.isAgg5
  z5 := Tryd.sizeOf5
  v5 := Tryd.zeroValue5
  t9 := Tryd.underlying9
  a9 := Tryd.isAgg9
  z9 := Tryd.sizeOf9
  v9 := Tryd.zeroValue9
  t46 := Tryd.underlying128
  a46 := Tryd.isAgg128
  z46 := Tryd.sizeOf128
  v46 := Tryd.zeroValue128
  t51 := Tryd.underlying148
  a51 := Tryd.isAgg148
  z51 := Tryd.sizeOf148
  v51 := Tryd.zeroValue148
  t146 := Tryd.underlying149
  a146 := Tryd.isAgg149
  z146 := Tryd.sizeOf149
  v146 := Tryd.zeroValue149
  g1 := by kernel_rfl
  i3 := by kernel_rfl
  i4 := by kernel_rfl
  i5 := by kernel_rfl
  i9 := by kernel_rfl
  i46 := by kernel_rfl
  i51 := by kernel_rfl
  i146 := by kernel_rfl
  m1 := by kernel_rfl
  s1_3 := fun w h => Go.Proofs.cell_of_shapedOpen_int (zero := #[.int .i64 0]) (t := 3) h (of_decide_eq_true (by kernel_rfl)) (by kernel_rfl) rfl (by kernel_rfl) (by kernel_rfl) Tryd.underlying3 }
open Go.RowKit Go.Lib in
theorem Tryd.stringslite_Index_shaped (s sub : ByteArray) (w : World) (h : w.ShapedOpen Tryd.prog) (hs : s.size < 4294967281) :
    Calls Tryd.prog 132 #[.string s, .string sub] w fun e w' => e = .returned (.int .i64 (Lib.index s.data.toList sub.data.toList)) ∧ w' = w := Any.stringslite_Index_shaped Tryd.laysM219 s sub w h hs
def Tryd.laysM143_ren : Go.Shelf.Ren := ⟨fun | 143 => 126 | 219 => 132 | 217 => 124 | 225 => 135 | 224 => 136 | 267 => 137 | 266 => 131 | 314 => 142 | n => n, fun | 9 => 9 | 3 => 3 | 4 => 4 | 5 => 5 | 46 => 128 | 146 => 149 | 51 => 148 | n => n, fun | 1 => 1 | n => n⟩
theorem Tryd.laysM143 : Go.Proofs.LaysM.n143 Tryd.prog Tryd.laysM143_ren := {
  mixed := by kernel_rfl
  f143 := Tryd.func126.trans (congrArg some (by kernel_rfl))
  f217 := Tryd.func124.trans (congrArg some (by kernel_rfl))
  f219 := Tryd.func132.trans (congrArg some (by kernel_rfl))
  f224 := Tryd.func136.trans (congrArg some (by kernel_rfl))
  f225 := Tryd.func135.trans (congrArg some (by kernel_rfl))
  f266 := Tryd.func131.trans (congrArg some (by kernel_rfl))
  f267 := Tryd.func137.trans (congrArg some (by kernel_rfl))
  f314 := Tryd.func142.trans (congrArg some (by kernel_rfl))
  t3 := Tryd.underlying3
  a3 := Tryd.isAgg3
  z3 := Tryd.sizeOf3
  v3 := Tryd.zeroValue3
  t4 := Tryd.underlying4
  a4 := Tryd.isAgg4
  z4 := Tryd.sizeOf4
  v4 := Tryd.zeroValue4
  t5 := Tryd.underlying5
  a5 := Tryd.isAgg5
  z5 := Tryd.sizeOf5
  v5 := Tryd.zeroValue5
  t9 := Tryd.underlying9
  a9 := Tryd.isAgg9
  z9 := Tryd.sizeOf9
  v9 := Tryd.zeroValue9
  t46 := Tryd.underlying128
  a46 := Tryd.isAgg128
  z46 := Tryd.sizeOf128
  v46 := Tryd.zeroValue128
  t51 := Tryd.underlying148
  a51 := Tryd.isAgg148
  z51 := Tryd.sizeOf148
  v51 := Tryd.zeroValue148
  t146 := Tryd.underlying149
  a146 := Tryd.isAgg149
  z146 := Tryd.sizeOf149
  v146 := Tryd.zeroValue149
  g1 := by kernel_rfl
  i3 := by kernel_rfl
  i4 := by kernel_rfl
  i5 := by kernel_rfl
  i9 := by kernel_rfl
  i46 := by kernel_rfl
  i51 := by kernel_rfl
  i146 := by kernel_rfl
  m1 := by kernel_rfl
  s1_3 := fun w h => Go.Proofs.cell_of_shapedOpen_int (zero := #[.int .i64 0]) (t := 3) h (of_decide_eq_true (by kernel_rfl)) (by kernel_rfl) rfl (by kernel_rfl) (by kernel_rfl) Tryd.underlying3 }
open Go.RowKit Go.Lib in
theorem Tryd.strings_Index_shaped (s sub : ByteArray) (w : World) (h : w.ShapedOpen Tryd.prog) (hs : s.size < 4294967281) :
    Calls Tryd.prog 126 #[.string s, .string sub] w fun e w' => e = .returned (.int .i64 (Lib.index s.data.toList sub.data.toList)) ∧ w' = w := Any.strings_Index_shaped Tryd.laysM143 s sub w h hs
def Tryd.laysM220_ren : Go.Shelf.Ren := ⟨fun | 220 => 134 | 219 => 132 | 217 => 124 | 225 => 135 | 224 => 136 | 267 => 137 | 266 => 131 | 314 => 142 | n => n, fun | 9 => 9 | 4 => 4 | 3 => 3 | 5 => 5 | 46 => 128 | 146 => 149 | 51 => 148 | n => n, fun | 1 => 1 | n => n⟩
theorem Tryd.laysM220 : Go.Proofs.LaysM.n220 Tryd.prog Tryd.laysM220_ren := {
  mixed := by kernel_rfl
  f217 := Tryd.func124.trans (congrArg some (by kernel_rfl))
  f219 := Tryd.func132.trans (congrArg some (by kernel_rfl))
  f220 := Tryd.func134.trans (congrArg some (by kernel_rfl))
  f224 := Tryd.func136.trans (congrArg some (by kernel_rfl))
  f225 := Tryd.func135.trans (congrArg some (by kernel_rfl))
  f266 := Tryd.func131.trans (congrArg some (by kernel_rfl))
  f267 := Tryd.func137.trans (congrArg some (by kernel_rfl))
  f314 := Tryd.func142.trans (congrArg some (by kernel_rfl))
  t3 := Tryd.underlying3
  a3 := Tryd.isAgg3
  z3 := Tryd.sizeOf3
  v3 := Tryd.zeroValue3
  t4 := Tryd.underlying4
  a4 := Tryd.isAgg4
  z4 := Tryd.sizeOf4
  v4 := Tryd.zeroValue4
  t5 := Tryd.underlying5
  a5 := Tryd.isAgg5
  z5 := Tryd.sizeOf5
  v5 := Tryd.zeroValue5
  t9 := Tryd.underlying9
  a9 := Tryd.isAgg9
  z9 := Tryd.sizeOf9
  v9 := Tryd.zeroValue9
  t46 := Tryd.underlying128
  a46 := Tryd.isAgg128
  z46 := Tryd.sizeOf128
  v46 := Tryd.zeroValue128
  t51 := Tryd.underlying148
  a51 := Tryd.isAgg148
  z51 := Tryd.sizeOf148
  v51 := Tryd.zeroValue148
  t146 := Tryd.underlying149
  a146 := Tryd.isAgg149
  z146 := Tryd.sizeOf149
  v146 := Tryd.zeroValue149
  g1 := by kernel_rfl
  i3 := by kernel_rfl
  i4 := by kernel_rfl
  i5 := by kernel_rfl
  i9 := by kernel_rfl
  i46 := by kernel_rfl
  i51 := by kernel_rfl
  i146 := by kernel_rfl
  m1 := by kernel_rfl
  s1_3 := fun w h => Go.Proofs.cell_of_shapedOpen_int (zero := #[.int .i64 0]) (t := 3) h (of_decide_eq_true (by kernel_rfl)) (by kernel_rfl) rfl (by kernel_rfl) (by kernel_rfl) Tryd.underlying3 }
open Go.RowKit Go.Lib in
theorem Tryd.stringslite_Cut_shaped (s sep : ByteArray) (w : World) (h : w.ShapedOpen Tryd.prog) (hs : s.size < 4294967281) :
    Calls Tryd.prog 134 #[.string s, .string sep] w fun e w' => e = .returned (.tuple #[.string ⟨(Lib.cut s.data.toList sep.data.toList).1.toArray⟩, .string ⟨(Lib.cut s.data.toList sep.data.toList).2.1.toArray⟩, .bool (Lib.cut s.data.toList sep.data.toList).2.2]) ∧ ∃ n, w' = w.drewN n := Any.stringslite_Cut_shaped Tryd.laysM220 s sep w h hs
def Tryd.laysM145_ren : Go.Shelf.Ren := ⟨fun | 145 => 129 | 220 => 134 | 219 => 132 | 217 => 124 | 225 => 135 | 224 => 136 | 267 => 137 | 266 => 131 | 314 => 142 | n => n, fun | 9 => 9 | 4 => 4 | 59 => 168 | 3 => 3 | 5 => 5 | 46 => 128 | 146 => 149 | 51 => 148 | n => n, fun | 1 => 1 | n => n⟩
theorem Tryd.laysM145 : Go.Proofs.LaysM.n145 Tryd.prog Tryd.laysM145_ren := {
  mixed := by kernel_rfl
  f145 := Tryd.func129.trans (congrArg some (by kernel_rfl))
  f217 := Tryd.func124.trans (congrArg some (by kernel_rfl))
  f219 := Tryd.func132.trans (congrArg some (by kernel_rfl))
  f220 := Tryd.func134.trans (congrArg some (by kernel_rfl))
  f224 := Tryd.func136.trans (congrArg some (by kernel_rfl))
  f225 := Tryd.func135.trans (congrArg some (by kernel_rfl))
  f266 := Tryd.func131.trans (congrArg some (by kernel_rfl))
  f267 := Tryd.func137.trans (congrArg some (by kernel_rfl))
  f314 := Tryd.func142.trans (congrArg some (by kernel_rfl))
  t3 := Tryd.underlying3
  a3 := Tryd.isAgg3
  z3 := Tryd.sizeOf3
  v3 := Tryd.zeroValue3
  t4 := Tryd.underlying4
  a4 := Tryd.isAgg4
  z4 := Tryd.sizeOf4
  v4 := Tryd.zeroValue4
  t5 := Tryd.underlying5
  a5 := Tryd.isAgg5
  z5 := Tryd.sizeOf5
  v5 := Tryd.zeroValue5
  t9 := Tryd.underlying9
  a9 := Tryd.isAgg9
  z9 := Tryd.sizeOf9
  v9 := Tryd.zeroValue9
  t46 := Tryd.underlying128
  a46 := Tryd.isAgg128
  z46 := Tryd.sizeOf128
  v46 := Tryd.zeroValue128
  t51 := Tryd.underlying148
  a51 := Tryd.isAgg148
  z51 := Tryd.sizeOf148
  v51 := Tryd.zeroValue148
  t59 := Tryd.underlying168
  a59 := Tryd.isAgg168
  z59 := Tryd.sizeOf168
  v59 := Tryd.zeroValue168
  t146 := Tryd.underlying149
  a146 := Tryd.isAgg149
  z146 := Tryd.sizeOf149
  v146 := Tryd.zeroValue149
  g1 := by kernel_rfl
  i3 := by kernel_rfl
  i4 := by kernel_rfl
  i5 := by kernel_rfl
  i9 := by kernel_rfl
  i46 := by kernel_rfl
  i51 := by kernel_rfl
  i59 := by kernel_rfl
  i146 := by kernel_rfl
  m1 := by kernel_rfl
  s1_3 := fun w h => Go.Proofs.cell_of_shapedOpen_int (zero := #[.int .i64 0]) (t := 3) h (of_decide_eq_true (by kernel_rfl)) (by kernel_rfl) rfl (by kernel_rfl) (by kernel_rfl) Tryd.underlying3 }
open Go.RowKit Go.Lib in
theorem Tryd.strings_Cut_shaped (s sep : ByteArray) (w : World) (h : w.ShapedOpen Tryd.prog) (hs : s.size < 4294967281) :
    Calls Tryd.prog 129 #[.string s, .string sep] w fun e w' => e = .returned (.tuple #[.string ⟨(Lib.cut s.data.toList sep.data.toList).1.toArray⟩, .string ⟨(Lib.cut s.data.toList sep.data.toList).2.1.toArray⟩, .bool (Lib.cut s.data.toList sep.data.toList).2.2]) ∧ ∃ n, w' = w.drewN n := Any.strings_Cut_shaped Tryd.laysM145 s sep w h hs
def Tryd.lays152_ren : Go.Shelf.Ren := ⟨fun | 152 => 138 | 137 => 115 | 119 => 143 | 224 => 136 | 225 => 135 | 217 => 124 | 266 => 131 | n => n, fun | 9 => 9 | 21 => 21 | 3 => 3 | 4 => 4 | 5 => 5 | 0 => 0 | 46 => 128 | n => n, fun | n => n⟩
theorem Tryd.lays152 : Go.Proofs.Lays.n152 Tryd.prog Tryd.lays152_ren := {
  mixed := by kernel_rfl
  f119 := Tryd.func143.trans (congrArg some (by kernel_rfl))
  f137 := Tryd.func115.trans (congrArg some (by kernel_rfl))
  f152 := Tryd.func138.trans (congrArg some (by kernel_rfl))
  f217 := Tryd.func124.trans (congrArg some (by kernel_rfl))
  f224 := Tryd.func136.trans (congrArg some (by kernel_rfl))
  f225 := Tryd.func135.trans (congrArg some (by kernel_rfl))
  f266 := Tryd.func131.trans (congrArg some (by kernel_rfl))
  t0 := Tryd.underlying0
  a0 := Tryd.isAgg0
  z0 := Tryd.sizeOf0
  v0 := Tryd.zeroValue0
  t3 := Tryd.underlying3
  a3 := Tryd.isAgg3
  z3 := Tryd.sizeOf3
  v3 := Tryd.zeroValue3
  t4 := Tryd.underlying4
  a4 := Tryd.isAgg4
  z4 := Tryd.sizeOf4
  v4 := Tryd.zeroValue4
  t5 := Tryd.underlying5
  a5 := Tryd.isAgg5
  z5 := Tryd.sizeOf5
  v5 := Tryd.zeroValue5
  t9 := Tryd.underlying9
  a9 := Tryd.isAgg9
  z9 := Tryd.sizeOf9
  v9 := Tryd.zeroValue9
  t21 := Tryd.underlying21
  a21 := Tryd.isAgg21
  z21 := Tryd.sizeOf21
  v21 := Tryd.zeroValue21
  t46 := Tryd.underlying128
  a46 := Tryd.isAgg128
  z46 := Tryd.sizeOf128
  v46 := Tryd.zeroValue128 }
open Go.RowKit Go.Lib in
theorem Tryd.strings_IndexRune_ascii (s : ByteArray) (r : Int) (w : World) (h0 : 0 ≤ r) (h1 : r < 128) :
    Calls Tryd.prog 138 #[.string s, .int .i32 r] w fun e w' => e = .returned (.int .i64 (Lib.indexByte s.data.toList r.toNat.toUInt8)) ∧ w' = w := Any.strings_IndexRune_ascii Tryd.lays152 s r w h0 h1
def Tryd.lays226_ren : Go.Shelf.Ren := ⟨fun | 226 => 139 | n => n, fun | 3 => 3 | 4 => 4 | n => n, fun | n => n⟩
theorem Tryd.lays226 : Go.Proofs.Lays.n226 Tryd.prog Tryd.lays226_ren := {
  mixed := by kernel_rfl
  f226 := Tryd.func139.trans (congrArg some (by kernel_rfl))
  t3 := Tryd.underlying3
  a3 := Tryd.isAgg3
  z3 := Tryd.sizeOf3
  v3 := Tryd.zeroValue3
  t4 := Tryd.underlying4
  a4 := Tryd.isAgg4
  z4 := Tryd.sizeOf4
  v4 := Tryd.zeroValue4 }
open Go.RowKit Go.Lib in
theorem Tryd.strings_shouldUseASCIISet (n : Int) (w : World) :
    Calls Tryd.prog 139 #[.int .i64 n] w fun e w' => e = .returned (.bool (decide (8 < n))) ∧ w' = w := Any.strings_shouldUseASCIISet Tryd.lays226 n w
def Tryd.lays153_ren : Go.Shelf.Ren := ⟨fun | 153 => 133 | 152 => 138 | 226 => 139 | 227 => 140 | 228 => 141 | 137 => 115 | 119 => 143 | 224 => 136 | 225 => 135 | 217 => 124 | 266 => 131 | n => n, fun | 9 => 9 | 3 => 3 | 4 => 4 | 5 => 5 | 21 => 21 | 117 => 175 | 116 => 174 | 0 => 0 | 46 => 128 | 124 => 179 | n => n, fun | n => n⟩
theorem Tryd.lays153 : Go.Proofs.Lays.n153 Tryd.prog Tryd.lays153_ren := {
  mixed := by kernel_rfl
  f119 := Tryd.func143.trans (congrArg some (by kernel_rfl))
  f137 := Tryd.func115.trans (congrArg some (by kernel_rfl))
  f152 := Tryd.func138.trans (congrArg some (by kernel_rfl))
  f153 := Tryd.func133.trans (congrArg some (by kernel_rfl))
  f217 := Tryd.func124.trans (congrArg some (by kernel_rfl))
  f224 := Tryd.func136.trans (congrArg some (by kernel_rfl))
  f225 := Tryd.func135.trans (congrArg some (by kernel_rfl))
  f226 := Tryd.func139.trans (congrArg some (by kernel_rfl))
  f227 := Tryd.func140.trans (congrArg some (by kernel_rfl))
  f228 := Tryd.func141.trans (congrArg some (by kernel_rfl))
  f266 := Tryd.func131.trans (congrArg some (by kernel_rfl))
  t0 := Tryd.underlying0
  a0 := Tryd.isAgg0
  z0 := Tryd.sizeOf0
  v0 := Tryd.zeroValue0
  t3 := Tryd.underlying3
  a3 := Tryd.isAgg3
  z3 := Tryd.sizeOf3
  v3 := Tryd.zeroValue3
  t4 := Tryd.underlying4
  a4 := Tryd.isAgg4
  z4 := Tryd.sizeOf4
  v4 := Tryd.zeroValue4
  t5 := Tryd.underlying5
  a5 := Tryd.isAgg5
  z5 := Tryd.sizeOf5
  v5 := Tryd.zeroValue5
  t9 := Tryd.underlying9
  a9 := Tryd.isAgg9
  z9 := Tryd.sizeOf9
  v9 := Tryd.zeroValue9
  t21 := Tryd.underlying21
  a21 := Tryd.isAgg21
  z21 := Tryd.sizeOf21
  v21 := Tryd.zeroValue21
  t46 := Tryd.underlying128
  a46 := Tryd.isAgg128
  z46 := Tryd.sizeOf128
  v46 := Tryd.zeroValue128
  t116 := Tryd.underlying174
  a116 := Tryd.isAgg174
  z116 := Tryd.sizeOf174
  t117 := Tryd.underlying175
  a117 := Tryd.isAgg175
  z117 := Tryd.sizeOf175
  v117 := Tryd.zeroValue175
  t124 := Tryd.underlying179
  a124 := Tryd.isAgg179
  z124 := Tryd.sizeOf179
  v124 := Tryd.zeroValue179 }
open Go.RowKit Go.Lib in
theorem Tryd.strings_IndexAny_none (s chars : ByteArray) (w : World) (h0 : chars.size = 0) :
    Calls Tryd.prog 133 #[.string s, .string chars] w fun e w' => e = .returned (.int .i64 (Lib.indexAny s.data.toList chars.data.toList)) ∧ w' = w := Any.strings_IndexAny_none Tryd.lays153 s chars w h0
open Go.RowKit Go.Lib in
theorem Tryd.strings_IndexAny_one (s chars : ByteArray) (w : World) (h1 : chars.size = 1) (hascii : ∀ (j : Nat) b, chars.data.toList[j]? = some b → b.toNat < 128) :
    Calls Tryd.prog 133 #[.string s, .string chars] w fun e w' => e = .returned (.int .i64 (Lib.indexAny s.data.toList chars.data.toList)) ∧ w' = w := Any.strings_IndexAny_one Tryd.lays153 s chars w h1 hascii
open Go.RowKit Go.Lib in
theorem Tryd.strings_IndexAny_short (s chars : ByteArray) (w : World) (h2 : 2 ≤ chars.size) (h8 : s.size ≤ 8) (hascii : ∀ (j : Nat) b, s.data.toList[j]? = some b → b.toNat < 128) :
    Calls Tryd.prog 133 #[.string s, .string chars] w fun e w' => e = .returned (.int .i64 (Lib.indexAny s.data.toList chars.data.toList)) ∧ ∃ pos, w' = w.iter s pos := Any.strings_IndexAny_short Tryd.lays153 s chars w h2 h8 hascii
def Tryd.lays227_ren : Go.Shelf.Ren := ⟨fun | 227 => 140 | n => n, fun | 9 => 9 | 116 => 174 | 4 => 4 | 0 => 0 | 3 => 3 | 5 => 5 | n => n, fun | n => n⟩
theorem Tryd.lays227 : Go.Proofs.Lays.n227 Tryd.prog Tryd.lays227_ren := {
  mixed := by kernel_rfl
  f227 := Tryd.func140.trans (congrArg some (by kernel_rfl))
  t0 := Tryd.underlying0
  a0 := Tryd.isAgg0
  z0 := Tryd.sizeOf0
  v0 := Tryd.zeroValue0
  t3 := Tryd.underlying3
  a3 := Tryd.isAgg3
  z3 := Tryd.sizeOf3
  v3 := Tryd.zeroValue3
  t4 := Tryd.underlying4
  a4 := Tryd.isAgg4
  z4 := Tryd.sizeOf4
  v4 := Tryd.zeroValue4
  t5 := Tryd.underlying5
  a5 := Tryd.isAgg5
  z5 := Tryd.sizeOf5
  v5 := Tryd.zeroValue5
  t9 := Tryd.underlying9
  a9 := Tryd.isAgg9
  z9 := Tryd.sizeOf9
  v9 := Tryd.zeroValue9
  t116 := Tryd.underlying174
  a116 := Tryd.isAgg174
  z116 := Tryd.sizeOf174 }
open Go.RowKit Go.Lib in
theorem Tryd.strings_makeASCIISet (hv116 : ∀ w, (zeroValue 174).run Tryd.prog w = .ok (.agg (Array.replicate 256 (.bool false))) w) (chars : ByteArray) (w : World) (hs : chars.size < 4294967281) (hascii : ∀ (j : Nat) b, chars.data.toList[j]? = some b → b.toNat < 128) :
    Calls Tryd.prog 140 #[.string chars] w fun e w' => e = .returned (.tuple #[.agg (Lib.setCells chars.data.toList), .bool true]) ∧ w' = w.alloc (.cells (Lib.setCells chars.data.toList) 174) := Any.strings_makeASCIISet Tryd.lays227 hv116 (by kernel_rfl) chars w hs hascii
def Tryd.lays228_ren : Go.Shelf.Ren := ⟨fun | 228 => 141 | n => n, fun | 124 => 179 | 5 => 5 | 4 => 4 | 0 => 0 | 116 => 174 | n => n, fun | n => n⟩
theorem Tryd.lays228 : Go.Proofs.Lays.n228 Tryd.prog Tryd.lays228_ren := {
  mixed := by kernel_rfl
  f228 := Tryd.func141.trans (congrArg some (by kernel_rfl))
  t0 := Tryd.underlying0
  a0 := Tryd.isAgg0
  z0 := Tryd.sizeOf0
  v0 := Tryd.zeroValue0
  t4 := Tryd.underlying4
  a4 := Tryd.isAgg4
  z4 := Tryd.sizeOf4
  v4 := Tryd.zeroValue4
  t5 := Tryd.underlying5
  a5 := Tryd.isAgg5
  z5 := Tryd.sizeOf5
  v5 := Tryd.zeroValue5
  t116 := Tryd.underlying174
  a116 := Tryd.isAgg174
  z116 := Tryd.sizeOf174
  t124 := Tryd.underlying179
  a124 := Tryd.isAgg179
  z124 := Tryd.sizeOf179
  v124 := Tryd.zeroValue179 }
open Go.RowKit Go.Lib in
theorem Tryd.asciiSet_contains (b : Nat) (x : UInt8) (v : Bool) (w : World) (hc : w.cell? ⟨b, x.toNat, none⟩ = some (.bool v)) :
    Calls Tryd.prog 141 #[.pointer (some ⟨b, 0, none⟩), .int .u8 x.toNat] w fun e w' => e = .returned (.bool v) ∧ w' = w := Any.asciiSet_contains Tryd.lays228 b x v w hc
open Go.RowKit Go.Lib in
theorem Tryd.strings_IndexAny_long (hv116 : ∀ w, (zeroValue 174).run Tryd.prog w = .ok (.agg (Array.replicate 256 (.bool false))) w) (s chars : ByteArray) (w : World) (h2 : 2 ≤ chars.size) (h8 : 8 < s.size) (hs : s.size < 4294967281) (hcs : chars.size < 4294967281) (hascii : ∀ (j : Nat) b, chars.data.toList[j]? = some b → b.toNat < 128) :
    Calls Tryd.prog 133 #[.string s, .string chars] w fun e w' => e = .returned (.int .i64 (Lib.indexAny s.data.toList chars.data.toList)) ∧ w' = ((w.alloc (.cells (Lib.setCells chars.data.toList) 174)).alloc (.cells (Lib.setCells chars.data.toList) 174)) := Any.strings_IndexAny_long Tryd.lays153 hv116 (by kernel_rfl) s chars w h2 h8 hs hcs hascii
open Go.RowKit Go.Lib in
theorem Tryd.strings_IndexAny (hv116 : ∀ w, (zeroValue 174).run Tryd.prog w = .ok (.agg (Array.replicate 256 (.bool false))) w) (s chars : ByteArray) (w : World) (hs : s.size < 4294967281) (hcs : chars.size < 4294967281) (has : ∀ (j : Nat) b, s.data.toList[j]? = some b → b.toNat < 128) (hac : ∀ (j : Nat) b, chars.data.toList[j]? = some b → b.toNat < 128) :
    Calls Tryd.prog 133 #[.string s, .string chars] w fun e w' => e = .returned (.int .i64 (Lib.indexAny s.data.toList chars.data.toList)) ∧ Below w.heap.size w w' := Any.strings_IndexAny Tryd.lays153 hv116 (by kernel_rfl) s chars w hs hcs has hac
def Tryd.lays150_ren : Go.Shelf.Ren := ⟨fun | 150 => 127 | 153 => 133 | 152 => 138 | 226 => 139 | 227 => 140 | 228 => 141 | 137 => 115 | 119 => 143 | 224 => 136 | 225 => 135 | 217 => 124 | 266 => 131 | n => n, fun | 9 => 9 | 4 => 4 | 3 => 3 | 5 => 5 | 21 => 21 | 117 => 175 | 116 => 174 | 0 => 0 | 46 => 128 | 124 => 179 | n => n, fun | n => n⟩
theorem Tryd.lays150 : Go.Proofs.Lays.n150 Tryd.prog Tryd.lays150_ren := {
  mixed := by kernel_rfl
  f119 := Tryd.func143.trans (congrArg some (by kernel_rfl))
  f137 := Tryd.func115.trans (congrArg some (by kernel_rfl))
  f150 := Tryd.func127.trans (congrArg some (by kernel_rfl))
  f152 := Tryd.func138.trans (congrArg some (by kernel_rfl))
  f153 := Tryd.func133.trans (congrArg some (by kernel_rfl))
  f217 := Tryd.func124.trans (congrArg some (by kernel_rfl))
  f224 := Tryd.func136.trans (congrArg some (by kernel_rfl))
  f225 := Tryd.func135.trans (congrArg some (by kernel_rfl))
  f226 := Tryd.func139.trans (congrArg some (by kernel_rfl))
  f227 := Tryd.func140.trans (congrArg some (by kernel_rfl))
  f228 := Tryd.func141.trans (congrArg some (by kernel_rfl))
  f266 := Tryd.func131.trans (congrArg some (by kernel_rfl))
  t0 := Tryd.underlying0
  a0 := Tryd.isAgg0
  z0 := Tryd.sizeOf0
  v0 := Tryd.zeroValue0
  t3 := Tryd.underlying3
  a3 := Tryd.isAgg3
  z3 := Tryd.sizeOf3
  v3 := Tryd.zeroValue3
  t4 := Tryd.underlying4
  a4 := Tryd.isAgg4
  z4 := Tryd.sizeOf4
  v4 := Tryd.zeroValue4
  t5 := Tryd.underlying5
  a5 := Tryd.isAgg5
  z5 := Tryd.sizeOf5
  v5 := Tryd.zeroValue5
  t9 := Tryd.underlying9
  a9 := Tryd.isAgg9
  z9 := Tryd.sizeOf9
  v9 := Tryd.zeroValue9
  t21 := Tryd.underlying21
  a21 := Tryd.isAgg21
  z21 := Tryd.sizeOf21
  v21 := Tryd.zeroValue21
  t46 := Tryd.underlying128
  a46 := Tryd.isAgg128
  z46 := Tryd.sizeOf128
  v46 := Tryd.zeroValue128
  t116 := Tryd.underlying174
  a116 := Tryd.isAgg174
  z116 := Tryd.sizeOf174
  t117 := Tryd.underlying175
  a117 := Tryd.isAgg175
  z117 := Tryd.sizeOf175
  v117 := Tryd.zeroValue175
  t124 := Tryd.underlying179
  a124 := Tryd.isAgg179
  z124 := Tryd.sizeOf179
  v124 := Tryd.zeroValue179 }
open Go.RowKit Go.Lib in
theorem Tryd.strings_ContainsAny (hv116 : ∀ w, (zeroValue 174).run Tryd.prog w = .ok (.agg (Array.replicate 256 (.bool false))) w) (s chars : ByteArray) (w : World) (hs : s.size < 4294967281) (hcs : chars.size < 4294967281) (has : ∀ (j : Nat) b, s.data.toList[j]? = some b → b.toNat < 128) (hac : ∀ (j : Nat) b, chars.data.toList[j]? = some b → b.toNat < 128) :
    Calls Tryd.prog 127 #[.string s, .string chars] w fun e w' => e = .returned (.bool (Lib.containsAny s.data.toList chars.data.toList)) ∧ Below w.heap.size w w' := Any.strings_ContainsAny Tryd.lays150 hv116 (by kernel_rfl) s chars w hs hcs has hac
open Go.RowKit Go.Lib in
theorem Tryd.strings_IndexAny_laid (s chars : ByteArray) (w : World) (hs : s.size < 4294967281) (hcs : chars.size < 4294967281) (has : ∀ (j : Nat) b, s.data.toList[j]? = some b → b.toNat < 128) (hac : ∀ (j : Nat) b, chars.data.toList[j]? = some b → b.toNat < 128) :
    Calls Tryd.prog 133 #[.string s, .string chars] w fun e w' => e = .returned (.int .i64 (Lib.indexAny s.data.toList chars.data.toList)) ∧ Below w.heap.size w w' := Any.strings_IndexAny_laid Tryd.lays153 (by kernel_rfl) s chars w hs hcs has hac
open Go.RowKit Go.Lib in
theorem Tryd.strings_ContainsAny_laid (s chars : ByteArray) (w : World) (hs : s.size < 4294967281) (hcs : chars.size < 4294967281) (has : ∀ (j : Nat) b, s.data.toList[j]? = some b → b.toNat < 128) (hac : ∀ (j : Nat) b, chars.data.toList[j]? = some b → b.toNat < 128) :
    Calls Tryd.prog 127 #[.string s, .string chars] w fun e w' => e = .returned (.bool (Lib.containsAny s.data.toList chars.data.toList)) ∧ Below w.heap.size w w' := Any.strings_ContainsAny_laid Tryd.lays150 (by kernel_rfl) s chars w hs hcs has hac
def Tryd.lays264_ren : Go.Shelf.Ren := ⟨fun | 264 => 107 | n => n, fun | 53 => 151 | 46 => 128 | n => n, fun | n => n⟩
theorem Tryd.lays264 : Go.Proofs.Lays.n264 Tryd.prog Tryd.lays264_ren := {
  mixed := by kernel_rfl
  f264 := Tryd.func107.trans (congrArg some (by kernel_rfl))
  t46 := Tryd.underlying128
  a46 := Tryd.isAgg128
  z46 := Tryd.sizeOf128
  v46 := Tryd.zeroValue128
  t53 := Tryd.underlying151
  a53 := Tryd.isAgg151
  z53 := Tryd.sizeOf151
  v53 := Tryd.zeroValue151 }
open Go.RowKit Go.Lib in
theorem Tryd.bits_Mul64 (x y : Nat) (hx : x < 18446744073709551616) (hy : y < 18446744073709551616) (w : World) :
    Calls Tryd.prog 107 #[.int .u64 x, .int .u64 y] w fun e w' => e = .returned (.tuple #[.int .u64 ((x * y / 18446744073709551616 : Nat) : Int), .int .u64 ((x * y % 18446744073709551616 : Nat) : Int)]) ∧ w' = w := Any.bits_Mul64 Tryd.lays264 x y hx hy w
def Tryd.lays212_ren : Go.Shelf.Ren := ⟨fun | 212 => 82 | 263 => 106 | 264 => 107 | n => n, fun | 46 => 128 | 51 => 148 | 146 => 149 | 53 => 151 | 148 => 152 | n => n, fun | n => n⟩
theorem Tryd.lays212 : Go.Proofs.Lays.n212 Tryd.prog Tryd.lays212_ren := {
  mixed := by kernel_rfl
  f212 := Tryd.func82.trans (congrArg some (by kernel_rfl))
  f263 := Tryd.func106.trans (congrArg some (by kernel_rfl))
  f264 := Tryd.func107.trans (congrArg some (by kernel_rfl))
  t46 := Tryd.underlying128
  a46 := Tryd.isAgg128
  z46 := Tryd.sizeOf128
  v46 := Tryd.zeroValue128
  t51 := Tryd.underlying148
  a51 := Tryd.isAgg148
  z51 := Tryd.sizeOf148
  v51 := Tryd.zeroValue148
  t53 := Tryd.underlying151
  a53 := Tryd.isAgg151
  z53 := Tryd.sizeOf151
  v53 := Tryd.zeroValue151
  t146 := Tryd.underlying149
  a146 := Tryd.isAgg149
  z146 := Tryd.sizeOf149
  v146 := Tryd.zeroValue149
  t148 := Tryd.underlying152
  a148 := Tryd.isAgg152
  z148 := Tryd.sizeOf152
  v148 := Tryd.zeroValue152 }
open Go.RowKit Go.Lib in
theorem Tryd.bits_Mul (x y : Nat) (hx : x < 18446744073709551616) (hy : y < 18446744073709551616) (w : World) :
    Calls Tryd.prog 82 #[.int .u64 x, .int .u64 y] w fun e w' => e = .returned (.tuple #[.int .u64 ((x * y / 18446744073709551616 : Nat) : Int), .int .u64 ((x * y % 18446744073709551616 : Nat) : Int)]) ∧ w' = w := Any.bits_Mul Tryd.lays212 x y hx hy w
def Tryd.lays109_ren : Go.Shelf.Ren := ⟨fun | 109 => 125 | n => n, fun | 31 => 161 | 9 => 9 | 3 => 3 | 0 => 0 | 4 => 4 | n => n, fun | n => n⟩
theorem Tryd.lays109 : Go.Proofs.Lays.n109 Tryd.prog Tryd.lays109_ren := {
  mixed := by kernel_rfl
  f109 := Tryd.func125.trans (congrArg some (by kernel_rfl))
  t0 := Tryd.underlying0
  a0 := Tryd.isAgg0
  z0 := Tryd.sizeOf0
  v0 := Tryd.zeroValue0
  t3 := Tryd.underlying3
  a3 := Tryd.isAgg3
  z3 := Tryd.sizeOf3
  v3 := Tryd.zeroValue3
  t4 := Tryd.underlying4
  a4 := Tryd.isAgg4
  z4 := Tryd.sizeOf4
  v4 := Tryd.zeroValue4
  t9 := Tryd.underlying9
  a9 := Tryd.isAgg9
  z9 := Tryd.sizeOf9
  v9 := Tryd.zeroValue9
  t31 := Tryd.underlying161
  a31 := Tryd.isAgg161
  z31 := Tryd.sizeOf161
  v31 := Tryd.zeroValue161 }
open Go.Lib in
theorem Tryd.slices_Index_string (b off n c : Nat) (zs : List ByteArray) (x : ByteArray) (w : World) (hz : n ≤ zs.length) (hbig : n ≤ 9223372036854775807) (hc : ∀ j, j < zs.length → w.cell? ⟨b, off + j, none⟩ = some (.string (zs.getD j ByteArray.empty))) :
    Calls Tryd.prog 125 #[.slice (some ⟨b, off, none⟩) n c, .string x] w fun e w' => e = .returned (.int .i64 (Lib.idxOfS (zs.take n) x)) ∧ w' = w := Any.slices_Index_string Tryd.lays109 b off n c zs x w hz hbig hc
open Go.Lib in
theorem Tryd.slices_Index_string_empty (a : Option Addr) (c : Nat) (x : ByteArray) (w : World) :
    Calls Tryd.prog 125 #[.slice a 0 c, .string x] w fun e w' => e = .returned (.int .i64 (Lib.idxOfS [] x)) ∧ w' = w := Any.slices_Index_string_empty Tryd.lays109 a c x w
def Tryd.lays110_ren : Go.Shelf.Ren := ⟨fun | 110 => 116 | 109 => 125 | n => n, fun | 31 => 161 | 9 => 9 | 4 => 4 | 3 => 3 | 0 => 0 | n => n, fun | n => n⟩
theorem Tryd.lays110 : Go.Proofs.Lays.n110 Tryd.prog Tryd.lays110_ren := {
  mixed := by kernel_rfl
  f109 := Tryd.func125.trans (congrArg some (by kernel_rfl))
  f110 := Tryd.func116.trans (congrArg some (by kernel_rfl))
  t0 := Tryd.underlying0
  a0 := Tryd.isAgg0
  z0 := Tryd.sizeOf0
  v0 := Tryd.zeroValue0
  t3 := Tryd.underlying3
  a3 := Tryd.isAgg3
  z3 := Tryd.sizeOf3
  v3 := Tryd.zeroValue3
  t4 := Tryd.underlying4
  a4 := Tryd.isAgg4
  z4 := Tryd.sizeOf4
  v4 := Tryd.zeroValue4
  t9 := Tryd.underlying9
  a9 := Tryd.isAgg9
  z9 := Tryd.sizeOf9
  v9 := Tryd.zeroValue9
  t31 := Tryd.underlying161
  a31 := Tryd.isAgg161
  z31 := Tryd.sizeOf161
  v31 := Tryd.zeroValue161 }
open Go.Lib in
theorem Tryd.slices_Contains_string (b off n c : Nat) (zs : List ByteArray) (x : ByteArray) (w : World) (hz : n ≤ zs.length) (hbig : n ≤ 9223372036854775807) (hc : ∀ j, j < zs.length → w.cell? ⟨b, off + j, none⟩ = some (.string (zs.getD j ByteArray.empty))) :
    Calls Tryd.prog 116 #[.slice (some ⟨b, off, none⟩) n c, .string x] w fun e w' => e = .returned (.bool (Lib.containsS (zs.take n) x)) ∧ w' = w := Any.slices_Contains_string Tryd.lays110 b off n c zs x w hz hbig hc
open Go.Lib in
theorem Tryd.slices_Contains_string_empty (a : Option Addr) (c : Nat) (x : ByteArray) (w : World) :
    Calls Tryd.prog 116 #[.slice a 0 c, .string x] w fun e w' => e = .returned (.bool false) ∧ w' = w := Any.slices_Contains_string_empty Tryd.lays110 a c x w
end Go.Proofs

/-
  Chapter 2 on lists of bytes: the scheme of an address, whether one may be led to it, an address without blanks at its ends; and what holds of them.
-/
namespace Go.Proofs.YtbhcklkbckacpaaDoor
open Go.RowKit
namespace Lk

def small1 (c : UInt8) : UInt8 := if 65 ≤ c ∧ c ≤ 90 then c + 32 else c
def small (l : List UInt8) : List UInt8 := l.map small1
def path : List UInt8 := [47, 63, 35]
def head (l : List UInt8) : List UInt8 := l.takeWhile (fun c => c != 58)
def scheme (l : List UInt8) : List UInt8 := if l.contains 58 && !(Lib.containsAny (head l) path) then small (head l) else []
def barred : List UInt8 := [34, 39, 60, 62, 92, 96]
def stand (c : UInt8) : Bool := decide (33 ≤ c) && decide (c ≤ 126) && !(barred.contains c)
def leads : List (List UInt8) := [[104, 116, 116, 112], [104, 116, 116, 112, 115], [109, 97, 105, 108, 116, 111]]
def lead (x : List UInt8) : Bool := leads.contains x
def may (l : List UInt8) : Bool := decide (1 ≤ l.length) && decide (l.length ≤ 24) && l.all stand && lead (scheme l)
def blanks : List UInt8 := [32, 9, 10, 13, 12]
/-- Without what p holds of at its left end. -/
def tl (p : UInt8 → Bool) : List UInt8 → List UInt8
  | [] => []
  | x :: t => if p x then tl p t else x :: t
/-- Without what p holds of at its right end. -/
def tr (p : UInt8 → Bool) : List UInt8 → List UInt8
  | [] => []
  | x :: t => match tr p t with
    | [] => if p x then [] else [x]
    | y :: u => x :: y :: u
def bl (c : UInt8) : Bool := blanks.contains c
def trim (l : List UInt8) : List UInt8 := tl bl (tr bl l)
def clean (l : List UInt8) : List UInt8 := if may (trim l) then trim l else []

theorem tr_snoc (p : UInt8 → Bool) (x : UInt8) : ∀ l, tr p (l ++ [x]) = if p x then tr p l else l ++ [x]
  | [] => by simp [tr]
  | y :: t => by
    have ih := tr_snoc p x t
    rw [List.cons_append, tr, ih]
    cases hp : p x
    · simp only [Bool.false_eq_true, if_false]
      cases t with
      | nil => rfl
      | cons z u => rfl
    · simp only [if_true]
      rw [tr]
theorem tr_tl (p : UInt8 → Bool) : ∀ l, tl p (tr p l) = tr p (tl p l)
  | [] => rfl
  | x :: t => by
    have ih := tr_tl p t
    cases hp : p x
    · have h1 : tl p (x :: t) = x :: t := by simp [tl, hp]
      rw [h1, tr]
      cases htr : tr p t with
      | nil => simp [tl, hp]
      | cons y u => simp [tl, hp]
    · have h1 : tl p (x :: t) = tl p t := by simp [tl, hp]
      rw [h1, ← ih, tr]
      cases htr : tr p t with
      | nil => simp [tl, hp]
      | cons y u => simp [tl, hp]
theorem tl_len (p : UInt8 → Bool) : ∀ l, (tl p l).length ≤ l.length
  | [] => Nat.le_refl _
  | x :: t => by
    rw [tl]
    split
    · exact Nat.le_trans (tl_len p t) (by simp)
    · exact Nat.le_refl _
theorem tr_len (p : UInt8 → Bool) : ∀ l, (tr p l).length ≤ l.length
  | [] => Nat.le_refl _
  | x :: t => by
    have ih := tr_len p t
    rw [tr]
    cases h : tr p t with
    | nil => simp only; split <;> simp
    | cons y u => rw [h] at ih; simp at ih ⊢; omega
theorem trim_len (l : List UInt8) : (trim l).length ≤ l.length := Nat.le_trans (tl_len _ _) (tr_len _ _)

theorem head_at : ∀ (l : List UInt8) (k : Nat), Lib.indexByte l 58 = k → k < l.length ∧ l.take k = head l ∧ l.contains 58 = true
  | [], k, h => by simp [Lib.indexByte] at h
  | b :: l, k, h => by
    rw [Lib.indexByte] at h
    by_cases hb : b = 58
    · subst hb
      simp at h
      obtain rfl : k = 0 := by omega
      exact ⟨by simp, by simp [head], by simp⟩
    · have hb' : (b == 58) = false := by simpa using hb
      rw [hb'] at h
      by_cases hi : Lib.indexByte l 58 = -1
      · rw [hi] at h; simp at h
      · have hi' : (Lib.indexByte l 58 == -1) = false := by simpa using hi
        have hge := Lib.indexByte_ge l 58
        rw [hi'] at h
        simp at h
        match k, h with
        | 0, h => omega
        | k + 1, h =>
          obtain ⟨h1, h2, h3⟩ := head_at l k (by omega)
          refine ⟨by simp; omega, ?_, by simp; right; simpa using h3⟩
          simp [head, hb]
          rw [h2]; rfl
theorem no_head (l : List UInt8) (h : Lib.indexByte l 58 = -1) : l.contains 58 = false := by
  rw [Lib.contains_iff_indexByte, h]; rfl
theorem idx_cases (l : List UInt8) : Lib.indexByte l 58 = -1 ∨ ∃ k : Nat, Lib.indexByte l 58 = k := by
  have hge := Lib.indexByte_ge l 58
  by_cases h : Lib.indexByte l 58 = -1
  · exact .inl h
  · exact .inr ⟨(Lib.indexByte l 58).toNat, by omega⟩
theorem head_len (l : List UInt8) : (head l).length ≤ l.length := (List.takeWhile_sublist _).length_le
theorem small_len (l : List UInt8) : (small l).length = l.length := by simp [small]
theorem scheme_len (l : List UInt8) : (scheme l).length ≤ l.length := by
  unfold scheme
  split
  · rw [small_len]; exact head_len l
  · simp
end Lk

/-- The text of a list of bytes. -/
def B (l : List UInt8) : ByteArray := ⟨l.toArray⟩
theorem B_data (l : List UInt8) : (B l).data.toList = l := rfl
theorem B_size (l : List UInt8) : (B l).size = l.length := by simp [B, ByteArray.size]
theorem B_of (s : ByteArray) : B s.data.toList = s := rfl
theorem len_list (s : ByteArray) : s.data.toList.length = s.size := by simp
theorem B_inj {a b : List UInt8} (h : B a = B b) : a = b := by
  have := congrArg (fun s : ByteArray => s.data.toList) h
  simpa [B] using this
theorem ext_list {a b : ByteArray} (h : a.data.toList = b.data.toList) : a = b := by
  apply ByteArray.ext
  apply Array.ext'
  exact h
theorem extract_B (s : ByteArray) (a b : Nat) : s.extract a b = B ((s.data.toList.drop a).take (b - a)) := by
  apply ext_list
  rw [Lib.extract_data]
  rfl
end Go.Proofs.YtbhcklkbckacpaaDoor

/-
  A byte of a text.
-/
namespace Go.Proofs.YtbhcklkbckacpaaDoor
open Go.RowKit

theorem run_index_at (s : ByteArray) (k : Nat) (h : k < s.size) (w : World) : (Instr.index 9 (.string s) (.int .i64 k)).run Tryd.prog w = .ok (.int .u8 (s[k]'h).toNat) w := by
  have ht := Tryd.underlying9
  simp [go_sem, ht, h]
end Go.Proofs.YtbhcklkbckacpaaDoor

/-
  Texts as bytes: parts of a text, a text turned into bytes and written.
-/
namespace Go.Proofs.YtbhcklkbckacpaaDoor
open Go.RowKit

theorem slice_to (s : ByteArray) (k : Nat) (h : k ≤ s.size) (w : World) : (Instr.slice 9 (.string s) none (some (.int .i64 k)) none).run Tryd.prog w = .ok (.string (B (s.data.toList.take k))) w := by
  have := run_slice_string_h (P := Tryd.prog) w 9 s Tryd.underlying9 .i64 (k : Int) (by omega) (by omega)
  rw [this, extract_B]
  simp
theorem slice_from (s : ByteArray) (k : Nat) (h : k ≤ s.size) (w : World) : (Instr.slice 9 (.string s) (some (.int .i64 k)) none none).run Tryd.prog w = .ok (.string (B (s.data.toList.drop k))) w := by
  have := run_slice_string_l (P := Tryd.prog) w 9 s Tryd.underlying9 .i64 (k : Int) (by omega) (by omega)
  rw [this, extract_B, List.take_of_length_le (by simp)]
  simp

/-- In block b lie the bytes l, and may be written; below it all is as it was. -/
structure SBuf (b : Nat) (w wr : World) (l : List UInt8) : Prop where
  blk : ∃ cs f, wr.heap[b]? = some (.cells cs 5 (f, f + 1)) ∧ l.length ≤ f ∧ ∀ j (hj : j < l.length), cs[j]? = some (.int .u8 l[j].toNat)
  below : Below b w wr
theorem SBuf.start (w : World) (s : ByteArray) : SBuf w.heap.size w (Lib.bytesWorld w 5 s) s.data.toList := by
  refine ⟨⟨_, _, Lib.bytesWorld_at_new w 5 s, ?_, ?_⟩, ⟨rfl, rfl, rfl, by rw [Lib.bytesWorld_size]; omega, fun k hk => Lib.bytesWorld_at_old w 5 s k hk⟩⟩
  · simp [Lib.bytesCells]
  · intro j hj
    simp [Lib.bytesCells, Array.getElem?_append] at hj ⊢
    rw [if_pos (by simpa using hj), Array.getElem?_eq_getElem (by simpa using hj)]
    simp
theorem SBuf.cell {b : Nat} {w wr : World} {l : List UInt8} (h : SBuf b w wr l) (j : Nat) (hj : j < l.length) : wr.cell? ⟨b, j, none⟩ = some (.int .u8 l[j].toNat) := by
  obtain ⟨cs, f, hg, _, hc⟩ := h.blk
  simp [World.cell?, hg, hc j hj]
theorem SBuf.frozen {b : Nat} {w wr : World} {l : List UInt8} (h : SBuf b w wr l) (j : Nat) (hj : j < l.length) : wr.frozen? ⟨b, j, none⟩ = false := by
  obtain ⟨cs, f, hg, hf, hc⟩ := h.blk
  simp [World.frozen?, hg]
  omega
theorem SBuf.set {b : Nat} {w wr : World} {l : List UInt8} (h : SBuf b w wr l) (j : Nat) (c : UInt8) : SBuf b w (wr.setCell ⟨b, j, none⟩ (.int .u8 c.toNat)) (l.set j c) := by
  obtain ⟨cs, f, hg, hf, hc⟩ := h.blk
  obtain ⟨hlt, he⟩ := Array.getElem?_eq_some_iff.1 hg
  refine ⟨⟨cs.set! j (.int .u8 c.toNat), f, ?_, by simpa using hf, ?_⟩, h.below.setCell (Nat.le_refl _) _⟩
  · simp [World.setCell, hlt, Array.getElem_modify, he]
  · intro i hi
    have hi' : i < l.length := by simpa using hi
    by_cases hji : j = i
    · subst hji
      have := hc j hi'
      have hsz : j < cs.size := (Array.getElem?_eq_some_iff.1 this).1
      simp [hsz]
    · rw [List.getElem_set_ne hji]
      have := hc i hi'
      simp [Array.getElem?_setIfInBounds_ne hji, this]

/-- The first k letters small. -/
def smP (l : List UInt8) (k : Nat) : List UInt8 := Lk.small (l.take k) ++ l.drop k
theorem smP_zero (l : List UInt8) : smP l 0 = l := by simp [smP, Lk.small]
theorem smP_all (l : List UInt8) (k : Nat) (h : l.length ≤ k) : smP l k = Lk.small l := by
  unfold smP
  rw [List.take_of_length_le h, List.drop_of_length_le h]
  simp
theorem smP_len (l : List UInt8) (k : Nat) : (smP l k).length = l.length := by
  simp [smP, Lk.small]
  omega
theorem smP_at (l : List UInt8) (k : Nat) (h : k < l.length) : (smP l k)[k]'(by rw [smP_len]; exact h) = l[k] := by
  unfold smP
  rw [List.getElem_append_right (by simp [Lk.small]; omega)]
  simp [Lk.small, Nat.min_eq_left (Nat.le_of_lt h)]
theorem smP_succ (l : List UInt8) (k : Nat) (h : k < l.length) : smP l (k + 1) = (smP l k).set k (Lk.small1 l[k]) := by
  unfold smP
  rw [List.take_succ_eq_append_getElem h, Lk.small, List.map_append, List.set_append_right _ _ (by simp [Lk.small]; omega)]
  have hd : l.drop k = l[k] :: l.drop (k + 1) := List.drop_eq_getElem_cons h
  simp [Lk.small, Nat.min_eq_left (Nat.le_of_lt h)]
  rw [hd]
  rfl
theorem smP_same (l : List UInt8) (k : Nat) (h : k < l.length) (hc : Lk.small1 l[k] = l[k]) : smP l (k + 1) = smP l k := by
  rw [smP_succ l k h, hc, ← smP_at l k h, List.set_getElem_self]

theorem small_toNat (c : UInt8) (hA : 65 ≤ c.toNat) (hZ : c.toNat ≤ 90) : (Lk.small1 c).toNat = c.toNat + 32 := by
  unfold Lk.small1
  rw [if_pos ⟨by rw [UInt8.le_iff_toNat_le]; exact hA, by rw [UInt8.le_iff_toNat_le]; exact hZ⟩]
  rw [UInt8.toNat_add]
  show (c.toNat + 32) % 256 = _
  omega
theorem small_not (c : UInt8) (h : ¬ (65 ≤ c.toNat ∧ c.toNat ≤ 90)) : Lk.small1 c = c := by
  unfold Lk.small1
  rw [if_neg (fun hh => h ⟨by have := hh.1; rw [UInt8.le_iff_toNat_le] at this; exact this, by have := hh.2; rw [UInt8.le_iff_toNat_le] at this; exact this⟩)]
end Go.Proofs.YtbhcklkbckacpaaDoor

/-
  strings.IndexRune, IndexAny and ContainsAny at a set of ASCII characters and whatever text: whether one of its bytes is among them.
-/
namespace Go.Proofs.YtbhcklkbckacpaaDoor
open Go.RowKit

/-- All of its bytes are ASCII. -/
def Ascii (s : ByteArray) : Prop := ∀ (j : Nat) b, s.data.toList[j]? = some b → b.toNat < 128

set_option maxRecDepth 100000 in
set_option maxHeartbeats 800000 in
theorem ir_bad (s : ByteArray) (r : Int) (w : World) (h1 : 128 ≤ r) (h2 : (r == 65533) = false) (hv : Lib.validRune r = false) :
    Calls Tryd.prog 138 #[.string s, .int .i32 r] w fun e w' => e = .returned (.int .i64 (-1)) ∧ w' = w := by
  have hlt : decide (r < 128) = false := decide_eq_false (by omega)
  have HV : Hid (Lib.validRune r = false) := hv
  clear hv
  go_enter Tryd.func138, Tryd.ntmps138
  go_wp2_with (go_at_call 143; refine (Tryd.utf8_ValidRune _ _).mono ?_; rintro e w' ⟨rfl, rfl⟩; rw [HV.out])
  go_ret
  exact ⟨rfl, rfl⟩

set_option maxRecDepth 100000 in
set_option maxHeartbeats 800000 in
theorem ir_err (s : ByteArray) (w : World) (ha : Ascii s) :
    Calls Tryd.prog 138 #[.string s, .int .i32 65533] w fun e w' => e = .returned (.int .i64 (-1)) ∧ ∃ pos, w' = w.iter s pos := by
  have HA : Hid (Ascii s) := ha
  clear ha
  go_enter Tryd.func138, Tryd.ntmps138
  go_wp2_with fail
  go_loopg [5, 6] s.size (fun g _ _ wx => ∃ i : Nat, i + g = s.size ∧ wx = w.iter s i)
  case atStart => exact ⟨0, by omega, rfl⟩
  case round =>
    obtain ⟨i, hig, rfl⟩ := hrel
    cases gk with
    | zero =>
      obtain rfl : i = s.size := by omega
      have hnx := run_next_end (P := Tryd.prog) w s s.size
      go_wp2
      go_ret
      exact ⟨rfl, _, rfl⟩
    | succ g =>
      have hi : i < s.size := by omega
      obtain ⟨x, hx⟩ : ∃ x : UInt8, s[i]'hi = x := ⟨_, rfl⟩
      have hxl : s.data.toList[i]? = some x := by rw [← hx]; exact Lib.data_getElem? s i hi
      have hx128 : x.toNat < 128 := HA.out i x hxl
      have hnx := fun ty => run_next_ascii (P := Tryd.prog) w s i ty hi (by rw [hx]; exact hx128)
      rw [hx] at hnx
      have hne : ((x.toNat : Int) == 65533) = false := beq_eq_false_iff_ne.2 (by omega)
      clear hxl hx
      go_wp2
      go_roundg g
      case measure => omega
      case rel => exact ⟨i + 1, by omega, rfl⟩

set_option maxRecDepth 100000 in
set_option maxHeartbeats 1600000 in
theorem ir_at1 (s E T : ByteArray) (r : Int) (w : World) (hz : E.size = 2) (hl : (1 : Int) < s.size)
    (hcv : ∀ w, (convert 21 9 (.int .i32 r)).run Tryd.prog w = .ok (.string E) w) (x y : UInt8)
    (hx : ∀ w, (Instr.index 9 (.string s) (.int .i64 1)).run Tryd.prog w = .ok (.int .u8 x.toNat) w)
    (hy : ∀ w, (Instr.index 9 (.string E) (.int .i64 1)).run Tryd.prog w = .ok (.int .u8 y.toNat) w)
    (hsl : ∀ w, (Instr.slice 9 (.string s) (some (.int .i64 2)) none none).run Tryd.prog w = .ok (.string T) w)
    (hxy : ((x.toNat : Int) != (y.toNat : Int)) = true)
    (hib : Hid (∀ w, Calls Tryd.prog 115 #[.string T, .int .u8 y.toNat] w fun e w' => e = .returned (.int .i64 (-1)) ∧ w' = w))
    (h1 : 128 ≤ r) (h2 : (r == 65533) = false) (hv : Hid (Lib.validRune r = true)) (hlt : decide (r < 128) = false) :
    Calls Tryd.prog 138 #[.string s, .int .i32 r] w fun e w' => e = .returned (.int .i64 (-1)) ∧ ∃ n, w' = w.drewN n := by
  have hwr : IntKind.i64.wrap 2 = 2 := by decide
  go_enter Tryd.func138, Tryd.ntmps138
  go_wp2_with (go_at_call 143; refine (Tryd.utf8_ValidRune _ _).mono ?_; rintro e w' ⟨rfl, rfl⟩; rw [hv.out])
  go_step3
  go_wp2_with fail
  refine wp_loop_rounds 1 ?_
  rw [rounds_succ]
  go_wp2_with fail
  go_step3
  go_wp2_with fail
  go_quiet (fail)
  go_wp2_with fail
  go_quiet ((go_at_call 115; exact (hib.out _).mono fun e w2 ⟨he, hw⟩ => ⟨he, _, hw⟩))
  go_wp2_with fail
  simp only [Exit.noGoto_ret, Exit.inBlock, Exit.then]
  go_ret
  exact ⟨rfl, _, rfl⟩

set_option maxRecDepth 100000 in
set_option maxHeartbeats 1600000 in
theorem ir_out1 (s E : ByteArray) (r : Int) (w : World) (hz : E.size = 2) (hl : ¬ (1 : Int) < s.size)
    (hcv : ∀ w, (convert 21 9 (.int .i32 r)).run Tryd.prog w = .ok (.string E) w)
    (h1 : 128 ≤ r) (h2 : (r == 65533) = false) (hv : Hid (Lib.validRune r = true)) (hlt : decide (r < 128) = false) :
    Calls Tryd.prog 138 #[.string s, .int .i32 r] w fun e w' => e = .returned (.int .i64 (-1)) ∧ ∃ n, w' = w.drewN n := by
  go_enter Tryd.func138, Tryd.ntmps138
  go_wp2_with (go_at_call 143; refine (Tryd.utf8_ValidRune _ _).mono ?_; rintro e w' ⟨rfl, rfl⟩; rw [hv.out])
  go_step3
  go_wp2_with fail
  refine wp_loop_rounds 1 ?_
  rw [rounds_succ]
  go_wp2_with fail
  rw [Exit.noGoto_ret]
  go_ret
  exact ⟨rfl, 0, rfl⟩
set_option maxRecDepth 100000 in
set_option maxHeartbeats 1600000 in
theorem ir_at2 (s E T : ByteArray) (r : Int) (w : World) (hz : E.size = 3) (hl : (2 : Int) < s.size)
    (hcv : ∀ w, (convert 21 9 (.int .i32 r)).run Tryd.prog w = .ok (.string E) w) (x y : UInt8)
    (hx : ∀ w, (Instr.index 9 (.string s) (.int .i64 2)).run Tryd.prog w = .ok (.int .u8 x.toNat) w)
    (hy : ∀ w, (Instr.index 9 (.string E) (.int .i64 2)).run Tryd.prog w = .ok (.int .u8 y.toNat) w)
    (hsl : ∀ w, (Instr.slice 9 (.string s) (some (.int .i64 3)) none none).run Tryd.prog w = .ok (.string T) w)
    (hxy : ((x.toNat : Int) != (y.toNat : Int)) = true)
    (hib : Hid (∀ w, Calls Tryd.prog 115 #[.string T, .int .u8 y.toNat] w fun e w' => e = .returned (.int .i64 (-1)) ∧ w' = w))
    (h1 : 128 ≤ r) (h2 : (r == 65533) = false) (hv : Hid (Lib.validRune r = true)) (hlt : decide (r < 128) = false) :
    Calls Tryd.prog 138 #[.string s, .int .i32 r] w fun e w' => e = .returned (.int .i64 (-1)) ∧ ∃ n, w' = w.drewN n := by
  have hwr : IntKind.i64.wrap 3 = 3 := by decide
  go_enter Tryd.func138, Tryd.ntmps138
  go_wp2_with (go_at_call 143; refine (Tryd.utf8_ValidRune _ _).mono ?_; rintro e w' ⟨rfl, rfl⟩; rw [hv.out])
  go_step3
  go_wp2_with fail
  refine wp_loop_rounds 1 ?_
  rw [rounds_succ]
  go_wp2_with fail
  go_step3
  go_wp2_with fail
  go_quiet (fail)
  go_wp2_with fail
  go_quiet ((go_at_call 115; exact (hib.out _).mono fun e w2 ⟨he, hw⟩ => ⟨he, _, hw⟩))
  go_wp2_with fail
  simp only [Exit.noGoto_ret, Exit.inBlock, Exit.then]
  go_ret
  exact ⟨rfl, _, rfl⟩

set_option maxRecDepth 100000 in
set_option maxHeartbeats 1600000 in
theorem ir_out2 (s E : ByteArray) (r : Int) (w : World) (hz : E.size = 3) (hl : ¬ (2 : Int) < s.size)
    (hcv : ∀ w, (convert 21 9 (.int .i32 r)).run Tryd.prog w = .ok (.string E) w)
    (h1 : 128 ≤ r) (h2 : (r == 65533) = false) (hv : Hid (Lib.validRune r = true)) (hlt : decide (r < 128) = false) :
    Calls Tryd.prog 138 #[.string s, .int .i32 r] w fun e w' => e = .returned (.int .i64 (-1)) ∧ ∃ n, w' = w.drewN n := by
  go_enter Tryd.func138, Tryd.ntmps138
  go_wp2_with (go_at_call 143; refine (Tryd.utf8_ValidRune _ _).mono ?_; rintro e w' ⟨rfl, rfl⟩; rw [hv.out])
  go_step3
  go_wp2_with fail
  refine wp_loop_rounds 1 ?_
  rw [rounds_succ]
  go_wp2_with fail
  rw [Exit.noGoto_ret]
  go_ret
  exact ⟨rfl, 0, rfl⟩
set_option maxRecDepth 100000 in
set_option maxHeartbeats 1600000 in
theorem ir_at3 (s E T : ByteArray) (r : Int) (w : World) (hz : E.size = 4) (hl : (3 : Int) < s.size)
    (hcv : ∀ w, (convert 21 9 (.int .i32 r)).run Tryd.prog w = .ok (.string E) w) (x y : UInt8)
    (hx : ∀ w, (Instr.index 9 (.string s) (.int .i64 3)).run Tryd.prog w = .ok (.int .u8 x.toNat) w)
    (hy : ∀ w, (Instr.index 9 (.string E) (.int .i64 3)).run Tryd.prog w = .ok (.int .u8 y.toNat) w)
    (hsl : ∀ w, (Instr.slice 9 (.string s) (some (.int .i64 4)) none none).run Tryd.prog w = .ok (.string T) w)
    (hxy : ((x.toNat : Int) != (y.toNat : Int)) = true)
    (hib : Hid (∀ w, Calls Tryd.prog 115 #[.string T, .int .u8 y.toNat] w fun e w' => e = .returned (.int .i64 (-1)) ∧ w' = w))
    (h1 : 128 ≤ r) (h2 : (r == 65533) = false) (hv : Hid (Lib.validRune r = true)) (hlt : decide (r < 128) = false) :
    Calls Tryd.prog 138 #[.string s, .int .i32 r] w fun e w' => e = .returned (.int .i64 (-1)) ∧ ∃ n, w' = w.drewN n := by
  have hwr : IntKind.i64.wrap 4 = 4 := by decide
  go_enter Tryd.func138, Tryd.ntmps138
  go_wp2_with (go_at_call 143; refine (Tryd.utf8_ValidRune _ _).mono ?_; rintro e w' ⟨rfl, rfl⟩; rw [hv.out])
  go_step3
  go_wp2_with fail
  refine wp_loop_rounds 1 ?_
  rw [rounds_succ]
  go_wp2_with fail
  go_step3
  go_wp2_with fail
  go_quiet (fail)
  go_wp2_with fail
  go_quiet ((go_at_call 115; exact (hib.out _).mono fun e w2 ⟨he, hw⟩ => ⟨he, _, hw⟩))
  go_wp2_with fail
  simp only [Exit.noGoto_ret, Exit.inBlock, Exit.then]
  go_ret
  exact ⟨rfl, _, rfl⟩

set_option maxRecDepth 100000 in
set_option maxHeartbeats 1600000 in
theorem ir_out3 (s E : ByteArray) (r : Int) (w : World) (hz : E.size = 4) (hl : ¬ (3 : Int) < s.size)
    (hcv : ∀ w, (convert 21 9 (.int .i32 r)).run Tryd.prog w = .ok (.string E) w)
    (h1 : 128 ≤ r) (h2 : (r == 65533) = false) (hv : Hid (Lib.validRune r = true)) (hlt : decide (r < 128) = false) :
    Calls Tryd.prog 138 #[.string s, .int .i32 r] w fun e w' => e = .returned (.int .i64 (-1)) ∧ ∃ n, w' = w.drewN n := by
  go_enter Tryd.func138, Tryd.ntmps138
  go_wp2_with (go_at_call 143; refine (Tryd.utf8_ValidRune _ _).mono ?_; rintro e w' ⟨rfl, rfl⟩; rw [hv.out])
  go_step3
  go_wp2_with fail
  refine wp_loop_rounds 1 ?_
  rw [rounds_succ]
  go_wp2_with fail
  rw [Exit.noGoto_ret]
  go_ret
  exact ⟨rfl, 0, rfl⟩

end Go.Proofs.YtbhcklkbckacpaaDoor

/-
  strings.IndexRune at a rune that is not ASCII, in a text that is; strings.IndexAny and ContainsAny at a set of ASCII characters and whatever text: whether one of its bytes is among them.
-/
namespace Go.Proofs.YtbhcklkbckacpaaDoor
open Go.RowKit

theorem indexByte_out (l : List UInt8) (c : UInt8) (h : l.contains c = false) : Lib.indexByte l c = -1 := by
  rw [Lib.contains_iff_indexByte] at h
  have h1 := Lib.indexByte_ge l c
  have h2 : ¬ (0 ≤ Lib.indexByte l c) := of_decide_eq_false h
  omega

theorem ascii_out {s : ByteArray} (ha : Ascii s) (c : UInt8) (hc : 128 ≤ c.toNat) (k : Nat) : (s.data.toList.drop k).contains c = false := by
  rw [Bool.eq_false_iff]
  intro h
  have hm : c ∈ s.data.toList := List.mem_of_mem_drop (by simpa using h)
  obtain ⟨j, hj⟩ := List.mem_iff_getElem?.1 hm
  have := ha j c hj
  omega

theorem ib_out (s : ByteArray) (ha : Ascii s) (k : Nat) (y : UInt8) (hy : 128 ≤ y.toNat) (w : World) :
    Calls Tryd.prog 115 #[.string (s.extract k s.size), .int .u8 y.toNat] w fun e w' => e = .returned (.int .i64 (-1)) ∧ w' = w := by
  have := Tryd.strings_IndexByte (s.extract k s.size) y.toNat w
  rw [Lib.extract_to_end, show ((y.toNat : Int)).toNat.toUInt8 = y by simp, indexByte_out _ _ (ascii_out ha y hy k)] at this
  exact this

theorem ascii_at {s : ByteArray} (ha : Ascii s) (k : Nat) (h : k < s.size) : (s[k]'h).toNat < 128 := ha k _ (Lib.data_getElem? s k h)

theorem ne_of_ascii {x y : UInt8} (hx : x.toNat < 128) (hy : 128 ≤ y.toNat) : ((x.toNat : Int) != (y.toNat : Int)) = true := by
  rw [bne_iff_ne]; omega

/-- strings.IndexRune of an ASCII text, at a rune that isn't ASCII: none. -/
theorem ir_big (s : ByteArray) (r : Int) (w : World) (ha : Ascii s) (h1 : 128 ≤ r) :
    Calls Tryd.prog 138 #[.string s, .int .i32 r] w fun e w' => e = .returned (.int .i64 (-1)) ∧ Below w.heap.size w w' := by
  by_cases h2 : r = 65533
  · subst h2
    refine (ir_err s w ha).mono ?_
    rintro e w' ⟨he, pos, rfl⟩
    exact ⟨he, (Below.refl _ _).alloc (Nat.le_refl _) _⟩
  have h2' : (r == 65533) = false := beq_eq_false_iff_ne.2 h2
  have hlt : decide (r < 128) = false := decide_eq_false (by omega)
  cases hv : Lib.validRune r
  · exact (ir_bad s r w h1 h2' hv).mono fun e w' ⟨he, hw⟩ => ⟨he, hw ▸ Below.refl _ _⟩
  · have fin : ∀ {f : Ending → World → Prop}, Calls Tryd.prog 138 #[.string s, .int .i32 r] w (fun e w' => e = .returned (.int .i64 (-1)) ∧ ∃ n, w' = w.drewN n) → Calls Tryd.prog 138 #[.string s, .int .i32 r] w fun e w' => e = .returned (.int .i64 (-1)) ∧ Below w.heap.size w w' := by
      intro _ h
      refine h.mono ?_
      rintro e w' ⟨he, n, rfl⟩
      exact ⟨he, Go.below_drewN (Below.refl _ _) n⟩
    have hf := encode_facts r (by rw [validRune_eq]; exact hv) h1
    obtain ⟨E, hE⟩ : ∃ E, Utf8.encode r = E := ⟨_, rfl⟩
    rw [hE] at hf
    obtain ⟨hz1, hz2, hz3⟩ := hf
    have hcv : ∀ w, (convert 21 9 (.int .i32 r)).run Tryd.prog w = .ok (.string E) w := fun w => by
      rw [run_convert_int_string w 21 9 .i32 r (by kernel_rfl) Tryd.underlying9, hE]
    have hslice : ∀ k : Nat, k ≤ s.size → ∀ w, (Instr.slice 9 (.string s) (some (.int .i64 k)) none none).run Tryd.prog w = .ok (.string (s.extract k s.size)) w := fun k hk w => by
      have := run_slice_string_l w 9 s Tryd.underlying9 .i64 (k : Int) (by omega) (by omega)
      simpa using this
    have hE3 : E.size = 2 ∨ E.size = 3 ∨ E.size = 4 := by omega
    rcases hE3 with hz | hz | hz
    · have hy : 128 ≤ (E[1]'(by omega)).toNat := by have := hz3 (by omega); simpa [hz] using this
      by_cases hl : (1 : Int) < s.size
      · exact fin (f := fun _ _ => True) (ir_at1 s E _ r w hz hl hcv (s[1]'(by omega)) (E[1]'(by omega)) (run_index_at s 1 (by omega)) (run_index_at E 1 (by omega)) (hslice 2 (by omega)) (ne_of_ascii (ascii_at ha 1 (by omega)) hy) (ib_out s ha 2 _ hy) h1 h2' hv hlt)
      · exact fin (f := fun _ _ => True) (ir_out1 s E r w hz hl hcv h1 h2' hv hlt)
    · have hy : 128 ≤ (E[2]'(by omega)).toNat := by have := hz3 (by omega); simpa [hz] using this
      by_cases hl : (2 : Int) < s.size
      · exact fin (f := fun _ _ => True) (ir_at2 s E _ r w hz hl hcv (s[2]'(by omega)) (E[2]'(by omega)) (run_index_at s 2 (by omega)) (run_index_at E 2 (by omega)) (hslice 3 (by omega)) (ne_of_ascii (ascii_at ha 2 (by omega)) hy) (ib_out s ha 3 _ hy) h1 h2' hv hlt)
      · exact fin (f := fun _ _ => True) (ir_out2 s E r w hz hl hcv h1 h2' hv hlt)
    · have hy : 128 ≤ (E[3]'(by omega)).toNat := by have := hz3 (by omega); simpa [hz] using this
      by_cases hl : (3 : Int) < s.size
      · exact fin (f := fun _ _ => True) (ir_at3 s E _ r w hz hl hcv (s[3]'(by omega)) (E[3]'(by omega)) (run_index_at s 3 (by omega)) (run_index_at E 3 (by omega)) (hslice 4 (by omega)) (ne_of_ascii (ascii_at ha 3 (by omega)) hy) (ib_out s ha 4 _ hy) h1 h2' hv hlt)
      · exact fin (f := fun _ _ => True) (ir_out3 s E r w hz hl hcv h1 h2' hv hlt)

theorem get_of (s : ByteArray) (k : Nat) (h : k < s.size) : s.get! k = s[k]'h := by
  simp [ByteArray.get!, getElem!_pos, h]
  rfl

/-- What a character that isn't ASCII takes: bytes that aren't either. -/
theorem decode_span (s : ByteArray) (pos : Nat) (h : pos < s.size) (ha : 128 ≤ (s[pos]'h).toNat) :
    ∀ j, pos ≤ j → j < pos + (Utf8.decode s pos).2 → ∃ hj : j < s.size, 128 ≤ (s[j]'hj).toNat := by
  have key : ∀ k, (decide (pos + k < s.size) && (s.get! (pos + k)).toNat / 64 == 2) = true → ∃ hj : pos + k < s.size, 128 ≤ (s[pos + k]'hj).toNat := by
    intro k hk
    simp only [Bool.and_eq_true, decide_eq_true_eq, beq_iff_eq] at hk
    refine ⟨hk.1, ?_⟩
    rw [← get_of s (pos + k) hk.1]
    omega
  have zero : ∃ hj : pos + 0 < s.size, 128 ≤ (s[pos + 0]'hj).toNat := ⟨h, ha⟩
  have hn : ¬ (s[pos]'h).toNat < 128 := by omega
  intro j h1 h2
  obtain ⟨k, rfl⟩ := Nat.exists_eq_add_of_le h1
  simp only [Utf8.decode, get_at s pos h, hn, if_false] at h2
  have h2' : k < (Utf8.decode s pos).2 := by
    simp only [Utf8.decode, get_at s pos h, hn, if_false]; omega
  clear h2
  simp only [Utf8.decode, get_at s pos h, hn, if_false] at h2'
  split at h2'
  · rename_i hc
    simp only [Bool.and_eq_true] at hc
    have c1 := key 1 (by simpa using hc.2)
    split at h2' <;> simp at h2'
    · have : k = 0 ∨ k = 1 := by omega
      rcases this with rfl | rfl
      · exact zero
      · exact c1
    · subst h2'; exact zero
  split at h2'
  · rename_i hc
    simp only [Bool.and_eq_true] at hc
    have c1 := key 1 (by simpa using hc.1.2)
    have c2 := key 2 (by simpa using hc.2)
    split at h2' <;> simp at h2'
    · have : k = 0 ∨ k = 1 ∨ k = 2 := by omega
      rcases this with rfl | rfl | rfl
      · exact zero
      · exact c1
      · exact c2
    · subst h2'; exact zero
  split at h2'
  · rename_i hc
    simp only [Bool.and_eq_true] at hc
    have c1 := key 1 (by simpa using hc.1.1.2)
    have c2 := key 2 (by simpa using hc.1.2)
    have c3 := key 3 (by simpa using hc.2)
    split at h2' <;> simp at h2'
    · have : k = 0 ∨ k = 1 ∨ k = 2 ∨ k = 3 := by omega
      rcases this with rfl | rfl | rfl | rfl
      · exact zero
      · exact c1
      · exact c2
      · exact c3
    · subst h2'; exact zero
  · simp at h2'; subst h2'; exact zero
end Go.Proofs.YtbhcklkbckacpaaDoor

/-
  strings.IndexAny and ContainsAny at a set of two or more ASCII characters and whatever text: the first byte that is among them; whether there is one.
-/
namespace Go.Proofs.YtbhcklkbckacpaaDoor
open Go.RowKit

/-- The iterator of the text s stands at place i, in block k; below, all is as it was. -/
def Iter (w : World) (s : ByteArray) (i : Nat) (wx : World) : Prop := wx.heap[w.heap.size]? = some (.stringIter s i) ∧ Below w.heap.size w wx

theorem Iter.start (w : World) (s : ByteArray) : Iter w s 0 (w.iter s 0) := ⟨World.iter_heap w s 0, (Below.refl _ _).alloc (Nat.le_refl _) _⟩
theorem Iter.next {w : World} {s : ByteArray} {i : Nat} {wx : World} (h : Iter w s i wx) (j : Nat) : Iter w s j (wx.iterAt w.heap.size s j) :=
  ⟨Lib.iterAt_heap wx w.heap.size s i j h.1, Lib.below_iterAt h.2 (Nat.le_refl _) s j⟩
theorem Iter.below {w : World} {s : ByteArray} {i : Nat} {wx w2 : World} (h : Iter w s i wx) (hb : Below wx.heap.size wx w2) : Iter w s i w2 :=
  ⟨(hb.block _ (Array.getElem?_eq_some_iff.1 h.1).1).trans h.1, h.2.trans (hb.mono h.2.size)⟩

theorem noAny_span {s chars : ByteArray} (hc : Ascii chars) {i n : Nat} (h : Lib.NoAny s.data.toList chars.data.toList i) (hs : ∀ j, i ≤ j → j < i + n → ∃ hj : j < s.size, 128 ≤ (s[j]'hj).toNat) : Lib.NoAny s.data.toList chars.data.toList (i + n) := by
  intro j b hj hb
  by_cases hji : j < i
  · exact h j b hji hb
  · obtain ⟨hjs, h128⟩ := hs j (by omega) hj
    rw [Lib.data_getElem? s j hjs] at hb
    cases hb
    have := ascii_out hc _ h128 0
    simpa using this

set_option maxHeartbeats 8000000 in
set_option maxRecDepth 1000000 in
theorem ia_short (s chars : ByteArray) (w : World) (h2 : 2 ≤ chars.size) (h8 : s.size ≤ 8) (hc : Ascii chars) :
    Calls Tryd.prog 133 #[.string s, .string chars] w fun e w' => e = .returned (.int .i64 (Lib.indexAny s.data.toList chars.data.toList)) ∧ Below w.heap.size w w' := by
  have HC : Hid (Ascii chars) := hc
  clear hc
  have hemp : chars.toList.isEmpty = false := by
    rw [Lib.toList_data]
    cases h : chars.data.toList with
    | nil => have := Lib.size_eq chars; rw [h, List.length_nil] at this; omega
    | cons _ _ => rfl
  have hn1 : ((chars.size : Int) == 1) = false := beq_eq_false_iff_ne.2 (by omega)
  have h8z : decide ((8 : Int) < (s.size : Int)) = false := decide_eq_false (by omega)
  go_enter Tryd.func133, Tryd.ntmps133
  go_wp2_with (go_at_call 139; refine (Tryd.strings_shouldUseASCIISet _ _).mono ?_; rintro e w' ⟨rfl, hw⟩; rw [hw, h8z])
  go_loopg [9, 10] s.size (fun g _ _ wx => ∃ i : Nat, i + g = s.size ∧ Iter w s i wx ∧ Lib.NoAny s.data.toList chars.data.toList i)
  case atStart => exact ⟨0, by omega, Iter.start w s, Lib.NoAny.zero _ _⟩
  case round =>
    obtain ⟨i, hig, hit, hno⟩ := hrel
    have HN : Hid (Lib.NoAny s.data.toList chars.data.toList i) := hno
    have HI : Hid (Iter w s i wr) := hit
    clear hno hit
    by_cases hi : i < s.size
    · obtain ⟨x, hx⟩ : ∃ x : UInt8, s[i]'hi = x := ⟨_, rfl⟩
      have hxl : s.data.toList[i]? = some x := by rw [← hx]; exact Lib.data_getElem? s i hi
      by_cases hx128 : x.toNat < 128
      · have hnx := fun ty => Lib.run_next_ascii_at (P := Tryd.prog) wr w.heap.size s i ty HI.out.1 hi (by rw [hx]; exact hx128)
        rw [hx] at hnx
        obtain ⟨wn, hwn⟩ : ∃ wn, wr.iterAt w.heap.size s (i + 1) = wn := ⟨_, rfl⟩
        rw [hwn] at hnx
        have H1 : Hid (Iter w s (i + 1) wn) := by rw [← hwn]; exact HI.out.next (i + 1)
        have Hx : Hid (s.data.toList[i]? = some x) := hxl
        clear hxl hx hwn
        have hcon := Lib.contains_iff_indexByte chars.data.toList x
        have hback : ((x.toNat : Int)).toNat.toUInt8 = x := by simp
        cases hin : chars.data.toList.contains x
        · rw [hin] at hcon
          have hlt : ¬ ((0 : Int) ≤ Lib.indexByte chars.data.toList x) := of_decide_eq_false hcon.symm
          have Hin : Hid (chars.data.toList.contains x = false) := hin
          clear hcon hin
          go_wp2_with (go_at_call 138; refine (Tryd.strings_IndexRune_ascii _ _ _ (by omega) (by omega)).mono ?_; rintro e w' ⟨rfl, hw⟩; rw [hw, hback])
          go_roundg (s.size - (i + 1))
          case measure => omega
          case rel => exact ⟨i + 1, by omega, H1.out, HN.out.succ Hx.out Hin.out⟩
        · rw [hin] at hcon
          have hge : (0 : Int) ≤ Lib.indexByte chars.data.toList x := of_decide_eq_true hcon.symm
          have Hin : Hid (chars.data.toList.contains x = true) := hin
          clear hcon hin
          go_wp2_with (go_at_call 138; refine (Tryd.strings_IndexRune_ascii _ _ _ (by omega) (by omega)).mono ?_; rintro e w' ⟨rfl, hw⟩; rw [hw, hback])
          go_ret
          exact ⟨by rw [Lib.indexAny_hit HN.out Hx.out Hin.out]; rfl, H1.out.2⟩
      · have hhi : 128 ≤ (s[i]'hi).toNat := by rw [hx]; omega
        have hsp := decode_span s i hi hhi
        obtain ⟨hr, hn⟩ := decode_high s i hi hhi
        have hnx := fun ty => Lib.run_next_any_at (P := Tryd.prog) wr w.heap.size s i ty HI.out.1 hi
        obtain ⟨r, n, hd⟩ : ∃ r n, Utf8.decode s i = (r, n) := ⟨_, _, rfl⟩
        rw [hd] at hnx hsp hr hn
        simp only at hnx hsp hr hn
        obtain ⟨wn, hwn⟩ : ∃ wn, wr.iterAt w.heap.size s (i + n) = wn := ⟨_, rfl⟩
        rw [hwn] at hnx
        have H1 : Hid (Iter w s (i + n) wn) := by rw [← hwn]; exact HI.out.next (i + n)
        have H2 : Hid (Lib.NoAny s.data.toList chars.data.toList (i + n)) := noAny_span HC.out HN.out hsp
        have hin : i + n ≤ s.size := by
          obtain ⟨hj, _⟩ := hsp (i + (n - 1)) (by omega) (by omega)
          omega
        clear hsp hd hwn hhi hxl hx
        go_wp2_with fail
        refine (ir_big chars r _ HC.out (by omega)).mono ?_
        rintro e w2 ⟨rfl, hb2⟩
        have H3 : Hid (Iter w s (i + n) w2) := H1.out.below hb2
        clear hb2
        go_wp2
        go_roundg (s.size - (i + n))
        case measure => omega
        case rel => exact ⟨i + n, by omega, H3.out, H2.out⟩
    · have hnx := fun ty => Lib.run_next_end_at (P := Tryd.prog) wr w.heap.size s i ty HI.out.1 hi
      go_wp2
      go_ret
      exact ⟨by rw [Lib.indexAny_none (by rw [← Lib.size_eq, show s.size = i by omega]; exact HN.out)]; rfl, HI.out.2⟩

theorem h116 : (Tryd.prog.info? 174).map (fun i => (i.zero, i.size)) = some (some (.agg (Array.replicate 256 (.bool false))), 256) := by kernel_rfl

/-- The world in which the set of the bytes cs lies twice behind what was there: makeASCIISet's own, and a copy. -/
def Lw (w : World) (cs : List UInt8) : World := (w.alloc (.cells (Lib.setCells cs) 174)).alloc (.cells (Lib.setCells cs) 174)
theorem Lw.below (w : World) (cs : List UInt8) : Below w.heap.size w (Lw w cs) := ((Below.refl _ _).alloc (Nat.le_refl _) _).alloc (by simp) _
theorem Lw.cell (w : World) (cs : List UInt8) (x : UInt8) : (Lw w cs).cell? ⟨w.heap.size + 1, x.toNat, none⟩ = some (.bool (cs.contains x)) := by
  unfold Lw
  have h : (w.alloc (.cells (Lib.setCells cs) 174)).heap.size = w.heap.size + 1 := by simp
  rw [World.cell?_alloc_at _ _ _ _ (by simp), Lib.setCells_at]
theorem Lw.store (w : World) (cs : List UInt8) : (storeCells ⟨w.heap.size + 1, 0, none⟩ (Lib.setCells cs).toList 0).run Tryd.prog ((w.alloc (.cells (Lib.setCells cs) 174)).alloc (.cells (Array.replicate 256 (.bool false)) 174)) = .ok () (Lw w cs) := by
  have := run_storeCells_new (P := Tryd.prog) (w.alloc (.cells (Lib.setCells cs) 174)) 174 (Array.replicate 256 (.bool false)) (Lib.setCells cs) (by rw [Lib.setCells_size]; exact (zero_of_info h116).2) (by rw [Lib.setCells_size, Array.size_replicate]) (Lib.setCells_one _)
  simpa [Lw] using this

theorem not_empty {s : ByteArray} (h : 1 ≤ s.size) : s.toList.isEmpty = false := by
  rw [Lib.toList_data]
  cases hl : s.data.toList with
  | nil => have := Lib.size_eq s; rw [hl, List.length_nil] at this; omega
  | cons _ _ => rfl

set_option maxHeartbeats 3200000 in
set_option maxRecDepth 100000 in
theorem ia_long (s chars : ByteArray) (w : World) (h2 : 2 ≤ chars.size) (h3 : chars.size ≤ 100) (h8 : 8 < s.size) (hs : s.size ≤ 9223372036854775807) (hc : Ascii chars) :
    Calls Tryd.prog 133 #[.string s, .string chars] w fun e w' => e = .returned (.int .i64 (Lib.indexAny s.data.toList chars.data.toList)) ∧ Below w.heap.size w w' := by
  obtain ⟨z, hz⟩ : ∃ z, Lib.indexAny s.data.toList chars.data.toList = z := ⟨_, rfl⟩
  rw [hz]
  have HZ : Hid (Lib.indexAny s.data.toList chars.data.toList = z) := hz
  have HM : Hid (Calls Tryd.prog 140 #[.string chars] w fun e w' => e = .returned (.tuple #[.agg (Lib.setCells chars.data.toList), .bool true]) ∧ w' = w.alloc (.cells (Lib.setCells chars.data.toList) 174)) := Tryd.strings_makeASCIISet (zero_of_info h116).1 chars w (by omega) hc
  have HL : Hid (Below w.heap.size w (Lw w chars.data.toList)) := Lw.below w _
  have HC : Hid (∀ x : UInt8, (Lw w chars.data.toList).cell? ⟨w.heap.size + 1, x.toNat, none⟩ = some (.bool (chars.data.toList.contains x))) := Lw.cell w _
  have hst := Lw.store w chars.data.toList
  have hcells := Lib.setCells_size chars.data.toList
  have hzero := (zero_of_info h116).1
  have hempty := not_empty (s := chars) (by omega)
  have hone : ((chars.size : Int) == 1) = false := beq_eq_false_iff_ne.2 (by omega)
  have height : decide ((8 : Int) < (s.size : Int)) = true := decide_eq_true (by omega)
  clear hc hz
  go_enter Tryd.func133, Tryd.ntmps133
  go_wp2_with fail
  refine (Tryd.strings_shouldUseASCIISet _ _).mono ?_
  rintro e w' ⟨rfl, hw⟩
  rw [hw, height]
  go_wp2_with fail
  refine HM.out.mono ?_
  rintro e w' ⟨rfl, hw⟩
  rw [hw]
  go_wp2
  clear hst hcells hzero
  generalize Lw w chars.data.toList = wl at *
  go_loopw [8] (fun i wx => ∃ k : Nat, k ≤ s.size ∧ i = .int .i64 k ∧ wx = wl ∧ Lib.NoAny s.data.toList chars.data.toList k) (fun i _ => s.size - (intOf i).toNat)
  case atStart => exact ⟨0, Nat.zero_le _, rfl, rfl, Lib.NoAny.zero _ _⟩
  case round =>
    obtain ⟨k, hk, rfl, rfl, hno⟩ := hrel
    have HN : Hid (Lib.NoAny s.data.toList chars.data.toList k) := hno
    clear hno
    by_cases hlt : k < s.size
    · obtain ⟨c, hc⟩ : ∃ c : UInt8, s[k]'hlt = c := ⟨_, rfl⟩
      have hix := run_index_at s k hlt
      rw [hc] at hix
      have HK : Hid (s.data.toList[k]? = some c) := by show _ = _; rw [← hc]; exact Lib.data_getElem? s k hlt
      have hset := HC.out c
      clear hc
      cases hin : chars.data.toList.contains c <;> rw [hin] at hset
      · have H1 : Hid (Lib.NoAny s.data.toList chars.data.toList (k + 1)) := HN.out.succ HK.out hin
        go_wp2_with (go_at_call 141; refine (Tryd.asciiSet_contains _ c _ _ hset).mono ?_; rintro e w' ⟨rfl, hw⟩; rw [hw])
        go_roundw
        case rel => exact ⟨k + 1, by omega, by go_num, by first | rfl | exact trivial, H1.out⟩
        case measure => simp [intOf]; omega
      · have H1 : Hid (z = k) := by show _ = _; rw [← HZ.out]; exact Lib.indexAny_hit HN.out HK.out hin
        go_wp2_with (go_at_call 141; refine (Tryd.asciiSet_contains _ c _ _ hset).mono ?_; rintro e w' ⟨rfl, hw⟩; rw [hw])
        go_ret
        exact ⟨by rw [H1.out]; rfl, HL.out⟩
    · have hks : k = s.data.toList.length := by rw [← Lib.size_eq]; omega
      have H1 : Hid (z = -1) := by show _ = _; rw [← HZ.out]; exact Lib.indexAny_none (hks ▸ HN.out)
      clear hks
      go_wp2
      go_ret
      exact ⟨by rw [H1.out]; rfl, HL.out⟩

theorem ia_any (s chars : ByteArray) (w : World) (h2 : 2 ≤ chars.size) (h3 : chars.size ≤ 100) (hs : s.size ≤ 9223372036854775807) (hc : Ascii chars) :
    Calls Tryd.prog 133 #[.string s, .string chars] w fun e w' => e = .returned (.int .i64 (Lib.indexAny s.data.toList chars.data.toList)) ∧ Below w.heap.size w w' := by
  by_cases h8 : s.size ≤ 8
  · exact ia_short s chars w h2 h8 hc
  · exact ia_long s chars w h2 h3 (by omega) hs hc

set_option maxHeartbeats 400000 in
theorem ca_any (s chars : ByteArray) (w : World) (b : Bool) (h2 : 2 ≤ chars.size) (h3 : chars.size ≤ 100) (hs : s.size ≤ 9223372036854775807) (hc : Ascii chars) (hb : Lib.containsAny s.data.toList chars.data.toList = b) :
    Calls Tryd.prog 127 #[.string s, .string chars] w fun e w' => e = .returned (.bool b) ∧ Below w.heap.size w w' := by
  have HI : Hid (Calls Tryd.prog 133 #[.string s, .string chars] w fun e w' => e = .returned (.int .i64 (Lib.indexAny s.data.toList chars.data.toList)) ∧ Below w.heap.size w w') := ia_any s chars w h2 h3 hs hc
  have HB : Hid (decide (0 ≤ Lib.indexAny s.data.toList chars.data.toList) = b) := hb
  clear hb hc
  generalize Lib.indexAny s.data.toList chars.data.toList = z at *
  go_enter Tryd.func127, Tryd.ntmps127
  go_wp2_with fail
  refine HI.out.mono ?_
  rintro e w1 ⟨rfl, hb1⟩
  have H1 : Hid (Below w.heap.size w w1) := hb1
  clear hb1
  go_wp2
  go_ret
  exact ⟨by rw [← HB.out]; rfl, H1.out⟩

theorem noAny_of (s chars : List UInt8) (h : ∀ x ∈ s, chars.contains x = false) (i : Nat) : Lib.NoAny s chars i :=
  fun _ b _ hb => h b (List.mem_of_getElem? hb)
theorem ca_false (s chars : List UInt8) (h : ∀ x ∈ s, chars.contains x = false) : Lib.containsAny s chars = false := by
  unfold Lib.containsAny
  rw [Lib.indexAny_none (noAny_of s chars h s.length)]
  rfl
theorem ca_mem : ∀ (s chars : List UInt8), Lib.containsAny s chars = false → ∀ x ∈ s, chars.contains x = false
  | [], _, _, x, hx => by simp at hx
  | b :: l, chars, h, x, hx => by
    unfold Lib.containsAny at h
    have h0 : ¬ (0 ≤ Lib.indexAny (b :: l) chars) := of_decide_eq_false h
    have hge := Lib.indexAny_ge chars l
    rw [Lib.indexAny] at h0
    cases hb : chars.contains b
    · rw [hb] at h0
      have hl : Lib.indexAny l chars = -1 := by
        by_cases e : Lib.indexAny l chars = -1
        · exact e
        · have hne : (Lib.indexAny l chars == -1) = false := beq_eq_false_iff_ne.2 e
          rw [hne] at h0
          simp at h0
          omega
      have ih := ca_mem l chars (by unfold Lib.containsAny; rw [hl]; rfl)
      rcases List.mem_cons.1 hx with rfl | hx'
      · exact hb
      · exact ih x hx'
    · rw [hb] at h0
      simp at h0
end Go.Proofs.YtbhcklkbckacpaaDoor

/-
  link.smallLetters and link.Scheme at whatever text: the letters A to Z small, all else as it is; what stands ahead of the first colon.
-/
namespace Go.Proofs.YtbhcklkbckacpaaDoor
open Go.RowKit

/-- The text ahead of the first colon, what stands behind it, and whether there is one. -/
theorem lcut (s : ByteArray) (w : World) (hs : s.size ≤ 9223372036854775807) :
    Calls Tryd.prog 134 #[.string s, .string ⟨#[58]⟩] w fun e w' => (∃ t, e = .returned (.tuple #[.string (if s.data.toList.contains 58 then B (Lk.head s.data.toList) else s), .string t, .bool (s.data.toList.contains 58)])) ∧ ∃ n, w' = w.drewN n := by
  rcases Lk.idx_cases s.data.toList with hix | ⟨i, hix⟩
  · have hno := Lk.no_head _ hix
    rw [if_neg (by rw [hno]; exact Bool.false_ne_true), hno]
    go_enter Tryd.func134, Tryd.ntmps134
    go_wp2_with (go_at_call 132; refine (Tryd.stringslite_Index_one _ _ _).mono ?_; rintro e w' ⟨rfl, rfl⟩; rw [hix])
    go_ret3
    exact ⟨⟨_, rfl⟩, 0, rfl⟩
  · obtain ⟨h1, h2, h3⟩ := Lk.head_at _ i hix
    rw [len_list] at h1
    rw [if_pos h3, h3]
    have hs1 := slice_to s i (by omega)
    rw [h2] at hs1
    clear h2
    have hs2 := slice_from s (i + 1) (by omega)
    have c1 : (0 : Int) ≤ ↑i := by omega
    have hz : (ByteArray.mk #[58]).size = 1 := rfl
    have hcast : ((i + 1 : Nat) : Int) = (i : Int) + 1 := by omega
    rw [hcast] at hs2
    have hw : IntKind.i64.wrap ((i : Int) + 1) = (i : Int) + 1 := IntWalk.i64_in _ ⟨by omega, by omega⟩
    go_enter Tryd.func134, Tryd.ntmps134
    go_wp2_with (go_at_call 132; refine (Tryd.stringslite_Index_one _ _ _).mono ?_; rintro e w' ⟨rfl, rfl⟩; rw [hix])
    go_region
    go_wp2
    go_ret3
    exact ⟨⟨_, rfl⟩, 1, rfl⟩

theorem cut1 (s : ByteArray) (w : World) (hs : s.size ≤ 9223372036854775807) :
    Calls Tryd.prog 129 #[.string s, .string ⟨#[58]⟩] w fun e w' => (∃ t, e = .returned (.tuple #[.string (if s.data.toList.contains 58 then B (Lk.head s.data.toList) else s), .string t, .bool (s.data.toList.contains 58)])) ∧ Below w.heap.size w w' := by
  have H := lcut s w hs
  generalize (if s.data.toList.contains 58 = true then B (Lk.head s.data.toList) else s) = h at *
  generalize s.data.toList.contains 58 = f at *
  go_enter Tryd.func129, Tryd.ntmps129
  go_wp2_with fail
  refine H.mono ?_
  rintro e w1 ⟨⟨t, rfl⟩, n, rfl⟩
  go_wp2
  go_ret3
  exact ⟨⟨_, rfl⟩, ⟨rfl, rfl, rfl, Nat.le_refl _, fun _ _ => rfl⟩⟩

set_option maxRecDepth 100000 in
set_option maxHeartbeats 1600000 in
theorem small_any (s : ByteArray) (w : World) (hs : s.size ≤ 9223372036854775807) :
    Calls Tryd.prog 130 #[.string s] w fun e w' => e = .returned (.string (B (Lk.small s.data.toList))) ∧ Below w.heap.size w w' := by
  obtain ⟨sm, hsm⟩ : ∃ sm, Lk.small s.data.toList = sm := ⟨_, rfl⟩
  rw [hsm]
  have HM : Hid (Lk.small s.data.toList = sm) := hsm
  clear hsm
  have hcv := Lib.run_convert_string_bytes (P := Tryd.prog) w 9 170 5 s Tryd.underlying9 Tryd.underlying170 Tryd.underlying5
  have HS : Hid (SBuf w.heap.size w (Lib.bytesWorld w 5 s) (smP s.data.toList 0)) := by rw [smP_zero]; exact SBuf.start w s
  generalize Lib.bytesWorld w 5 s = w0 at *
  generalize grownCap w s.size 0 5 = cap at *
  go_enter Tryd.func130, Tryd.ntmps130
  go_wp2
  go_loopw [10] (fun i wr => ∃ k : Nat, k ≤ s.size ∧ i = .int .i64 k ∧ SBuf w.heap.size w wr (smP s.data.toList k)) (fun i _ => s.size - (intOf i).toNat)
  case atStart => exact ⟨0, Nat.zero_le _, rfl, HS.out⟩
  case round =>
    obtain ⟨k, hk, rfl, hob⟩ := hrel
    have HB : Hid (SBuf w.heap.size w wr (smP s.data.toList k)) := hob
    clear hob hcv
    by_cases hlt : k < s.size
    · have hkl : k < s.data.toList.length := by rw [len_list]; exact hlt
      have hkp : k < (smP s.data.toList k).length := by rw [smP_len]; exact hkl
      obtain ⟨c, hc⟩ : ∃ c : UInt8, s.data.toList[k] = c := ⟨_, rfl⟩
      have hcell := HB.out.cell k hkp
      rw [smP_at _ _ hkl, hc] at hcell
      have hfz := HB.out.frozen k hkp
      have H1 : Hid (Lk.small1 c = c → SBuf w.heap.size w wr (smP s.data.toList (k + 1))) := fun h => by rw [smP_same _ _ hkl (by rw [hc]; exact h)]; exact HB.out
      have H2 : Hid (SBuf w.heap.size w (wr.setCell ⟨w.heap.size, k, none⟩ (.int .u8 (Lk.small1 c).toNat)) (smP s.data.toList (k + 1))) := by
        rw [smP_succ _ _ hkl, hc]; exact HB.out.set k _
      clear hc hkp hkl
      by_cases hA : 65 ≤ c.toNat
      · by_cases hZ : c.toNat ≤ 90
        · have hcc : (Lk.small1 c).toNat = c.toNat + 32 := by
            unfold Lk.small1
            rw [if_pos ⟨by rw [UInt8.le_iff_toNat_le]; exact hA, by rw [UInt8.le_iff_toNat_le]; exact hZ⟩]
            rw [UInt8.toNat_add]
            show (c.toNat + 32) % 256 = _
            omega
          go_wp2
          go_roundw
          case rel =>
            refine ⟨k + 1, by omega, by go_num, ?_⟩
            have := H2.out
            rw [hcc] at this
            rw [show ((c.toNat : Int) - 65 + 97) = ((c.toNat + 32 : Nat) : Int) by omega]
            exact this
          case measure => simp [intOf]; omega
        · have hcc : Lk.small1 c = c := by
            unfold Lk.small1
            rw [if_neg (fun h => hZ (by have := h.2; rw [UInt8.le_iff_toNat_le] at this; exact this))]
          go_wp2
          go_roundw
          case rel => exact ⟨k + 1, by omega, by go_num, H1.out hcc⟩
          case measure => simp [intOf]; omega
      · have hcc : Lk.small1 c = c := by
          unfold Lk.small1
          rw [if_neg (fun h => hA (by have := h.1; rw [UInt8.le_iff_toNat_le] at this; exact this))]
        go_wp2
        go_roundw
        case rel => exact ⟨k + 1, by omega, by go_num, H1.out hcc⟩
        case measure => simp [intOf]; omega
    · have hsz : (smP s.data.toList k) = Lk.small s.data.toList := smP_all _ _ (by rw [len_list]; omega)
      have H3 : Hid (SBuf w.heap.size w wr (Lk.small s.data.toList)) := by rw [← hsz]; exact HB.out
      have hcb := run_convert_bytes_back (P := Tryd.prog) wr 170 9 5 ⟨w.heap.size, 0, none⟩ cap (Lk.small s.data.toList) Tryd.underlying170 Tryd.underlying5 Tryd.underlying9 (fun j hj => by
        rw [show (⟨w.heap.size, 0, none⟩ : Addr).add j = ⟨w.heap.size, j, none⟩ by cases j <;> simp [Addr.add]]
        exact H3.out.cell j hj)
      rw [Lk.small_len, len_list] at hcb
      change _ = Result.ok (Value.string (B (Lk.small s.data.toList))) _ at hcb
      rw [HM.out] at hcb
      clear hsz
      go_wp2
      go_ret
      exact ⟨rfl, H3.out.below⟩

theorem path_ascii : Ascii ⟨#[47, 63, 35]⟩ := by
  intro j b h
  match j, h with
  | 0, h => cases h; decide
  | 1, h => cases h; decide
  | 2, h => cases h; decide
  | j + 3, h => simp at h

set_option maxRecDepth 100000 in
set_option maxHeartbeats 800000 in
theorem scheme_any (s : ByteArray) (w : World) (hs : s.size ≤ 9223372036854775807) :
    Calls Tryd.prog 123 #[.string s] w fun e w' => e = .returned (.string (B (Lk.scheme s.data.toList))) ∧ Below w.heap.size w w' := by
  have hc := cut1 s w hs
  have hhl := Lk.head_len s.data.toList
  rw [len_list] at hhl
  have hsz : (B (Lk.head s.data.toList)).size ≤ 9223372036854775807 := by rw [B_size]; omega
  cases hf : s.data.toList.contains 58
  · have hsch : Lk.scheme s.data.toList = [] := by unfold Lk.scheme; rw [hf]; rfl
    rw [hsch]
    rw [hf, if_neg Bool.false_ne_true] at hc
    have HC : Hid (Calls Tryd.prog 129 #[.string s, .string ⟨#[58]⟩] w fun e w' => (∃ t, e = .returned (.tuple #[.string s, .string t, .bool false])) ∧ Below w.heap.size w w') := hc
    clear hc
    clear hsch
    go_enter Tryd.func123, Tryd.ntmps123
    go_wp2_with fail
    refine HC.out.mono ?_
    rintro e w1 ⟨⟨t, rfl⟩, hb1⟩
    have H1 : Hid (Below w.heap.size w w1) := hb1
    clear hb1
    go_wp2
    go_ret
    exact ⟨rfl, H1.out⟩
  · rw [hf, if_pos rfl] at hc
    have HC : Hid (Calls Tryd.prog 129 #[.string s, .string ⟨#[58]⟩] w fun e w' => (∃ t, e = .returned (.tuple #[.string (B (Lk.head s.data.toList)), .string t, .bool true])) ∧ Below w.heap.size w w') := hc
    clear hc
    cases hca : Lib.containsAny (Lk.head s.data.toList) Lk.path
    · have hsch : Lk.scheme s.data.toList = Lk.small (Lk.head s.data.toList) := by unfold Lk.scheme; rw [hf, hca]; rfl
      rw [hsch]
      have HA : Hid (∀ w, Calls Tryd.prog 127 #[.string (B (Lk.head s.data.toList)), .string ⟨#[47, 63, 35]⟩] w fun e w' => e = .returned (.bool false) ∧ Below w.heap.size w w') := fun w => ca_any _ _ w false (by decide) (by decide) hsz path_ascii hca
      have HS : Hid (∀ w, Calls Tryd.prog 130 #[.string (B (Lk.head s.data.toList))] w fun e w' => e = .returned (.string (B (Lk.small (Lk.head s.data.toList)))) ∧ Below w.heap.size w w') := fun w => small_any _ w hsz
      clear hsch hca hf hhl hsz
      generalize B (Lk.head s.data.toList) = h at *
      generalize B (Lk.small (Lk.head s.data.toList)) = r at *
      go_enter Tryd.func123, Tryd.ntmps123
      go_wp2_with fail
      refine HC.out.mono ?_
      rintro e w1 ⟨⟨t, rfl⟩, hb1⟩
      have H1 : Hid (Below w.heap.size w w1) := hb1
      clear hb1
      go_wp2_with fail
      refine (HA.out _).mono ?_
      rintro e w2 ⟨rfl, hb2⟩
      have H2 : Hid (Below w.heap.size w w2) := H1.out.trans (hb2.mono H1.out.size)
      clear hb2
      go_wp2_with fail
      refine (HS.out _).mono ?_
      rintro e w3 ⟨rfl, hb3⟩
      have H3 : Hid (Below w.heap.size w w3) := H2.out.trans (hb3.mono H2.out.size)
      clear hb3
      go_wp2
      go_ret
      exact ⟨rfl, H3.out⟩
    · have hsch : Lk.scheme s.data.toList = [] := by unfold Lk.scheme; rw [hf, hca]; rfl
      rw [hsch]
      have HA : Hid (∀ w, Calls Tryd.prog 127 #[.string (B (Lk.head s.data.toList)), .string ⟨#[47, 63, 35]⟩] w fun e w' => e = .returned (.bool true) ∧ Below w.heap.size w w') := fun w => ca_any _ _ w true (by decide) (by decide) hsz path_ascii hca
      clear hsch hca hf hhl hsz
      generalize B (Lk.head s.data.toList) = h at *
      go_enter Tryd.func123, Tryd.ntmps123
      go_wp2_with fail
      refine HC.out.mono ?_
      rintro e w1 ⟨⟨t, rfl⟩, hb1⟩
      have H1 : Hid (Below w.heap.size w w1) := hb1
      clear hb1
      go_wp2_with fail
      refine (HA.out _).mono ?_
      rintro e w2 ⟨rfl, hb2⟩
      have H2 : Hid (Below w.heap.size w w2) := H1.out.trans (hb2.mono H1.out.size)
      clear hb2
      go_wp2
      go_ret
      exact ⟨rfl, H2.out⟩
end Go.Proofs.YtbhcklkbckacpaaDoor

/-
  The reference's Small: the letters A to Z small.
-/
namespace Go.Proofs.YtbhcklkbckacpaaDoor
open Go.RowKit

def upper : List UInt8 := [65, 66, 67, 68, 69, 70, 71, 72, 73, 74, 75, 76, 77, 78, 79, 80, 81, 82, 83, 84, 85, 86, 87, 88, 89, 90]
def lower : ByteArray := ⟨#[97, 98, 99, 100, 101, 102, 103, 104, 105, 106, 107, 108, 109, 110, 111, 112, 113, 114, 115, 116, 117, 118, 119, 120, 121, 122]⟩
theorem up_idx (c : UInt8) : Lib.indexByte upper c = if 65 ≤ c.toNat ∧ c.toNat ≤ 90 then (c.toNat : Int) - 65 else -1 := by
  have h : ∀ n : Fin 256, Lib.indexByte upper (UInt8.ofNat n.val) = if 65 ≤ n.val ∧ n.val ≤ 90 then (n.val : Int) - 65 else -1 := by decide +kernel
  have := h ⟨c.toNat, c.toNat_lt⟩
  simpa using this
theorem low_all : ∀ n : Fin 26, (lower.data.toList[n.val]?).map (fun b => b.toNat) = some (n.val + 97) := by decide +kernel
theorem low_at (c : UInt8) (hA : 65 ≤ c.toNat) (hZ : c.toNat ≤ 90) (w : World) : (Instr.index 9 (.string lower) (.int .i64 ((c.toNat : Int) - 65))).run Tryd.prog w = .ok (.int .u8 (Lk.small1 c).toNat) w := by
  have hsz : lower.size = 26 := rfl
  have hk : c.toNat - 65 < lower.size := by omega
  have h := run_index_at lower (c.toNat - 65) hk w
  rw [show ((c.toNat - 65 : Nat) : Int) = (c.toNat : Int) - 65 by omega] at h
  rw [h]
  have ha := low_all ⟨c.toNat - 65, by omega⟩
  have hd := Lib.data_getElem? lower (c.toNat - 65) hk
  simp only [hd, Option.map_some, Option.some.injEq] at ha
  rw [ha, small_toNat c hA hZ, show c.toNat - 65 + 97 = c.toNat + 32 by omega]

/-- The first k letters small, alone. -/
def smQ (s : ByteArray) (k : Nat) : ByteArray := B (Lk.small (s.data.toList.take k))
theorem smQ_zero (s : ByteArray) : smQ s 0 = ⟨#[]⟩ := by simp [smQ, Lk.small, B]
theorem smQ_all (s : ByteArray) (k : Nat) (h : s.size ≤ k) : smQ s k = B (Lk.small s.data.toList) := by
  unfold smQ
  rw [List.take_of_length_le (by rw [len_list]; exact h)]
theorem smQ_size (s : ByteArray) (k : Nat) : (smQ s k).size ≤ k := by
  rw [smQ, B_size, Lk.small_len]
  exact List.length_take_le _ _
theorem smQ_succ (s : ByteArray) (k : Nat) (h : k < s.size) : smQ s (k + 1) = smQ s k ++ ⟨#[Lk.small1 (s[k]'h)]⟩ := by
  apply ext_list
  have hk : k < s.data.toList.length := by rw [len_list]; exact h
  rw [ByteArray.data_append, Array.toList_append]
  show Lk.small (s.data.toList.take (k + 1)) = Lk.small (s.data.toList.take k) ++ [Lk.small1 (s[k]'h)]
  rw [List.take_succ_eq_append_getElem hk, Lk.small, List.map_append]
  rfl

set_option maxRecDepth 100000 in
set_option maxHeartbeats 1600000 in
theorem Small_any (s : ByteArray) (w : World) (hs : s.size ≤ 9223372036854775807) :
    Calls Tryd.prog 128 #[.string s] w fun e w' => e = .returned (.string (B (Lk.small s.data.toList))) ∧ Below w.heap.size w w' := by
  have hz1 : ∀ c : UInt8, (ByteArray.mk #[c]).size = 1 := fun _ => rfl
  go_enter Tryd.func128, Tryd.ntmps128
  go_wp2
  go_loopw [3, 9] (fun o i wr => ∃ k : Nat, k ≤ s.size ∧ i = .int .i64 k ∧ o = .string (smQ s k) ∧ Below w.heap.size w wr) (fun _ i _ => s.size - (intOf i).toNat)
  case atStart => exact ⟨0, Nat.zero_le _, rfl, by rw [smQ_zero], Below.refl _ _⟩
  case round =>
    obtain ⟨k, hk, rfl, rfl, hb⟩ := hrel
    have HB : Hid (Below w.heap.size w wr) := hb
    clear hb
    have hz := smQ_size s k
    by_cases hlt : k < s.size
    · obtain ⟨c, hc⟩ : ∃ c : UInt8, s[k]'hlt = c := ⟨_, rfl⟩
      have hix := run_index_at s k hlt
      rw [hc] at hix
      have HS : Hid (smQ s (k + 1) = smQ s k ++ ⟨#[Lk.small1 c]⟩) := by show _ = _; rw [smQ_succ s k hlt, hc]
      clear hc
      have hback : ((c.toNat : Int)).toNat.toUInt8 = c := by simp
      have hI := fun w => Tryd.strings_IndexByte ⟨upper.toArray⟩ (c.toNat : Int) w
      rw [hback] at hI
      change ∀ w, Calls Tryd.prog 115 _ w fun e w' => e = .returned (.int .i64 (Lib.indexByte upper c)) ∧ w' = w at hI
      rw [up_idx] at hI
      have hcb : ∀ (d : UInt8) (wx : World), (convert 170 9 (.slice (some ⟨wx.heap.size, 0, none⟩) 1 1)).run Tryd.prog (wx.alloc (.cells #[.int .u8 d.toNat] 5)) = .ok (.string ⟨#[d]⟩) (wx.alloc (.cells #[.int .u8 d.toNat] 5)) := fun d wx => by
        have := run_convert_bytes_back (P := Tryd.prog) (wx.alloc (.cells #[.int .u8 d.toNat] 5)) 170 9 5 ⟨wx.heap.size, 0, none⟩ 1 [d] Tryd.underlying170 Tryd.underlying5 Tryd.underlying9 (fun j hj => by
          simp at hj
          subst hj
          simp [Addr.add])
        exact this
      by_cases hA : 65 ≤ c.toNat ∧ c.toNat ≤ 90
      · rw [if_pos hA] at hI
        have HI : Hid (∀ w, Calls Tryd.prog 115 #[.string ⟨upper.toArray⟩, .int .u8 c.toNat] w fun e w' => e = .returned (.int .i64 ((c.toNat : Int) - 65)) ∧ w' = w) := hI
        clear hI
        have hlow := low_at c hA.1 hA.2
        have hge : (0 : Int) ≤ (c.toNat : Int) - 65 := by omega
        have hcb1 := hcb (Lk.small1 c)
        unfold lower at hlow
        generalize Lk.small1 c = d at *
        go_wp2_with fail
        refine (HI.out _).mono ?_
        rintro e w' ⟨rfl, hw⟩
        rw [hw]
        go_wp2
        go_roundw
        case rel => exact ⟨k + 1, by omega, by go_num, by rw [HS.out], HB.out.alloc HB.out.size _⟩
        case measure => simp [intOf]; omega
      · rw [if_neg hA] at hI
        have HI : Hid (∀ w, Calls Tryd.prog 115 #[.string ⟨upper.toArray⟩, .int .u8 c.toNat] w fun e w' => e = .returned (.int .i64 (-1)) ∧ w' = w) := hI
        clear hI
        have hcb1 := hcb c
        have HN : Hid (Lk.small1 c = c) := small_not c hA
        clear hA
        go_wp2_with fail
        refine (HI.out _).mono ?_
        rintro e w' ⟨rfl, hw⟩
        rw [hw]
        go_wp2
        go_roundw
        case rel => exact ⟨k + 1, by omega, by go_num, by rw [HS.out, HN.out], HB.out.alloc HB.out.size _⟩
        case measure => simp [intOf]; omega
    · have HA : Hid (smQ s k = B (Lk.small s.data.toList)) := smQ_all s k (by omega)
      go_wp2
      go_ret
      exact ⟨by rw [← HA.out]; rfl, HB.out⟩

end Go.Proofs.YtbhcklkbckacpaaDoor

/-
  The reference's Small and SchemeOf: as link.smallLetters and link.Scheme have it.
-/
namespace Go.Proofs.YtbhcklkbckacpaaDoor
open Go.RowKit

theorem scheme_k (l : List UInt8) (k : Nat) (h : Lib.indexByte l 58 = k) (hc : Lib.containsAny (Lk.head l) Lk.path = false) : Lk.scheme l = Lk.small (Lk.head l) := by
  unfold Lk.scheme
  rw [(Lk.head_at l k h).2.2, hc]
  rfl
theorem scheme_path (l : List UInt8) (hc : Lib.containsAny (Lk.head l) Lk.path = true) : Lk.scheme l = [] := by
  unfold Lk.scheme
  rw [hc]
  simp
theorem scheme_none (l : List UInt8) (h : l.contains 58 = false) : Lk.scheme l = [] := by
  unfold Lk.scheme
  rw [h]
  rfl

set_option maxRecDepth 100000 in
set_option maxHeartbeats 1600000 in
theorem SchemeOf_any (s : ByteArray) (w : World) (hs : s.size ≤ 9223372036854775807) :
    Calls Tryd.prog 117 #[.string s] w fun e w' => e = .returned (.string (B (Lk.scheme s.data.toList))) ∧ Below w.heap.size w w' := by
  have hI := fun w => Tryd.strings_Index_one s 58 w
  rcases Lk.idx_cases s.data.toList with hix | ⟨k, hix⟩
  · rw [hix] at hI
    rw [scheme_none _ (Lk.no_head _ hix)]
    clear hix
    go_enter Tryd.func117, Tryd.ntmps117
    go_wp2_with fail
    refine (hI _).mono ?_
    rintro e w' ⟨rfl, hw⟩
    rw [hw]
    go_wp2
    go_ret
    exact ⟨rfl, Below.refl _ _⟩
  · obtain ⟨h1, h2, h3⟩ := Lk.head_at _ k hix
    rw [len_list] at h1
    have hhl := Lk.head_len s.data.toList
    rw [len_list] at hhl
    have hsz : (B (Lk.head s.data.toList)).size ≤ 9223372036854775807 := by rw [B_size]; omega
    rw [hix] at hI
    by_cases hk0 : k < 1
    · obtain rfl : k = 0 := by omega
      have hsn : Lk.scheme s.data.toList = [] := by
        have hh : Lk.head s.data.toList = [] := by rw [← h2]; rfl
        unfold Lk.scheme
        rw [hh, h3]
        rfl
      rw [hsn]
      clear hsn hix h2 h3 hhl hsz
      go_enter Tryd.func117, Tryd.ntmps117
      go_wp2_with fail
      refine (hI _).mono ?_
      rintro e w' ⟨rfl, hw⟩
      rw [hw]
      go_wp2
      go_ret
      exact ⟨rfl, Below.refl _ _⟩
    · have hsl := slice_to s k (by omega)
      rw [h2] at hsl
      cases hca : Lib.containsAny (Lk.head s.data.toList) Lk.path
      · rw [scheme_k _ k hix hca]
        have HA : Hid (∀ w, Calls Tryd.prog 127 #[.string (B (Lk.head s.data.toList)), .string ⟨#[47, 63, 35]⟩] w fun e w' => e = .returned (.bool false) ∧ Below w.heap.size w w') := fun w => ca_any _ _ w false (by decide) (by decide) (by omega) path_ascii hca
        have HS : Hid (∀ w, Calls Tryd.prog 128 #[.string (B (Lk.head s.data.toList))] w fun e w' => e = .returned (.string (B (Lk.small (Lk.head s.data.toList)))) ∧ Below w.heap.size w w') := fun w => Small_any _ w hsz
        clear hca hhl hsz hix h2 h3
        generalize B (Lk.head s.data.toList) = h at *
        generalize B (Lk.small (Lk.head s.data.toList)) = r at *
        go_enter Tryd.func117, Tryd.ntmps117
        go_wp2_with fail
        refine (hI _).mono ?_
        rintro e w' ⟨rfl, hw⟩
        rw [hw]
        go_wp2_with fail
        refine (HA.out _).mono ?_
        rintro e w2 ⟨rfl, hb2⟩
        have H2 : Hid (Below w.heap.size w w2) := hb2
        clear hb2
        go_wp2_with fail
        refine (HS.out _).mono ?_
        rintro e w3 ⟨rfl, hb3⟩
        have H3 : Hid (Below w.heap.size w w3) := H2.out.trans (hb3.mono H2.out.size)
        clear hb3
        go_wp2
        go_ret
        exact ⟨rfl, H3.out⟩
      · rw [scheme_path _ hca]
        have HA : Hid (∀ w, Calls Tryd.prog 127 #[.string (B (Lk.head s.data.toList)), .string ⟨#[47, 63, 35]⟩] w fun e w' => e = .returned (.bool true) ∧ Below w.heap.size w w') := fun w => ca_any _ _ w true (by decide) (by decide) (by omega) path_ascii hca
        clear hca hhl hsz hix h2 h3
        generalize B (Lk.head s.data.toList) = h at *
        go_enter Tryd.func117, Tryd.ntmps117
        go_wp2_with fail
        refine (hI _).mono ?_
        rintro e w' ⟨rfl, hw⟩
        rw [hw]
        go_wp2_with fail
        refine (HA.out _).mono ?_
        rintro e w2 ⟨rfl, hb2⟩
        have H2 : Hid (Below w.heap.size w w2) := hb2
        clear hb2
        go_wp2
        go_ret
        exact ⟨rfl, H2.out⟩
end Go.Proofs.YtbhcklkbckacpaaDoor

/-
  Blocks of memory that a call lays and writes: what holds of them behind a store, a new block, a draw; and that all else is as it was.
-/
namespace Go.Proofs.YtbhcklkbckacpaaDoor
open Go.RowKit

/-- Block b holds these cells, of this type, none of them frozen. -/
def Blk (w : World) (b : Nat) (cs : List Value) (t : TypeId) : Prop := w.heap[b]? = some (.cells cs.toArray t (0, 0))

theorem Blk.lt {w : World} {b : Nat} {cs : List Value} {t : TypeId} (h : Blk w b cs t) : b < w.heap.size := (Array.getElem?_eq_some_iff.1 h).1
theorem Blk.cell {w : World} {b : Nat} {cs : List Value} {t : TypeId} (h : Blk w b cs t) (j : Nat) : w.cell? ⟨b, j, none⟩ = cs[j]? := by
  unfold Blk at h
  simp [World.cell?, h]
theorem Blk.frozen {w : World} {b : Nat} {cs : List Value} {t : TypeId} (h : Blk w b cs t) (j : Nat) : w.frozen? ⟨b, j, none⟩ = false := by
  unfold Blk at h
  simp [World.frozen?, h]
theorem Blk.new (w : World) (cs : List Value) (t : TypeId) : Blk (w.alloc (.cells cs.toArray t)) w.heap.size cs t := heap_alloc_new w _
theorem Blk.newAt (w : World) (b : Nat) (cs : List Value) (t : TypeId) (h : w.heap.size = b) : Blk (w.alloc (.cells cs.toArray t)) b cs t := h ▸ Blk.new w cs t
theorem Blk.alloc {w : World} {b : Nat} {cs : List Value} {t : TypeId} (h : Blk w b cs t) (o : Obj) : Blk (w.alloc o) b cs t := (Below.heap_alloc w o b h.lt).trans h
theorem Blk.drew {w : World} {b : Nat} {cs : List Value} {t : TypeId} (h : Blk w b cs t) : Blk w.drew b cs t := h
theorem Blk.drewN {w : World} {b : Nat} {cs : List Value} {t : TypeId} (h : Blk w b cs t) (n : Nat) : Blk (w.drewN n) b cs t := h
theorem Blk.other {w : World} {b : Nat} {cs : List Value} {t : TypeId} (h : Blk w b cs t) (a : Addr) (v : Value) (hne : b ≠ a.block) : Blk (w.setCell a v) b cs t := (Below.heap_setCell w a v b hne).trans h
theorem Blk.set {w : World} {b : Nat} {cs : List Value} {t : TypeId} (h : Blk w b cs t) (j : Nat) (v : Value) : Blk (w.setCell ⟨b, j, none⟩ v) b (cs.set j v) t := by
  unfold Blk at h ⊢
  obtain ⟨hlt, he⟩ := Array.getElem?_eq_some_iff.1 h
  simp [World.setCell, hlt, Array.getElem_modify, he]

/-- Behind w stands w': new blocks, writes to the blocks of S, draws; all else as it was. -/
structure Kept (w w' : World) (S : List Nat) : Prop where
  os : w'.os = w.os
  tape : w'.tape = w.tape
  output : w'.output = w.output
  size : w.heap.size ≤ w'.heap.size
  block : ∀ k, k < w.heap.size → k ∉ S → w'.heap[k]? = w.heap[k]?

theorem Kept.refl (w : World) (S : List Nat) : Kept w w S := ⟨rfl, rfl, rfl, Nat.le_refl _, fun _ _ _ => rfl⟩
theorem Kept.trans {a b c : World} {S : List Nat} (h : Kept a b S) (k : Kept b c S) : Kept a c S :=
  ⟨k.os.trans h.os, k.tape.trans h.tape, k.output.trans h.output, Nat.le_trans h.size k.size, fun i hi hs => (k.block i (Nat.lt_of_lt_of_le hi h.size) hs).trans (h.block i hi hs)⟩
theorem Kept.mono {a b : World} {S T : List Nat} (h : Kept a b S) (hs : ∀ x ∈ S, x ∈ T) : Kept a b T := ⟨h.os, h.tape, h.output, h.size, fun k hk hn => h.block k hk (fun hm => hn (hs k hm))⟩
/-- What was not there when a began may be written. -/
theorem Kept.trans_new {a b c : World} {S T : List Nat} (h : Kept a b S) (k : Kept b c T) (ht : ∀ x ∈ T, x ∈ S ∨ a.heap.size ≤ x) : Kept a c S :=
  ⟨k.os.trans h.os, k.tape.trans h.tape, k.output.trans h.output, Nat.le_trans h.size k.size, fun i hi hs => (k.block i (Nat.lt_of_lt_of_le hi h.size) (fun hm => by rcases ht i hm with h1 | h1; exact hs h1; omega)).trans (h.block i hi hs)⟩
theorem Kept.alloc {a w : World} {S : List Nat} (h : Kept a w S) (o : Obj) : Kept a (w.alloc o) S :=
  h.trans ⟨rfl, rfl, rfl, by simp, fun k hk _ => Below.heap_alloc w o k hk⟩
theorem Kept.drew {a w : World} {S : List Nat} (h : Kept a w S) : Kept a w.drew S := ⟨h.os, h.tape, h.output, h.size, h.block⟩
theorem Kept.drewN {a w : World} {S : List Nat} (h : Kept a w S) (n : Nat) : Kept a (w.drewN n) S := ⟨h.os, h.tape, h.output, h.size, h.block⟩
theorem Kept.setCell {a w : World} {S : List Nat} (h : Kept a w S) (p : Addr) (v : Value) (hp : p.block ∈ S ∨ a.heap.size ≤ p.block) : Kept a (w.setCell p v) S := by
  have hb := (Below.refl 0 w).setCell (p := p) (Nat.zero_le _) v
  refine ⟨hb.os.trans h.os, hb.tape.trans h.tape, hb.output.trans h.output, Nat.le_trans h.size hb.size, fun k hk hs => ?_⟩
  refine (Below.heap_setCell w p v k ?_).trans (h.block k hk hs)
  intro e
  rcases hp with h1 | h1
  · exact hs (e ▸ h1)
  · omega
theorem Kept.blk {w w' : World} {S : List Nat} (h : Kept w w' S) {b : Nat} {cs : List Value} {t : TypeId} (hb : Blk w b cs t) (hs : b ∉ S) : Blk w' b cs t := (h.block b hb.lt hs).trans hb
theorem Kept.below {w w' : World} {S : List Nat} (h : Kept w w' S) {B : Nat} (hB : B ≤ w.heap.size) (hS : ∀ x ∈ S, B ≤ x) : Below B w w' :=
  ⟨h.os, h.tape, h.output, h.size, fun k hk => h.block k (Nat.lt_of_lt_of_le hk hB) (fun hm => by have := hS k hm; omega)⟩
end Go.Proofs.YtbhcklkbckacpaaDoor

/-
  Slices in memory: rows of cells; what is appended to a row that is the call's own.
-/
namespace Go.Proofs.YtbhcklkbckacpaaDoor
open Go.RowKit

theorem cell_under {w w' : World} {a : Addr} {v : Value} (h : w.cell? a = some v) (hb : Below w.heap.size w w') : w'.cell? a = some v :=
  (World.cell?_of_block (w := w) (hb.block _ (World.block_lt_of_cell? _ _ h))).trans h
theorem ownBlk_ge {w : World} {base : Nat} {e : TypeId} {size : Nat} {v : Value} {n : Nat} {xs : List Value} (h : w.ownsRow base e size v n xs) : ∀ k, v.ownBlock = some k → base ≤ k := by
  intro k hk
  rcases h.2 with ⟨rfl, _⟩ | ⟨g, cap, cur, rfl, hg, _⟩
  · cases hk
  · simp [Value.ownBlock] at hk; omega
theorem own_kept {w w' : World} {base b n sz : Nat} {e : TypeId} {v : Value} {xs : List Value} (h : w.ownsRow base e sz v n xs) (hk : Kept w w' [b]) (hb : b < base) : w'.ownsRow base e sz v n xs := by
  refine ⟨h.1, ?_⟩
  rcases h.2 with h2 | ⟨g, cap, cur, hv, hg, hh, r⟩
  · exact .inl h2
  · exact .inr ⟨g, cap, cur, hv, hg, (hk.block g (Array.getElem?_eq_some_iff.1 hh).1 (by simp; omega)).trans hh, r⟩
theorem own_under {w w' : World} {base n sz : Nat} {e : TypeId} {v : Value} {xs : List Value} (h : w.ownsRow base e sz v n xs) (hb : Below w.heap.size w w') : w'.ownsRow base e sz v n xs := by
  refine ⟨h.1, ?_⟩
  rcases h.2 with h2 | ⟨g, cap, cur, hv, hg, hh, r⟩
  · exact .inl h2
  · exact .inr ⟨g, cap, cur, hv, hg, (hb.block g (Array.getElem?_eq_some_iff.1 hh).1).trans hh, r⟩

/-- A slice of n elements, sz cells each: cs. -/
structure Row (w : World) (ao : Option Addr) (n cap sz : Nat) (cs : List Value) : Prop where
  len : cs.length = n * sz
  room : n ≤ cap
  big : cap ≤ 9223372036854775807
  lies : n ≠ 0 → ∃ b off, ao = some ⟨b, off, none⟩ ∧ ∀ j u, cs[j]? = some u → w.cell? ⟨b, off + j, none⟩ = some u
theorem Row.below {w w' : World} {ao : Option Addr} {n cap sz : Nat} {cs : List Value} (h : Row w ao n cap sz cs) (hb : Below w.heap.size w w') : Row w' ao n cap sz cs :=
  ⟨h.len, h.room, h.big, fun hn => by
    obtain ⟨b, off, he, hc⟩ := h.lies hn
    exact ⟨b, off, he, fun j u hu => cell_under (hc j u hu) hb⟩⟩
theorem Row.nil (w : World) (sz : Nat) : Row w none 0 0 sz [] := ⟨by simp, Nat.le_refl _, by decide, fun h => absurd rfl h⟩
/-- A row that is owned. -/
theorem own_row {w : World} {B0 n sz : Nat} {e : TypeId} {v : Value} {xs : List Value} (h : w.ownsRow B0 e sz v n xs) : ∃ ao cap, v = .slice ao n cap ∧ Row w ao n cap sz xs := by
  rcases h.2 with ⟨rfl, rfl⟩ | ⟨g, cap, cur, rfl, hg, hh, h1, h2, h3, h4⟩
  · have : xs = [] := by have := h.1; rw [Nat.zero_mul] at this; exact List.length_eq_zero_iff.1 this
    subst this
    exact ⟨none, 0, rfl, Row.nil w sz⟩
  · refine ⟨_, cap, rfl, h.1, h1, by unfold maxLen at h2; exact h2, fun _ => ⟨g, 0, rfl, fun j u hu => ?_⟩⟩
    have := h.cells (g := g) rfl j u hu
    have e : (⟨g, 0, none⟩ : Addr).add j = ⟨g, 0 + j, none⟩ := by unfold Addr.add; split <;> simp_all
    rw [e] at this
    exact this

/-- An append whose run is known, in a region's list. -/
theorem wpList_app {P : Program} {w : World} {ops : Array Oper} {rest : List Oper} {o : Oper} {a : Act} {Q : Exit → Act → World → Prop} (hgd : o.guard = none) (s x : Operand) (ts : Array TypeId)
    (ho : o.op = .call { callee := .builtin .append, args := #[s, x], argTypes := ts }) (v u r : Value) (w' : World) (hs : a.eval s = v) (hx : a.eval x = u)
    (hr : (Builtin.append_ ts o.type #[v, u]).run P w = .ok r w') (h : wpList P ops Q rest (a.put o.dst r) w') : wpList P ops Q (o :: rest) a w :=
  wpList_plain hgd fun _ hK => by
    unfold Oper.wp execOp
    simp only [ho, resolve, invoke, builtin, Sem.run_bind, Sem.run_pure, Result.andThen_ok, List.map_toArray, List.map_cons, List.map_nil, hs, hx, hr]
    exact hK _ _ h
theorem own_zero (w : World) (e : TypeId) (zc : Array Value) (s cap sz : Nat) (hz : zc.size = sz) (h1 : s ≤ cap) (h2 : cap ≤ maxLen) :
    (w.drew.alloc (.cells (Builtin.zeroCells zc s ++ Builtin.zeroCells zc (cap - s)) e)).ownsRow w.heap.size e sz (.slice (some ⟨w.heap.size, 0, none⟩) 0 cap) 0 [] := by
  refine ⟨by simp, .inr ⟨w.heap.size, cap, _, rfl, Nat.le_refl _, heap_alloc_new w.drew _, Nat.zero_le _, h2, ?_, by simp⟩⟩
  rw [Array.size_append, size_zeroCells, size_zeroCells, hz, ← Nat.add_mul]
  congr 1
  omega
/-- A part of what is put together. -/
structure Pc where
  ao : Option Addr
  n : Nat
  cap : Nat
  cs : List Value
def Pc.tot (ps : List Pc) : Nat := (ps.map Pc.n).sum
def Pc.cat (ps : List Pc) : List Value := ps.flatMap Pc.cs
theorem Pc.tot_snoc (ps : List Pc) (p : Pc) : Pc.tot (ps ++ [p]) = Pc.tot ps + p.n := by simp [Pc.tot]
theorem Pc.cat_snoc (ps : List Pc) (p : Pc) : Pc.cat (ps ++ [p]) = Pc.cat ps ++ p.cs := by simp [Pc.cat]
theorem Pc.tot_take (ps : List Pc) (k : Nat) : Pc.tot (ps.take k) ≤ Pc.tot ps := by
  have : Pc.tot ps = Pc.tot (ps.take k) + Pc.tot (ps.drop k) := by
    unfold Pc.tot
    rw [← List.sum_append, ← List.map_append, List.take_append_drop]
  omega
/-- Its parts lie in block gb. -/
structure Pcs (w : World) (gb sz bd : Nat) (ps : List Pc) : Prop where
  cell : ∀ i (h : i < ps.length), w.cell? ⟨gb, i, none⟩ = some (.slice ps[i].ao ps[i].n ps[i].cap)
  row : ∀ i (h : i < ps.length), Row w ps[i].ao ps[i].n ps[i].cap sz ps[i].cs
  one : ∀ i (h : i < ps.length), ∀ u ∈ ps[i].cs, u.oneCell' = true
  sum : Pc.tot ps ≤ bd
  few : ps.length ≤ 100
theorem src_none {P : Program} {size : Nat} {tx e : TypeId} {ao : Option Addr} {cap : Nat} {w : World} (h : P.underlying tx = some (.slice e)) : Src P size tx (.slice ao 0 cap) 0 [] w := by
  refine ⟨.inl ⟨e, h⟩, fun w' => rfl, ?_, ?_, by simp, fun u hu => by cases hu⟩
  all_goals
    cases ao
    · rfl
    · simp only [Builtin.firstCells, Nat.zero_mul]
      rfl

/-- The block that a row lies in. -/
def ob (v : Value) : List Nat := v.ownBlock.toList
theorem ob_mem {v : Value} {x : Nat} (h : x ∈ ob v) : v.ownBlock = some x := by
  unfold ob at h
  simpa using h
theorem kept_set (w : World) (b j : Nat) (v : Value) (S : List Nat) (h : b ∈ S) : Kept w (w.setCell ⟨b, j, none⟩ v) S := (Kept.refl w S).setCell _ _ (.inl h)

/-- An append of a slice of another type goes as one of the same type. -/
theorem append_types {P : Program} (t tx ty e e' : TypeId) (ht : P.underlying t = some (.slice e)) (hx : P.underlying tx = some (.slice e')) (ao : Option Addr) (n cap : Nat) (ad : Option Addr) (m c : Nat) (w : World) :
    (Builtin.append_ #[t, tx] ty #[.slice ao n cap, .slice ad m c]).run P w = (Builtin.append_ #[t, t] ty #[.slice ao n cap, .slice ad m c]).run P w := by
  simp [Builtin.append_, run_underlying ht, run_underlying hx]
section
variable {P : Program} (w : World)
theorem wp_append_lies2 {o : Oper} {a : Act} {K : Act → World → Prop} {Q : Exit → Act → World → Prop} (s x : Operand) (t tx e' : TypeId)
    (ho : o.op = .call { callee := .builtin .append, args := #[s, x], argTypes := #[t, tx] }) (htx : P.underlying tx = some (.slice e'))
    (base : Nat) (e : TypeId) (i : TypeInfo) (z : Value) (size bytes : Nat) (ht : P.underlying t = some (.slice e)) (hi : P.info? e = some i) (hz : i.zero = some z)
    (hsize : i.size = size) (hby : i.bytes = bytes) (hzs : z.cells.size = size) (hsz : 0 < size)
    (v : Value) (n : Nat) (xs : List Value) (hs : a.eval s = v) (hown : w.ownsRow base e size v n xs)
    (ad : Addr) (m c : Nat) (news : List Value) (hx : a.eval x = .slice (some ad) m c) (hl : news.length = m * size) (hnews : ∀ j u, news[j]? = some u → w.cell? (ad.add j) = some u) (h1 : ∀ u ∈ news, u.oneCell' = true)
    (hm : 0 < m) (h63 : n + m ≤ maxLen) (hbytes : (n + m) * bytes ≤ 140737488355328) (hbase : base ≤ w.heap.size) (H : Nat) (hH : w.heap.size = H)
    (h : ∀ g cap w', w'.ownsRow base e size (.slice (some ⟨g, 0, none⟩) (n + m) cap) (n + m) (xs ++ news) → w.grownBy w' v.ownBlock → (v.ownBlock = some g ∨ g = H) → g < w'.heap.size → K (a.put o.dst (.slice (some ⟨g, 0, none⟩) (n + m) cap)) w') : o.wp P a w K Q := by
  obtain ⟨g, cap, w', hr, h2, h3, h4, h5⟩ := run_append_lies (P := P) w t o.type base e i z size bytes ht hi hz hsize hby hzs hsz v n xs hown ad m c news hl hnews h1 hm h63 hbytes hbase H hH
  obtain ⟨ao, cp, rfl, -⟩ := own_row hown
  rw [← append_types t tx o.type e e' ht htx] at hr
  unfold Oper.wp execOp
  simp only [ho, resolve, invoke, builtin, Sem.run_bind, Sem.run_pure, Result.andThen_ok, List.map_toArray, List.map_cons, List.map_nil, hs, hx, hr]
  exact h g cap w' h2 h3 h4 h5
theorem wpList_append_lies2 {ops : Array Oper} {rest : List Oper} {o : Oper} {a : Act} {Q : Exit → Act → World → Prop} (hgd : o.guard = none) (s x : Operand) (t tx e' : TypeId)
    (ho : o.op = .call { callee := .builtin .append, args := #[s, x], argTypes := #[t, tx] }) (htx : P.underlying tx = some (.slice e'))
    (base : Nat) (e : TypeId) (i : TypeInfo) (z : Value) (size bytes : Nat) (ht : P.underlying t = some (.slice e)) (hi : P.info? e = some i) (hz : i.zero = some z)
    (hsize : i.size = size) (hby : i.bytes = bytes) (hzs : z.cells.size = size) (hsz : 0 < size)
    (v : Value) (n : Nat) (xs : List Value) (hs : a.eval s = v) (hown : w.ownsRow base e size v n xs)
    (ad : Addr) (m c : Nat) (news : List Value) (hx : a.eval x = .slice (some ad) m c) (hl : news.length = m * size) (hnews : ∀ j u, news[j]? = some u → w.cell? (ad.add j) = some u) (h1 : ∀ u ∈ news, u.oneCell' = true)
    (hm : 0 < m) (h63 : n + m ≤ maxLen) (hbytes : (n + m) * bytes ≤ 140737488355328) (hbase : base ≤ w.heap.size) (H : Nat) (hH : w.heap.size = H)
    (h : ∀ g cap w', w'.ownsRow base e size (.slice (some ⟨g, 0, none⟩) (n + m) cap) (n + m) (xs ++ news) → w.grownBy w' v.ownBlock → (v.ownBlock = some g ∨ g = H) → g < w'.heap.size → wpList P ops Q rest (a.put o.dst (.slice (some ⟨g, 0, none⟩) (n + m) cap)) w') : wpList P ops Q (o :: rest) a w :=
  wpList_plain hgd fun _ hK => wp_append_lies2 w s x t tx e' ho htx base e i z size bytes ht hi hz hsize hby hzs hsz v n xs hs hown ad m c news hx hl hnews h1 hm h63 hbytes hbase H hH fun g cap w' h2 h3 h4 h5 => hK _ _ (h g cap w' h2 h3 h4 h5)
theorem step_append_lies2 {ops : Array Oper} {o : Oper} {a : Act} {K : Act → World → Prop} {Q : Exit → Act → World → Prop} {E : Prop} (hgd : o.guard = none) (s x : Operand) (t tx e' : TypeId)
    (ho : o.op = .call { callee := .builtin .append, args := #[s, x], argTypes := #[t, tx] }) (htx : P.underlying tx = some (.slice e'))
    (base : Nat) (e : TypeId) (i : TypeInfo) (z : Value) (size bytes : Nat) (ht : P.underlying t = some (.slice e)) (hi : P.info? e = some i) (hz : i.zero = some z)
    (hsize : i.size = size) (hby : i.bytes = bytes) (hzs : z.cells.size = size) (hsz : 0 < size)
    (v : Value) (n : Nat) (xs : List Value) (hs : a.eval s = v) (hown : w.ownsRow base e size v n xs)
    (ad : Addr) (m c : Nat) (news : List Value) (hx : a.eval x = .slice (some ad) m c) (hl : news.length = m * size) (hnews : ∀ j u, news[j]? = some u → w.cell? (ad.add j) = some u) (h1 : ∀ u ∈ news, u.oneCell' = true)
    (hm : 0 < m) (h63 : n + m ≤ maxLen) (hbytes : (n + m) * bytes ≤ 140737488355328) (hbase : base ≤ w.heap.size) (H : Nat) (hH : w.heap.size = H)
    (h : ∀ g cap w', w'.ownsRow base e size (.slice (some ⟨g, 0, none⟩) (n + m) cap) (n + m) (xs ++ news) → w.grownBy w' v.ownBlock → (v.ownBlock = some g ∨ g = H) → g < w'.heap.size → K (a.put o.dst (.slice (some ⟨g, 0, none⟩) (n + m) cap)) w') :
    if Region.wanted o (yielded ops a.tmps) = true then Oper.wp P o a w K Q else E := by
  have hw : Region.wanted o (yielded ops a.tmps) = true := by simp [Region.wanted, hgd]
  rw [if_pos hw]
  exact wp_append_lies2 w s x t tx e' ho htx base e i z size bytes ht hi hz hsize hby hzs hsz v n xs hs hown ad m c news hx hl hnews h1 hm h63 hbytes hbase H hH h
end
theorem grown_kept {w w' : World} {v : Value} (h : w.grownBy w' v.ownBlock) : Kept w w' (ob v) :=
  ⟨h.os, h.tape, h.output, h.size, fun k hk hn => h.block k hk (fun e => hn (by unfold ob; rw [← e]; simp))⟩
end Go.Proofs.YtbhcklkbckacpaaDoor
